import Derived.Test.YtefkegpbpaoadaaGreatDoorRows
import Derived.WalkKit
import Derived.ProofKit
import Derived.OpenShut
import Derived.Lib.Hide
import Derived.Lib.Mul64
import Derived.Laws.Bits64b
import Derived.Shelf.Bits.Mul64
import Derived.Deep.QuietTactic
import Derived.BigQuiet
import Derived.Handy
import Derived.Test.YtefkegpbpaoadaaGreatDoorGL
set_option linter.unusedVariables false
set_option linter.unusedSimpArgs false
set_option maxRecDepth 100000
noncomputable section
namespace Go.Proofs.YtefkegpbpaoadaaGreatDoor.Sta
open Go.ChangeShapes Go.WideShapes Go.ChangeAt Go.RowKit
def Wl (v c:Int) (w:World) (e:Ending) (w':World):Prop:=e=.returned (.tuple #[.int .u64 v,.int .u64 c])/\w=w'
set_option maxHeartbeats 1000000 in
theorem oO (x y:Nat) (hx:x<18446744073709551616) (hy:y<18446744073709551616) (w:World) :
  Calls Tryz.prog 157 #[.int .u64 x,.int .u64 y] w (Wl ((x*y / 18446744073709551616:Nat):Int) ((x*y % 18446744073709551616:Nat):Int) w):=by
 obtain ⟨bd,bt,bw,hhi⟩:=Lib.mul64_hi x y hx hy;have ba:=Lib.half_mul_le (a:=x / 4294967296) (b:=y / 4294967296) (by omega) (by omega);have bb:=Lib.half_mul_le (a:=x / 4294967296) (b:=y % 4294967296) (by omega) (by omega);have bc:=Lib.half_mul_le (a:=x % 4294967296) (b:=y / 4294967296) (by omega) (by omega);have ba':x / 4294967296*(y / 4294967296)<18446744073709551616:=by omega
 have bb':x / 4294967296*(y % 4294967296)<18446744073709551616:=by omega
 have bc':x % 4294967296*(y / 4294967296)<18446744073709551616:=by omega
 have bh1:x / 4294967296*(y / 4294967296)+(x / 4294967296*(y % 4294967296)+x % 4294967296*(y % 4294967296) / 4294967296) / 4294967296<18446744073709551616:=by omega
 have bh:x / 4294967296*(y / 4294967296)+(x / 4294967296*(y % 4294967296)+x % 4294967296*(y % 4294967296) / 4294967296) / 4294967296+((x / 4294967296*(y % 4294967296)+x % 4294967296*(y % 4294967296) / 4294967296) % 4294967296+x % 4294967296*(y / 4294967296)) / 4294967296<18446744073709551616:=by omega
 go_enter Tryz.func157,Tryz.ntmps157
 go_wp2
 simp only [Mul64.maskN x hx,Mul64.maskN y hy,Mul64.divN,Mul64.mulN,Mul64.addN,Mul64.wrapN _ bd,Mul64.wrapN _ bb',Mul64.wrapN _ bt,Mul64.maskN _ bt,Mul64.wrapN _ bc',Mul64.wrapN _ bw,Mul64.wrapN _ ba',Mul64.wrapN _ bh1,Mul64.wrapN _ bh,Mul64.wrapM (x*y)];rw [hhi]
 go_ret2
 exact ⟨rfl,rfl⟩
open Go.Eng
def uv (n:Int):V:=.s (.int .u64 n)
def inU (a:Int):Bool:=decide (0<=a)&&decide (a<18446744073709551616)
def vX:Eng.Spec
 | [.s (.int .u64 x),.s (.int .u64 y)]=>.ite none (inU x&&inU y) (.ret (.tup [uv (x*y / 18446744073709551616),uv (x*y % 18446744073709551616)])) .fail
 | _=>.fail
theorem yS (args:List V) (v:V) (h:(vX args).eval=some v):dr args=true/\flat v=true:=by
 unfold vX at h;split at h
 ·obtain ⟨_,h⟩:=aO h;simp only [T.eval,sh] at h;subst h;exact ⟨rfl,rfl⟩
 ·cases h
theorem JJ:aj Tryz.prog 157 vX:=by
 refine aj.ajx Tryz.func157 (by kernel_rfl) (by kernel_rfl) yS fun args v w hfl h hfv => ?_;clear hfl hfv;unfold vX at h;split at h
 ·rename_i x y;obtain ⟨hc,h⟩:=aO h;simp only [inU,AS,By] at hc;simp only [T.eval,sh] at h;subst h;obtain ⟨a,rfl⟩:=Int.eq_ofNat_of_zero_le hc.1.1;obtain ⟨b,rfl⟩:=Int.eq_ofNat_of_zero_le hc.2.1;refine (oO a b (by omega) (by omega) w).mono ?_;rintro e w' ⟨rfl,rfl⟩;refine ⟨?_,Below.refl _ _⟩;simp [uv,V.den,aL,S.den]
 ·cases h
end Go.Proofs.YtefkegpbpaoadaaGreatDoor.Sta
namespace Go.Proofs.YtefkegpbpaoadaaGreatDoor.Sta
open Go.Eng Go.RowKit Mil
def mI:Eng.Spec:=aM P0 aa 189
theorem fz:aj Tryz.prog 189 mI:=af oX mixed Tryz.func189 (by kernel_rfl) (by kernel_rfl)
abbrev St3:=Int × Int × Int
def afQ (own:Bool) (l:List St3):Blk:=.lst own 220 [.int .i64,.int .i64,.int .i64] l
structure Tot where
 s:Int
 n:Int
 c:Bool
deriving DecidableEq
def ad1:Code:=bN Tryz.prog 156 0
structure PA1 where (age:Int) (l:List St3) (k:Nat) (n:Int)
structure AA1 where (s c:Int) (u:Bool) (i:Int)
def vsA (p:PA1) (a:AA1):List V:=[iv p.age,.ptr 1 0,.sub 0 3 0 p.k,iv p.n,iv a.i]
def bsA (p:PA1) (a:AA1):List Blk:=[afQ false p.l,.cells 214 [iv a.s,iv a.c,bv a.u]]
abbrev SA:List (Nat × Src):=[(0,.same),(1,.same)]
def Nw (x:St3):Bool:=decide (0<=x.1)&&decide (0<=x.2.1)&&decide (0<=x.2.2)
def TX:Eng.Spec
 | [.agg [.s (.int .i64 a),.s (.int .i64 b),.s (.int .i64 c)]]=>.ret (bv (Nw (a,b,c)))
 | _=>.fail
def PL:Cfg:=⟨Tryz.prog,lookG [(189,.val TX),(190,.val ZG),(157,.val vX)],[],0⟩
def rtA (age:Int) (l:List St3) (k:Nat) (n s c:Int) (u:Bool) (i:Int):T (Ex × St):=T.ite none (decide (i<n))
 (T.ite none (decide (0<=i)&&(decide (i<(↑k:Int))&&decide (0+Int.toNat i<List.length l)))
  (T.ite none (decide (0+Int.toNat i<List.length l))
   (T.ite none (bif !Nw ((g3 l i).1,(g3 l i).2.1,(g3 l i).2.2) then true else decide ((g3 l i).2.1<age))
    (T.ret (Ex.normal,bG [1,5,10,11,12] (aF SA) 1000 54 (vsA ⟨age,l,k,n⟩ ⟨s,c,u,IntKind.wrap IntKind.i64 (i+1)⟩) (bsA ⟨age,l,k,n⟩ ⟨s,c,u,IntKind.wrap IntKind.i64 (i+1)⟩)))
    (T.ite none (inR s&&inR (g3 l i).2.2)
     (T.ret (Ex.normal,bG [1,5,10,11,12] (aF SA) 1000 54 (vsA ⟨age,l,k,n⟩ ⟨cj (s+(g3 l i).2.2),IntKind.wrap IntKind.i64 (c+1),(bif u then true else jw (s+(g3 l i).2.2)==2),IntKind.wrap IntKind.i64 (i+1)⟩) (bsA ⟨age,l,k,n⟩ ⟨cj (s+(g3 l i).2.2),IntKind.wrap IntKind.i64 (c+1),(bif u then true else jw (s+(g3 l i).2.2)==2),IntKind.wrap IntKind.i64 (i+1)⟩)))
     T.fail))
   T.fail)
  T.fail)
 (T.ret (Ex.exit 0,bG [1,5,10,11,12] (aF SA) 1000 54 (vsA ⟨age,l,k,n⟩ ⟨s,c,u,i⟩) (bsA ⟨age,l,k,n⟩ ⟨s,c,u,i⟩)))
theorem JH:aj Tryz.prog 189 TX:=by
 refine fz.ai0 fun args v hfl h => ?_;clear hfl;unfold TX at h;split at h
 ·rename_i a b c;obtain rfl:=AI h;refine ⟨bv (Nw (a,b,c)),?_,⟨rfl,rfl⟩,rfl⟩;have e:T.anon (mI [.agg [iv a,iv b,iv c]])=T.ret (V.s (S.bool (bif bif decide (0<=a) then decide (0<=b) else false then decide (0<=c) else false))):=by kernel_rfl
  rw [<- T.aiW,show mI [.agg [V.s (.int .i64 a),V.s (.int .i64 b),V.s (.int .i64 c)]]=mI [.agg [iv a,iv b,iv c]] from rfl,e];simp only [eP,Nw];rfl
 ·cases h
theorem RF:PL.Ok:=Cfg.ok ⟨JH,NJ,JJ,trivial⟩ trivial
def H6:List V->List Blk->Option (PA1 × AA1)
 | [.s (.int .i64 age),.ptr 1 0,.sub 0 3 0 k,.s (.int .i64 n),.s (.int .i64 i)],[.lst false t [.int .i64,.int .i64,.int .i64] l,.cells t2 [.s (.int .i64 s),.s (.int .i64 c),.s (.bool u)]] =>
  if t=220/\t2=214 then some (⟨age,l,k,n⟩,⟨s,c,u,i⟩) else none
 | _,_=>none
theorem zo (l:List V) (b:List Blk) (d:PA1 × AA1) (h:H6 l b=some d):l=vsA d.1 d.2/\b=bsA d.1 d.2:=by
 unfold H6 at h;split at h
 ·split at h
  ·rename_i ht;obtain ⟨rfl,rfl⟩:=ht;cases h;exact ⟨rfl,rfl⟩
  ·cases h
 ·cases h
def yp (l:List St3):Bool:=decide (l.length<=1000000)&&l.all fun x=>inR x.2.2
def Cw (p:PA1) (a:AA1):Bool:=decide (p.k=p.l.length)&&decide (p.n=(p.k:Int))&&decide (0<=a.i)&&decide (a.i<=p.n)&&decide (0<=a.c)&&decide (a.c<=a.i)&&inR a.s&&yp p.l
def VJ (age:Int) (x:St3):Bool:=Nw x&&decide (age<=x.2.1)
def zX (p:PA1) (a:AA1):Option AA1 :=
 if a.i<p.n then some (if VJ p.age (g3 p.l a.i)=true then ⟨cj (a.s+(g3 p.l a.i).2.2),a.c+1,a.u||(jw (a.s+(g3 p.l a.i).2.2)==2),a.i+1⟩ else ⟨a.s,a.c,a.u,a.i+1⟩) else none
def outA (p:PA1) (a:AA1):T (Ex × St):=.ret (.exit 0,bG [1,5,10,11,12] [0,1] 1000 54 (vsA p a) (bsA p a))
theorem Zy {l:List St3} {i:Int} (h0:0<=i) (h:i<l.length):∃ x,l[i.toNat]?=some x/\g3 l i=x:=by
 have hl:i.toNat<l.length:=by omega
 refine ⟨l[i.toNat],by simp [hl],?_⟩;unfold g3;rw [Nat.zero_add,IT,OF hl];rfl
theorem KZ {l:List St3} (h:yp l=true) {i:Int} (h0:0<=i) (hi:i<l.length):inR (g3 l i).2.2=true:=by
 obtain ⟨x,h1,h2⟩:=Zy h0 hi;rw [h2];unfold yp at h;simp only [AS,ajE] at h;exact h.2 x (List.mem_of_getElem? h1)
theorem rH (n:Int):inR (cj n)=true:=cd.2 (jv n)
theorem stA (p:PA1) (a b:AA1) (h:Cw p a=true) (e:zX p a=some b):Cw p b=true/\(p.n - b.i).toNat<(p.n - a.i).toNat:=by
 obtain ⟨s,c,u,i⟩:=a;unfold zX at e;split at e
 ·rename_i hc;obtain rfl:=AI e;simp only [Cw,AS,By] at h hc ⊢;obtain ⟨⟨⟨⟨⟨⟨⟨h1,h2⟩,h3⟩,h4⟩,h5⟩,h6⟩,h7⟩,h8⟩:=h;split
  ·exact ⟨⟨⟨⟨⟨⟨⟨⟨h1,h2⟩,by show 0<=i+1;omega⟩,by show i+1<=p.n;omega⟩,by show 0<=c+1;omega⟩,by show c+1<=i+1;omega⟩,rH _⟩,h8⟩,by show (p.n - (i+1)).toNat<(p.n - i).toNat;omega⟩
  ·exact ⟨⟨⟨⟨⟨⟨⟨⟨h1,h2⟩,by show 0<=i+1;omega⟩,by show i+1<=p.n;omega⟩,h5⟩,by show c<=i+1;omega⟩,h7⟩,h8⟩,by show (p.n - (i+1)).toNat<(p.n - i).toNat;omega⟩
 ·cases e
theorem Hg:aI PL ad1 (jS [1,5,10,11,12] SA 1000 1000 54 H6 Cw zX outA):=by
 refine dw (vs:=vsA) (bs:=bsA) RF mixed (aw _) zo (fun p a=>(p.n - a.i).toNat) stA fun ⟨age,l,k,n⟩ ⟨s,c,u,i⟩ h => ?_;have e:T.anon (bA PL aa ad1 [1,5,10,11,12] SA 1000 1000 (bG [1,5,10,11,12] (aF SA) 1000 54 (vsA ⟨age,l,k,n⟩ ⟨s,c,u,i⟩) (bsA ⟨age,l,k,n⟩ ⟨s,c,u,i⟩)))=rtA age l k n s c u i:=by kernel_rfl
 rw [<- T.aiW (t:=bA _ _ _ _ _ _ _ _),e];clear e;simp only [Cw,AS,By] at h;obtain ⟨⟨⟨⟨⟨⟨⟨rfl,rfl⟩,h3⟩,h4⟩,h5⟩,h6⟩,h7⟩,h8⟩:=h;have hlen:l.length<=1000000:=by unfold yp at h8;simp only [AS,By] at h8;exact h8.1
 simp only [zX,outA];unfold rtA;by_cases hc:i<l.length
 ·rw [if_pos hc];have h9:=KZ h8 h3 hc;generalize g3 l i=x at *
  refine ⟨fun b hb => ?_,fun h=>by cases h⟩;obtain rfl:=AI hb;rw [wrap64_in (n:=i+1) (by omega) (by omega),wrap64_in (n:=c+1) (by omega) (by omega)];refine aE (by (first | with_reducible rfl | assumption | (simp only [eP,fj,AS,ajW,Bool.and_eq_false_iff,Bool.or_eq_false_iff,By,ajO,beq_iff_eq,bne_iff_ne,ajH,bne_eq_false_iff_eq,Bool.not_eq_true',Bool.not_eq_false',ne_eq,Bool.true_and,Bool.and_true,Bool.false_and,Bool.and_false,Bool.true_or,Bool.or_true,Bool.not_true,Bool.not_false,Bool.cond_true,Bool.cond_false,true_and,and_true];first | done | omega))) (aE (by (first | with_reducible rfl | assumption | (simp only [eP,fj,AS,ajW,Bool.and_eq_false_iff,Bool.or_eq_false_iff,By,ajO,beq_iff_eq,bne_iff_ne,ajH,bne_eq_false_iff_eq,Bool.not_eq_true',Bool.not_eq_false',ne_eq,Bool.true_and,Bool.and_true,Bool.false_and,Bool.and_false,Bool.true_or,Bool.or_true,Bool.not_true,Bool.not_false,Bool.cond_true,Bool.cond_false,true_and,and_true];first | done | omega))) (aE (by (first | with_reducible rfl | assumption | (simp only [eP,fj,AS,ajW,Bool.and_eq_false_iff,Bool.or_eq_false_iff,By,ajO,beq_iff_eq,bne_iff_ne,ajH,bne_eq_false_iff_eq,Bool.not_eq_true',Bool.not_eq_false',ne_eq,Bool.true_and,Bool.and_true,Bool.false_and,Bool.and_false,Bool.true_or,Bool.or_true,Bool.not_true,Bool.not_false,Bool.cond_true,Bool.cond_false,true_and,and_true];first | done | omega))) ?_));by_cases hm:VJ age x=true
  ·rw [if_pos hm];unfold VJ at hm;simp only [AS,By] at hm;refine tev_else (by rw [show (x.1,x.2.1,x.2.2)=x from rfl,hm.1];simp;omega) (aE (by rw [h7,h9];rfl) ?_);cases u<;>rfl
  ·rw [if_neg hm];refine aE ?_ rfl;rw [show (x.1,x.2.1,x.2.2)=x from rfl];unfold VJ at hm;simp only [AS,By,not_and] at hm;by_cases hr:Nw x=true
   ·have:=hm hr;rw [hr];simp;omega
   ·rw [show Nw x=false by simpa using hr];rfl
 ·rw [if_neg hc];refine ⟨fun b hb=>(by cases hb),fun _ r hr => ?_⟩;obtain rfl:=AI hr;exact ⟨by simp,tev_else (by (first | with_reducible rfl | assumption | (simp only [eP,fj,AS,ajW,Bool.and_eq_false_iff,Bool.or_eq_false_iff,By,ajO,beq_iff_eq,bne_iff_ne,ajH,bne_eq_false_iff_eq,Bool.not_eq_true',Bool.not_eq_false',ne_eq,Bool.true_and,Bool.and_true,Bool.false_and,Bool.and_false,Bool.true_or,Bool.or_true,Bool.not_true,Bool.not_false,Bool.cond_true,Bool.cond_false,true_and,and_true];first | done | omega))) rfl⟩
def xw:List (Nat × bE):=[(3,jS [1,5,10,11,12] SA 1000 1000 54 H6 Cw zX outA)]
theorem adY:findL xw 3=some (jS [1,5,10,11,12] SA 1000 1000 54 H6 Cw zX outA):=rfl
theorem afe:aq ad1=some 3:=by kernel_rfl
theorem Rj:∀ a∈cg (codeOf Tryz.prog 156),∀ sp,bZ xw a=some sp->aI PL a sp:=by
 have e:cg (codeOf Tryz.prog 156)=[ad1]:=by kernel_rfl
 rw [e];intro a ha;rcases ajI.1 ha with h | ha
 ·rw [h];exact fb afe adY Hg
 ·cases ha
def stepT (age:Int) (t:Tot) (x:St3):Tot:=if VJ age x=true then ⟨cj (t.s+x.2.2),t.n+1,t.c||(jw (t.s+x.2.2)==2)⟩ else t
def lQ (age:Int) (l:List St3):Tot:=l.foldl (stepT age) ⟨0,0,false⟩
theorem vI (age:Int) (l:List St3) (x:St3):lQ age (l++[x])=stepT age (lQ age l) x:=by unfold lQ;rw [List.foldl_append];rfl
theorem Ek {l:List St3} {i:Int} (h0:0<=i) (h:i<l.length):l.take (i+1).toNat=l.take i.toNat++[g3 l i]:=by
 obtain ⟨x,h1,h2⟩:=Zy h0 h;rw [h2,show (i+1).toNat=i.toNat+1 by omega,List.take_add_one,h1];rfl
theorem endA {p:PA1} (h:Cw p ⟨0,0,false,0⟩=true):cD (zX p) ⟨0,0,false,0⟩=⟨(lQ p.age p.l).s,(lQ p.age p.l).n,(lQ p.age p.l).c,p.n⟩:=by
 obtain ⟨h1,h2,h3⟩:=cR (stA p) h;have h4:=h3 (fun a=>(⟨a.s,a.c,a.u⟩:Tot)=lQ p.age (p.l.take a.i.toNat)) rfl fun a b hi hq e=>by
  obtain ⟨s,c,u,i⟩:=a;simp only [Cw,AS,By] at hi;unfold zX at e;split at e
  ·rename_i hc;obtain rfl:=AI e;dsimp only at hc hq ⊢;have:i<p.l.length:=by omega
   have ht:=Ek (l:=p.l) (i:=i) hi.1.1.1.1.1.2 this;split
   ·rename_i hm;dsimp only;rw [ht,vI,<- hq];unfold stepT;rw [if_pos hm]
   ·rename_i hm;dsimp only;rw [ht,vI,<- hq];unfold stepT;rw [if_neg hm]
  ·cases e
 generalize cD (zX p) ⟨0,0,false,0⟩=E at *
 obtain ⟨s,c,u,i⟩:=E;simp only [Cw,AS,By] at h1;unfold zX at h2;split at h2
 ·cases h2
 ·rename_i hc;dsimp only at hc h4;have hi:i=p.n:=by omega
  subst hi;have:p.l.take p.n.toNat=p.l:=ajP (by omega);rw [this] at h4;rw [<- h4]
def lF:V:=.iface 297 (.agg [])
def qg (t:Tot):V:=.iface 214 (.agg [iv t.s,iv t.n,bv t.c])
def afk:Eng.Spec
 | [.orow t [.int .i64,.int .i64,.int .i64] l,.s (.int .i64 age)]=>if t=220 then .ite none (yp l) (.ite none ((lQ age l).n==0) (.ret lF) (.ret (qg (lQ age l)))) .fail else .fail
 | _=>.fail
theorem RT (l:List St3) (age:Int):T.anon (aM PL (bZ xw) 156 [.orow 220 [.int .i64,.int .i64,.int .i64] l,iv age]) =
  T.ite none (Cw ⟨age,l,l.length,l.length⟩ ⟨0,0,false,0⟩) (T.ite none ((cD (zX ⟨age,l,l.length,l.length⟩) ⟨0,0,false,0⟩).c==0) (.ret lF)
   (.ret (qg ⟨(cD (zX ⟨age,l,l.length,l.length⟩) ⟨0,0,false,0⟩).s,(cD (zX ⟨age,l,l.length,l.length⟩) ⟨0,0,false,0⟩).c,(cD (zX ⟨age,l,l.length,l.length⟩) ⟨0,0,false,0⟩).u⟩))) .fail:=by kernel_rfl
theorem add_eval (l:List St3) (age:Int) (v:V) (h0:(T.ite none (yp l) (.ite none ((lQ age l).n==0) (.ret lF) (.ret (qg (lQ age l)))) .fail).eval=some v) :
  (aM PL (bZ xw) 156 [.orow 220 [.int .i64,.int .i64,.int .i64] l,iv age]).eval=some v/\flat v=true:=by
 obtain ⟨hk,h⟩:=aO h0;have hi:Cw ⟨age,l,l.length,l.length⟩ ⟨0,0,false,0⟩=true:=by
  simp only [Cw,AS,By];exact ⟨⟨⟨⟨⟨⟨⟨trivial,trivial⟩,by omega⟩,by omega⟩,by omega⟩,by omega⟩,rfl⟩,hk⟩
 refine ⟨?_,?_⟩
 ·rw [<- T.aiW,RT,endA hi];exact aE hi h
 ·cases q:(lQ age l).n==0<;>rw [q] at h<;>(obtain rfl:=AI h;rfl)
theorem Rp:aj Tryz.prog 156 afk:=by
 refine (dn (Λ:=bZ xw) RF mixed Tryz.func156 (by kernel_rfl) (by kernel_rfl) Rj).ai0 fun args v hfl h => ?_;clear hfl;unfold afk at h;split at h
 ·rename_i t l age;split at h
  ·rename_i ht;subst ht;obtain ⟨h1,h2⟩:=add_eval l age v h;exact ⟨v,h1,⟨h2,h2⟩,rfl⟩
  ·cases h
 ·cases h
def Q1:Cfg:=⟨Tryz.prog,lookG [(156,.val afk)],[],0⟩
theorem pX:Q1.Ok:=Cfg.ok ⟨Rp,trivial⟩ trivial
def ors (l:List St3):V:=.orow 220 [.int .i64,.int .i64,.int .i64] l
def NF:Eng.Spec:=aM Q1 aa 123
theorem ET:aj Tryz.prog 123 NF:=af pX mixed Tryz.func123 (by kernel_rfl) (by kernel_rfl)
def AK:Eng.Spec:=aM PL aa 124
theorem FC:aj Tryz.prog 124 AK:=af RF mixed Tryz.func124 (by kernel_rfl) (by kernel_rfl)
def heardL (y:Int) (l:List St3):Tot:=if (lQ y l).n=0 then lQ 0 l else lQ y l
theorem IZ (y:Int) (t:Tot) (x:St3) (h:0<=t.s/\t.s<=9223372036854775807/\0<=t.n):0<=(stepT y t x).s/\(stepT y t x).s<=9223372036854775807/\0<=(stepT y t x).n/\(stepT y t x).n<=t.n+1:=by
 unfold stepT;split
 ·rename_i hm;unfold VJ Nw at hm;simp only [AS,By] at hm;have:=jv (t.s+x.2.2);refine ⟨?_,this.2,by dsimp only;omega,by dsimp only;omega⟩;dsimp only;unfold cj;split
  ·omega
  ·split<;>omega
 ·omega
theorem Aa (y:Int):∀ (l:List St3) (t:Tot),(0<=t.s/\t.s<=9223372036854775807/\0<=t.n)->0<=(l.foldl (stepT y) t).s/\(l.foldl (stepT y) t).s<=9223372036854775807/\0<=(l.foldl (stepT y) t).n/\(l.foldl (stepT y) t).n<=t.n+l.length
 | [],t,h=>⟨h.1,h.2.1,h.2.2,by simp⟩
 | x::r,t,h=>by
  have h1:=IZ y t x h;have h2:=Aa y r (stepT y t x) ⟨h1.1,h1.2.1,h1.2.2.1⟩;simp only [List.foldl_cons,List.length_cons];exact ⟨h2.1,h2.2.1,h2.2.2.1,by omega⟩
theorem GV (y:Int) (l:List St3):0<=(lQ y l).s/\(lQ y l).s<=9223372036854775807/\0<=(lQ y l).n/\(lQ y l).n<=l.length:=by
 have:=Aa y l ⟨0,0,false⟩ ⟨by decide,by decide,by decide⟩;unfold lQ;simpa using this
theorem wU (y:Int) (l:List St3):0<=(heardL y l).s/\(heardL y l).s<=9223372036854775807/\0<=(heardL y l).n/\(heardL y l).n<=l.length:=by
 unfold heardL;split
 ·exact GV 0 l
 ·exact GV y l
def acQ {α:Type} (args:List V) (f:List St3->Int->T α):T α :=
 match args with
 | [.orow t [.int .i64,.int .i64,.int .i64] l,.s (.int .i64 y)]=>if t=220 then f l y else .fail
 | _=>.fail
theorem Ej {α:Type} {args:List V} {f:List St3->Int->T α} {r:α} (e:(acQ args f).eval=some r):∃ l y,args=[ors l,iv y]/\(f l y).eval=some r:=by
 unfold acQ at e;split at e
 ·split at e
  ·rename_i ht;subst ht;exact ⟨_,_,rfl,e⟩
  ·cases e
 ·cases e
def tF {α:Type} (args:List V) (f:List St3->Int->Int->T α):T α :=
 match args with
 | [.orow t [.int .i64,.int .i64,.int .i64] l,.s (.int .i64 y),.s (.int .i64 r)]=>if t=220 then f l y r else .fail
 | _=>.fail
theorem lW {α:Type} {args:List V} {f:List St3->Int->Int->T α} {r:α} (e:(tF args f).eval=some r):∃ l y z,args=[ors l,iv y,iv z]/\(f l y z).eval=some r:=by
 unfold tF at e;split at e
 ·split at e
  ·rename_i ht;subst ht;exact ⟨_,_,_,rfl,e⟩
  ·cases e
 ·cases e
def M9:Eng.Spec:=fun args=>acQ args fun l y=>.ite none (yp l) (.ite none ((heardL y l).n==0) (.ret lF) (.ret (qg (heardL y l)))) .fail
theorem GM (l:List St3) (y:Int):T.anon (NF [ors l,iv y])=T.ite none (decide (0+l.length<=l.length)) (T.ite none (yp ((l.drop 0).take l.length)) (T.ite none ((lQ y ((l.drop 0).take l.length)).n==0)
  (T.ite none (decide (0+l.length<=l.length)) (T.ite none (yp ((l.drop 0).take l.length)) (T.ite none ((lQ 0 ((l.drop 0).take l.length)).n==0) (.ret lF) (.ret (qg (lQ 0 ((l.drop 0).take l.length))))) .fail) .fail)
  (.ret (qg (lQ y ((l.drop 0).take l.length))))) .fail) .fail:=by kernel_rfl
theorem OA (l:List St3):(l.drop 0).take l.length=l:=by rw [List.drop_zero,List.take_length]
theorem nD {c:Bool} {v1 v2 v:V} (h1:flat v1=true) (h2:flat v2=true) (h:(T.ite none c (.ret v1) (.ret v2)).eval=some v):flat v=true:=by
 cases c<;>(obtain rfl:=AI h)<;>assumption
theorem Gi:aj Tryz.prog 123 M9:=by
 refine ET.ai0 fun args v hfl h => ?_;clear hfl;obtain ⟨l,y,rfl,h1⟩:=Ej (show (acQ args _).eval=some v from h);clear h;obtain ⟨hk,h⟩:=aO h1;refine ⟨v,?_,⟨nD rfl rfl h,nD rfl rfl h⟩,rfl⟩;rw [<- T.aiW,GM,OA];refine aE (by simp) (aE hk ?_);unfold heardL at h;by_cases q:(lQ y l).n=0
 ·rw [if_pos q] at h;exact aE (by simpa using q) (aE (by simp) (aE hk h))
 ·rw [if_neg q] at h;have q2:((lQ y l).n==0)=false:=by simpa using q
  rw [q2] at h;exact tev_else q2 h
def timesC:Eng.Spec
 | [.s (.int .i64 s),.s (.int .i64 r)]=>.ite none (decide (0<=s)&&decide (s<=9223372036854775807)&&(decide (0<=r)&&decide (r<=9223372036854775807))) (.ite none (decide (9223372036854775807<s*r)) (.ret (.tup [iv 9223372036854775807,.tt])) (.ret (.tup [iv (s*r),.ff]))) .fail
 | _=>.fail
theorem Gs (s r:Int):T.anon (AK [iv s,iv r])=T.ite none (inU (IntKind.wrap .u64 s)&&inU (IntKind.wrap .u64 r))
  (T.ite none (bif decide (0<IntKind.wrap .u64 s*IntKind.wrap .u64 r / 18446744073709551616) then true else decide (9223372036854775807<IntKind.wrap .u64 s*IntKind.wrap .u64 r % 18446744073709551616))
   (.ret (.tup [iv 9223372036854775807,.tt])) (.ret (.tup [iv (IntKind.wrap .i64 (IntKind.wrap .u64 s*IntKind.wrap .u64 r % 18446744073709551616)),.ff]))) .fail:=by kernel_rfl
theorem EA:aj Tryz.prog 124 timesC:=by
 refine FC.ai0 fun args v hfl h => ?_;clear hfl;unfold timesC at h;split at h
 ·rename_i s r;obtain ⟨hk,h⟩:=aO h;simp only [AS,By] at hk;obtain ⟨⟨h1,h2⟩,h3,h4⟩:=hk;refine ⟨v,?_,⟨nD rfl rfl h,nD rfl rfl h⟩,rfl⟩;rw [<- T.aiW,show AK [V.s (.int .i64 s),V.s (.int .i64 r)]=AK [iv s,iv r] from rfl,Gs,oe,oe,Int.emod_eq_of_lt h1 (by omega),Int.emod_eq_of_lt h3 (by omega)];have hp:0<=s*r:=Int.mul_nonneg h1 h3;generalize s*r=p at *
  refine aE (by unfold inU;simp only [AS,By];omega) ?_;by_cases q:9223372036854775807<p
  ·rw [c9 q] at h;refine aE ?_ h;simp only [fj,ajW,By];omega
  ·rw [BY q] at h;refine tev_else ?_ ?_
   ·simp only [fj,Bool.or_eq_false_iff,ajO];omega
   ·rw [show p % 18446744073709551616=p by omega,wrap64_in (by omega) (by omega)];exact h
 ·cases h
def Q2:Cfg:=⟨Tryz.prog,lookG [(123,.val M9),(124,.val timesC)],[],0⟩
theorem Gg:Q2.Ok:=Cfg.ok ⟨Gi,EA,trivial⟩ trivial
def G1:Eng.Spec:=aM Q2 aa 99
theorem CH:aj Tryz.prog 99 G1:=af Gg mixed Tryz.func99 (by kernel_rfl) (by kernel_rfl)
def spT (l:List St3) (y r:Int):T V:=T.ite none (decide (0+List.length l<=List.length l))
 (T.ite none (yp (List.take (List.length l) (List.drop 0 l)))
  (T.ite none (Tot.n (heardL y (List.take (List.length l) (List.drop 0 l)))==0)
   (T.ret (V.tup [V.s (S.int IntKind.i64 0),V.s (S.int IntKind.i64 7)]))
   (T.ite none (decide (r<0)) (T.ret (V.tup [V.s (S.int IntKind.i64 0),V.s (S.int IntKind.i64 1)]))
    (T.ite none
     (decide (0<=Tot.s (heardL y (List.take (List.length l) (List.drop 0 l))))&&decide (Tot.s (heardL y (List.take (List.length l) (List.drop 0 l)))<=9223372036854775807) &&
      (decide (0<=r)&&decide (r<=9223372036854775807)))
     (T.ite none (decide (9223372036854775807<Tot.s (heardL y (List.take (List.length l) (List.drop 0 l)))*r))
      (T.ite none (bif Tot.c (heardL y (List.take (List.length l) (List.drop 0 l))) then true else true) (T.ite none (Tot.n (heardL y (List.take (List.length l) (List.drop 0 l)))==0) T.fail (T.ret (V.tup [V.s (S.int IntKind.i64 (IntKind.wrap IntKind.i64 (Int.tdiv (9223372036854775807) (Tot.n (heardL y (List.take (List.length l) (List.drop 0 l))))))),V.s (S.int IntKind.i64 2)]))) (T.ite none (Tot.n (heardL y (List.take (List.length l) (List.drop 0 l)))==0) T.fail (T.ret (V.tup [V.s (S.int IntKind.i64 (IntKind.wrap IntKind.i64 (Int.tdiv (9223372036854775807) (Tot.n (heardL y (List.take (List.length l) (List.drop 0 l))))))),V.s (S.int IntKind.i64 0)]))))
      (T.ite none (bif Tot.c (heardL y (List.take (List.length l) (List.drop 0 l))) then true else false) (T.ite none (Tot.n (heardL y (List.take (List.length l) (List.drop 0 l)))==0) T.fail (T.ret (V.tup [V.s (S.int IntKind.i64 (IntKind.wrap IntKind.i64 (Int.tdiv (Tot.s (heardL y (List.take (List.length l) (List.drop 0 l)))*r) (Tot.n (heardL y (List.take (List.length l) (List.drop 0 l))))))),V.s (S.int IntKind.i64 2)]))) (T.ite none (Tot.n (heardL y (List.take (List.length l) (List.drop 0 l)))==0) T.fail (T.ret (V.tup [V.s (S.int IntKind.i64 (IntKind.wrap IntKind.i64 (Int.tdiv (Tot.s (heardL y (List.take (List.length l) (List.drop 0 l)))*r) (Tot.n (heardL y (List.take (List.length l) (List.drop 0 l))))))),V.s (S.int IntKind.i64 0)])))))
     T.fail)))
  T.fail)
 T.fail
def spV (t:Tot) (r:Int):Int:=if t.n=0 then 0 else if r<0 then 0 else Int.tdiv (if 9223372036854775807<t.s*r then 9223372036854775807 else t.s*r) t.n
def spE (t:Tot) (r:Int):Int:=if t.n=0 then 7 else if r<0 then 1 else if 9223372036854775807<t.s*r\/t.c=true then 2 else 0
def Fw:Eng.Spec:=fun args=>tF args fun l y r=>.ite none (yp l&&decide (r<=9223372036854775807)) (.ret (dR (spV (heardL y l) r) (spE (heardL y l) r))) .fail
theorem OL {a n:Int} (h1:0<=a) (h2:a<=9223372036854775807) (h3:0<n):IntKind.wrap .i64 (Int.tdiv a n)=Int.tdiv a n:=by
 rw [Int.tdiv_eq_ediv_of_nonneg h1];exact wrap64_in (by have:=Int.ediv_nonneg h1 (Int.le_of_lt h3);omega) (Int.le_trans (Int.ediv_le_self _ h1) h2)
theorem CS (l:List St3) (y r:Int):T.anon (G1 [ors l,iv y,iv r])=spT l y r:=by kernel_rfl
theorem CK:aj Tryz.prog 99 Fw:=by
 refine CH.ai0 fun args v hfl h => ?_;clear hfl;obtain ⟨l,y,r,rfl,h1⟩:=lW (show (tF args _).eval=some v from h);clear h;obtain ⟨hk,h⟩:=aO h1;obtain rfl:=AI h;simp only [AS,By] at hk;refine ⟨dR (spV (heardL y l) r) (spE (heardL y l) r),?_,⟨rfl,rfl⟩,rfl⟩;rw [<- T.aiW,CS];unfold spT;rw [OA];refine aE (by simp) (aE hk.1 ?_);obtain ⟨h1,h2,h3,h4⟩:=wU y l;generalize heardL y l=t at *
 obtain ⟨s,n,c⟩:=t;dsimp only at *
 unfold spV spE;by_cases q:n=0
 ·subst q;exact aE rfl rfl
 ·have q2:(n==0)=false:=by simpa using q
  refine tev_else q2 ?_;simp only [q,if_false];by_cases hr:r<0
  ·rw [if_pos hr,if_pos hr];exact aE (c9 hr) rfl
  ·rw [if_neg hr,if_neg hr];have hp:0<=s*r:=Int.mul_nonneg h1 (by omega);generalize s*r=p at *
   refine tev_else (BY hr) (aE (by simp only [AS,By];omega) ?_);by_cases hc:9223372036854775807<p
   ·rw [if_pos hc,if_pos (Or.inl hc)];refine aE (c9 hc) ?_;rw [OL (by decide) (by decide) (by omega)];exact aE (by cases c<;>rfl) (tev_else q2 rfl)
   ·rw [if_neg hc];refine tev_else (BY hc) ?_;rw [OL hp (by omega) (by omega)];cases c
    ·rw [if_neg (by simp;omega)];exact tev_else rfl (tev_else q2 rfl)
    ·rw [if_pos (Or.inr rfl)];exact aE rfl (tev_else q2 rfl)
end Go.Proofs.YtefkegpbpaoadaaGreatDoor.Sta
end
