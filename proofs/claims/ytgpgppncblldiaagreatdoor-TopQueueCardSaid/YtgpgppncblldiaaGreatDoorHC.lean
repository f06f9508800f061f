import Derived.Test.YtgpgppncblldiaaGreatDoorRows
import Derived.WalkKit
import Derived.ProofKit
import Derived.OpenShut
import Derived.Lib.Hide
import Derived.Lib.Mul64
import Derived.Laws.Bits64b
import Derived.Shelf.Bits.Mul64
import Derived.Deep.QuietTactic
import Derived.BigQuiet
import Derived.Handy
import Derived.Test.YtgpgppncblldiaaGreatDoorGL
set_option linter.unusedVariables false
set_option linter.unusedSimpArgs false
set_option maxRecDepth 100000
noncomputable section
namespace Go.Proofs.YtgpgppncblldiaaGreatDoor.Sta
open Go.ChangeShapes Go.WideShapes Go.ChangeAt Go.RowKit
def U4 (v c:Int) (w:World) (e:Ending) (w':World):Prop:=e=.returned (.tuple #[.int .u64 v,.int .u64 c])/\w=w'
set_option maxHeartbeats 1000000 in
theorem oD (x y:Nat) (hx:x<18446744073709551616) (hy:y<18446744073709551616) (w:World) :
  Calls Tryz.prog 150 #[.int .u64 x,.int .u64 y] w (U4 ((x*y / 18446744073709551616:Nat):Int) ((x*y % 18446744073709551616:Nat):Int) w):=by
 obtain ⟨bd,bt,bw,hhi⟩:=Lib.mul64_hi x y hx hy;have ba:=Lib.half_mul_le (a:=x / 4294967296) (b:=y / 4294967296) (by omega) (by omega);have bb:=Lib.half_mul_le (a:=x / 4294967296) (b:=y % 4294967296) (by omega) (by omega);have bc:=Lib.half_mul_le (a:=x % 4294967296) (b:=y / 4294967296) (by omega) (by omega);have ba':x / 4294967296*(y / 4294967296)<18446744073709551616:=by omega
 have bb':x / 4294967296*(y % 4294967296)<18446744073709551616:=by omega
 have bc':x % 4294967296*(y / 4294967296)<18446744073709551616:=by omega
 have bh1:x / 4294967296*(y / 4294967296)+(x / 4294967296*(y % 4294967296)+x % 4294967296*(y % 4294967296) / 4294967296) / 4294967296<18446744073709551616:=by omega
 have bh:x / 4294967296*(y / 4294967296)+(x / 4294967296*(y % 4294967296)+x % 4294967296*(y % 4294967296) / 4294967296) / 4294967296+((x / 4294967296*(y % 4294967296)+x % 4294967296*(y % 4294967296) / 4294967296) % 4294967296+x % 4294967296*(y / 4294967296)) / 4294967296<18446744073709551616:=by omega
 go_enter Tryz.func150,Tryz.ntmps150
 go_wp2
 simp only [Mul64.maskN x hx,Mul64.maskN y hy,Mul64.divN,Mul64.mulN,Mul64.addN,Mul64.wrapN _ bd,Mul64.wrapN _ bb',Mul64.wrapN _ bt,Mul64.maskN _ bt,Mul64.wrapN _ bc',Mul64.wrapN _ bw,Mul64.wrapN _ ba',Mul64.wrapN _ bh1,Mul64.wrapN _ bh,Mul64.wrapM (x*y)];rw [hhi]
 go_ret2
 exact ⟨rfl,rfl⟩
open Go.Eng
def uv (n:Int):V:=.s (.int .u64 n)
def inU (a:Int):Bool:=decide (0<=a)&&decide (a<18446744073709551616)
def uN:Eng.Spec
 | [.s (.int .u64 x),.s (.int .u64 y)]=>.ite none (inU x&&inU y) (.ret (.tup [uv (x*y / 18446744073709551616),uv (x*y % 18446744073709551616)])) .fail
 | _=>.fail
theorem vQ (args:List V) (v:V) (h:(uN args).eval=some v):dh args=true/\flat v=true:=by
 unfold uN at h;split at h
 ·obtain ⟨_,h⟩:=aJ h;simp only [T.eval,c9] at h;subst h;exact ⟨rfl,rfl⟩
 ·cases h
theorem JA:an Tryz.prog 150 uN:=by
 refine an.ae0 Tryz.func150 (by kernel_rfl) (by kernel_rfl) vQ fun args v w hfl h hfv => ?_;clear hfl hfv;unfold uN at h;split at h
 ·rename_i x y;obtain ⟨hc,h⟩:=aJ h;simp only [inU,AS,AT] at hc;simp only [T.eval,c9] at h;subst h;obtain ⟨a,rfl⟩:=Int.eq_ofNat_of_zero_le hc.1.1;obtain ⟨b,rfl⟩:=Int.eq_ofNat_of_zero_le hc.2.1;refine (oD a b (by omega) (by omega) w).mono ?_;rintro e w' ⟨rfl,rfl⟩;refine ⟨?_,Below.refl _ _⟩;simp [uv,V.den,aH,S.den]
 ·cases h
end Go.Proofs.YtgpgppncblldiaaGreatDoor.Sta
namespace Go.Proofs.YtgpgppncblldiaaGreatDoor.Sta
open Go.Eng Go.RowKit Mil
def po:Eng.Spec:=aK P0 ab 182
theorem fz:an Tryz.prog 182 po:=af o7 mixed Tryz.func182 (by kernel_rfl) (by kernel_rfl)
abbrev St3:=Int × Int × Int
def aan (own:Bool) (l:List St3):Blk:=.lst own 214 [.int .i64,.int .i64,.int .i64] l
structure Tot where
 s:Int
 n:Int
 c:Bool
deriving DecidableEq
def ad1:Code:=bY Tryz.prog 149 0
structure PA1 where (age:Int) (l:List St3) (k:Nat) (n:Int)
structure AA1 where (s c:Int) (u:Bool) (i:Int)
def vsA (p:PA1) (a:AA1):List V:=[iv p.age,.ptr 1 0,.sub 0 3 0 p.k,iv p.n,iv a.i]
def bsA (p:PA1) (a:AA1):List Blk:=[aan false p.l,.cells 208 [iv a.s,iv a.c,bv a.u]]
abbrev SA:List (Nat × Src):=[(0,.same),(1,.same)]
def LO (x:St3):Bool:=decide (0<=x.1)&&decide (0<=x.2.1)&&decide (0<=x.2.2)
def Rt:Eng.Spec
 | [.agg [.s (.int .i64 a),.s (.int .i64 b),.s (.int .i64 c)]]=>.ret (bv (LO (a,b,c)))
 | _=>.fail
def PL:Cfg:=⟨Tryz.prog,lookG [(182,.val Rt),(183,.val Ty),(150,.val uN)],[],0⟩
def rtA (age:Int) (l:List St3) (k:Nat) (n s c:Int) (u:Bool) (i:Int):T (Ex × St):=T.ite none (decide (i<n))
 (T.ite none (decide (0<=i)&&(decide (i<(↑k:Int))&&decide (0+Int.toNat i<List.length l)))
  (T.ite none (decide (0+Int.toNat i<List.length l))
   (T.ite none (bif !LO ((g3 l i).1,(g3 l i).2.1,(g3 l i).2.2) then true else decide ((g3 l i).2.1<age))
    (T.ret (Ex.normal,bK [1,5,10,11,12] (aF SA) 1000 54 (vsA ⟨age,l,k,n⟩ ⟨s,c,u,IntKind.wrap IntKind.i64 (i+1)⟩) (bsA ⟨age,l,k,n⟩ ⟨s,c,u,IntKind.wrap IntKind.i64 (i+1)⟩)))
    (T.ite none (inR s&&inR (g3 l i).2.2)
     (T.ret (Ex.normal,bK [1,5,10,11,12] (aF SA) 1000 54 (vsA ⟨age,l,k,n⟩ ⟨bZ (s+(g3 l i).2.2),IntKind.wrap IntKind.i64 (c+1),(bif u then true else jt (s+(g3 l i).2.2)==2),IntKind.wrap IntKind.i64 (i+1)⟩) (bsA ⟨age,l,k,n⟩ ⟨bZ (s+(g3 l i).2.2),IntKind.wrap IntKind.i64 (c+1),(bif u then true else jt (s+(g3 l i).2.2)==2),IntKind.wrap IntKind.i64 (i+1)⟩)))
     T.fail))
   T.fail)
  T.fail)
 (T.ret (Ex.exit 0,bK [1,5,10,11,12] (aF SA) 1000 54 (vsA ⟨age,l,k,n⟩ ⟨s,c,u,i⟩) (bsA ⟨age,l,k,n⟩ ⟨s,c,u,i⟩)))
theorem Jt:an Tryz.prog 182 Rt:=by
 refine fz.aex fun args v hfl h => ?_;clear hfl;unfold Rt at h;split at h
 ·rename_i a b c;obtain rfl:=AI h;refine ⟨bv (LO (a,b,c)),?_,⟨rfl,rfl⟩,rfl⟩;have e:T.anon (po [.agg [iv a,iv b,iv c]])=T.ret (V.s (S.bool (bif bif decide (0<=a) then decide (0<=b) else false then decide (0<=c) else false))):=by kernel_rfl
  rw [<- T.aer,show po [.agg [V.s (.int .i64 a),V.s (.int .i64 b),V.s (.int .i64 c)]]=po [.agg [iv a,iv b,iv c]] from rfl,e];simp only [eH,LO];rfl
 ·cases h
theorem NJ:PL.Ok:=Cfg.ok ⟨Jt,Lg,JA,trivial⟩ trivial
def FK:List V->List Blk->Option (PA1 × AA1)
 | [.s (.int .i64 age),.ptr 1 0,.sub 0 3 0 k,.s (.int .i64 n),.s (.int .i64 i)],[.lst false t [.int .i64,.int .i64,.int .i64] l,.cells t2 [.s (.int .i64 s),.s (.int .i64 c),.s (.bool u)]] =>
  if t=214/\t2=208 then some (⟨age,l,k,n⟩,⟨s,c,u,i⟩) else none
 | _,_=>none
theorem wR (l:List V) (b:List Blk) (d:PA1 × AA1) (h:FK l b=some d):l=vsA d.1 d.2/\b=bsA d.1 d.2:=by
 unfold FK at h;split at h
 ·split at h
  ·rename_i ht;obtain ⟨rfl,rfl⟩:=ht;cases h;exact ⟨rfl,rfl⟩
  ·cases h
 ·cases h
def xp (l:List St3):Bool:=decide (l.length<=1000000)&&l.all fun x=>inR x.2.2
def zU (p:PA1) (a:AA1):Bool:=decide (p.k=p.l.length)&&decide (p.n=(p.k:Int))&&decide (0<=a.i)&&decide (a.i<=p.n)&&decide (0<=a.c)&&decide (a.c<=a.i)&&inR a.s&&xp p.l
def RQ (age:Int) (x:St3):Bool:=LO x&&decide (age<=x.2.1)
def yX (p:PA1) (a:AA1):Option AA1 :=
 if a.i<p.n then some (if RQ p.age (g3 p.l a.i)=true then ⟨bZ (a.s+(g3 p.l a.i).2.2),a.c+1,a.u||(jt (a.s+(g3 p.l a.i).2.2)==2),a.i+1⟩ else ⟨a.s,a.c,a.u,a.i+1⟩) else none
def outA (p:PA1) (a:AA1):T (Ex × St):=.ret (.exit 0,bK [1,5,10,11,12] [0,1] 1000 54 (vsA p a) (bsA p a))
theorem Up {l:List St3} {i:Int} (h0:0<=i) (h:i<l.length):∃ x,l[i.toNat]?=some x/\g3 l i=x:=by
 have hl:i.toNat<l.length:=by omega
 refine ⟨l[i.toNat],by simp [hl],?_⟩;unfold g3;rw [Nat.zero_add,ae7,OF hl];rfl
theorem Ga {l:List St3} (h:xp l=true) {i:Int} (h0:0<=i) (hi:i<l.length):inR (g3 l i).2.2=true:=by
 obtain ⟨x,h1,h2⟩:=Up h0 hi;rw [h2];unfold xp at h;simp only [AS,ae9] at h;exact h.2 x (List.mem_of_getElem? h1)
theorem sV (n:Int):inR (bZ n)=true:=bV.2 (ju n)
theorem stA (p:PA1) (a b:AA1) (h:zU p a=true) (e:yX p a=some b):zU p b=true/\(p.n - b.i).toNat<(p.n - a.i).toNat:=by
 obtain ⟨s,c,u,i⟩:=a;unfold yX at e;split at e
 ·rename_i hc;obtain rfl:=AI e;simp only [zU,AS,AT] at h hc ⊢;obtain ⟨⟨⟨⟨⟨⟨⟨h1,h2⟩,h3⟩,h4⟩,h5⟩,h6⟩,h7⟩,h8⟩:=h;split
  ·exact ⟨⟨⟨⟨⟨⟨⟨⟨h1,h2⟩,by show 0<=i+1;omega⟩,by show i+1<=p.n;omega⟩,by show 0<=c+1;omega⟩,by show c+1<=i+1;omega⟩,sV _⟩,h8⟩,by show (p.n - (i+1)).toNat<(p.n - i).toNat;omega⟩
  ·exact ⟨⟨⟨⟨⟨⟨⟨⟨h1,h2⟩,by show 0<=i+1;omega⟩,by show i+1<=p.n;omega⟩,h5⟩,by show c<=i+1;omega⟩,h7⟩,h8⟩,by show (p.n - (i+1)).toNat<(p.n - i).toNat;omega⟩
 ·cases e
theorem Cq:aI PL ad1 (gU [1,5,10,11,12] SA 1000 1000 54 FK zU yX outA):=by
 refine cR (vs:=vsA) (bs:=bsA) NJ mixed (az _) wR (fun p a=>(p.n - a.i).toNat) stA fun ⟨age,l,k,n⟩ ⟨s,c,u,i⟩ h => ?_;have e:T.anon (aZ PL ab ad1 [1,5,10,11,12] SA 1000 1000 (bK [1,5,10,11,12] (aF SA) 1000 54 (vsA ⟨age,l,k,n⟩ ⟨s,c,u,i⟩) (bsA ⟨age,l,k,n⟩ ⟨s,c,u,i⟩)))=rtA age l k n s c u i:=by kernel_rfl
 rw [<- T.aer (t:=aZ _ _ _ _ _ _ _ _),e];clear e;simp only [zU,AS,AT] at h;obtain ⟨⟨⟨⟨⟨⟨⟨rfl,rfl⟩,h3⟩,h4⟩,h5⟩,h6⟩,h7⟩,h8⟩:=h;have hlen:l.length<=1000000:=by unfold xp at h8;simp only [AS,AT] at h8;exact h8.1
 simp only [yX,outA];unfold rtA;by_cases hc:i<l.length
 ·rw [if_pos hc];have h9:=Ga h8 h3 hc;generalize g3 l i=x at *
  refine ⟨fun b hb => ?_,fun h=>by cases h⟩;obtain rfl:=AI hb;rw [wrap64_in (n:=i+1) (by omega) (by omega),wrap64_in (n:=c+1) (by omega) (by omega)];refine aA (by (first | with_reducible rfl | assumption | (simp only [eH,eR,AS,afp,Bool.and_eq_false_iff,Bool.or_eq_false_iff,AT,afi,beq_iff_eq,bne_iff_ne,afb,bne_eq_false_iff_eq,Bool.not_eq_true',Bool.not_eq_false',ne_eq,Bool.true_and,Bool.and_true,Bool.false_and,Bool.and_false,Bool.true_or,Bool.or_true,Bool.not_true,Bool.not_false,Bool.cond_true,Bool.cond_false,true_and,and_true];first | done | omega))) (aA (by (first | with_reducible rfl | assumption | (simp only [eH,eR,AS,afp,Bool.and_eq_false_iff,Bool.or_eq_false_iff,AT,afi,beq_iff_eq,bne_iff_ne,afb,bne_eq_false_iff_eq,Bool.not_eq_true',Bool.not_eq_false',ne_eq,Bool.true_and,Bool.and_true,Bool.false_and,Bool.and_false,Bool.true_or,Bool.or_true,Bool.not_true,Bool.not_false,Bool.cond_true,Bool.cond_false,true_and,and_true];first | done | omega))) (aA (by (first | with_reducible rfl | assumption | (simp only [eH,eR,AS,afp,Bool.and_eq_false_iff,Bool.or_eq_false_iff,AT,afi,beq_iff_eq,bne_iff_ne,afb,bne_eq_false_iff_eq,Bool.not_eq_true',Bool.not_eq_false',ne_eq,Bool.true_and,Bool.and_true,Bool.false_and,Bool.and_false,Bool.true_or,Bool.or_true,Bool.not_true,Bool.not_false,Bool.cond_true,Bool.cond_false,true_and,and_true];first | done | omega))) ?_));by_cases hm:RQ age x=true
  ·rw [if_pos hm];unfold RQ at hm;simp only [AS,AT] at hm;refine tev_else (by rw [show (x.1,x.2.1,x.2.2)=x from rfl,hm.1];simp;omega) (aA (by rw [h7,h9];rfl) ?_);cases u<;>rfl
  ·rw [if_neg hm];refine aA ?_ rfl;rw [show (x.1,x.2.1,x.2.2)=x from rfl];unfold RQ at hm;simp only [AS,AT,not_and] at hm;by_cases hr:LO x=true
   ·have:=hm hr;rw [hr];simp;omega
   ·rw [show LO x=false by simpa using hr];rfl
 ·rw [if_neg hc];refine ⟨fun b hb=>(by cases hb),fun _ r hr => ?_⟩;obtain rfl:=AI hr;exact ⟨by simp,tev_else (by (first | with_reducible rfl | assumption | (simp only [eH,eR,AS,afp,Bool.and_eq_false_iff,Bool.or_eq_false_iff,AT,afi,beq_iff_eq,bne_iff_ne,afb,bne_eq_false_iff_eq,Bool.not_eq_true',Bool.not_eq_false',ne_eq,Bool.true_and,Bool.and_true,Bool.false_and,Bool.and_false,Bool.true_or,Bool.or_true,Bool.not_true,Bool.not_false,Bool.cond_true,Bool.cond_false,true_and,and_true];first | done | omega))) rfl⟩
def wy:List (Nat × bC):=[(3,gU [1,5,10,11,12] SA 1000 1000 54 FK zU yX outA)]
theorem Z3:findL wy 3=some (gU [1,5,10,11,12] SA 1000 1000 54 FK zU yX outA):=rfl
theorem ZR:ar ad1=some 3:=by kernel_rfl
theorem Pc:∀ a∈bI (codeOf Tryz.prog 149),∀ sp,bW wy a=some sp->aI PL a sp:=by
 have e:bI (codeOf Tryz.prog 149)=[ad1]:=by kernel_rfl
 rw [e];intro a ha;rcases afd.1 ha with h | ha
 ·rw [h];exact dP ZR Z3 Cq
 ·cases ha
def stepT (age:Int) (t:Tot) (x:St3):Tot:=if RQ age x=true then ⟨bZ (t.s+x.2.2),t.n+1,t.c||(jt (t.s+x.2.2)==2)⟩ else t
def ly (age:Int) (l:List St3):Tot:=l.foldl (stepT age) ⟨0,0,false⟩
theorem uu (age:Int) (l:List St3) (x:St3):ly age (l++[x])=stepT age (ly age l) x:=by unfold ly;rw [List.foldl_append];rfl
theorem Fp {l:List St3} {i:Int} (h0:0<=i) (h:i<l.length):l.take (i+1).toNat=l.take i.toNat++[g3 l i]:=by
 obtain ⟨x,h1,h2⟩:=Up h0 h;rw [h2,show (i+1).toNat=i.toNat+1 by omega,List.take_add_one,h1];rfl
theorem endA {p:PA1} (h:zU p ⟨0,0,false,0⟩=true):bQ (yX p) ⟨0,0,false,0⟩=⟨(ly p.age p.l).s,(ly p.age p.l).n,(ly p.age p.l).c,p.n⟩:=by
 obtain ⟨h1,h2,h3⟩:=bP (stA p) h;have h4:=h3 (fun a=>(⟨a.s,a.c,a.u⟩:Tot)=ly p.age (p.l.take a.i.toNat)) rfl fun a b hi hq e=>by
  obtain ⟨s,c,u,i⟩:=a;simp only [zU,AS,AT] at hi;unfold yX at e;split at e
  ·rename_i hc;obtain rfl:=AI e;dsimp only at hc hq ⊢;have:i<p.l.length:=by omega
   have ht:=Fp (l:=p.l) (i:=i) hi.1.1.1.1.1.2 this;split
   ·rename_i hm;dsimp only;rw [ht,uu,<- hq];unfold stepT;rw [if_pos hm]
   ·rename_i hm;dsimp only;rw [ht,uu,<- hq];unfold stepT;rw [if_neg hm]
  ·cases e
 generalize bQ (yX p) ⟨0,0,false,0⟩=E at *
 obtain ⟨s,c,u,i⟩:=E;simp only [zU,AS,AT] at h1;unfold yX at h2;split at h2
 ·cases h2
 ·rename_i hc;dsimp only at hc h4;have hi:i=p.n:=by omega
  subst hi;have:p.l.take p.n.toNat=p.l:=afm (by omega);rw [this] at h4;rw [<- h4]
def ld:V:=.iface 292 (.agg [])
def qg (t:Tot):V:=.iface 208 (.agg [iv t.s,iv t.n,bv t.c])
def abN:Eng.Spec
 | [.orow t [.int .i64,.int .i64,.int .i64] l,.s (.int .i64 age)]=>if t=214 then .ite none (xp l) (.ite none ((ly age l).n==0) (.ret ld) (.ret (qg (ly age l)))) .fail else .fail
 | _=>.fail
theorem RK (l:List St3) (age:Int):T.anon (aK PL (bW wy) 149 [.orow 214 [.int .i64,.int .i64,.int .i64] l,iv age]) =
  T.ite none (zU ⟨age,l,l.length,l.length⟩ ⟨0,0,false,0⟩) (T.ite none ((bQ (yX ⟨age,l,l.length,l.length⟩) ⟨0,0,false,0⟩).c==0) (.ret ld)
   (.ret (qg ⟨(bQ (yX ⟨age,l,l.length,l.length⟩) ⟨0,0,false,0⟩).s,(bQ (yX ⟨age,l,l.length,l.length⟩) ⟨0,0,false,0⟩).c,(bQ (yX ⟨age,l,l.length,l.length⟩) ⟨0,0,false,0⟩).u⟩))) .fail:=by kernel_rfl
theorem add_eval (l:List St3) (age:Int) (v:V) (h0:(T.ite none (xp l) (.ite none ((ly age l).n==0) (.ret ld) (.ret (qg (ly age l)))) .fail).eval=some v) :
  (aK PL (bW wy) 149 [.orow 214 [.int .i64,.int .i64,.int .i64] l,iv age]).eval=some v/\flat v=true:=by
 obtain ⟨hk,h⟩:=aJ h0;have hi:zU ⟨age,l,l.length,l.length⟩ ⟨0,0,false,0⟩=true:=by
  simp only [zU,AS,AT];exact ⟨⟨⟨⟨⟨⟨⟨trivial,trivial⟩,by omega⟩,by omega⟩,by omega⟩,by omega⟩,rfl⟩,hk⟩
 refine ⟨?_,?_⟩
 ·rw [<- T.aer,RK,endA hi];exact aA hi h
 ·cases q:(ly age l).n==0<;>rw [q] at h<;>(obtain rfl:=AI h;rfl)
theorem QX:an Tryz.prog 149 abN:=by
 refine (eV (Λ:=bW wy) NJ mixed Tryz.func149 (by kernel_rfl) (by kernel_rfl) Pc).aex fun args v hfl h => ?_;clear hfl;unfold abN at h;split at h
 ·rename_i t l age;split at h
  ·rename_i ht;subst ht;obtain ⟨h1,h2⟩:=add_eval l age v h;exact ⟨v,h1,⟨h2,h2⟩,rfl⟩
  ·cases h
 ·cases h
def Q1:Cfg:=⟨Tryz.prog,lookG [(149,.val abN)],[],0⟩
theorem pf:Q1.Ok:=Cfg.ok ⟨QX,trivial⟩ trivial
def ors (l:List St3):V:=.orow 214 [.int .i64,.int .i64,.int .i64] l
def KM:Eng.Spec:=aK Q1 ab 116
theorem CS:an Tryz.prog 116 KM:=af pf mixed Tryz.func116 (by kernel_rfl) (by kernel_rfl)
def zt:Eng.Spec:=aK PL ab 117
theorem Cy:an Tryz.prog 117 zt:=af NJ mixed Tryz.func117 (by kernel_rfl) (by kernel_rfl)
def heardL (y:Int) (l:List St3):Tot:=if (ly y l).n=0 then ly 0 l else ly y l
theorem Gy (y:Int) (t:Tot) (x:St3) (h:0<=t.s/\t.s<=9223372036854775807/\0<=t.n):0<=(stepT y t x).s/\(stepT y t x).s<=9223372036854775807/\0<=(stepT y t x).n/\(stepT y t x).n<=t.n+1:=by
 unfold stepT;split
 ·rename_i hm;unfold RQ LO at hm;simp only [AS,AT] at hm;have:=ju (t.s+x.2.2);refine ⟨?_,this.2,by dsimp only;omega,by dsimp only;omega⟩;dsimp only;unfold bZ;split
  ·omega
  ·split<;>omega
 ·omega
theorem yA (y:Int):∀ (l:List St3) (t:Tot),(0<=t.s/\t.s<=9223372036854775807/\0<=t.n)->0<=(l.foldl (stepT y) t).s/\(l.foldl (stepT y) t).s<=9223372036854775807/\0<=(l.foldl (stepT y) t).n/\(l.foldl (stepT y) t).n<=t.n+l.length
 | [],t,h=>⟨h.1,h.2.1,h.2.2,by simp⟩
 | x::r,t,h=>by
  have h1:=Gy y t x h;have h2:=yA y r (stepT y t x) ⟨h1.1,h1.2.1,h1.2.2.1⟩;simp only [List.foldl_cons,List.length_cons];exact ⟨h2.1,h2.2.1,h2.2.2.1,by omega⟩
theorem Et (y:Int) (l:List St3):0<=(ly y l).s/\(ly y l).s<=9223372036854775807/\0<=(ly y l).n/\(ly y l).n<=l.length:=by
 have:=yA y l ⟨0,0,false⟩ ⟨by decide,by decide,by decide⟩;unfold ly;simpa using this
theorem uh (y:Int) (l:List St3):0<=(heardL y l).s/\(heardL y l).s<=9223372036854775807/\0<=(heardL y l).n/\(heardL y l).n<=l.length:=by
 unfold heardL;split
 ·exact Et 0 l
 ·exact Et y l
def XN {α:Type} (args:List V) (f:List St3->Int->T α):T α :=
 match args with
 | [.orow t [.int .i64,.int .i64,.int .i64] l,.s (.int .i64 y)]=>if t=214 then f l y else .fail
 | _=>.fail
theorem CM {α:Type} {args:List V} {f:List St3->Int->T α} {r:α} (e:(XN args f).eval=some r):∃ l y,args=[ors l,iv y]/\(f l y).eval=some r:=by
 unfold XN at e;split at e
 ·split at e
  ·rename_i ht;subst ht;exact ⟨_,_,rfl,e⟩
  ·cases e
 ·cases e
def ru {α:Type} (args:List V) (f:List St3->Int->Int->T α):T α :=
 match args with
 | [.orow t [.int .i64,.int .i64,.int .i64] l,.s (.int .i64 y),.s (.int .i64 r)]=>if t=214 then f l y r else .fail
 | _=>.fail
theorem lW {α:Type} {args:List V} {f:List St3->Int->Int->T α} {r:α} (e:(ru args f).eval=some r):∃ l y z,args=[ors l,iv y,iv z]/\(f l y z).eval=some r:=by
 unfold ru at e;split at e
 ·split at e
  ·rename_i ht;subst ht;exact ⟨_,_,_,rfl,e⟩
  ·cases e
 ·cases e
def LD:Eng.Spec:=fun args=>XN args fun l y=>.ite none (xp l) (.ite none ((heardL y l).n==0) (.ret ld) (.ret (qg (heardL y l)))) .fail
theorem EX (l:List St3) (y:Int):T.anon (KM [ors l,iv y])=T.ite none (decide (0+l.length<=l.length)) (T.ite none (xp ((l.drop 0).take l.length)) (T.ite none ((ly y ((l.drop 0).take l.length)).n==0)
  (T.ite none (decide (0+l.length<=l.length)) (T.ite none (xp ((l.drop 0).take l.length)) (T.ite none ((ly 0 ((l.drop 0).take l.length)).n==0) (.ret ld) (.ret (qg (ly 0 ((l.drop 0).take l.length))))) .fail) .fail)
  (.ret (qg (ly y ((l.drop 0).take l.length))))) .fail) .fail:=by kernel_rfl
theorem K8 (l:List St3):(l.drop 0).take l.length=l:=by rw [List.drop_zero,List.take_length]
theorem mP {c:Bool} {v1 v2 v:V} (h1:flat v1=true) (h2:flat v2=true) (h:(T.ite none c (.ret v1) (.ret v2)).eval=some v):flat v=true:=by
 cases c<;>(obtain rfl:=AI h)<;>assumption
theorem ED:an Tryz.prog 116 LD:=by
 refine CS.aex fun args v hfl h => ?_;clear hfl;obtain ⟨l,y,rfl,h1⟩:=CM (show (XN args _).eval=some v from h);clear h;obtain ⟨hk,h⟩:=aJ h1;refine ⟨v,?_,⟨mP rfl rfl h,mP rfl rfl h⟩,rfl⟩;rw [<- T.aer,EX,K8];refine aA (by simp) (aA hk ?_);unfold heardL at h;by_cases q:(ly y l).n=0
 ·rw [if_pos q] at h;exact aA (by simpa using q) (aA (by simp) (aA hk h))
 ·rw [if_neg q] at h;have q2:((ly y l).n==0)=false:=by simpa using q
  rw [q2] at h;exact tev_else q2 h
def timesC:Eng.Spec
 | [.s (.int .i64 s),.s (.int .i64 r)]=>.ite none (decide (0<=s)&&decide (s<=9223372036854775807)&&(decide (0<=r)&&decide (r<=9223372036854775807))) (.ite none (decide (9223372036854775807<s*r)) (.ret (.tup [iv 9223372036854775807,.tt])) (.ret (.tup [iv (s*r),.ff]))) .fail
 | _=>.fail
theorem DY (s r:Int):T.anon (zt [iv s,iv r])=T.ite none (inU (IntKind.wrap .u64 s)&&inU (IntKind.wrap .u64 r))
  (T.ite none (bif decide (0<IntKind.wrap .u64 s*IntKind.wrap .u64 r / 18446744073709551616) then true else decide (9223372036854775807<IntKind.wrap .u64 s*IntKind.wrap .u64 r % 18446744073709551616))
   (.ret (.tup [iv 9223372036854775807,.tt])) (.ret (.tup [iv (IntKind.wrap .i64 (IntKind.wrap .u64 s*IntKind.wrap .u64 r % 18446744073709551616)),.ff]))) .fail:=by kernel_rfl
theorem E4:an Tryz.prog 117 timesC:=by
 refine Cy.aex fun args v hfl h => ?_;clear hfl;unfold timesC at h;split at h
 ·rename_i s r;obtain ⟨hk,h⟩:=aJ h;simp only [AS,AT] at hk;obtain ⟨⟨h1,h2⟩,h3,h4⟩:=hk;refine ⟨v,?_,⟨mP rfl rfl h,mP rfl rfl h⟩,rfl⟩;rw [<- T.aer,show zt [V.s (.int .i64 s),V.s (.int .i64 r)]=zt [iv s,iv r] from rfl,DY,nY,nY,Int.emod_eq_of_lt h1 (by omega),Int.emod_eq_of_lt h3 (by omega)];have hp:0<=s*r:=Int.mul_nonneg h1 h3;generalize s*r=p at *
  refine aA (by unfold inU;simp only [AS,AT];omega) ?_;by_cases q:9223372036854775807<p
  ·rw [sh q] at h;refine aA ?_ h;simp only [eR,afp,AT];omega
  ·rw [By q] at h;refine tev_else ?_ ?_
   ·simp only [eR,Bool.or_eq_false_iff,afi];omega
   ·rw [show p % 18446744073709551616=p by omega,wrap64_in (by omega) (by omega)];exact h
 ·cases h
def Q2:Cfg:=⟨Tryz.prog,lookG [(116,.val LD),(117,.val timesC)],[],0⟩
theorem BF:Q2.Ok:=Cfg.ok ⟨ED,E4,trivial⟩ trivial
def Dr:Eng.Spec:=aK Q2 ab 92
theorem Az:an Tryz.prog 92 Dr:=af BF mixed Tryz.func92 (by kernel_rfl) (by kernel_rfl)
def spT (l:List St3) (y r:Int):T V:=T.ite none (decide (0+List.length l<=List.length l))
 (T.ite none (xp (List.take (List.length l) (List.drop 0 l)))
  (T.ite none (Tot.n (heardL y (List.take (List.length l) (List.drop 0 l)))==0)
   (T.ret (V.tup [V.s (S.int IntKind.i64 0),V.s (S.int IntKind.i64 7)]))
   (T.ite none (decide (r<0)) (T.ret (V.tup [V.s (S.int IntKind.i64 0),V.s (S.int IntKind.i64 1)]))
    (T.ite none
     (decide (0<=Tot.s (heardL y (List.take (List.length l) (List.drop 0 l))))&&decide (Tot.s (heardL y (List.take (List.length l) (List.drop 0 l)))<=9223372036854775807) &&
      (decide (0<=r)&&decide (r<=9223372036854775807)))
     (T.ite none (decide (9223372036854775807<Tot.s (heardL y (List.take (List.length l) (List.drop 0 l)))*r))
      (T.ite none (bif Tot.c (heardL y (List.take (List.length l) (List.drop 0 l))) then true else true) (T.ite none (Tot.n (heardL y (List.take (List.length l) (List.drop 0 l)))==0) T.fail (T.ret (V.tup [V.s (S.int IntKind.i64 (IntKind.wrap IntKind.i64 (Int.tdiv (9223372036854775807) (Tot.n (heardL y (List.take (List.length l) (List.drop 0 l))))))),V.s (S.int IntKind.i64 2)]))) (T.ite none (Tot.n (heardL y (List.take (List.length l) (List.drop 0 l)))==0) T.fail (T.ret (V.tup [V.s (S.int IntKind.i64 (IntKind.wrap IntKind.i64 (Int.tdiv (9223372036854775807) (Tot.n (heardL y (List.take (List.length l) (List.drop 0 l))))))),V.s (S.int IntKind.i64 0)]))))
      (T.ite none (bif Tot.c (heardL y (List.take (List.length l) (List.drop 0 l))) then true else false) (T.ite none (Tot.n (heardL y (List.take (List.length l) (List.drop 0 l)))==0) T.fail (T.ret (V.tup [V.s (S.int IntKind.i64 (IntKind.wrap IntKind.i64 (Int.tdiv (Tot.s (heardL y (List.take (List.length l) (List.drop 0 l)))*r) (Tot.n (heardL y (List.take (List.length l) (List.drop 0 l))))))),V.s (S.int IntKind.i64 2)]))) (T.ite none (Tot.n (heardL y (List.take (List.length l) (List.drop 0 l)))==0) T.fail (T.ret (V.tup [V.s (S.int IntKind.i64 (IntKind.wrap IntKind.i64 (Int.tdiv (Tot.s (heardL y (List.take (List.length l) (List.drop 0 l)))*r) (Tot.n (heardL y (List.take (List.length l) (List.drop 0 l))))))),V.s (S.int IntKind.i64 0)])))))
     T.fail)))
  T.fail)
 T.fail
def spV (t:Tot) (r:Int):Int:=if t.n=0 then 0 else if r<0 then 0 else Int.tdiv (if 9223372036854775807<t.s*r then 9223372036854775807 else t.s*r) t.n
def spE (t:Tot) (r:Int):Int:=if t.n=0 then 7 else if r<0 then 1 else if 9223372036854775807<t.s*r\/t.c=true then 2 else 0
def BM:Eng.Spec:=fun args=>ru args fun l y r=>.ite none (xp l&&decide (r<=9223372036854775807)) (.ret (dG (spV (heardL y l) r) (spE (heardL y l) r))) .fail
theorem JW {a n:Int} (h1:0<=a) (h2:a<=9223372036854775807) (h3:0<n):IntKind.wrap .i64 (Int.tdiv a n)=Int.tdiv a n:=by
 rw [Int.tdiv_eq_ediv_of_nonneg h1];exact wrap64_in (by have:=Int.ediv_nonneg h1 (Int.le_of_lt h3);omega) (Int.le_trans (Int.ediv_le_self _ h1) h2)
theorem Ba (l:List St3) (y r:Int):T.anon (Dr [ors l,iv y,iv r])=spT l y r:=by kernel_rfl
theorem Ao:an Tryz.prog 92 BM:=by
 refine Az.aex fun args v hfl h => ?_;clear hfl;obtain ⟨l,y,r,rfl,h1⟩:=lW (show (ru args _).eval=some v from h);clear h;obtain ⟨hk,h⟩:=aJ h1;obtain rfl:=AI h;simp only [AS,AT] at hk;refine ⟨dG (spV (heardL y l) r) (spE (heardL y l) r),?_,⟨rfl,rfl⟩,rfl⟩;rw [<- T.aer,Ba];unfold spT;rw [K8];refine aA (by simp) (aA hk.1 ?_);obtain ⟨h1,h2,h3,h4⟩:=uh y l;generalize heardL y l=t at *
 obtain ⟨s,n,c⟩:=t;dsimp only at *
 unfold spV spE;by_cases q:n=0
 ·subst q;exact aA rfl rfl
 ·have q2:(n==0)=false:=by simpa using q
  refine tev_else q2 ?_;simp only [q,if_false];by_cases hr:r<0
  ·rw [if_pos hr,if_pos hr];exact aA (sh hr) rfl
  ·rw [if_neg hr,if_neg hr];have hp:0<=s*r:=Int.mul_nonneg h1 (by omega);generalize s*r=p at *
   refine tev_else (By hr) (aA (by simp only [AS,AT];omega) ?_);by_cases hc:9223372036854775807<p
   ·rw [if_pos hc,if_pos (Or.inl hc)];refine aA (sh hc) ?_;rw [JW (by decide) (by decide) (by omega)];exact aA (by cases c<;>rfl) (tev_else q2 rfl)
   ·rw [if_neg hc];refine tev_else (By hc) ?_;rw [JW hp (by omega) (by omega)];cases c
    ·rw [if_neg (by simp;omega)];exact tev_else rfl (tev_else q2 rfl)
    ·rw [if_pos (Or.inr rfl)];exact aA rfl (tev_else q2 rfl)
end Go.Proofs.YtgpgppncblldiaaGreatDoor.Sta
end
