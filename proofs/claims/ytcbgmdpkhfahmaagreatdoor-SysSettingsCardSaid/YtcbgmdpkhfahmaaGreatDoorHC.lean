import Derived.Test.YtcbgmdpkhfahmaaGreatDoorRows
import Derived.WalkKit
import Derived.ProofKit
import Derived.OpenShut
import Derived.Lib.Hide
import Derived.Lib.Mul64
import Derived.Laws.Bits64b
import Derived.Shelf.Bits.Mul64
import Derived.Deep.QuietTactic
import Derived.BigQuiet
import Derived.Handy
import Derived.Test.YtcbgmdpkhfahmaaGreatDoorGL
set_option linter.unusedVariables false
set_option linter.unusedSimpArgs false
set_option maxRecDepth 100000
noncomputable section
namespace Go.Proofs.YtcbgmdpkhfahmaaGreatDoor.Sta
open Go.ChangeShapes Go.WideShapes Go.ChangeAt Go.RowKit
def Wd (v c:Int) (w:World) (e:Ending) (w':World):Prop:=e=.returned (.tuple #[.int .u64 v,.int .u64 c])/\w=w'
set_option maxHeartbeats 1000000 in
theorem nD (x y:Nat) (hx:x<18446744073709551616) (hy:y<18446744073709551616) (w:World) :
  Calls Tryz.prog 162 #[.int .u64 x,.int .u64 y] w (Wd ((x*y / 18446744073709551616:Nat):Int) ((x*y % 18446744073709551616:Nat):Int) w):=by
 obtain ⟨bd,bt,bw,hhi⟩:=Lib.mul64_hi x y hx hy;have ba:=Lib.half_mul_le (a:=x / 4294967296) (b:=y / 4294967296) (by omega) (by omega);have bb:=Lib.half_mul_le (a:=x / 4294967296) (b:=y % 4294967296) (by omega) (by omega);have bc:=Lib.half_mul_le (a:=x % 4294967296) (b:=y / 4294967296) (by omega) (by omega);have ba':x / 4294967296*(y / 4294967296)<18446744073709551616:=by omega
 have bb':x / 4294967296*(y % 4294967296)<18446744073709551616:=by omega
 have bc':x % 4294967296*(y / 4294967296)<18446744073709551616:=by omega
 have bh1:x / 4294967296*(y / 4294967296)+(x / 4294967296*(y % 4294967296)+x % 4294967296*(y % 4294967296) / 4294967296) / 4294967296<18446744073709551616:=by omega
 have bh:x / 4294967296*(y / 4294967296)+(x / 4294967296*(y % 4294967296)+x % 4294967296*(y % 4294967296) / 4294967296) / 4294967296+((x / 4294967296*(y % 4294967296)+x % 4294967296*(y % 4294967296) / 4294967296) % 4294967296+x % 4294967296*(y / 4294967296)) / 4294967296<18446744073709551616:=by omega
 go_enter Tryz.func162,Tryz.ntmps162
 go_wp2
 simp only [Mul64.maskN x hx,Mul64.maskN y hy,Mul64.divN,Mul64.mulN,Mul64.addN,Mul64.wrapN _ bd,Mul64.wrapN _ bb',Mul64.wrapN _ bt,Mul64.maskN _ bt,Mul64.wrapN _ bc',Mul64.wrapN _ bw,Mul64.wrapN _ ba',Mul64.wrapN _ bh1,Mul64.wrapN _ bh,Mul64.wrapM (x*y)];rw [hhi]
 go_ret2
 exact ⟨rfl,rfl⟩
open Go.Eng
def uv (n:Int):V:=.s (.int .u64 n)
def inU (a:Int):Bool:=decide (0<=a)&&decide (a<18446744073709551616)
def vi:Eng.Spec
 | [.s (.int .u64 x),.s (.int .u64 y)]=>.ite none (inU x&&inU y) (.ret (.tup [uv (x*y / 18446744073709551616),uv (x*y % 18446744073709551616)])) .fail
 | _=>.fail
theorem wo (args:List V) (v:V) (h:(vi args).eval=some v):dp args=true/\flat v=true:=by
 unfold vi at h;split at h
 ·obtain ⟨_,h⟩:=aM h;simp only [T.eval,c9] at h;subst h;exact ⟨rfl,rfl⟩
 ·cases h
theorem Kf:ah Tryz.prog 162 vi:=by
 refine ah.aiX Tryz.func162 (by kernel_rfl) (by kernel_rfl) wo fun args v w hfl h hfv => ?_;clear hfl hfv;unfold vi at h;split at h
 ·rename_i x y;obtain ⟨hc,h⟩:=aM h;simp only [inU,AS,AT] at hc;simp only [T.eval,c9] at h;subst h;obtain ⟨a,rfl⟩:=Int.eq_ofNat_of_zero_le hc.1.1;obtain ⟨b,rfl⟩:=Int.eq_ofNat_of_zero_le hc.2.1;refine (nD a b (by omega) (by omega) w).mono ?_;rintro e w' ⟨rfl,rfl⟩;refine ⟨?_,Below.refl _ _⟩;simp [uv,V.den,aH,S.den]
 ·cases h
end Go.Proofs.YtcbgmdpkhfahmaaGreatDoor.Sta
namespace Go.Proofs.YtcbgmdpkhfahmaaGreatDoor.Sta
open Go.Eng Go.RowKit Mil
def jU:Eng.Spec:=aE P0 aa 194
theorem dt:ah Tryz.prog 194 jU:=af mJ mixed Tryz.func194 (by kernel_rfl) (by kernel_rfl)
abbrev St3:=Int × Int × Int
def aeq (own:Bool) (l:List St3):Blk:=.lst own 222 [.int .i64,.int .i64,.int .i64] l
structure Tot where
 s:Int
 n:Int
 c:Bool
deriving DecidableEq
def ad1:Code:=bV Tryz.prog 161 0
structure PA1 where (age:Int) (l:List St3) (k:Nat) (n:Int)
structure AA1 where (s c:Int) (u:Bool) (i:Int)
def vsA (p:PA1) (a:AA1):List V:=[iv p.age,.ptr 1 0,.sub 0 3 0 p.k,iv p.n,iv a.i]
def bsA (p:PA1) (a:AA1):List Blk:=[aeq false p.l,.cells 216 [iv a.s,iv a.c,bv a.u]]
abbrev SA:List (Nat × Src):=[(0,.same),(1,.same)]
def Es (x:St3):Bool:=decide (0<=x.1)&&decide (0<=x.2.1)&&decide (0<=x.2.2)
def SO:Eng.Spec
 | [.agg [.s (.int .i64 a),.s (.int .i64 b),.s (.int .i64 c)]]=>.ret (bv (Es (a,b,c)))
 | _=>.fail
def PL:Cfg:=⟨Tryz.prog,lookG [(194,.val SO),(195,.val Vo),(162,.val vi)],[],0⟩
def rtA (age:Int) (l:List St3) (k:Nat) (n s c:Int) (u:Bool) (i:Int):T (Ex × St):=T.ite none (decide (i<n))
 (T.ite none (decide (0<=i)&&(decide (i<(↑k:Int))&&decide (0+Int.toNat i<List.length l)))
  (T.ite none (decide (0+Int.toNat i<List.length l))
   (T.ite none (bif !Es ((g3 l i).1,(g3 l i).2.1,(g3 l i).2.2) then true else decide ((g3 l i).2.1<age))
    (T.ret (Ex.normal,bP [1,5,10,11,12] (aI SA) 1000 54 (vsA ⟨age,l,k,n⟩ ⟨s,c,u,IntKind.wrap IntKind.i64 (i+1)⟩) (bsA ⟨age,l,k,n⟩ ⟨s,c,u,IntKind.wrap IntKind.i64 (i+1)⟩)))
    (T.ite none (inR s&&inR (g3 l i).2.2)
     (T.ret (Ex.normal,bP [1,5,10,11,12] (aI SA) 1000 54 (vsA ⟨age,l,k,n⟩ ⟨bW (s+(g3 l i).2.2),IntKind.wrap IntKind.i64 (c+1),(bif u then true else jr (s+(g3 l i).2.2)==2),IntKind.wrap IntKind.i64 (i+1)⟩) (bsA ⟨age,l,k,n⟩ ⟨bW (s+(g3 l i).2.2),IntKind.wrap IntKind.i64 (c+1),(bif u then true else jr (s+(g3 l i).2.2)==2),IntKind.wrap IntKind.i64 (i+1)⟩)))
     T.fail))
   T.fail)
  T.fail)
 (T.ret (Ex.exit 0,bP [1,5,10,11,12] (aI SA) 1000 54 (vsA ⟨age,l,k,n⟩ ⟨s,c,u,i⟩) (bsA ⟨age,l,k,n⟩ ⟨s,c,u,i⟩)))
theorem Kj:ah Tryz.prog 194 SO:=by
 refine dt.air fun args v hfl h => ?_;clear hfl;unfold SO at h;split at h
 ·rename_i a b c;obtain rfl:=AI h;refine ⟨bv (Es (a,b,c)),?_,⟨rfl,rfl⟩,rfl⟩;have e:T.anon (jU [.agg [iv a,iv b,iv c]])=T.ret (V.s (S.bool (bif bif decide (0<=a) then decide (0<=b) else false then decide (0<=c) else false))):=by kernel_rfl
  rw [<- T.aim,show jU [.agg [V.s (.int .i64 a),V.s (.int .i64 b),V.s (.int .i64 c)]]=jU [.agg [iv a,iv b,iv c]] from rfl,e];simp only [eJ,Es];rfl
 ·cases h
theorem OW:PL.Ok:=Cfg.ok ⟨Kj,MS,Kf,trivial⟩ trivial
def G6:List V->List Blk->Option (PA1 × AA1)
 | [.s (.int .i64 age),.ptr 1 0,.sub 0 3 0 k,.s (.int .i64 n),.s (.int .i64 i)],[.lst false t [.int .i64,.int .i64,.int .i64] l,.cells t2 [.s (.int .i64 s),.s (.int .i64 c),.s (.bool u)]] =>
  if t=222/\t2=216 then some (⟨age,l,k,n⟩,⟨s,c,u,i⟩) else none
 | _,_=>none
theorem xa (l:List V) (b:List Blk) (d:PA1 × AA1) (h:G6 l b=some d):l=vsA d.1 d.2/\b=bsA d.1 d.2:=by
 unfold G6 at h;split at h
 ·split at h
  ·rename_i ht;obtain ⟨rfl,rfl⟩:=ht;cases h;exact ⟨rfl,rfl⟩
  ·cases h
 ·cases h
def xc (l:List St3):Bool:=decide (l.length<=1000000)&&l.all fun x=>inR x.2.2
def Ar (p:PA1) (a:AA1):Bool:=decide (p.k=p.l.length)&&decide (p.n=(p.k:Int))&&decide (0<=a.i)&&decide (a.i<=p.n)&&decide (0<=a.c)&&decide (a.c<=a.i)&&inR a.s&&xc p.l
def Uu (age:Int) (x:St3):Bool:=Es x&&decide (age<=x.2.1)
def zv (p:PA1) (a:AA1):Option AA1 :=
 if a.i<p.n then some (if Uu p.age (g3 p.l a.i)=true then ⟨bW (a.s+(g3 p.l a.i).2.2),a.c+1,a.u||(jr (a.s+(g3 p.l a.i).2.2)==2),a.i+1⟩ else ⟨a.s,a.c,a.u,a.i+1⟩) else none
def outA (p:PA1) (a:AA1):T (Ex × St):=.ret (.exit 0,bP [1,5,10,11,12] [0,1] 1000 54 (vsA p a) (bsA p a))
theorem Yl {l:List St3} {i:Int} (h0:0<=i) (h:i<l.length):∃ x,l[i.toNat]?=some x/\g3 l i=x:=by
 have hl:i.toNat<l.length:=by omega
 refine ⟨l[i.toNat],by simp [hl],?_⟩;unfold g3;rw [Nat.zero_add,OF,ai3 hl];rfl
theorem IP {l:List St3} (h:xc l=true) {i:Int} (h0:0<=i) (hi:i<l.length):inR (g3 l i).2.2=true:=by
 obtain ⟨x,h1,h2⟩:=Yl h0 hi;rw [h2];unfold xc at h;simp only [AS,ai5] at h;exact h.2 x (List.mem_of_getElem? h1)
theorem q7 (n:Int):inR (bW n)=true:=ca.2 (ju n)
theorem stA (p:PA1) (a b:AA1) (h:Ar p a=true) (e:zv p a=some b):Ar p b=true/\(p.n - b.i).toNat<(p.n - a.i).toNat:=by
 obtain ⟨s,c,u,i⟩:=a;unfold zv at e;split at e
 ·rename_i hc;obtain rfl:=AI e;simp only [Ar,AS,AT] at h hc ⊢;obtain ⟨⟨⟨⟨⟨⟨⟨h1,h2⟩,h3⟩,h4⟩,h5⟩,h6⟩,h7⟩,h8⟩:=h;split
  ·exact ⟨⟨⟨⟨⟨⟨⟨⟨h1,h2⟩,by show 0<=i+1;omega⟩,by show i+1<=p.n;omega⟩,by show 0<=c+1;omega⟩,by show c+1<=i+1;omega⟩,q7 _⟩,h8⟩,by show (p.n - (i+1)).toNat<(p.n - i).toNat;omega⟩
  ·exact ⟨⟨⟨⟨⟨⟨⟨⟨h1,h2⟩,by show 0<=i+1;omega⟩,by show i+1<=p.n;omega⟩,h5⟩,by show c<=i+1;omega⟩,h7⟩,h8⟩,by show (p.n - (i+1)).toNat<(p.n - i).toNat;omega⟩
 ·cases e
theorem Fo:aL PL ad1 (j5 [1,5,10,11,12] SA 1000 1000 54 G6 Ar zv outA):=by
 refine dN (vs:=vsA) (bs:=bsA) OW mixed (az _) xa (fun p a=>(p.n - a.i).toNat) stA fun ⟨age,l,k,n⟩ ⟨s,c,u,i⟩ h => ?_;have e:T.anon (bB PL aa ad1 [1,5,10,11,12] SA 1000 1000 (bP [1,5,10,11,12] (aI SA) 1000 54 (vsA ⟨age,l,k,n⟩ ⟨s,c,u,i⟩) (bsA ⟨age,l,k,n⟩ ⟨s,c,u,i⟩)))=rtA age l k n s c u i:=by kernel_rfl
 rw [<- T.aim (t:=bB _ _ _ _ _ _ _ _),e];clear e;simp only [Ar,AS,AT] at h;obtain ⟨⟨⟨⟨⟨⟨⟨rfl,rfl⟩,h3⟩,h4⟩,h5⟩,h6⟩,h7⟩,h8⟩:=h;have hlen:l.length<=1000000:=by unfold xc at h8;simp only [AS,AT] at h8;exact h8.1
 simp only [zv,outA];unfold rtA;by_cases hc:i<l.length
 ·rw [if_pos hc];have h9:=IP h8 h3 hc;generalize g3 l i=x at *
  refine ⟨fun b hb => ?_,fun h=>by cases h⟩;obtain rfl:=AI hb;rw [wrap64_in (n:=i+1) (by omega) (by omega),wrap64_in (n:=c+1) (by omega) (by omega)];refine aC (by (first | with_reducible rfl | assumption | (simp only [eJ,fa,AS,ajm,Bool.and_eq_false_iff,Bool.or_eq_false_iff,AT,ajg,beq_iff_eq,bne_iff_ne,ai4,bne_eq_false_iff_eq,Bool.not_eq_true',Bool.not_eq_false',ne_eq,Bool.true_and,Bool.and_true,Bool.false_and,Bool.and_false,Bool.true_or,Bool.or_true,Bool.not_true,Bool.not_false,Bool.cond_true,Bool.cond_false,true_and,and_true];first | done | omega))) (aC (by (first | with_reducible rfl | assumption | (simp only [eJ,fa,AS,ajm,Bool.and_eq_false_iff,Bool.or_eq_false_iff,AT,ajg,beq_iff_eq,bne_iff_ne,ai4,bne_eq_false_iff_eq,Bool.not_eq_true',Bool.not_eq_false',ne_eq,Bool.true_and,Bool.and_true,Bool.false_and,Bool.and_false,Bool.true_or,Bool.or_true,Bool.not_true,Bool.not_false,Bool.cond_true,Bool.cond_false,true_and,and_true];first | done | omega))) (aC (by (first | with_reducible rfl | assumption | (simp only [eJ,fa,AS,ajm,Bool.and_eq_false_iff,Bool.or_eq_false_iff,AT,ajg,beq_iff_eq,bne_iff_ne,ai4,bne_eq_false_iff_eq,Bool.not_eq_true',Bool.not_eq_false',ne_eq,Bool.true_and,Bool.and_true,Bool.false_and,Bool.and_false,Bool.true_or,Bool.or_true,Bool.not_true,Bool.not_false,Bool.cond_true,Bool.cond_false,true_and,and_true];first | done | omega))) ?_));by_cases hm:Uu age x=true
  ·rw [if_pos hm];unfold Uu at hm;simp only [AS,AT] at hm;refine tev_else (by rw [show (x.1,x.2.1,x.2.2)=x from rfl,hm.1];simp;omega) (aC (by rw [h7,h9];rfl) ?_);cases u<;>rfl
  ·rw [if_neg hm];refine aC ?_ rfl;rw [show (x.1,x.2.1,x.2.2)=x from rfl];unfold Uu at hm;simp only [AS,AT,not_and] at hm;by_cases hr:Es x=true
   ·have:=hm hr;rw [hr];simp;omega
   ·rw [show Es x=false by simpa using hr];rfl
 ·rw [if_neg hc];refine ⟨fun b hb=>(by cases hb),fun _ r hr => ?_⟩;obtain rfl:=AI hr;exact ⟨by simp,tev_else (by (first | with_reducible rfl | assumption | (simp only [eJ,fa,AS,ajm,Bool.and_eq_false_iff,Bool.or_eq_false_iff,AT,ajg,beq_iff_eq,bne_iff_ne,ai4,bne_eq_false_iff_eq,Bool.not_eq_true',Bool.not_eq_false',ne_eq,Bool.true_and,Bool.and_true,Bool.false_and,Bool.and_false,Bool.true_or,Bool.or_true,Bool.not_true,Bool.not_false,Bool.cond_true,Bool.cond_false,true_and,and_true];first | done | omega))) rfl⟩
def vU:List (Nat × bK):=[(3,j5 [1,5,10,11,12] SA 1000 1000 54 G6 Ar zv outA)]
theorem adh:findL vU 3=some (j5 [1,5,10,11,12] SA 1000 1000 54 G6 Ar zv outA):=rfl
theorem acF:av ad1=some 3:=by kernel_rfl
theorem Sz:∀ a∈bX (codeOf Tryz.prog 161),∀ sp,cH vU a=some sp->aL PL a sp:=by
 have e:bX (codeOf Tryz.prog 161)=[ad1]:=by kernel_rfl
 rw [e];intro a ha;rcases aja.1 ha with h | ha
 ·rw [h];exact eT acF adh Fo
 ·cases ha
def stepT (age:Int) (t:Tot) (x:St3):Tot:=if Uu age x=true then ⟨bW (t.s+x.2.2),t.n+1,t.c||(jr (t.s+x.2.2)==2)⟩ else t
def lv (age:Int) (l:List St3):Tot:=l.foldl (stepT age) ⟨0,0,false⟩
theorem uS (age:Int) (l:List St3) (x:St3):lv age (l++[x])=stepT age (lv age l) x:=by unfold lv;rw [List.foldl_append];rfl
theorem Gp {l:List St3} {i:Int} (h0:0<=i) (h:i<l.length):l.take (i+1).toNat=l.take i.toNat++[g3 l i]:=by
 obtain ⟨x,h1,h2⟩:=Yl h0 h;rw [h2,show (i+1).toNat=i.toNat+1 by omega,List.take_add_one,h1];rfl
theorem endA {p:PA1} (h:Ar p ⟨0,0,false,0⟩=true):cP (zv p) ⟨0,0,false,0⟩=⟨(lv p.age p.l).s,(lv p.age p.l).n,(lv p.age p.l).c,p.n⟩:=by
 obtain ⟨h1,h2,h3⟩:=cQ (stA p) h;have h4:=h3 (fun a=>(⟨a.s,a.c,a.u⟩:Tot)=lv p.age (p.l.take a.i.toNat)) rfl fun a b hi hq e=>by
  obtain ⟨s,c,u,i⟩:=a;simp only [Ar,AS,AT] at hi;unfold zv at e;split at e
  ·rename_i hc;obtain rfl:=AI e;dsimp only at hc hq ⊢;have:i<p.l.length:=by omega
   have ht:=Gp (l:=p.l) (i:=i) hi.1.1.1.1.1.2 this;split
   ·rename_i hm;dsimp only;rw [ht,uS,<- hq];unfold stepT;rw [if_pos hm]
   ·rename_i hm;dsimp only;rw [ht,uS,<- hq];unfold stepT;rw [if_neg hm]
  ·cases e
 generalize cP (zv p) ⟨0,0,false,0⟩=E at *
 obtain ⟨s,c,u,i⟩:=E;simp only [Ar,AS,AT] at h1;unfold zv at h2;split at h2
 ·cases h2
 ·rename_i hc;dsimp only at hc h4;have hi:i=p.n:=by omega
  subst hi;have:p.l.take p.n.toNat=p.l:=aji (by omega);rw [this] at h4;rw [<- h4]
def kO:V:=.iface 299 (.agg [])
def qC (t:Tot):V:=.iface 216 (.agg [iv t.s,iv t.n,bv t.c])
def adN:Eng.Spec
 | [.orow t [.int .i64,.int .i64,.int .i64] l,.s (.int .i64 age)]=>if t=222 then .ite none (xc l) (.ite none ((lv age l).n==0) (.ret kO) (.ret (qC (lv age l)))) .fail else .fail
 | _=>.fail
theorem O8 (l:List St3) (age:Int):T.anon (aE PL (cH vU) 161 [.orow 222 [.int .i64,.int .i64,.int .i64] l,iv age]) =
  T.ite none (Ar ⟨age,l,l.length,l.length⟩ ⟨0,0,false,0⟩) (T.ite none ((cP (zv ⟨age,l,l.length,l.length⟩) ⟨0,0,false,0⟩).c==0) (.ret kO)
   (.ret (qC ⟨(cP (zv ⟨age,l,l.length,l.length⟩) ⟨0,0,false,0⟩).s,(cP (zv ⟨age,l,l.length,l.length⟩) ⟨0,0,false,0⟩).c,(cP (zv ⟨age,l,l.length,l.length⟩) ⟨0,0,false,0⟩).u⟩))) .fail:=by kernel_rfl
theorem add_eval (l:List St3) (age:Int) (v:V) (h0:(T.ite none (xc l) (.ite none ((lv age l).n==0) (.ret kO) (.ret (qC (lv age l)))) .fail).eval=some v) :
  (aE PL (cH vU) 161 [.orow 222 [.int .i64,.int .i64,.int .i64] l,iv age]).eval=some v/\flat v=true:=by
 obtain ⟨hk,h⟩:=aM h0;have hi:Ar ⟨age,l,l.length,l.length⟩ ⟨0,0,false,0⟩=true:=by
  simp only [Ar,AS,AT];exact ⟨⟨⟨⟨⟨⟨⟨trivial,trivial⟩,by omega⟩,by omega⟩,by omega⟩,by omega⟩,rfl⟩,hk⟩
 refine ⟨?_,?_⟩
 ·rw [<- T.aim,O8,endA hi];exact aC hi h
 ·cases q:(lv age l).n==0<;>rw [q] at h<;>(obtain rfl:=AI h;rfl)
theorem Ot:ah Tryz.prog 161 adN:=by
 refine (eP (Λ:=cH vU) OW mixed Tryz.func161 (by kernel_rfl) (by kernel_rfl) Sz).air fun args v hfl h => ?_;clear hfl;unfold adN at h;split at h
 ·rename_i t l age;split at h
  ·rename_i ht;subst ht;obtain ⟨h1,h2⟩:=add_eval l age v h;exact ⟨v,h1,⟨h2,h2⟩,rfl⟩
  ·cases h
 ·cases h
def Q1:Cfg:=⟨Tryz.prog,lookG [(161,.val adN)],[],0⟩
theorem pQ:Q1.Ok:=Cfg.ok ⟨Ot,trivial⟩ trivial
def ors (l:List St3):V:=.orow 222 [.int .i64,.int .i64,.int .i64] l
def Nl:Eng.Spec:=aE Q1 aa 127
theorem Fm:ah Tryz.prog 127 Nl:=af pQ mixed Tryz.func127 (by kernel_rfl) (by kernel_rfl)
def zG:Eng.Spec:=aE PL aa 128
theorem C9:ah Tryz.prog 128 zG:=af OW mixed Tryz.func128 (by kernel_rfl) (by kernel_rfl)
def heardL (y:Int) (l:List St3):Tot:=if (lv y l).n=0 then lv 0 l else lv y l
theorem KU (y:Int) (t:Tot) (x:St3) (h:0<=t.s/\t.s<=9223372036854775807/\0<=t.n):0<=(stepT y t x).s/\(stepT y t x).s<=9223372036854775807/\0<=(stepT y t x).n/\(stepT y t x).n<=t.n+1:=by
 unfold stepT;split
 ·rename_i hm;unfold Uu Es at hm;simp only [AS,AT] at hm;have:=ju (t.s+x.2.2);refine ⟨?_,this.2,by dsimp only;omega,by dsimp only;omega⟩;dsimp only;unfold bW;split
  ·omega
  ·split<;>omega
 ·omega
theorem zE (y:Int):∀ (l:List St3) (t:Tot),(0<=t.s/\t.s<=9223372036854775807/\0<=t.n)->0<=(l.foldl (stepT y) t).s/\(l.foldl (stepT y) t).s<=9223372036854775807/\0<=(l.foldl (stepT y) t).n/\(l.foldl (stepT y) t).n<=t.n+l.length
 | [],t,h=>⟨h.1,h.2.1,h.2.2,by simp⟩
 | x::r,t,h=>by
  have h1:=KU y t x h;have h2:=zE y r (stepT y t x) ⟨h1.1,h1.2.1,h1.2.2.1⟩;simp only [List.foldl_cons,List.length_cons];exact ⟨h2.1,h2.2.1,h2.2.2.1,by omega⟩
theorem EE (y:Int) (l:List St3):0<=(lv y l).s/\(lv y l).s<=9223372036854775807/\0<=(lv y l).n/\(lv y l).n<=l.length:=by
 have:=zE y l ⟨0,0,false⟩ ⟨by decide,by decide,by decide⟩;unfold lv;simpa using this
theorem vn (y:Int) (l:List St3):0<=(heardL y l).s/\(heardL y l).s<=9223372036854775807/\0<=(heardL y l).n/\(heardL y l).n<=l.length:=by
 unfold heardL;split
 ·exact EE 0 l
 ·exact EE y l
def aa3 {α:Type} (args:List V) (f:List St3->Int->T α):T α :=
 match args with
 | [.orow t [.int .i64,.int .i64,.int .i64] l,.s (.int .i64 y)]=>if t=222 then f l y else .fail
 | _=>.fail
theorem Ep {α:Type} {args:List V} {f:List St3->Int->T α} {r:α} (e:(aa3 args f).eval=some r):∃ l y,args=[ors l,iv y]/\(f l y).eval=some r:=by
 unfold aa3 at e;split at e
 ·split at e
  ·rename_i ht;subst ht;exact ⟨_,_,rfl,e⟩
  ·cases e
 ·cases e
def rS {α:Type} (args:List V) (f:List St3->Int->Int->T α):T α :=
 match args with
 | [.orow t [.int .i64,.int .i64,.int .i64] l,.s (.int .i64 y),.s (.int .i64 r)]=>if t=222 then f l y r else .fail
 | _=>.fail
theorem lx {α:Type} {args:List V} {f:List St3->Int->Int->T α} {r:α} (e:(rS args f).eval=some r):∃ l y z,args=[ors l,iv y,iv z]/\(f l y z).eval=some r:=by
 unfold rS at e;split at e
 ·split at e
  ·rename_i ht;subst ht;exact ⟨_,_,_,rfl,e⟩
  ·cases e
 ·cases e
def ME:Eng.Spec:=fun args=>aa3 args fun l y=>.ite none (xc l) (.ite none ((heardL y l).n==0) (.ret kO) (.ret (qC (heardL y l)))) .fail
theorem F8 (l:List St3) (y:Int):T.anon (Nl [ors l,iv y])=T.ite none (decide (0+l.length<=l.length)) (T.ite none (xc ((l.drop 0).take l.length)) (T.ite none ((lv y ((l.drop 0).take l.length)).n==0)
  (T.ite none (decide (0+l.length<=l.length)) (T.ite none (xc ((l.drop 0).take l.length)) (T.ite none ((lv 0 ((l.drop 0).take l.length)).n==0) (.ret kO) (.ret (qC (lv 0 ((l.drop 0).take l.length))))) .fail) .fail)
  (.ret (qC (lv y ((l.drop 0).take l.length))))) .fail) .fail:=by kernel_rfl
theorem Nf (l:List St3):(l.drop 0).take l.length=l:=by rw [List.drop_zero,List.take_length]
theorem mV {c:Bool} {v1 v2 v:V} (h1:flat v1=true) (h2:flat v2=true) (h:(T.ite none c (.ret v1) (.ret v2)).eval=some v):flat v=true:=by
 cases c<;>(obtain rfl:=AI h)<;>assumption
theorem Et:ah Tryz.prog 127 ME:=by
 refine Fm.air fun args v hfl h => ?_;clear hfl;obtain ⟨l,y,rfl,h1⟩:=Ep (show (aa3 args _).eval=some v from h);clear h;obtain ⟨hk,h⟩:=aM h1;refine ⟨v,?_,⟨mV rfl rfl h,mV rfl rfl h⟩,rfl⟩;rw [<- T.aim,F8,Nf];refine aC (by simp) (aC hk ?_);unfold heardL at h;by_cases q:(lv y l).n=0
 ·rw [if_pos q] at h;exact aC (by simpa using q) (aC (by simp) (aC hk h))
 ·rw [if_neg q] at h;have q2:((lv y l).n==0)=false:=by simpa using q
  rw [q2] at h;exact tev_else q2 h
def timesC:Eng.Spec
 | [.s (.int .i64 s),.s (.int .i64 r)]=>.ite none (decide (0<=s)&&decide (s<=9223372036854775807)&&(decide (0<=r)&&decide (r<=9223372036854775807))) (.ite none (decide (9223372036854775807<s*r)) (.ret (.tup [iv 9223372036854775807,.tt])) (.ret (.tup [iv (s*r),.ff]))) .fail
 | _=>.fail
theorem Dc (s r:Int):T.anon (zG [iv s,iv r])=T.ite none (inU (IntKind.wrap .u64 s)&&inU (IntKind.wrap .u64 r))
  (T.ite none (bif decide (0<IntKind.wrap .u64 s*IntKind.wrap .u64 r / 18446744073709551616) then true else decide (9223372036854775807<IntKind.wrap .u64 s*IntKind.wrap .u64 r % 18446744073709551616))
   (.ret (.tup [iv 9223372036854775807,.tt])) (.ret (.tup [iv (IntKind.wrap .i64 (IntKind.wrap .u64 s*IntKind.wrap .u64 r % 18446744073709551616)),.ff]))) .fail:=by kernel_rfl
theorem DP:ah Tryz.prog 128 timesC:=by
 refine C9.air fun args v hfl h => ?_;clear hfl;unfold timesC at h;split at h
 ·rename_i s r;obtain ⟨hk,h⟩:=aM h;simp only [AS,AT] at hk;obtain ⟨⟨h1,h2⟩,h3,h4⟩:=hk;refine ⟨v,?_,⟨mV rfl rfl h,mV rfl rfl h⟩,rfl⟩;rw [<- T.aim,show zG [V.s (.int .i64 s),V.s (.int .i64 r)]=zG [iv s,iv r] from rfl,Dc,xG,xG,Int.emod_eq_of_lt h1 (by omega),Int.emod_eq_of_lt h3 (by omega)];have hp:0<=s*r:=Int.mul_nonneg h1 h3;generalize s*r=p at *
  refine aC (by unfold inU;simp only [AS,AT];omega) ?_;by_cases q:9223372036854775807<p
  ·rw [sh q] at h;refine aC ?_ h;simp only [fa,ajm,AT];omega
  ·rw [BY q] at h;refine tev_else ?_ ?_
   ·simp only [fa,Bool.or_eq_false_iff,ajg];omega
   ·rw [show p % 18446744073709551616=p by omega,wrap64_in (by omega) (by omega)];exact h
 ·cases h
def Q2:Cfg:=⟨Tryz.prog,lookG [(127,.val ME),(128,.val timesC)],[],0⟩
theorem ES:Q2.Ok:=Cfg.ok ⟨Et,DP,trivial⟩ trivial
def GB:Eng.Spec:=aE Q2 aa 101
theorem An:ah Tryz.prog 101 GB:=af ES mixed Tryz.func101 (by kernel_rfl) (by kernel_rfl)
def spT (l:List St3) (y r:Int):T V:=T.ite none (decide (0+List.length l<=List.length l))
 (T.ite none (xc (List.take (List.length l) (List.drop 0 l)))
  (T.ite none (Tot.n (heardL y (List.take (List.length l) (List.drop 0 l)))==0)
   (T.ret (V.tup [V.s (S.int IntKind.i64 0),V.s (S.int IntKind.i64 7)]))
   (T.ite none (decide (r<0)) (T.ret (V.tup [V.s (S.int IntKind.i64 0),V.s (S.int IntKind.i64 1)]))
    (T.ite none
     (decide (0<=Tot.s (heardL y (List.take (List.length l) (List.drop 0 l))))&&decide (Tot.s (heardL y (List.take (List.length l) (List.drop 0 l)))<=9223372036854775807) &&
      (decide (0<=r)&&decide (r<=9223372036854775807)))
     (T.ite none (decide (9223372036854775807<Tot.s (heardL y (List.take (List.length l) (List.drop 0 l)))*r))
      (T.ite none (bif Tot.c (heardL y (List.take (List.length l) (List.drop 0 l))) then true else true) (T.ite none (Tot.n (heardL y (List.take (List.length l) (List.drop 0 l)))==0) T.fail (T.ret (V.tup [V.s (S.int IntKind.i64 (IntKind.wrap IntKind.i64 (Int.tdiv (9223372036854775807) (Tot.n (heardL y (List.take (List.length l) (List.drop 0 l))))))),V.s (S.int IntKind.i64 2)]))) (T.ite none (Tot.n (heardL y (List.take (List.length l) (List.drop 0 l)))==0) T.fail (T.ret (V.tup [V.s (S.int IntKind.i64 (IntKind.wrap IntKind.i64 (Int.tdiv (9223372036854775807) (Tot.n (heardL y (List.take (List.length l) (List.drop 0 l))))))),V.s (S.int IntKind.i64 0)]))))
      (T.ite none (bif Tot.c (heardL y (List.take (List.length l) (List.drop 0 l))) then true else false) (T.ite none (Tot.n (heardL y (List.take (List.length l) (List.drop 0 l)))==0) T.fail (T.ret (V.tup [V.s (S.int IntKind.i64 (IntKind.wrap IntKind.i64 (Int.tdiv (Tot.s (heardL y (List.take (List.length l) (List.drop 0 l)))*r) (Tot.n (heardL y (List.take (List.length l) (List.drop 0 l))))))),V.s (S.int IntKind.i64 2)]))) (T.ite none (Tot.n (heardL y (List.take (List.length l) (List.drop 0 l)))==0) T.fail (T.ret (V.tup [V.s (S.int IntKind.i64 (IntKind.wrap IntKind.i64 (Int.tdiv (Tot.s (heardL y (List.take (List.length l) (List.drop 0 l)))*r) (Tot.n (heardL y (List.take (List.length l) (List.drop 0 l))))))),V.s (S.int IntKind.i64 0)])))))
     T.fail)))
  T.fail)
 T.fail
def spV (t:Tot) (r:Int):Int:=if t.n=0 then 0 else if r<0 then 0 else Int.tdiv (if 9223372036854775807<t.s*r then 9223372036854775807 else t.s*r) t.n
def spE (t:Tot) (r:Int):Int:=if t.n=0 then 7 else if r<0 then 1 else if 9223372036854775807<t.s*r\/t.c=true then 2 else 0
def wq:Eng.Spec:=fun args=>rS args fun l y r=>.ite none (xc l&&decide (r<=9223372036854775807)) (.ret (dQ (spV (heardL y l) r) (spE (heardL y l) r))) .fail
theorem Mi {a n:Int} (h1:0<=a) (h2:a<=9223372036854775807) (h3:0<n):IntKind.wrap .i64 (Int.tdiv a n)=Int.tdiv a n:=by
 rw [Int.tdiv_eq_ediv_of_nonneg h1];exact wrap64_in (by have:=Int.ediv_nonneg h1 (Int.le_of_lt h3);omega) (Int.le_trans (Int.ediv_le_self _ h1) h2)
theorem BC (l:List St3) (y r:Int):T.anon (GB [ors l,iv y,iv r])=spT l y r:=by kernel_rfl
theorem qc:ah Tryz.prog 101 wq:=by
 refine An.air fun args v hfl h => ?_;clear hfl;obtain ⟨l,y,r,rfl,h1⟩:=lx (show (rS args _).eval=some v from h);clear h;obtain ⟨hk,h⟩:=aM h1;obtain rfl:=AI h;simp only [AS,AT] at hk;refine ⟨dQ (spV (heardL y l) r) (spE (heardL y l) r),?_,⟨rfl,rfl⟩,rfl⟩;rw [<- T.aim,BC];unfold spT;rw [Nf];refine aC (by simp) (aC hk.1 ?_);obtain ⟨h1,h2,h3,h4⟩:=vn y l;generalize heardL y l=t at *
 obtain ⟨s,n,c⟩:=t;dsimp only at *
 unfold spV spE;by_cases q:n=0
 ·subst q;exact aC rfl rfl
 ·have q2:(n==0)=false:=by simpa using q
  refine tev_else q2 ?_;simp only [q,if_false];by_cases hr:r<0
  ·rw [if_pos hr,if_pos hr];exact aC (sh hr) rfl
  ·rw [if_neg hr,if_neg hr];have hp:0<=s*r:=Int.mul_nonneg h1 (by omega);generalize s*r=p at *
   refine tev_else (BY hr) (aC (by simp only [AS,AT];omega) ?_);by_cases hc:9223372036854775807<p
   ·rw [if_pos hc,if_pos (Or.inl hc)];refine aC (sh hc) ?_;rw [Mi (by decide) (by decide) (by omega)];exact aC (by cases c<;>rfl) (tev_else q2 rfl)
   ·rw [if_neg hc];refine tev_else (BY hc) ?_;rw [Mi hp (by omega) (by omega)];cases c
    ·rw [if_neg (by simp;omega)];exact tev_else rfl (tev_else q2 rfl)
    ·rw [if_pos (Or.inr rfl)];exact aC rfl (tev_else q2 rfl)
end Go.Proofs.YtcbgmdpkhfahmaaGreatDoor.Sta
end
