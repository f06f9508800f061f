import Derived.Test.YtggakaogidjjbaaGreatDoorRows
import Derived.WalkKit
import Derived.ProofKit
import Derived.OpenShut
import Derived.Lib.Hide
import Derived.Lib.Mul64
import Derived.Laws.Bits64b
import Derived.Shelf.Bits.Mul64
import Derived.Deep.QuietTactic
import Derived.BigQuiet
import Derived.Handy
import Derived.Test.YtggakaogidjjbaaGreatDoorGL
namespace Go.Proofs.YtggakaogidjjbaaGreatDoor.Sta
open Go.ChangeShapes Go.WideShapes Go.ChangeAt Go.RowKit
set_option linter.unusedVariables false
set_option linter.unusedSimpArgs false
def U8 (v c:Int) (w:World) (e:Ending) (w':World):Prop:=e=.returned (.tuple #[.int .u64 v,.int .u64 c])/\w=w'
set_option maxHeartbeats 1000000 in
theorem nz (x y:Nat) (hx:x<18446744073709551616) (hy:y<18446744073709551616) (w:World) :
  Calls Tryz.prog 161 #[.int .u64 x,.int .u64 y] w (U8 ((x*y / 18446744073709551616:Nat):Int) ((x*y % 18446744073709551616:Nat):Int) w):=by
 obtain ⟨bd,bt,bw,hhi⟩:=Lib.mul64_hi x y hx hy
 have ba:=Lib.half_mul_le (a:=x / 4294967296) (b:=y / 4294967296) (by omega) (by omega)
 have bb:=Lib.half_mul_le (a:=x / 4294967296) (b:=y % 4294967296) (by omega) (by omega)
 have bc:=Lib.half_mul_le (a:=x % 4294967296) (b:=y / 4294967296) (by omega) (by omega)
 have ba':x / 4294967296*(y / 4294967296)<18446744073709551616:=by omega
 have bb':x / 4294967296*(y % 4294967296)<18446744073709551616:=by omega
 have bc':x % 4294967296*(y / 4294967296)<18446744073709551616:=by omega
 have bh1:x / 4294967296*(y / 4294967296)+(x / 4294967296*(y % 4294967296)+x % 4294967296*(y % 4294967296) / 4294967296) / 4294967296<18446744073709551616:=by omega
 have bh:x / 4294967296*(y / 4294967296)+(x / 4294967296*(y % 4294967296)+x % 4294967296*(y % 4294967296) / 4294967296) / 4294967296+((x / 4294967296*(y % 4294967296)+x % 4294967296*(y % 4294967296) / 4294967296) % 4294967296+x % 4294967296*(y / 4294967296)) / 4294967296<18446744073709551616:=by omega
 go_enter Tryz.func161,Tryz.ntmps161
 go_wp2
 simp only [Mul64.maskN x hx,Mul64.maskN y hy,Mul64.divN,Mul64.mulN,Mul64.addN,Mul64.wrapN _ bd,Mul64.wrapN _ bb',Mul64.wrapN _ bt,Mul64.maskN _ bt,Mul64.wrapN _ bc',Mul64.wrapN _ bw,Mul64.wrapN _ ba',Mul64.wrapN _ bh1,Mul64.wrapN _ bh,Mul64.wrapM (x*y)]
 rw [hhi]
 go_ret2
 exact ⟨rfl,rfl⟩
open Go.Eng
def uv (n:Int):V:=.s (.int .u64 n)
def inU (a:Int):Bool:=decide (0<=a)&&decide (a<18446744073709551616)
def uI:Eng.Spec
 | [.s (.int .u64 x),.s (.int .u64 y)]=>.ite none (inU x&&inU y) (.ret (.tup [uv (x*y / 18446744073709551616),uv (x*y % 18446744073709551616)])) .fail
 | _=>.fail
theorem xm (args:List V) (v:V) (h:(uI args).eval=some v):de args=true/\flat v=true:=by
 unfold uI at h
 split at h
 ·obtain ⟨_,h⟩:=aK h
  simp only [T.eval,Option.some.injEq] at h
  subst h
  exact ⟨rfl,rfl⟩
 ·cases h
theorem Hq:SpecOk Tryz.prog 161 uI:=by
 refine SpecOk.of_calls Tryz.func161 (by kernel_rfl) (by kernel_rfl) xm fun args v w hfl h hfv => ?_
 clear hfl hfv
 unfold uI at h
 split at h
 ·rename_i x y
  obtain ⟨hc,h⟩:=aK h
  simp only [inU,Bool.and_eq_true,decide_eq_true_eq] at hc
  simp only [T.eval,Option.some.injEq] at h
  subst h
  obtain ⟨a,rfl⟩:=Int.eq_ofNat_of_zero_le hc.1.1
  obtain ⟨b,rfl⟩:=Int.eq_ofNat_of_zero_le hc.2.1
  refine (nz a b (by omega) (by omega) w).mono ?_
  rintro e w' ⟨rfl,rfl⟩
  refine ⟨?_,Below.refl _ _⟩
  simp [uv,V.den,aF,S.den]
 ·cases h
end Go.Proofs.YtggakaogidjjbaaGreatDoor.Sta
namespace Go.Proofs.YtggakaogidjjbaaGreatDoor.Sta
open Go.Eng Go.RowKit Mil
set_option linter.unusedVariables false
set_option linter.unusedSimpArgs false
noncomputable def jN:Eng.Spec:=aB P0 aa 193
theorem dr:SpecOk Tryz.prog 193 jN:=af od mixed Tryz.func193 (by kernel_rfl) (by kernel_rfl)
abbrev St3:=Int × Int × Int
def aeW (own:Bool) (l:List St3):Blk:=.lst own 220 [.int .i64,.int .i64,.int .i64] l
structure Tot where
 s:Int
 n:Int
 c:Bool
deriving DecidableEq
noncomputable def ad1:Code:=cm Tryz.prog 160 0
structure PA1 where (age:Int) (l:List St3) (k:Nat) (n:Int)
structure AA1 where (s c:Int) (u:Bool) (i:Int)
def vsA (p:PA1) (a:AA1):List V:=[iv p.age,.ptr 1 0,.sub 0 3 0 p.k,iv p.n,iv a.i]
def bsA (p:PA1) (a:AA1):List Blk:=[aeW false p.l,.cells 214 [iv a.s,iv a.c,bv a.u]]
abbrev SA:List (Nat × Src):=[(0,.same),(1,.same)]
def EE (x:St3):Bool:=decide (0<=x.1)&&decide (0<=x.2.1)&&decide (0<=x.2.2)
def MD:Eng.Spec
 | [.agg [.s (.int .i64 a),.s (.int .i64 b),.s (.int .i64 c)]]=>.ret (bv (EE (a,b,c)))
 | _=>.fail
noncomputable def PL:Cfg:=⟨Tryz.prog,lookG [(193,.val MD),(194,.val Vt),(161,.val uI)],[],0⟩
set_option maxRecDepth 100000
noncomputable def rtA (age:Int) (l:List St3) (k:Nat) (n s c:Int) (u:Bool) (i:Int):T (Ex × St):=T.ite none (decide (i<n))
 (T.ite none (decide (0<=i)&&(decide (i<(↑k:Int))&&decide (0+Int.toNat i<List.length l)))
  (T.ite none (decide (0+Int.toNat i<List.length l))
   (T.ite none (bif !EE ((g3 l i).1,(g3 l i).2.1,(g3 l i).2.2) then true else decide ((g3 l i).2.1<age))
    (T.ret (Ex.normal,bQ [1,5,10,11,12] (aI SA) 1000 54 (vsA ⟨age,l,k,n⟩ ⟨s,c,u,IntKind.wrap IntKind.i64 (i+1)⟩) (bsA ⟨age,l,k,n⟩ ⟨s,c,u,IntKind.wrap IntKind.i64 (i+1)⟩)))
    (T.ite none (inR s&&inR (g3 l i).2.2)
     (T.ret (Ex.normal,bQ [1,5,10,11,12] (aI SA) 1000 54 (vsA ⟨age,l,k,n⟩ ⟨bV (s+(g3 l i).2.2),IntKind.wrap IntKind.i64 (c+1),(bif u then true else jb (s+(g3 l i).2.2)==2),IntKind.wrap IntKind.i64 (i+1)⟩) (bsA ⟨age,l,k,n⟩ ⟨bV (s+(g3 l i).2.2),IntKind.wrap IntKind.i64 (c+1),(bif u then true else jb (s+(g3 l i).2.2)==2),IntKind.wrap IntKind.i64 (i+1)⟩)))
     T.fail))
   T.fail)
  T.fail)
 (T.ret (Ex.exit 0,bQ [1,5,10,11,12] (aI SA) 1000 54 (vsA ⟨age,l,k,n⟩ ⟨s,c,u,i⟩) (bsA ⟨age,l,k,n⟩ ⟨s,c,u,i⟩)))
theorem H9:SpecOk Tryz.prog 193 MD:=by
 refine dr.of_den fun args v hfl h => ?_
 clear hfl
 unfold MD at h
 split at h
 ·rename_i a b c
  obtain rfl:=Option.some.inj h
  refine ⟨bv (EE (a,b,c)),?_,⟨rfl,rfl⟩,rfl⟩
  have e:T.anon (jN [.agg [iv a,iv b,iv c]])=T.ret (V.s (S.bool (bif bif decide (0<=a) then decide (0<=b) else false then decide (0<=c) else false))):=by kernel_rfl
  rw [<- T.eval_anon,show jN [.agg [V.s (.int .i64 a),V.s (.int .i64 b),V.s (.int .i64 c)]]=jN [.agg [iv a,iv b,iv c]] from rfl,e]
  simp only [ew,EE]
  rfl
 ·cases h
theorem OH:PL.Ok:=Cfg.ok ⟨H9,Kr,Hq,trivial⟩ trivial
def F5:List V->List Blk->Option (PA1 × AA1)
 | [.s (.int .i64 age),.ptr 1 0,.sub 0 3 0 k,.s (.int .i64 n),.s (.int .i64 i)],[.lst false t [.int .i64,.int .i64,.int .i64] l,.cells t2 [.s (.int .i64 s),.s (.int .i64 c),.s (.bool u)]] =>
  if t=220/\t2=214 then some (⟨age,l,k,n⟩,⟨s,c,u,i⟩) else none
 | _,_=>none
theorem wR (l:List V) (b:List Blk) (d:PA1 × AA1) (h:F5 l b=some d):l=vsA d.1 d.2/\b=bsA d.1 d.2:=by
 unfold F5 at h
 split at h
 ·split at h
  ·rename_i ht
   obtain ⟨rfl,rfl⟩:=ht
   cases h
   exact ⟨rfl,rfl⟩
  ·cases h
 ·cases h
def vo (l:List St3):Bool:=decide (l.length<=1000000)&&l.all fun x=>inR x.2.2
def Af (p:PA1) (a:AA1):Bool:=decide (p.k=p.l.length)&&decide (p.n=(p.k:Int))&&decide (0<=a.i)&&decide (a.i<=p.n)&&decide (0<=a.c)&&decide (a.c<=a.i)&&inR a.s&&vo p.l
def Ta (age:Int) (x:St3):Bool:=EE x&&decide (age<=x.2.1)
def xF (p:PA1) (a:AA1):Option AA1 :=
 if a.i<p.n then some (if Ta p.age (g3 p.l a.i)=true then ⟨bV (a.s+(g3 p.l a.i).2.2),a.c+1,a.u||(jb (a.s+(g3 p.l a.i).2.2)==2),a.i+1⟩ else ⟨a.s,a.c,a.u,a.i+1⟩) else none
noncomputable def outA (p:PA1) (a:AA1):T (Ex × St):=.ret (.exit 0,bQ [1,5,10,11,12] [0,1] 1000 54 (vsA p a) (bsA p a))
theorem Yc {l:List St3} {i:Int} (h0:0<=i) (h:i<l.length):∃ x,l[i.toNat]?=some x/\g3 l i=x:=by
 have hl:i.toNat<l.length:=by omega
 refine ⟨l[i.toNat],by simp [hl],?_⟩
 unfold g3
 rw [Nat.zero_add,List.getD_eq_getElem?_getD,List.getElem?_eq_getElem hl];rfl
theorem Ir {l:List St3} (h:vo l=true) {i:Int} (h0:0<=i) (hi:i<l.length):inR (g3 l i).2.2=true:=by
 obtain ⟨x,h1,h2⟩:=Yc h0 hi
 rw [h2]
 unfold vo at h
 simp only [Bool.and_eq_true,List.all_eq_true] at h
 exact h.2 x (List.mem_of_getElem? h1)
theorem qM (n:Int):inR (bV n)=true:=bX.2 (iT n)
theorem stA (p:PA1) (a b:AA1) (h:Af p a=true) (e:xF p a=some b):Af p b=true/\(p.n - b.i).toNat<(p.n - a.i).toNat:=by
 obtain ⟨s,c,u,i⟩:=a
 unfold xF at e
 split at e
 ·rename_i hc
  obtain rfl:=Option.some.inj e
  simp only [Af,Bool.and_eq_true,decide_eq_true_eq] at h hc ⊢
  obtain ⟨⟨⟨⟨⟨⟨⟨h1,h2⟩,h3⟩,h4⟩,h5⟩,h6⟩,h7⟩,h8⟩:=h
  split
  ·exact ⟨⟨⟨⟨⟨⟨⟨⟨h1,h2⟩,by show 0<=i+1;omega⟩,by show i+1<=p.n;omega⟩,by show 0<=c+1;omega⟩,by show c+1<=i+1;omega⟩,qM _⟩,h8⟩,by show (p.n - (i+1)).toNat<(p.n - i).toNat;omega⟩
  ·exact ⟨⟨⟨⟨⟨⟨⟨⟨h1,h2⟩,by show 0<=i+1;omega⟩,by show i+1<=p.n;omega⟩,h5⟩,by show c<=i+1;omega⟩,h7⟩,h8⟩,by show (p.n - (i+1)).toNat<(p.n - i).toNat;omega⟩
 ·cases e
theorem BX:LoopOk PL ad1 (j6 [1,5,10,11,12] SA 1000 1000 54 F5 Af xF outA):=by
 refine eF (vs:=vsA) (bs:=bsA) OH mixed (ay _) wR (fun p a=>(p.n - a.i).toNat) stA fun ⟨age,l,k,n⟩ ⟨s,c,u,i⟩ h => ?_
 have e:T.anon (bA PL aa ad1 [1,5,10,11,12] SA 1000 1000 (bQ [1,5,10,11,12] (aI SA) 1000 54 (vsA ⟨age,l,k,n⟩ ⟨s,c,u,i⟩) (bsA ⟨age,l,k,n⟩ ⟨s,c,u,i⟩)))=rtA age l k n s c u i:=by kernel_rfl
 rw [<- T.eval_anon (t:=bA _ _ _ _ _ _ _ _),e]
 clear e
 simp only [Af,Bool.and_eq_true,decide_eq_true_eq] at h
 obtain ⟨⟨⟨⟨⟨⟨⟨rfl,rfl⟩,h3⟩,h4⟩,h5⟩,h6⟩,h7⟩,h8⟩:=h
 have hlen:l.length<=1000000:=by unfold vo at h8;simp only [Bool.and_eq_true,decide_eq_true_eq] at h8;exact h8.1
 simp only [xF,outA]
 unfold rtA
 by_cases hc:i<l.length
 ·rw [if_pos hc]
  have h9:=Ir h8 h3 hc
  generalize g3 l i=x at *
  refine ⟨fun b hb => ?_,fun h=>by cases h⟩
  obtain rfl:=Option.some.inj hb
  rw [wrap64_in (n:=i+1) (by omega) (by omega),wrap64_in (n:=c+1) (by omega) (by omega)]
  refine aA (by (first | with_reducible rfl | assumption | (simp only [ew,eV,Bool.and_eq_true,Bool.or_eq_true,Bool.and_eq_false_iff,Bool.or_eq_false_iff,decide_eq_true_eq,decide_eq_false_iff_not,beq_iff_eq,bne_iff_ne,beq_eq_false_iff_ne,bne_eq_false_iff_eq,Bool.not_eq_true',Bool.not_eq_false',ne_eq,Bool.true_and,Bool.and_true,Bool.false_and,Bool.and_false,Bool.true_or,Bool.or_true,Bool.not_true,Bool.not_false,Bool.cond_true,Bool.cond_false,true_and,and_true];first | done | omega))) (aA (by (first | with_reducible rfl | assumption | (simp only [ew,eV,Bool.and_eq_true,Bool.or_eq_true,Bool.and_eq_false_iff,Bool.or_eq_false_iff,decide_eq_true_eq,decide_eq_false_iff_not,beq_iff_eq,bne_iff_ne,beq_eq_false_iff_ne,bne_eq_false_iff_eq,Bool.not_eq_true',Bool.not_eq_false',ne_eq,Bool.true_and,Bool.and_true,Bool.false_and,Bool.and_false,Bool.true_or,Bool.or_true,Bool.not_true,Bool.not_false,Bool.cond_true,Bool.cond_false,true_and,and_true];first | done | omega))) (aA (by (first | with_reducible rfl | assumption | (simp only [ew,eV,Bool.and_eq_true,Bool.or_eq_true,Bool.and_eq_false_iff,Bool.or_eq_false_iff,decide_eq_true_eq,decide_eq_false_iff_not,beq_iff_eq,bne_iff_ne,beq_eq_false_iff_ne,bne_eq_false_iff_eq,Bool.not_eq_true',Bool.not_eq_false',ne_eq,Bool.true_and,Bool.and_true,Bool.false_and,Bool.and_false,Bool.true_or,Bool.or_true,Bool.not_true,Bool.not_false,Bool.cond_true,Bool.cond_false,true_and,and_true];first | done | omega))) ?_))
  by_cases hm:Ta age x=true
  ·rw [if_pos hm]
   unfold Ta at hm
   simp only [Bool.and_eq_true,decide_eq_true_eq] at hm
   refine tev_else (by rw [show (x.1,x.2.1,x.2.2)=x from rfl,hm.1];simp;omega) (aA (by rw [h7,h9];rfl) ?_)
   cases u<;>rfl
  ·rw [if_neg hm]
   refine aA ?_ rfl
   rw [show (x.1,x.2.1,x.2.2)=x from rfl]
   unfold Ta at hm
   simp only [Bool.and_eq_true,decide_eq_true_eq,not_and] at hm
   by_cases hr:EE x=true
   ·have:=hm hr
    rw [hr];simp;omega
   ·rw [show EE x=false by simpa using hr];rfl
 ·rw [if_neg hc]
  refine ⟨fun b hb=>(by cases hb),fun _ r hr => ?_⟩
  obtain rfl:=Option.some.inj hr
  exact ⟨by simp,tev_else (by (first | with_reducible rfl | assumption | (simp only [ew,eV,Bool.and_eq_true,Bool.or_eq_true,Bool.and_eq_false_iff,Bool.or_eq_false_iff,decide_eq_true_eq,decide_eq_false_iff_not,beq_iff_eq,bne_iff_ne,beq_eq_false_iff_ne,bne_eq_false_iff_eq,Bool.not_eq_true',Bool.not_eq_false',ne_eq,Bool.true_and,Bool.and_true,Bool.false_and,Bool.and_false,Bool.true_or,Bool.or_true,Bool.not_true,Bool.not_false,Bool.cond_true,Bool.cond_false,true_and,and_true];first | done | omega))) rfl⟩
noncomputable def wF:List (Nat × bM):=[(3,j6 [1,5,10,11,12] SA 1000 1000 54 F5 Af xF outA)]
theorem abU:findL wF 3=some (j6 [1,5,10,11,12] SA 1000 1000 54 F5 Af xF outA):=rfl
theorem ab6:av ad1=some 3:=by kernel_rfl
theorem NI:∀ a∈bW (codeOf Tryz.prog 160),∀ sp,cE wF a=some sp->LoopOk PL a sp:=by
 have e:bW (codeOf Tryz.prog 160)=[ad1]:=by kernel_rfl
 rw [e]
 intro a ha
 rcases List.mem_cons.1 ha with h | ha
 ·rw [h];exact eR ab6 abU BX
 ·cases ha
def stepT (age:Int) (t:Tot) (x:St3):Tot:=if Ta age x=true then ⟨bV (t.s+x.2.2),t.n+1,t.c||(jb (t.s+x.2.2)==2)⟩ else t
def kQ (age:Int) (l:List St3):Tot:=l.foldl (stepT age) ⟨0,0,false⟩
theorem uF (age:Int) (l:List St3) (x:St3):kQ age (l++[x])=stepT age (kQ age l) x:=by unfold kQ;rw [List.foldl_append];rfl
theorem CT {l:List St3} {i:Int} (h0:0<=i) (h:i<l.length):l.take (i+1).toNat=l.take i.toNat++[g3 l i]:=by
 obtain ⟨x,h1,h2⟩:=Yc h0 h
 rw [h2,show (i+1).toNat=i.toNat+1 by omega,List.take_add_one,h1];rfl
theorem endA {p:PA1} (h:Af p ⟨0,0,false,0⟩=true):cR (xF p) ⟨0,0,false,0⟩=⟨(kQ p.age p.l).s,(kQ p.age p.l).n,(kQ p.age p.l).c,p.n⟩:=by
 obtain ⟨h1,h2,h3⟩:=cJ (stA p) h
 have h4:=h3 (fun a=>(⟨a.s,a.c,a.u⟩:Tot)=kQ p.age (p.l.take a.i.toNat)) rfl fun a b hi hq e=>by
  obtain ⟨s,c,u,i⟩:=a
  simp only [Af,Bool.and_eq_true,decide_eq_true_eq] at hi
  unfold xF at e
  split at e
  ·rename_i hc
   obtain rfl:=Option.some.inj e
   dsimp only at hc hq ⊢
   have:i<p.l.length:=by omega
   have ht:=CT (l:=p.l) (i:=i) hi.1.1.1.1.1.2 this
   split
   ·rename_i hm
    dsimp only
    rw [ht,uF,<- hq];unfold stepT;rw [if_pos hm]
   ·rename_i hm
    dsimp only
    rw [ht,uF,<- hq];unfold stepT;rw [if_neg hm]
  ·cases e
 generalize cR (xF p) ⟨0,0,false,0⟩=E at *
 obtain ⟨s,c,u,i⟩:=E
 simp only [Af,Bool.and_eq_true,decide_eq_true_eq] at h1
 unfold xF at h2
 split at h2
 ·cases h2
 ·rename_i hc
  dsimp only at hc h4
  have hi:i=p.n:=by omega
  subst hi
  have:p.l.take p.n.toNat=p.l:=List.take_of_length_le (by omega)
  rw [this] at h4
  rw [<- h4]
def ku:V:=.iface 297 (.agg [])
def qh (t:Tot):V:=.iface 214 (.agg [iv t.s,iv t.n,bv t.c])
def abG:Eng.Spec
 | [.orow t [.int .i64,.int .i64,.int .i64] l,.s (.int .i64 age)]=>if t=220 then .ite none (vo l) (.ite none ((kQ age l).n==0) (.ret ku) (.ret (qh (kQ age l)))) .fail else .fail
 | _=>.fail
theorem Qa (l:List St3) (age:Int):T.anon (aB PL (cE wF) 160 [.orow 220 [.int .i64,.int .i64,.int .i64] l,iv age]) =
  T.ite none (Af ⟨age,l,l.length,l.length⟩ ⟨0,0,false,0⟩) (T.ite none ((cR (xF ⟨age,l,l.length,l.length⟩) ⟨0,0,false,0⟩).c==0) (.ret ku)
   (.ret (qh ⟨(cR (xF ⟨age,l,l.length,l.length⟩) ⟨0,0,false,0⟩).s,(cR (xF ⟨age,l,l.length,l.length⟩) ⟨0,0,false,0⟩).c,(cR (xF ⟨age,l,l.length,l.length⟩) ⟨0,0,false,0⟩).u⟩))) .fail:=by kernel_rfl
theorem add_eval (l:List St3) (age:Int) (v:V) (h0:(T.ite none (vo l) (.ite none ((kQ age l).n==0) (.ret ku) (.ret (qh (kQ age l)))) .fail).eval=some v) :
  (aB PL (cE wF) 160 [.orow 220 [.int .i64,.int .i64,.int .i64] l,iv age]).eval=some v/\flat v=true:=by
 obtain ⟨hk,h⟩:=aK h0
 have hi:Af ⟨age,l,l.length,l.length⟩ ⟨0,0,false,0⟩=true:=by
  simp only [Af,Bool.and_eq_true,decide_eq_true_eq]
  exact ⟨⟨⟨⟨⟨⟨⟨trivial,trivial⟩,by omega⟩,by omega⟩,by omega⟩,by omega⟩,rfl⟩,hk⟩
 refine ⟨?_,?_⟩
 ·rw [<- T.eval_anon,Qa,endA hi]
  exact aA hi h
 ·cases q:(kQ age l).n==0<;>rw [q] at h<;>(obtain rfl:=Option.some.inj h;rfl)
theorem Nx:SpecOk Tryz.prog 160 abG:=by
 refine (fb (Λ:=cE wF) OH mixed Tryz.func160 (by kernel_rfl) (by kernel_rfl) NI).of_den fun args v hfl h => ?_
 clear hfl
 unfold abG at h
 split at h
 ·rename_i t l age
  split at h
  ·rename_i ht
   subst ht
   obtain ⟨h1,h2⟩:=add_eval l age v h
   exact ⟨v,h1,⟨h2,h2⟩,rfl⟩
  ·cases h
 ·cases h
noncomputable def Q1:Cfg:=⟨Tryz.prog,lookG [(160,.val abG)],[],0⟩
theorem pf:Q1.Ok:=Cfg.ok ⟨Nx,trivial⟩ trivial
def ors (l:List St3):V:=.orow 220 [.int .i64,.int .i64,.int .i64] l
noncomputable def KJ:Eng.Spec:=aB Q1 aa 126
theorem DX:SpecOk Tryz.prog 126 KJ:=af pf mixed Tryz.func126 (by kernel_rfl) (by kernel_rfl)
noncomputable def yG:Eng.Spec:=aB PL aa 127
theorem Ck:SpecOk Tryz.prog 127 yG:=af OH mixed Tryz.func127 (by kernel_rfl) (by kernel_rfl)
def heardL (y:Int) (l:List St3):Tot:=if (kQ y l).n=0 then kQ 0 l else kQ y l
theorem JN (y:Int) (t:Tot) (x:St3) (h:0<=t.s/\t.s<=9223372036854775807/\0<=t.n):0<=(stepT y t x).s/\(stepT y t x).s<=9223372036854775807/\0<=(stepT y t x).n/\(stepT y t x).n<=t.n+1:=by
 unfold stepT
 split
 ·rename_i hm
  unfold Ta EE at hm
  simp only [Bool.and_eq_true,decide_eq_true_eq] at hm
  have:=iT (t.s+x.2.2)
  refine ⟨?_,this.2,by dsimp only;omega,by dsimp only;omega⟩
  dsimp only
  unfold bV
  split
  ·omega
  ·split<;>omega
 ·omega
theorem yz (y:Int):∀ (l:List St3) (t:Tot),(0<=t.s/\t.s<=9223372036854775807/\0<=t.n)->0<=(l.foldl (stepT y) t).s/\(l.foldl (stepT y) t).s<=9223372036854775807/\0<=(l.foldl (stepT y) t).n/\(l.foldl (stepT y) t).n<=t.n+l.length
 | [],t,h=>⟨h.1,h.2.1,h.2.2,by simp⟩
 | x::r,t,h=>by
  have h1:=JN y t x h
  have h2:=yz y r (stepT y t x) ⟨h1.1,h1.2.1,h1.2.2.1⟩
  simp only [List.foldl_cons,List.length_cons]
  exact ⟨h2.1,h2.2.1,h2.2.2.1,by omega⟩
theorem Eu (y:Int) (l:List St3):0<=(kQ y l).s/\(kQ y l).s<=9223372036854775807/\0<=(kQ y l).n/\(kQ y l).n<=l.length:=by
 have:=yz y l ⟨0,0,false⟩ ⟨by decide,by decide,by decide⟩
 unfold kQ
 simpa using this
theorem uw (y:Int) (l:List St3):0<=(heardL y l).s/\(heardL y l).s<=9223372036854775807/\0<=(heardL y l).n/\(heardL y l).n<=l.length:=by
 unfold heardL;split
 ·exact Eu 0 l
 ·exact Eu y l
def ZC {α:Type} (args:List V) (f:List St3->Int->T α):T α :=
 match args with
 | [.orow t [.int .i64,.int .i64,.int .i64] l,.s (.int .i64 y)]=>if t=220 then f l y else .fail
 | _=>.fail
theorem Bx {α:Type} {args:List V} {f:List St3->Int->T α} {r:α} (e:(ZC args f).eval=some r):∃ l y,args=[ors l,iv y]/\(f l y).eval=some r:=by
 unfold ZC at e
 split at e
 ·split at e
  ·rename_i ht;subst ht;exact ⟨_,_,rfl,e⟩
  ·cases e
 ·cases e
def qH {α:Type} (args:List V) (f:List St3->Int->Int->T α):T α :=
 match args with
 | [.orow t [.int .i64,.int .i64,.int .i64] l,.s (.int .i64 y),.s (.int .i64 r)]=>if t=220 then f l y r else .fail
 | _=>.fail
theorem lO {α:Type} {args:List V} {f:List St3->Int->Int->T α} {r:α} (e:(qH args f).eval=some r):∃ l y z,args=[ors l,iv y,iv z]/\(f l y z).eval=some r:=by
 unfold qH at e
 split at e
 ·split at e
  ·rename_i ht;subst ht;exact ⟨_,_,_,rfl,e⟩
  ·cases e
 ·cases e
def Kf:Eng.Spec:=fun args=>ZC args fun l y=>.ite none (vo l) (.ite none ((heardL y l).n==0) (.ret ku) (.ret (qh (heardL y l)))) .fail
theorem B2 (l:List St3) (y:Int):T.anon (KJ [ors l,iv y])=T.ite none (decide (0+l.length<=l.length)) (T.ite none (vo ((l.drop 0).take l.length)) (T.ite none ((kQ y ((l.drop 0).take l.length)).n==0)
  (T.ite none (decide (0+l.length<=l.length)) (T.ite none (vo ((l.drop 0).take l.length)) (T.ite none ((kQ 0 ((l.drop 0).take l.length)).n==0) (.ret ku) (.ret (qh (kQ 0 ((l.drop 0).take l.length))))) .fail) .fail)
  (.ret (qh (kQ y ((l.drop 0).take l.length))))) .fail) .fail:=by kernel_rfl
theorem KR (l:List St3):(l.drop 0).take l.length=l:=by rw [List.drop_zero,List.take_length]
theorem mE {c:Bool} {v1 v2 v:V} (h1:flat v1=true) (h2:flat v2=true) (h:(T.ite none c (.ret v1) (.ret v2)).eval=some v):flat v=true:=by
 cases c<;>(obtain rfl:=Option.some.inj h)<;>assumption
theorem D5:SpecOk Tryz.prog 126 Kf:=by
 refine DX.of_den fun args v hfl h => ?_
 clear hfl
 obtain ⟨l,y,rfl,h1⟩:=Bx (show (ZC args _).eval=some v from h)
 clear h
 obtain ⟨hk,h⟩:=aK h1
 refine ⟨v,?_,⟨mE rfl rfl h,mE rfl rfl h⟩,rfl⟩
 rw [<- T.eval_anon,B2,KR]
 refine aA (by simp) (aA hk ?_)
 unfold heardL at h
 by_cases q:(kQ y l).n=0
 ·rw [if_pos q] at h
  exact aA (by simpa using q) (aA (by simp) (aA hk h))
 ·rw [if_neg q] at h
  have q2:((kQ y l).n==0)=false:=by simpa using q
  rw [q2] at h
  exact tev_else q2 h
def timesC:Eng.Spec
 | [.s (.int .i64 s),.s (.int .i64 r)]=>.ite none (decide (0<=s)&&decide (s<=9223372036854775807)&&(decide (0<=r)&&decide (r<=9223372036854775807))) (.ite none (decide (9223372036854775807<s*r)) (.ret (.tup [iv 9223372036854775807,.tt])) (.ret (.tup [iv (s*r),.ff]))) .fail
 | _=>.fail
theorem Ct (s r:Int):T.anon (yG [iv s,iv r])=T.ite none (inU (IntKind.wrap .u64 s)&&inU (IntKind.wrap .u64 r))
  (T.ite none (bif decide (0<IntKind.wrap .u64 s*IntKind.wrap .u64 r / 18446744073709551616) then true else decide (9223372036854775807<IntKind.wrap .u64 s*IntKind.wrap .u64 r % 18446744073709551616))
   (.ret (.tup [iv 9223372036854775807,.tt])) (.ret (.tup [iv (IntKind.wrap .i64 (IntKind.wrap .u64 s*IntKind.wrap .u64 r % 18446744073709551616)),.ff]))) .fail:=by kernel_rfl
theorem E4:SpecOk Tryz.prog 127 timesC:=by
 refine Ck.of_den fun args v hfl h => ?_
 clear hfl
 unfold timesC at h
 split at h
 ·rename_i s r
  obtain ⟨hk,h⟩:=aK h
  simp only [Bool.and_eq_true,decide_eq_true_eq] at hk
  obtain ⟨⟨h1,h2⟩,h3,h4⟩:=hk
  refine ⟨v,?_,⟨mE rfl rfl h,mE rfl rfl h⟩,rfl⟩
  rw [<- T.eval_anon,show yG [V.s (.int .i64 s),V.s (.int .i64 r)]=yG [iv s,iv r] from rfl,Ct,vU,vU,Int.emod_eq_of_lt h1 (by omega),Int.emod_eq_of_lt h3 (by omega)]
  have hp:0<=s*r:=Int.mul_nonneg h1 h3
  generalize s*r=p at *
  refine aA (by unfold inU;simp only [Bool.and_eq_true,decide_eq_true_eq];omega) ?_
  by_cases q:9223372036854775807<p
  ·rw [decide_eq_true q] at h
   refine aA ?_ h
   simp only [eV,Bool.or_eq_true,decide_eq_true_eq]
   omega
  ·rw [decide_eq_false q] at h
   refine tev_else ?_ ?_
   ·simp only [eV,Bool.or_eq_false_iff,decide_eq_false_iff_not];omega
   ·rw [show p % 18446744073709551616=p by omega,wrap64_in (by omega) (by omega)];exact h
 ·cases h
noncomputable def Q2:Cfg:=⟨Tryz.prog,lookG [(126,.val Kf),(127,.val timesC)],[],0⟩
theorem Cu:Q2.Ok:=Cfg.ok ⟨D5,E4,trivial⟩ trivial
noncomputable def En:Eng.Spec:=aB Q2 aa 100
theorem AJ:SpecOk Tryz.prog 100 En:=af Cu mixed Tryz.func100 (by kernel_rfl) (by kernel_rfl)
noncomputable def spT (l:List St3) (y r:Int):T V:=T.ite none (decide (0+List.length l<=List.length l))
 (T.ite none (vo (List.take (List.length l) (List.drop 0 l)))
  (T.ite none (Tot.n (heardL y (List.take (List.length l) (List.drop 0 l)))==0)
   (T.ret (V.tup [V.s (S.int IntKind.i64 0),V.s (S.int IntKind.i64 7)]))
   (T.ite none (decide (r<0)) (T.ret (V.tup [V.s (S.int IntKind.i64 0),V.s (S.int IntKind.i64 1)]))
    (T.ite none
     (decide (0<=Tot.s (heardL y (List.take (List.length l) (List.drop 0 l))))&&decide (Tot.s (heardL y (List.take (List.length l) (List.drop 0 l)))<=9223372036854775807) &&
      (decide (0<=r)&&decide (r<=9223372036854775807)))
     (T.ite none (decide (9223372036854775807<Tot.s (heardL y (List.take (List.length l) (List.drop 0 l)))*r))
      (T.ite none (bif Tot.c (heardL y (List.take (List.length l) (List.drop 0 l))) then true else true) (T.ite none (Tot.n (heardL y (List.take (List.length l) (List.drop 0 l)))==0) T.fail (T.ret (V.tup [V.s (S.int IntKind.i64 (IntKind.wrap IntKind.i64 (Int.tdiv (9223372036854775807) (Tot.n (heardL y (List.take (List.length l) (List.drop 0 l))))))),V.s (S.int IntKind.i64 2)]))) (T.ite none (Tot.n (heardL y (List.take (List.length l) (List.drop 0 l)))==0) T.fail (T.ret (V.tup [V.s (S.int IntKind.i64 (IntKind.wrap IntKind.i64 (Int.tdiv (9223372036854775807) (Tot.n (heardL y (List.take (List.length l) (List.drop 0 l))))))),V.s (S.int IntKind.i64 0)]))))
      (T.ite none (bif Tot.c (heardL y (List.take (List.length l) (List.drop 0 l))) then true else false) (T.ite none (Tot.n (heardL y (List.take (List.length l) (List.drop 0 l)))==0) T.fail (T.ret (V.tup [V.s (S.int IntKind.i64 (IntKind.wrap IntKind.i64 (Int.tdiv (Tot.s (heardL y (List.take (List.length l) (List.drop 0 l)))*r) (Tot.n (heardL y (List.take (List.length l) (List.drop 0 l))))))),V.s (S.int IntKind.i64 2)]))) (T.ite none (Tot.n (heardL y (List.take (List.length l) (List.drop 0 l)))==0) T.fail (T.ret (V.tup [V.s (S.int IntKind.i64 (IntKind.wrap IntKind.i64 (Int.tdiv (Tot.s (heardL y (List.take (List.length l) (List.drop 0 l)))*r) (Tot.n (heardL y (List.take (List.length l) (List.drop 0 l))))))),V.s (S.int IntKind.i64 0)])))))
     T.fail)))
  T.fail)
 T.fail
def spV (t:Tot) (r:Int):Int:=if t.n=0 then 0 else if r<0 then 0 else Int.tdiv (if 9223372036854775807<t.s*r then 9223372036854775807 else t.s*r) t.n
def spE (t:Tot) (r:Int):Int:=if t.n=0 then 7 else if r<0 then 1 else if 9223372036854775807<t.s*r\/t.c=true then 2 else 0
def vF:Eng.Spec:=fun args=>qH args fun l y r=>.ite none (vo l&&decide (r<=9223372036854775807)) (.ret (dP (spV (heardL y l) r) (spE (heardL y l) r))) .fail
theorem Kl {a n:Int} (h1:0<=a) (h2:a<=9223372036854775807) (h3:0<n):IntKind.wrap .i64 (Int.tdiv a n)=Int.tdiv a n:=by
 rw [Int.tdiv_eq_ediv_of_nonneg h1]
 exact wrap64_in (by have:=Int.ediv_nonneg h1 (Int.le_of_lt h3);omega) (Int.le_trans (Int.ediv_le_self _ h1) h2)
theorem AX (l:List St3) (y r:Int):T.anon (En [ors l,iv y,iv r])=spT l y r:=by kernel_rfl
theorem pR:SpecOk Tryz.prog 100 vF:=by
 refine AJ.of_den fun args v hfl h => ?_
 clear hfl
 obtain ⟨l,y,r,rfl,h1⟩:=lO (show (qH args _).eval=some v from h)
 clear h
 obtain ⟨hk,h⟩:=aK h1
 obtain rfl:=Option.some.inj h
 simp only [Bool.and_eq_true,decide_eq_true_eq] at hk
 refine ⟨dP (spV (heardL y l) r) (spE (heardL y l) r),?_,⟨rfl,rfl⟩,rfl⟩
 rw [<- T.eval_anon,AX]
 unfold spT
 rw [KR]
 refine aA (by simp) (aA hk.1 ?_)
 obtain ⟨h1,h2,h3,h4⟩:=uw y l
 generalize heardL y l=t at *
 obtain ⟨s,n,c⟩:=t
 dsimp only at *
 unfold spV spE
 by_cases q:n=0
 ·subst q;exact aA rfl rfl
 ·have q2:(n==0)=false:=by simpa using q
  refine tev_else q2 ?_
  simp only [q,if_false]
  by_cases hr:r<0
  ·rw [if_pos hr,if_pos hr]
   exact aA (decide_eq_true hr) rfl
  ·rw [if_neg hr,if_neg hr]
   have hp:0<=s*r:=Int.mul_nonneg h1 (by omega)
   generalize s*r=p at *
   refine tev_else (decide_eq_false hr) (aA (by simp only [Bool.and_eq_true,decide_eq_true_eq];omega) ?_)
   by_cases hc:9223372036854775807<p
   ·rw [if_pos hc,if_pos (Or.inl hc)]
    refine aA (decide_eq_true hc) ?_
    rw [Kl (by decide) (by decide) (by omega)]
    exact aA (by cases c<;>rfl) (tev_else q2 rfl)
   ·rw [if_neg hc]
    refine tev_else (decide_eq_false hc) ?_
    rw [Kl hp (by omega) (by omega)]
    cases c
    ·rw [if_neg (by simp;omega)]
     exact tev_else rfl (tev_else q2 rfl)
    ·rw [if_pos (Or.inr rfl)]
     exact aA rfl (tev_else q2 rfl)
end Go.Proofs.YtggakaogidjjbaaGreatDoor.Sta
