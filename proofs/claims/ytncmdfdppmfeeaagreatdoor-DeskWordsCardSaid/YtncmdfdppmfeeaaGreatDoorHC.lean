import Derived.Test.YtncmdfdppmfeeaaGreatDoorRows
import Derived.WalkKit
import Derived.ProofKit
import Derived.OpenShut
import Derived.Lib.Hide
import Derived.Lib.Mul64
import Derived.Laws.Bits64b
import Derived.Shelf.Bits.Mul64
import Derived.Deep.QuietTactic
import Derived.BigQuiet
import Derived.Handy
import Derived.Test.YtncmdfdppmfeeaaGreatDoorGL
namespace Go.Proofs.YtncmdfdppmfeeaaGreatDoor.Sta
open Go.ChangeShapes Go.WideShapes Go.ChangeAt Go.RowKit
set_option linter.unusedVariables false
set_option linter.unusedSimpArgs false
def SS (v c:Int) (w:World) (e:Ending) (w':World):Prop:=e=.returned (.tuple #[.int .u64 v,.int .u64 c])/\w=w'
set_option maxHeartbeats 1000000 in
theorem l7 (x y:Nat) (hx:x<18446744073709551616) (hy:y<18446744073709551616) (w:World) :
  Calls Tryz.prog 203 #[.int .u64 x,.int .u64 y] w (SS ((x*y / 18446744073709551616:Nat):Int) ((x*y % 18446744073709551616:Nat):Int) w):=by
 obtain ⟨bd,bt,bw,hhi⟩:=Lib.mul64_hi x y hx hy
 have ba:=Lib.half_mul_le (a:=x / 4294967296) (b:=y / 4294967296) (by omega) (by omega)
 have bb:=Lib.half_mul_le (a:=x / 4294967296) (b:=y % 4294967296) (by omega) (by omega)
 have bc:=Lib.half_mul_le (a:=x % 4294967296) (b:=y / 4294967296) (by omega) (by omega)
 have ba':x / 4294967296*(y / 4294967296)<18446744073709551616:=by omega
 have bb':x / 4294967296*(y % 4294967296)<18446744073709551616:=by omega
 have bc':x % 4294967296*(y / 4294967296)<18446744073709551616:=by omega
 have bh1:x / 4294967296*(y / 4294967296)+(x / 4294967296*(y % 4294967296)+x % 4294967296*(y % 4294967296) / 4294967296) / 4294967296<18446744073709551616:=by omega
 have bh:x / 4294967296*(y / 4294967296)+(x / 4294967296*(y % 4294967296)+x % 4294967296*(y % 4294967296) / 4294967296) / 4294967296+((x / 4294967296*(y % 4294967296)+x % 4294967296*(y % 4294967296) / 4294967296) % 4294967296+x % 4294967296*(y / 4294967296)) / 4294967296<18446744073709551616:=by omega
 go_enter Tryz.func203,Tryz.ntmps203
 go_wp2
 simp only [Mul64.maskN x hx,Mul64.maskN y hy,Mul64.divN,Mul64.mulN,Mul64.addN,Mul64.wrapN _ bd,Mul64.wrapN _ bb',Mul64.wrapN _ bt,Mul64.maskN _ bt,Mul64.wrapN _ bc',Mul64.wrapN _ bw,Mul64.wrapN _ ba',Mul64.wrapN _ bh1,Mul64.wrapN _ bh,Mul64.wrapM (x*y)]
 rw [hhi]
 go_ret2
 exact ⟨rfl,rfl⟩
open Go.Eng
def uv (n:Int):V:=.s (.int .u64 n)
def inU (a:Int):Bool:=decide (0<=a)&&decide (a<18446744073709551616)
def q9:Eng.Spec
 | [.s (.int .u64 x),.s (.int .u64 y)]=>.ite none (inU x&&inU y) (.ret (.tup [uv (x*y / 18446744073709551616),uv (x*y % 18446744073709551616)])) .fail
 | _=>.fail
theorem uZ (args:List V) (v:V) (h:(q9 args).eval=some v):cH args=true/\flat v=true:=by
 unfold q9 at h
 split at h
 ·obtain ⟨_,h⟩:=aF h
  simp only [T.eval,Option.some.injEq] at h
  subst h
  exact ⟨rfl,rfl⟩
 ·cases h
theorem Es:SpecOk Tryz.prog 203 q9:=by
 refine SpecOk.of_calls Tryz.func203 (by kernel_rfl) (by kernel_rfl) uZ fun args v w hfl h hfv => ?_
 clear hfl hfv
 unfold q9 at h
 split at h
 ·rename_i x y
  obtain ⟨hc,h⟩:=aF h
  simp only [inU,Bool.and_eq_true,decide_eq_true_eq] at hc
  simp only [T.eval,Option.some.injEq] at h
  subst h
  obtain ⟨a,rfl⟩:=Int.eq_ofNat_of_zero_le hc.1.1
  obtain ⟨b,rfl⟩:=Int.eq_ofNat_of_zero_le hc.2.1
  refine (l7 a b (by omega) (by omega) w).mono ?_
  rintro e w' ⟨rfl,rfl⟩
  refine ⟨?_,Below.refl _ _⟩
  simp [uv,V.den,aB,S.den]
 ·cases h
end Go.Proofs.YtncmdfdppmfeeaaGreatDoor.Sta
namespace Go.Proofs.YtncmdfdppmfeeaaGreatDoor.Sta
open Go.Eng Go.RowKit Mil
set_option linter.unusedVariables false
set_option linter.unusedSimpArgs false
noncomputable def kW:Eng.Spec:=aC P0 aa 227
theorem db:SpecOk Tryz.prog 227 kW:=ae mZ mixed Tryz.func227 (by kernel_rfl) (by kernel_rfl)
abbrev St3:=Int × Int × Int
def V8 (own:Bool) (l:List St3):Blk:=.lst own 276 [.int .i64,.int .i64,.int .i64] l
structure Tot where
 s:Int
 n:Int
 c:Bool
deriving DecidableEq
noncomputable def ad1:Code:=cF Tryz.prog 202 0
structure PA1 where (age:Int) (l:List St3) (k:Nat) (n:Int)
structure AA1 where (s c:Int) (u:Bool) (i:Int)
def vsA (p:PA1) (a:AA1):List V:=[iv p.age,.ptr 1 0,.sub 0 3 0 p.k,iv p.n,iv a.i]
def bsA (p:PA1) (a:AA1):List Blk:=[V8 false p.l,.cells 270 [iv a.s,iv a.c,bv a.u]]
abbrev SA:List (Nat × Src):=[(0,.same),(1,.same)]
def AU (x:St3):Bool:=decide (0<=x.1)&&decide (0<=x.2.1)&&decide (0<=x.2.2)
def KH:Eng.Spec
 | [.agg [.s (.int .i64 a),.s (.int .i64 b),.s (.int .i64 c)]]=>.ret (bv (AU (a,b,c)))
 | _=>.fail
noncomputable def PL:Cfg:=⟨Tryz.prog,lookG [(227,.val KH),(228,.val QM),(203,.val q9)],[],0⟩
set_option maxRecDepth 100000
noncomputable def rtA (age:Int) (l:List St3) (k:Nat) (n s c:Int) (u:Bool) (i:Int):T (Ex × St):=T.ite none (decide (i<n))
 (T.ite none (decide (0<=i)&&(decide (i<(↑k:Int))&&decide (0+Int.toNat i<List.length l)))
  (T.ite none (decide (0+Int.toNat i<List.length l))
   (T.ite none (bif !AU ((g3 l i).1,(g3 l i).2.1,(g3 l i).2.2) then true else decide ((g3 l i).2.1<age))
    (T.ret (Ex.normal,bY [1,5,10,11,12] (aH SA) 1000 54 (vsA ⟨age,l,k,n⟩ ⟨s,c,u,IntKind.wrap IntKind.i64 (i+1)⟩) (bsA ⟨age,l,k,n⟩ ⟨s,c,u,IntKind.wrap IntKind.i64 (i+1)⟩)))
    (T.ite none (inR s&&inR (g3 l i).2.2)
     (T.ret (Ex.normal,bY [1,5,10,11,12] (aH SA) 1000 54 (vsA ⟨age,l,k,n⟩ ⟨cA (s+(g3 l i).2.2),IntKind.wrap IntKind.i64 (c+1),(bif u then true else iJ (s+(g3 l i).2.2)==2),IntKind.wrap IntKind.i64 (i+1)⟩) (bsA ⟨age,l,k,n⟩ ⟨cA (s+(g3 l i).2.2),IntKind.wrap IntKind.i64 (c+1),(bif u then true else iJ (s+(g3 l i).2.2)==2),IntKind.wrap IntKind.i64 (i+1)⟩)))
     T.fail))
   T.fail)
  T.fail)
 (T.ret (Ex.exit 0,bY [1,5,10,11,12] (aH SA) 1000 54 (vsA ⟨age,l,k,n⟩ ⟨s,c,u,i⟩) (bsA ⟨age,l,k,n⟩ ⟨s,c,u,i⟩)))
theorem Gz:SpecOk Tryz.prog 227 KH:=by
 refine db.of_den fun args v hfl h => ?_
 clear hfl
 unfold KH at h
 split at h
 ·rename_i a b c
  obtain rfl:=Option.some.inj h
  refine ⟨bv (AU (a,b,c)),?_,⟨rfl,rfl⟩,rfl⟩
  have e:T.anon (kW [.agg [iv a,iv b,iv c]])=T.ret (V.s (S.bool (bif bif decide (0<=a) then decide (0<=b) else false then decide (0<=c) else false))):=by kernel_rfl
  rw [<- T.eval_anon,show kW [.agg [V.s (.int .i64 a),V.s (.int .i64 b),V.s (.int .i64 c)]]=kW [.agg [iv a,iv b,iv c]] from rfl,e]
  simp only [fL,AU]
  rfl
 ·cases h
theorem NB:PL.Ok:=Cfg.ok ⟨Gz,G6,Es,trivial⟩ trivial
def Dn:List V->List Blk->Option (PA1 × AA1)
 | [.s (.int .i64 age),.ptr 1 0,.sub 0 3 0 k,.s (.int .i64 n),.s (.int .i64 i)],[.lst false t [.int .i64,.int .i64,.int .i64] l,.cells t2 [.s (.int .i64 s),.s (.int .i64 c),.s (.bool u)]] =>
  if t=276/\t2=270 then some (⟨age,l,k,n⟩,⟨s,c,u,i⟩) else none
 | _,_=>none
theorem s9 (l:List V) (b:List Blk) (d:PA1 × AA1) (h:Dn l b=some d):l=vsA d.1 d.2/\b=bsA d.1 d.2:=by
 unfold Dn at h
 split at h
 ·split at h
  ·rename_i ht
   obtain ⟨rfl,rfl⟩:=ht
   cases h
   exact ⟨rfl,rfl⟩
  ·cases h
 ·cases h
def Cw (l:List St3):Bool:=decide (l.length<=1000000)&&l.all fun x=>inR x.2.2
def xG (p:PA1) (a:AA1):Bool:=decide (p.k=p.l.length)&&decide (p.n=(p.k:Int))&&decide (0<=a.i)&&decide (a.i<=p.n)&&decide (0<=a.c)&&decide (a.c<=a.i)&&inR a.s&&Cw p.l
def Od (age:Int) (x:St3):Bool:=AU x&&decide (age<=x.2.1)
def vj (p:PA1) (a:AA1):Option AA1 :=
 if a.i<p.n then some (if Od p.age (g3 p.l a.i)=true then ⟨cA (a.s+(g3 p.l a.i).2.2),a.c+1,a.u||(iJ (a.s+(g3 p.l a.i).2.2)==2),a.i+1⟩ else ⟨a.s,a.c,a.u,a.i+1⟩) else none
noncomputable def outA (p:PA1) (a:AA1):T (Ex × St):=.ret (.exit 0,bY [1,5,10,11,12] [0,1] 1000 54 (vsA p a) (bsA p a))
theorem RP {l:List St3} {i:Int} (h0:0<=i) (h:i<l.length):∃ x,l[i.toNat]?=some x/\g3 l i=x:=by
 have hl:i.toNat<l.length:=by omega
 refine ⟨l[i.toNat],by simp [hl],?_⟩
 unfold g3
 rw [Nat.zero_add,List.getD_eq_getElem?_getD,List.getElem?_eq_getElem hl];rfl
theorem Gq {l:List St3} (h:Cw l=true) {i:Int} (h0:0<=i) (hi:i<l.length):inR (g3 l i).2.2=true:=by
 obtain ⟨x,h1,h2⟩:=RP h0 hi
 rw [h2]
 unfold Cw at h
 simp only [Bool.and_eq_true,List.all_eq_true] at h
 exact h.2 x (List.mem_of_getElem? h1)
theorem pq (n:Int):inR (cA n)=true:=dA.2 (ir n)
theorem stA (p:PA1) (a b:AA1) (h:xG p a=true) (e:vj p a=some b):xG p b=true/\(p.n - b.i).toNat<(p.n - a.i).toNat:=by
 obtain ⟨s,c,u,i⟩:=a
 unfold vj at e
 split at e
 ·rename_i hc
  obtain rfl:=Option.some.inj e
  simp only [xG,Bool.and_eq_true,decide_eq_true_eq] at h hc ⊢
  obtain ⟨⟨⟨⟨⟨⟨⟨h1,h2⟩,h3⟩,h4⟩,h5⟩,h6⟩,h7⟩,h8⟩:=h
  split
  ·exact ⟨⟨⟨⟨⟨⟨⟨⟨h1,h2⟩,by show 0<=i+1;omega⟩,by show i+1<=p.n;omega⟩,by show 0<=c+1;omega⟩,by show c+1<=i+1;omega⟩,pq _⟩,h8⟩,by show (p.n - (i+1)).toNat<(p.n - i).toNat;omega⟩
  ·exact ⟨⟨⟨⟨⟨⟨⟨⟨h1,h2⟩,by show 0<=i+1;omega⟩,by show i+1<=p.n;omega⟩,h5⟩,by show c<=i+1;omega⟩,h7⟩,h8⟩,by show (p.n - (i+1)).toNat<(p.n - i).toNat;omega⟩
 ·cases e
theorem Bj:LoopOk PL ad1 (mR [1,5,10,11,12] SA 1000 1000 54 Dn xG vj outA):=by
 refine ik (vs:=vsA) (bs:=bsA) NB mixed (az _) s9 (fun p a=>(p.n - a.i).toNat) stA fun ⟨age,l,k,n⟩ ⟨s,c,u,i⟩ h => ?_
 have e:T.anon (bF PL aa ad1 [1,5,10,11,12] SA 1000 1000 (bY [1,5,10,11,12] (aH SA) 1000 54 (vsA ⟨age,l,k,n⟩ ⟨s,c,u,i⟩) (bsA ⟨age,l,k,n⟩ ⟨s,c,u,i⟩)))=rtA age l k n s c u i:=by kernel_rfl
 rw [<- T.eval_anon (t:=bF _ _ _ _ _ _ _ _),e]
 clear e
 simp only [xG,Bool.and_eq_true,decide_eq_true_eq] at h
 obtain ⟨⟨⟨⟨⟨⟨⟨rfl,rfl⟩,h3⟩,h4⟩,h5⟩,h6⟩,h7⟩,h8⟩:=h
 have hlen:l.length<=1000000:=by unfold Cw at h8;simp only [Bool.and_eq_true,decide_eq_true_eq] at h8;exact h8.1
 simp only [vj,outA]
 unfold rtA
 by_cases hc:i<l.length
 ·rw [if_pos hc]
  have h9:=Gq h8 h3 hc
  generalize g3 l i=x at *
  refine ⟨fun b hb => ?_,fun h=>by cases h⟩
  obtain rfl:=Option.some.inj hb
  rw [wrap64_in (n:=i+1) (by omega) (by omega),wrap64_in (n:=c+1) (by omega) (by omega)]
  refine ay (by (first | with_reducible rfl | assumption | (simp only [fL,eu,Bool.and_eq_true,Bool.or_eq_true,Bool.and_eq_false_iff,Bool.or_eq_false_iff,decide_eq_true_eq,decide_eq_false_iff_not,beq_iff_eq,bne_iff_ne,beq_eq_false_iff_ne,bne_eq_false_iff_eq,Bool.not_eq_true',Bool.not_eq_false',ne_eq,Bool.true_and,Bool.and_true,Bool.false_and,Bool.and_false,Bool.true_or,Bool.or_true,Bool.not_true,Bool.not_false,Bool.cond_true,Bool.cond_false,true_and,and_true];first | done | omega))) (ay (by (first | with_reducible rfl | assumption | (simp only [fL,eu,Bool.and_eq_true,Bool.or_eq_true,Bool.and_eq_false_iff,Bool.or_eq_false_iff,decide_eq_true_eq,decide_eq_false_iff_not,beq_iff_eq,bne_iff_ne,beq_eq_false_iff_ne,bne_eq_false_iff_eq,Bool.not_eq_true',Bool.not_eq_false',ne_eq,Bool.true_and,Bool.and_true,Bool.false_and,Bool.and_false,Bool.true_or,Bool.or_true,Bool.not_true,Bool.not_false,Bool.cond_true,Bool.cond_false,true_and,and_true];first | done | omega))) (ay (by (first | with_reducible rfl | assumption | (simp only [fL,eu,Bool.and_eq_true,Bool.or_eq_true,Bool.and_eq_false_iff,Bool.or_eq_false_iff,decide_eq_true_eq,decide_eq_false_iff_not,beq_iff_eq,bne_iff_ne,beq_eq_false_iff_ne,bne_eq_false_iff_eq,Bool.not_eq_true',Bool.not_eq_false',ne_eq,Bool.true_and,Bool.and_true,Bool.false_and,Bool.and_false,Bool.true_or,Bool.or_true,Bool.not_true,Bool.not_false,Bool.cond_true,Bool.cond_false,true_and,and_true];first | done | omega))) ?_))
  by_cases hm:Od age x=true
  ·rw [if_pos hm]
   unfold Od at hm
   simp only [Bool.and_eq_true,decide_eq_true_eq] at hm
   refine tev_else (by rw [show (x.1,x.2.1,x.2.2)=x from rfl,hm.1];simp;omega) (ay (by rw [h7,h9];rfl) ?_)
   cases u<;>rfl
  ·rw [if_neg hm]
   refine ay ?_ rfl
   rw [show (x.1,x.2.1,x.2.2)=x from rfl]
   unfold Od at hm
   simp only [Bool.and_eq_true,decide_eq_true_eq,not_and] at hm
   by_cases hr:AU x=true
   ·have:=hm hr
    rw [hr];simp;omega
   ·rw [show AU x=false by simpa using hr];rfl
 ·rw [if_neg hc]
  refine ⟨fun b hb=>(by cases hb),fun _ r hr => ?_⟩
  obtain rfl:=Option.some.inj hr
  exact ⟨by simp,tev_else (by (first | with_reducible rfl | assumption | (simp only [fL,eu,Bool.and_eq_true,Bool.or_eq_true,Bool.and_eq_false_iff,Bool.or_eq_false_iff,decide_eq_true_eq,decide_eq_false_iff_not,beq_iff_eq,bne_iff_ne,beq_eq_false_iff_ne,bne_eq_false_iff_eq,Bool.not_eq_true',Bool.not_eq_false',ne_eq,Bool.true_and,Bool.and_true,Bool.false_and,Bool.and_false,Bool.true_or,Bool.or_true,Bool.not_true,Bool.not_false,Bool.cond_true,Bool.cond_false,true_and,and_true];first | done | omega))) rfl⟩
noncomputable def sW:List (Nat × bN):=[(3,mR [1,5,10,11,12] SA 1000 1000 54 Dn xG vj outA)]
theorem VP:findL sW 3=some (mR [1,5,10,11,12] SA 1000 1000 54 Dn xG vj outA):=rfl
theorem XQ:av ad1=some 3:=by kernel_rfl
theorem Ls:∀ a∈cd (codeOf Tryz.prog 202),∀ sp,cM sW a=some sp->LoopOk PL a sp:=by
 have e:cd (codeOf Tryz.prog 202)=[ad1]:=by kernel_rfl
 rw [e]
 intro a ha
 rcases List.mem_cons.1 ha with h | ha
 ·rw [h];exact ft XQ VP Bj
 ·cases ha
def stepT (age:Int) (t:Tot) (x:St3):Tot:=if Od age x=true then ⟨cA (t.s+x.2.2),t.n+1,t.c||(iJ (t.s+x.2.2)==2)⟩ else t
def kM (age:Int) (l:List St3):Tot:=l.foldl (stepT age) ⟨0,0,false⟩
theorem sB (age:Int) (l:List St3) (x:St3):kM age (l++[x])=stepT age (kM age l) x:=by unfold kM;rw [List.foldl_append];rfl
theorem Bt {l:List St3} {i:Int} (h0:0<=i) (h:i<l.length):l.take (i+1).toNat=l.take i.toNat++[g3 l i]:=by
 obtain ⟨x,h1,h2⟩:=RP h0 h
 rw [h2,show (i+1).toNat=i.toNat+1 by omega,List.take_add_one,h1];rfl
theorem endA {p:PA1} (h:xG p ⟨0,0,false,0⟩=true):du (vj p) ⟨0,0,false,0⟩=⟨(kM p.age p.l).s,(kM p.age p.l).n,(kM p.age p.l).c,p.n⟩:=by
 obtain ⟨h1,h2,h3⟩:=eY (stA p) h
 have h4:=h3 (fun a=>(⟨a.s,a.c,a.u⟩:Tot)=kM p.age (p.l.take a.i.toNat)) rfl fun a b hi hq e=>by
  obtain ⟨s,c,u,i⟩:=a
  simp only [xG,Bool.and_eq_true,decide_eq_true_eq] at hi
  unfold vj at e
  split at e
  ·rename_i hc
   obtain rfl:=Option.some.inj e
   dsimp only at hc hq ⊢
   have:i<p.l.length:=by omega
   have ht:=Bt (l:=p.l) (i:=i) hi.1.1.1.1.1.2 this
   split
   ·rename_i hm
    dsimp only
    rw [ht,sB,<- hq];unfold stepT;rw [if_pos hm]
   ·rename_i hm
    dsimp only
    rw [ht,sB,<- hq];unfold stepT;rw [if_neg hm]
  ·cases e
 generalize du (vj p) ⟨0,0,false,0⟩=E at *
 obtain ⟨s,c,u,i⟩:=E
 simp only [xG,Bool.and_eq_true,decide_eq_true_eq] at h1
 unfold vj at h2
 split at h2
 ·cases h2
 ·rename_i hc
  dsimp only at hc h4
  have hi:i=p.n:=by omega
  subst hi
  have:p.l.take p.n.toNat=p.l:=List.take_of_length_le (by omega)
  rw [this] at h4
  rw [<- h4]
def je:V:=.iface 337 (.agg [])
def oy (t:Tot):V:=.iface 270 (.agg [iv t.s,iv t.n,bv t.c])
def VR:Eng.Spec
 | [.orow t [.int .i64,.int .i64,.int .i64] l,.s (.int .i64 age)]=>if t=276 then .ite none (Cw l) (.ite none ((kM age l).n==0) (.ret je) (.ret (oy (kM age l)))) .fail else .fail
 | _=>.fail
theorem NJ (l:List St3) (age:Int):T.anon (aC PL (cM sW) 202 [.orow 276 [.int .i64,.int .i64,.int .i64] l,iv age]) =
  T.ite none (xG ⟨age,l,l.length,l.length⟩ ⟨0,0,false,0⟩) (T.ite none ((du (vj ⟨age,l,l.length,l.length⟩) ⟨0,0,false,0⟩).c==0) (.ret je)
   (.ret (oy ⟨(du (vj ⟨age,l,l.length,l.length⟩) ⟨0,0,false,0⟩).s,(du (vj ⟨age,l,l.length,l.length⟩) ⟨0,0,false,0⟩).c,(du (vj ⟨age,l,l.length,l.length⟩) ⟨0,0,false,0⟩).u⟩))) .fail:=by kernel_rfl
theorem add_eval (l:List St3) (age:Int) (v:V) (h0:(T.ite none (Cw l) (.ite none ((kM age l).n==0) (.ret je) (.ret (oy (kM age l)))) .fail).eval=some v) :
  (aC PL (cM sW) 202 [.orow 276 [.int .i64,.int .i64,.int .i64] l,iv age]).eval=some v/\flat v=true:=by
 obtain ⟨hk,h⟩:=aF h0
 have hi:xG ⟨age,l,l.length,l.length⟩ ⟨0,0,false,0⟩=true:=by
  simp only [xG,Bool.and_eq_true,decide_eq_true_eq]
  exact ⟨⟨⟨⟨⟨⟨⟨trivial,trivial⟩,by omega⟩,by omega⟩,by omega⟩,by omega⟩,rfl⟩,hk⟩
 refine ⟨?_,?_⟩
 ·rw [<- T.eval_anon,NJ,endA hi]
  exact ay hi h
 ·cases q:(kM age l).n==0<;>rw [q] at h<;>(obtain rfl:=Option.some.inj h;rfl)
theorem Nj:SpecOk Tryz.prog 202 VR:=by
 refine (iW (Λ:=cM sW) NB mixed Tryz.func202 (by kernel_rfl) (by kernel_rfl) Ls).of_den fun args v hfl h => ?_
 clear hfl
 unfold VR at h
 split at h
 ·rename_i t l age
  split at h
  ·rename_i ht
   subst ht
   obtain ⟨h1,h2⟩:=add_eval l age v h
   exact ⟨v,h1,⟨h2,h2⟩,rfl⟩
  ·cases h
 ·cases h
noncomputable def Q1:Cfg:=⟨Tryz.prog,lookG [(202,.val VR)],[],0⟩
theorem kZ:Q1.Ok:=Cfg.ok ⟨Nj,trivial⟩ trivial
def ors (l:List St3):V:=.orow 276 [.int .i64,.int .i64,.int .i64] l
noncomputable def H8:Eng.Spec:=aC Q1 aa 175
theorem De:SpecOk Tryz.prog 175 H8:=ae kZ mixed Tryz.func175 (by kernel_rfl) (by kernel_rfl)
noncomputable def vz:Eng.Spec:=aC PL aa 176
theorem Am:SpecOk Tryz.prog 176 vz:=ae NB mixed Tryz.func176 (by kernel_rfl) (by kernel_rfl)
def heardL (y:Int) (l:List St3):Tot:=if (kM y l).n=0 then kM 0 l else kM y l
theorem DE (y:Int) (t:Tot) (x:St3) (h:0<=t.s/\t.s<=9223372036854775807/\0<=t.n):0<=(stepT y t x).s/\(stepT y t x).s<=9223372036854775807/\0<=(stepT y t x).n/\(stepT y t x).n<=t.n+1:=by
 unfold stepT
 split
 ·rename_i hm
  unfold Od AU at hm
  simp only [Bool.and_eq_true,decide_eq_true_eq] at hm
  have:=ir (t.s+x.2.2)
  refine ⟨?_,this.2,by dsimp only;omega,by dsimp only;omega⟩
  dsimp only
  unfold cA
  split
  ·omega
  ·split<;>omega
 ·omega
theorem vx (y:Int):∀ (l:List St3) (t:Tot),(0<=t.s/\t.s<=9223372036854775807/\0<=t.n)->0<=(l.foldl (stepT y) t).s/\(l.foldl (stepT y) t).s<=9223372036854775807/\0<=(l.foldl (stepT y) t).n/\(l.foldl (stepT y) t).n<=t.n+l.length
 | [],t,h=>⟨h.1,h.2.1,h.2.2,by simp⟩
 | x::r,t,h=>by
  have h1:=DE y t x h
  have h2:=vx y r (stepT y t x) ⟨h1.1,h1.2.1,h1.2.2.1⟩
  simp only [List.foldl_cons,List.length_cons]
  exact ⟨h2.1,h2.2.1,h2.2.2.1,by omega⟩
theorem zg (y:Int) (l:List St3):0<=(kM y l).s/\(kM y l).s<=9223372036854775807/\0<=(kM y l).n/\(kM y l).n<=l.length:=by
 have:=vx y l ⟨0,0,false⟩ ⟨by decide,by decide,by decide⟩
 unfold kM
 simpa using this
theorem Ag (y:Int) (l:List St3):0<=(heardL y l).s/\(heardL y l).s<=9223372036854775807/\0<=(heardL y l).n/\(heardL y l).n<=l.length:=by
 unfold heardL;split
 ·exact zg 0 l
 ·exact zg y l
def Ui {α:Type} (args:List V) (f:List St3->Int->T α):T α :=
 match args with
 | [.orow t [.int .i64,.int .i64,.int .i64] l,.s (.int .i64 y)]=>if t=276 then f l y else .fail
 | _=>.fail
theorem zl {α:Type} {args:List V} {f:List St3->Int->T α} {r:α} (e:(Ui args f).eval=some r):∃ l y,args=[ors l,iv y]/\(f l y).eval=some r:=by
 unfold Ui at e
 split at e
 ·split at e
  ·rename_i ht;subst ht;exact ⟨_,_,rfl,e⟩
  ·cases e
 ·cases e
def oS {α:Type} (args:List V) (f:List St3->Int->Int->T α):T α :=
 match args with
 | [.orow t [.int .i64,.int .i64,.int .i64] l,.s (.int .i64 y),.s (.int .i64 r)]=>if t=276 then f l y r else .fail
 | _=>.fail
theorem ku {α:Type} {args:List V} {f:List St3->Int->Int->T α} {r:α} (e:(oS args f).eval=some r):∃ l y z,args=[ors l,iv y,iv z]/\(f l y z).eval=some r:=by
 unfold oS at e
 split at e
 ·split at e
  ·rename_i ht;subst ht;exact ⟨_,_,_,rfl,e⟩
  ·cases e
 ·cases e
def Ho:Eng.Spec:=fun args=>Ui args fun l y=>.ite none (Cw l) (.ite none ((heardL y l).n==0) (.ret je) (.ret (oy (heardL y l)))) .fail
theorem Ak (l:List St3) (y:Int):T.anon (H8 [ors l,iv y])=T.ite none (decide (0+l.length<=l.length)) (T.ite none (Cw ((l.drop 0).take l.length)) (T.ite none ((kM y ((l.drop 0).take l.length)).n==0)
  (T.ite none (decide (0+l.length<=l.length)) (T.ite none (Cw ((l.drop 0).take l.length)) (T.ite none ((kM 0 ((l.drop 0).take l.length)).n==0) (.ret je) (.ret (oy (kM 0 ((l.drop 0).take l.length))))) .fail) .fail)
  (.ret (oy (kM y ((l.drop 0).take l.length))))) .fail) .fail:=by kernel_rfl
theorem HR (l:List St3):(l.drop 0).take l.length=l:=by rw [List.drop_zero,List.take_length]
theorem lh {c:Bool} {v1 v2 v:V} (h1:flat v1=true) (h2:flat v2=true) (h:(T.ite none c (.ret v1) (.ret v2)).eval=some v):flat v=true:=by
 cases c<;>(obtain rfl:=Option.some.inj h)<;>assumption
theorem BH:SpecOk Tryz.prog 175 Ho:=by
 refine De.of_den fun args v hfl h => ?_
 clear hfl
 obtain ⟨l,y,rfl,h1⟩:=zl (show (Ui args _).eval=some v from h)
 clear h
 obtain ⟨hk,h⟩:=aF h1
 refine ⟨v,?_,⟨lh rfl rfl h,lh rfl rfl h⟩,rfl⟩
 rw [<- T.eval_anon,Ak,HR]
 refine ay (by simp) (ay hk ?_)
 unfold heardL at h
 by_cases q:(kM y l).n=0
 ·rw [if_pos q] at h
  exact ay (by simpa using q) (ay (by simp) (ay hk h))
 ·rw [if_neg q] at h
  have q2:((kM y l).n==0)=false:=by simpa using q
  rw [q2] at h
  exact tev_else q2 h
def timesC:Eng.Spec
 | [.s (.int .i64 s),.s (.int .i64 r)]=>.ite none (decide (0<=s)&&decide (s<=9223372036854775807)&&(decide (0<=r)&&decide (r<=9223372036854775807))) (.ite none (decide (9223372036854775807<s*r)) (.ret (.tup [iv 9223372036854775807,.tt])) (.ret (.tup [iv (s*r),.ff]))) .fail
 | _=>.fail
theorem yK (s r:Int):T.anon (vz [iv s,iv r])=T.ite none (inU (IntKind.wrap .u64 s)&&inU (IntKind.wrap .u64 r))
  (T.ite none (bif decide (0<IntKind.wrap .u64 s*IntKind.wrap .u64 r / 18446744073709551616) then true else decide (9223372036854775807<IntKind.wrap .u64 s*IntKind.wrap .u64 r % 18446744073709551616))
   (.ret (.tup [iv 9223372036854775807,.tt])) (.ret (.tup [iv (IntKind.wrap .i64 (IntKind.wrap .u64 s*IntKind.wrap .u64 r % 18446744073709551616)),.ff]))) .fail:=by kernel_rfl
theorem zE:SpecOk Tryz.prog 176 timesC:=by
 refine Am.of_den fun args v hfl h => ?_
 clear hfl
 unfold timesC at h
 split at h
 ·rename_i s r
  obtain ⟨hk,h⟩:=aF h
  simp only [Bool.and_eq_true,decide_eq_true_eq] at hk
  obtain ⟨⟨h1,h2⟩,h3,h4⟩:=hk
  refine ⟨v,?_,⟨lh rfl rfl h,lh rfl rfl h⟩,rfl⟩
  rw [<- T.eval_anon,show vz [V.s (.int .i64 s),V.s (.int .i64 r)]=vz [iv s,iv r] from rfl,yK,va,va,Int.emod_eq_of_lt h1 (by omega),Int.emod_eq_of_lt h3 (by omega)]
  have hp:0<=s*r:=Int.mul_nonneg h1 h3
  generalize s*r=p at *
  refine ay (by unfold inU;simp only [Bool.and_eq_true,decide_eq_true_eq];omega) ?_
  by_cases q:9223372036854775807<p
  ·rw [decide_eq_true q] at h
   refine ay ?_ h
   simp only [eu,Bool.or_eq_true,decide_eq_true_eq]
   omega
  ·rw [decide_eq_false q] at h
   refine tev_else ?_ ?_
   ·simp only [eu,Bool.or_eq_false_iff,decide_eq_false_iff_not];omega
   ·rw [show p % 18446744073709551616=p by omega,wrap64_in (by omega) (by omega)];exact h
 ·cases h
noncomputable def Q2:Cfg:=⟨Tryz.prog,lookG [(175,.val Ho),(176,.val timesC)],[],0⟩
theorem tL:Q2.Ok:=Cfg.ok ⟨BH,zE,trivial⟩ trivial
noncomputable def Bo:Eng.Spec:=aC Q2 aa 160
theorem xz:SpecOk Tryz.prog 160 Bo:=ae tL mixed Tryz.func160 (by kernel_rfl) (by kernel_rfl)
noncomputable def spT (l:List St3) (y r:Int):T V:=T.ite none (decide (0+List.length l<=List.length l))
 (T.ite none (Cw (List.take (List.length l) (List.drop 0 l)))
  (T.ite none (Tot.n (heardL y (List.take (List.length l) (List.drop 0 l)))==0)
   (T.ret (V.tup [V.s (S.int IntKind.i64 0),V.s (S.int IntKind.i64 7)]))
   (T.ite none (decide (r<0)) (T.ret (V.tup [V.s (S.int IntKind.i64 0),V.s (S.int IntKind.i64 1)]))
    (T.ite none
     (decide (0<=Tot.s (heardL y (List.take (List.length l) (List.drop 0 l))))&&decide (Tot.s (heardL y (List.take (List.length l) (List.drop 0 l)))<=9223372036854775807) &&
      (decide (0<=r)&&decide (r<=9223372036854775807)))
     (T.ite none (decide (9223372036854775807<Tot.s (heardL y (List.take (List.length l) (List.drop 0 l)))*r))
      (T.ite none (bif Tot.c (heardL y (List.take (List.length l) (List.drop 0 l))) then true else true) (T.ite none (Tot.n (heardL y (List.take (List.length l) (List.drop 0 l)))==0) T.fail (T.ret (V.tup [V.s (S.int IntKind.i64 (IntKind.wrap IntKind.i64 (Int.tdiv (9223372036854775807) (Tot.n (heardL y (List.take (List.length l) (List.drop 0 l))))))),V.s (S.int IntKind.i64 2)]))) (T.ite none (Tot.n (heardL y (List.take (List.length l) (List.drop 0 l)))==0) T.fail (T.ret (V.tup [V.s (S.int IntKind.i64 (IntKind.wrap IntKind.i64 (Int.tdiv (9223372036854775807) (Tot.n (heardL y (List.take (List.length l) (List.drop 0 l))))))),V.s (S.int IntKind.i64 0)]))))
      (T.ite none (bif Tot.c (heardL y (List.take (List.length l) (List.drop 0 l))) then true else false) (T.ite none (Tot.n (heardL y (List.take (List.length l) (List.drop 0 l)))==0) T.fail (T.ret (V.tup [V.s (S.int IntKind.i64 (IntKind.wrap IntKind.i64 (Int.tdiv (Tot.s (heardL y (List.take (List.length l) (List.drop 0 l)))*r) (Tot.n (heardL y (List.take (List.length l) (List.drop 0 l))))))),V.s (S.int IntKind.i64 2)]))) (T.ite none (Tot.n (heardL y (List.take (List.length l) (List.drop 0 l)))==0) T.fail (T.ret (V.tup [V.s (S.int IntKind.i64 (IntKind.wrap IntKind.i64 (Int.tdiv (Tot.s (heardL y (List.take (List.length l) (List.drop 0 l)))*r) (Tot.n (heardL y (List.take (List.length l) (List.drop 0 l))))))),V.s (S.int IntKind.i64 0)])))))
     T.fail)))
  T.fail)
 T.fail
def spV (t:Tot) (r:Int):Int:=if t.n=0 then 0 else if r<0 then 0 else Int.tdiv (if 9223372036854775807<t.s*r then 9223372036854775807 else t.s*r) t.n
def spE (t:Tot) (r:Int):Int:=if t.n=0 then 7 else if r<0 then 1 else if 9223372036854775807<t.s*r\/t.c=true then 2 else 0
def yV:Eng.Spec:=fun args=>oS args fun l y r=>.ite none (Cw l&&decide (r<=9223372036854775807)) (.ret (dr (spV (heardL y l) r) (spE (heardL y l) r))) .fail
theorem HS {a n:Int} (h1:0<=a) (h2:a<=9223372036854775807) (h3:0<n):IntKind.wrap .i64 (Int.tdiv a n)=Int.tdiv a n:=by
 rw [Int.tdiv_eq_ediv_of_nonneg h1]
 exact wrap64_in (by have:=Int.ediv_nonneg h1 (Int.le_of_lt h3);omega) (Int.le_trans (Int.ediv_le_self _ h1) h2)
theorem yi (l:List St3) (y r:Int):T.anon (Bo [ors l,iv y,iv r])=spT l y r:=by kernel_rfl
theorem wT:SpecOk Tryz.prog 160 yV:=by
 refine xz.of_den fun args v hfl h => ?_
 clear hfl
 obtain ⟨l,y,r,rfl,h1⟩:=ku (show (oS args _).eval=some v from h)
 clear h
 obtain ⟨hk,h⟩:=aF h1
 obtain rfl:=Option.some.inj h
 simp only [Bool.and_eq_true,decide_eq_true_eq] at hk
 refine ⟨dr (spV (heardL y l) r) (spE (heardL y l) r),?_,⟨rfl,rfl⟩,rfl⟩
 rw [<- T.eval_anon,yi]
 unfold spT
 rw [HR]
 refine ay (by simp) (ay hk.1 ?_)
 obtain ⟨h1,h2,h3,h4⟩:=Ag y l
 generalize heardL y l=t at *
 obtain ⟨s,n,c⟩:=t
 dsimp only at *
 unfold spV spE
 by_cases q:n=0
 ·subst q;exact ay rfl rfl
 ·have q2:(n==0)=false:=by simpa using q
  refine tev_else q2 ?_
  simp only [q,if_false]
  by_cases hr:r<0
  ·rw [if_pos hr,if_pos hr]
   exact ay (decide_eq_true hr) rfl
  ·rw [if_neg hr,if_neg hr]
   have hp:0<=s*r:=Int.mul_nonneg h1 (by omega)
   generalize s*r=p at *
   refine tev_else (decide_eq_false hr) (ay (by simp only [Bool.and_eq_true,decide_eq_true_eq];omega) ?_)
   by_cases hc:9223372036854775807<p
   ·rw [if_pos hc,if_pos (Or.inl hc)]
    refine ay (decide_eq_true hc) ?_
    rw [HS (by decide) (by decide) (by omega)]
    exact ay (by cases c<;>rfl) (tev_else q2 rfl)
   ·rw [if_neg hc]
    refine tev_else (decide_eq_false hc) ?_
    rw [HS hp (by omega) (by omega)]
    cases c
    ·rw [if_neg (by simp;omega)]
     exact tev_else rfl (tev_else q2 rfl)
    ·rw [if_pos (Or.inr rfl)]
     exact ay rfl (tev_else q2 rfl)
end Go.Proofs.YtncmdfdppmfeeaaGreatDoor.Sta
