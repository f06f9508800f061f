import Derived.Test.YtncmdfdppmfeeaaGreatDoorRows
import Derived.WalkKit
import Derived.ProofKit
import Derived.OpenShut
import Derived.Lib.Hide
import Derived.Lib.Mul64
import Derived.Laws.Bits64b
import Derived.Shelf.Bits.Mul64
import Derived.Deep.QuietTactic
import Derived.BigQuiet
import Derived.Handy
import Derived.Test.YtncmdfdppmfeeaaGreatDoorGL
namespace Go.Proofs.YtncmdfdppmfeeaaGreatDoor.Sta
open Go.ChangeShapes Go.WideShapes Go.ChangeAt Go.RowKit
set_option linter.unusedVariables false
set_option linter.unusedSimpArgs false
def TL (v c:Int) (w:World) (e:Ending) (w':World):Prop:=e=.returned (.tuple #[.int .u64 v,.int .u64 c])/\w=w'
set_option maxHeartbeats 1000000 in
theorem mA (x y:Nat) (hx:x<18446744073709551616) (hy:y<18446744073709551616) (w:World) :
  Calls Tryz.prog 203 #[.int .u64 x,.int .u64 y] w (TL ((x*y / 18446744073709551616:Nat):Int) ((x*y % 18446744073709551616:Nat):Int) w):=by
 obtain ⟨bd,bt,bw,hhi⟩:=Lib.mul64_hi x y hx hy
 have ba:=Lib.half_mul_le (a:=x / 4294967296) (b:=y / 4294967296) (by omega) (by omega)
 have bb:=Lib.half_mul_le (a:=x / 4294967296) (b:=y % 4294967296) (by omega) (by omega)
 have bc:=Lib.half_mul_le (a:=x % 4294967296) (b:=y / 4294967296) (by omega) (by omega)
 have ba':x / 4294967296*(y / 4294967296)<18446744073709551616:=by omega
 have bb':x / 4294967296*(y % 4294967296)<18446744073709551616:=by omega
 have bc':x % 4294967296*(y / 4294967296)<18446744073709551616:=by omega
 have bh1:x / 4294967296*(y / 4294967296)+(x / 4294967296*(y % 4294967296)+x % 4294967296*(y % 4294967296) / 4294967296) / 4294967296<18446744073709551616:=by omega
 have bh:x / 4294967296*(y / 4294967296)+(x / 4294967296*(y % 4294967296)+x % 4294967296*(y % 4294967296) / 4294967296) / 4294967296+((x / 4294967296*(y % 4294967296)+x % 4294967296*(y % 4294967296) / 4294967296) % 4294967296+x % 4294967296*(y / 4294967296)) / 4294967296<18446744073709551616:=by omega
 go_enter Tryz.func203,Tryz.ntmps203
 go_wp2
 simp only [Mul64.maskN x hx,Mul64.maskN y hy,Mul64.divN,Mul64.mulN,Mul64.addN,Mul64.wrapN _ bd,Mul64.wrapN _ bb',Mul64.wrapN _ bt,Mul64.maskN _ bt,Mul64.wrapN _ bc',Mul64.wrapN _ bw,Mul64.wrapN _ ba',Mul64.wrapN _ bh1,Mul64.wrapN _ bh,Mul64.wrapM (x*y)]
 rw [hhi]
 go_ret2
 exact ⟨rfl,rfl⟩
open Go.Eng
def uv (n:Int):V:=.s (.int .u64 n)
def inU (a:Int):Bool:=decide (0<=a)&&decide (a<18446744073709551616)
def sH:Eng.Spec
 | [.s (.int .u64 x),.s (.int .u64 y)]=>.ite none (inU x&&inU y) (.ret (.tup [uv (x*y / 18446744073709551616),uv (x*y % 18446744073709551616)])) .fail
 | _=>.fail
theorem u6 (args:List V) (v:V) (h:(sH args).eval=some v):cK args=true/\flat v=true:=by
 unfold sH at h
 split at h
 ·obtain ⟨_,h⟩:=aF h
  simp only [T.eval,Option.some.injEq] at h
  subst h
  exact ⟨rfl,rfl⟩
 ·cases h
theorem G9:SpecOk Tryz.prog 203 sH:=by
 refine SpecOk.of_calls Tryz.func203 (by kernel_rfl) (by kernel_rfl) u6 fun args v w hfl h hfv => ?_
 clear hfl hfv
 unfold sH at h
 split at h
 ·rename_i x y
  obtain ⟨hc,h⟩:=aF h
  simp only [inU,Bool.and_eq_true,decide_eq_true_eq] at hc
  simp only [T.eval,Option.some.injEq] at h
  subst h
  obtain ⟨a,rfl⟩:=Int.eq_ofNat_of_zero_le hc.1.1
  obtain ⟨b,rfl⟩:=Int.eq_ofNat_of_zero_le hc.2.1
  refine (mA a b (by omega) (by omega) w).mono ?_
  rintro e w' ⟨rfl,rfl⟩
  refine ⟨?_,Below.refl _ _⟩
  simp [uv,V.den,aB,S.den]
 ·cases h
end Go.Proofs.YtncmdfdppmfeeaaGreatDoor.Sta
namespace Go.Proofs.YtncmdfdppmfeeaaGreatDoor.Sta
open Go.Eng Go.RowKit Mil
set_option linter.unusedVariables false
set_option linter.unusedSimpArgs false
noncomputable def lg:Eng.Spec:=aC P0 aa 227
theorem dj:SpecOk Tryz.prog 227 lg:=af mO mixed Tryz.func227 (by kernel_rfl) (by kernel_rfl)
abbrev St3:=Int × Int × Int
def Yg (own:Bool) (l:List St3):Blk:=.lst own 276 [.int .i64,.int .i64,.int .i64] l
structure Tot where
 s:Int
 n:Int
 c:Bool
deriving DecidableEq
noncomputable def ad1:Code:=cm Tryz.prog 202 0
structure PA1 where (age:Int) (l:List St3) (k:Nat) (n:Int)
structure AA1 where (s c:Int) (u:Bool) (i:Int)
def vsA (p:PA1) (a:AA1):List V:=[iv p.age,.ptr 1 0,.sub 0 3 0 p.k,iv p.n,iv a.i]
def bsA (p:PA1) (a:AA1):List Blk:=[Yg false p.l,.cells 270 [iv a.s,iv a.c,bv a.u]]
abbrev SA:List (Nat × Src):=[(0,.same),(1,.same)]
def CR (x:St3):Bool:=decide (0<=x.1)&&decide (0<=x.2.1)&&decide (0<=x.2.2)
def Ki:Eng.Spec
 | [.agg [.s (.int .i64 a),.s (.int .i64 b),.s (.int .i64 c)]]=>.ret (bv (CR (a,b,c)))
 | _=>.fail
noncomputable def PL:Cfg:=⟨Tryz.prog,lookG [(227,.val Ki),(228,.val UP),(203,.val sH)],[],0⟩
set_option maxRecDepth 100000
noncomputable def rtA (age:Int) (l:List St3) (k:Nat) (n s c:Int) (u:Bool) (i:Int):T (Ex × St):=T.ite none (decide (i<n))
 (T.ite none (decide (0<=i)&&(decide (i<(↑k:Int))&&decide (0+Int.toNat i<List.length l)))
  (T.ite none (decide (0+Int.toNat i<List.length l))
   (T.ite none (bif !CR ((g3 l i).1,(g3 l i).2.1,(g3 l i).2.2) then true else decide ((g3 l i).2.1<age))
    (T.ret (Ex.normal,bO [1,5,10,11,12] (aG SA) 1000 54 (vsA ⟨age,l,k,n⟩ ⟨s,c,u,IntKind.wrap IntKind.i64 (i+1)⟩) (bsA ⟨age,l,k,n⟩ ⟨s,c,u,IntKind.wrap IntKind.i64 (i+1)⟩)))
    (T.ite none (inR s&&inR (g3 l i).2.2)
     (T.ret (Ex.normal,bO [1,5,10,11,12] (aG SA) 1000 54 (vsA ⟨age,l,k,n⟩ ⟨cE (s+(g3 l i).2.2),IntKind.wrap IntKind.i64 (c+1),(bif u then true else iQ (s+(g3 l i).2.2)==2),IntKind.wrap IntKind.i64 (i+1)⟩) (bsA ⟨age,l,k,n⟩ ⟨cE (s+(g3 l i).2.2),IntKind.wrap IntKind.i64 (c+1),(bif u then true else iQ (s+(g3 l i).2.2)==2),IntKind.wrap IntKind.i64 (i+1)⟩)))
     T.fail))
   T.fail)
  T.fail)
 (T.ret (Ex.exit 0,bO [1,5,10,11,12] (aG SA) 1000 54 (vsA ⟨age,l,k,n⟩ ⟨s,c,u,i⟩) (bsA ⟨age,l,k,n⟩ ⟨s,c,u,i⟩)))
theorem Gd:SpecOk Tryz.prog 227 Ki:=by
 refine dj.of_den fun args v hfl h => ?_
 clear hfl
 unfold Ki at h
 split at h
 ·rename_i a b c
  obtain rfl:=Option.some.inj h
  refine ⟨bv (CR (a,b,c)),?_,⟨rfl,rfl⟩,rfl⟩
  have e:T.anon (lg [.agg [iv a,iv b,iv c]])=T.ret (V.s (S.bool (bif bif decide (0<=a) then decide (0<=b) else false then decide (0<=c) else false))):=by kernel_rfl
  rw [<- T.eval_anon,show lg [.agg [V.s (.int .i64 a),V.s (.int .i64 b),V.s (.int .i64 c)]]=lg [.agg [iv a,iv b,iv c]] from rfl,e]
  simp only [fF,CR]
  rfl
 ·cases h
theorem MN:PL.Ok:=Cfg.ok ⟨Gd,I6,G9,trivial⟩ trivial
def D5:List V->List Blk->Option (PA1 × AA1)
 | [.s (.int .i64 age),.ptr 1 0,.sub 0 3 0 k,.s (.int .i64 n),.s (.int .i64 i)],[.lst false t [.int .i64,.int .i64,.int .i64] l,.cells t2 [.s (.int .i64 s),.s (.int .i64 c),.s (.bool u)]] =>
  if t=276/\t2=270 then some (⟨age,l,k,n⟩,⟨s,c,u,i⟩) else none
 | _,_=>none
theorem uC (l:List V) (b:List Blk) (d:PA1 × AA1) (h:D5 l b=some d):l=vsA d.1 d.2/\b=bsA d.1 d.2:=by
 unfold D5 at h
 split at h
 ·split at h
  ·rename_i ht
   obtain ⟨rfl,rfl⟩:=ht
   cases h
   exact ⟨rfl,rfl⟩
  ·cases h
 ·cases h
def BR (l:List St3):Bool:=decide (l.length<=1000000)&&l.all fun x=>inR x.2.2
def x9 (p:PA1) (a:AA1):Bool:=decide (p.k=p.l.length)&&decide (p.n=(p.k:Int))&&decide (0<=a.i)&&decide (a.i<=p.n)&&decide (0<=a.c)&&decide (a.c<=a.i)&&inR a.s&&BR p.l
def PG (age:Int) (x:St3):Bool:=CR x&&decide (age<=x.2.1)
def wk (p:PA1) (a:AA1):Option AA1 :=
 if a.i<p.n then some (if PG p.age (g3 p.l a.i)=true then ⟨cE (a.s+(g3 p.l a.i).2.2),a.c+1,a.u||(iQ (a.s+(g3 p.l a.i).2.2)==2),a.i+1⟩ else ⟨a.s,a.c,a.u,a.i+1⟩) else none
noncomputable def outA (p:PA1) (a:AA1):T (Ex × St):=.ret (.exit 0,bO [1,5,10,11,12] [0,1] 1000 54 (vsA p a) (bsA p a))
theorem QI {l:List St3} {i:Int} (h0:0<=i) (h:i<l.length):∃ x,l[i.toNat]?=some x/\g3 l i=x:=by
 have hl:i.toNat<l.length:=by omega
 refine ⟨l[i.toNat],by simp [hl],?_⟩
 unfold g3
 rw [Nat.zero_add,List.getD_eq_getElem?_getD,List.getElem?_eq_getElem hl];rfl
theorem Hu {l:List St3} (h:BR l=true) {i:Int} (h0:0<=i) (hi:i<l.length):inR (g3 l i).2.2=true:=by
 obtain ⟨x,h1,h2⟩:=QI h0 hi
 rw [h2]
 unfold BR at h
 simp only [Bool.and_eq_true,List.all_eq_true] at h
 exact h.2 x (List.mem_of_getElem? h1)
theorem pR (n:Int):inR (cE n)=true:=dN.2 (iD n)
theorem stA (p:PA1) (a b:AA1) (h:x9 p a=true) (e:wk p a=some b):x9 p b=true/\(p.n - b.i).toNat<(p.n - a.i).toNat:=by
 obtain ⟨s,c,u,i⟩:=a
 unfold wk at e
 split at e
 ·rename_i hc
  obtain rfl:=Option.some.inj e
  simp only [x9,Bool.and_eq_true,decide_eq_true_eq] at h hc ⊢
  obtain ⟨⟨⟨⟨⟨⟨⟨h1,h2⟩,h3⟩,h4⟩,h5⟩,h6⟩,h7⟩,h8⟩:=h
  split
  ·exact ⟨⟨⟨⟨⟨⟨⟨⟨h1,h2⟩,by show 0<=i+1;omega⟩,by show i+1<=p.n;omega⟩,by show 0<=c+1;omega⟩,by show c+1<=i+1;omega⟩,pR _⟩,h8⟩,by show (p.n - (i+1)).toNat<(p.n - i).toNat;omega⟩
  ·exact ⟨⟨⟨⟨⟨⟨⟨⟨h1,h2⟩,by show 0<=i+1;omega⟩,by show i+1<=p.n;omega⟩,h5⟩,by show c<=i+1;omega⟩,h7⟩,h8⟩,by show (p.n - (i+1)).toNat<(p.n - i).toNat;omega⟩
 ·cases e
theorem zn:LoopOk PL ad1 (kg [1,5,10,11,12] SA 1000 1000 54 D5 x9 wk outA):=by
 refine eS (vs:=vsA) (bs:=bsA) MN mixed (az _) uC (fun p a=>(p.n - a.i).toNat) stA fun ⟨age,l,k,n⟩ ⟨s,c,u,i⟩ h => ?_
 have e:T.anon (bg PL aa ad1 [1,5,10,11,12] SA 1000 1000 (bO [1,5,10,11,12] (aG SA) 1000 54 (vsA ⟨age,l,k,n⟩ ⟨s,c,u,i⟩) (bsA ⟨age,l,k,n⟩ ⟨s,c,u,i⟩)))=rtA age l k n s c u i:=by kernel_rfl
 rw [<- T.eval_anon (t:=bg _ _ _ _ _ _ _ _),e]
 clear e
 simp only [x9,Bool.and_eq_true,decide_eq_true_eq] at h
 obtain ⟨⟨⟨⟨⟨⟨⟨rfl,rfl⟩,h3⟩,h4⟩,h5⟩,h6⟩,h7⟩,h8⟩:=h
 have hlen:l.length<=1000000:=by unfold BR at h8;simp only [Bool.and_eq_true,decide_eq_true_eq] at h8;exact h8.1
 simp only [wk,outA]
 unfold rtA
 by_cases hc:i<l.length
 ·rw [if_pos hc]
  have h9:=Hu h8 h3 hc
  generalize g3 l i=x at *
  refine ⟨fun b hb => ?_,fun h=>by cases h⟩
  obtain rfl:=Option.some.inj hb
  rw [wrap64_in (n:=i+1) (by omega) (by omega),wrap64_in (n:=c+1) (by omega) (by omega)]
  refine aA (by (first | with_reducible rfl | assumption | (simp only [fF,ef,Bool.and_eq_true,Bool.or_eq_true,Bool.and_eq_false_iff,Bool.or_eq_false_iff,decide_eq_true_eq,decide_eq_false_iff_not,beq_iff_eq,bne_iff_ne,beq_eq_false_iff_ne,bne_eq_false_iff_eq,Bool.not_eq_true',Bool.not_eq_false',ne_eq,Bool.true_and,Bool.and_true,Bool.false_and,Bool.and_false,Bool.true_or,Bool.or_true,Bool.not_true,Bool.not_false,Bool.cond_true,Bool.cond_false,true_and,and_true];first | done | omega))) (aA (by (first | with_reducible rfl | assumption | (simp only [fF,ef,Bool.and_eq_true,Bool.or_eq_true,Bool.and_eq_false_iff,Bool.or_eq_false_iff,decide_eq_true_eq,decide_eq_false_iff_not,beq_iff_eq,bne_iff_ne,beq_eq_false_iff_ne,bne_eq_false_iff_eq,Bool.not_eq_true',Bool.not_eq_false',ne_eq,Bool.true_and,Bool.and_true,Bool.false_and,Bool.and_false,Bool.true_or,Bool.or_true,Bool.not_true,Bool.not_false,Bool.cond_true,Bool.cond_false,true_and,and_true];first | done | omega))) (aA (by (first | with_reducible rfl | assumption | (simp only [fF,ef,Bool.and_eq_true,Bool.or_eq_true,Bool.and_eq_false_iff,Bool.or_eq_false_iff,decide_eq_true_eq,decide_eq_false_iff_not,beq_iff_eq,bne_iff_ne,beq_eq_false_iff_ne,bne_eq_false_iff_eq,Bool.not_eq_true',Bool.not_eq_false',ne_eq,Bool.true_and,Bool.and_true,Bool.false_and,Bool.and_false,Bool.true_or,Bool.or_true,Bool.not_true,Bool.not_false,Bool.cond_true,Bool.cond_false,true_and,and_true];first | done | omega))) ?_))
  by_cases hm:PG age x=true
  ·rw [if_pos hm]
   unfold PG at hm
   simp only [Bool.and_eq_true,decide_eq_true_eq] at hm
   refine tev_else (by rw [show (x.1,x.2.1,x.2.2)=x from rfl,hm.1];simp;omega) (aA (by rw [h7,h9];rfl) ?_)
   cases u<;>rfl
  ·rw [if_neg hm]
   refine aA ?_ rfl
   rw [show (x.1,x.2.1,x.2.2)=x from rfl]
   unfold PG at hm
   simp only [Bool.and_eq_true,decide_eq_true_eq,not_and] at hm
   by_cases hr:CR x=true
   ·have:=hm hr
    rw [hr];simp;omega
   ·rw [show CR x=false by simpa using hr];rfl
 ·rw [if_neg hc]
  refine ⟨fun b hb=>(by cases hb),fun _ r hr => ?_⟩
  obtain rfl:=Option.some.inj hr
  exact ⟨by simp,tev_else (by (first | with_reducible rfl | assumption | (simp only [fF,ef,Bool.and_eq_true,Bool.or_eq_true,Bool.and_eq_false_iff,Bool.or_eq_false_iff,decide_eq_true_eq,decide_eq_false_iff_not,beq_iff_eq,bne_iff_ne,beq_eq_false_iff_ne,bne_eq_false_iff_eq,Bool.not_eq_true',Bool.not_eq_false',ne_eq,Bool.true_and,Bool.and_true,Bool.false_and,Bool.and_false,Bool.true_or,Bool.or_true,Bool.not_true,Bool.not_false,Bool.cond_true,Bool.cond_false,true_and,and_true];first | done | omega))) rfl⟩
noncomputable def uk:List (Nat × bG):=[(3,kg [1,5,10,11,12] SA 1000 1000 54 D5 x9 wk outA)]
theorem aag:findL uk 3=some (kg [1,5,10,11,12] SA 1000 1000 54 D5 x9 wk outA):=rfl
theorem Zo:au ad1=some 3:=by kernel_rfl
theorem K9:∀ a∈cd (codeOf Tryz.prog 202),∀ sp,cJ uk a=some sp->LoopOk PL a sp:=by
 have e:cd (codeOf Tryz.prog 202)=[ad1]:=by kernel_rfl
 rw [e]
 intro a ha
 rcases List.mem_cons.1 ha with h | ha
 ·rw [h];exact fy Zo aag zn
 ·cases ha
def stepT (age:Int) (t:Tot) (x:St3):Tot:=if PG age x=true then ⟨cE (t.s+x.2.2),t.n+1,t.c||(iQ (t.s+x.2.2)==2)⟩ else t
def kO (age:Int) (l:List St3):Tot:=l.foldl (stepT age) ⟨0,0,false⟩
theorem rP (age:Int) (l:List St3) (x:St3):kO age (l++[x])=stepT age (kO age l) x:=by unfold kO;rw [List.foldl_append];rfl
theorem BV {l:List St3} {i:Int} (h0:0<=i) (h:i<l.length):l.take (i+1).toNat=l.take i.toNat++[g3 l i]:=by
 obtain ⟨x,h1,h2⟩:=QI h0 h
 rw [h2,show (i+1).toNat=i.toNat+1 by omega,List.take_add_one,h1];rfl
theorem endA {p:PA1} (h:x9 p ⟨0,0,false,0⟩=true):df (wk p) ⟨0,0,false,0⟩=⟨(kO p.age p.l).s,(kO p.age p.l).n,(kO p.age p.l).c,p.n⟩:=by
 obtain ⟨h1,h2,h3⟩:=dz (stA p) h
 have h4:=h3 (fun a=>(⟨a.s,a.c,a.u⟩:Tot)=kO p.age (p.l.take a.i.toNat)) rfl fun a b hi hq e=>by
  obtain ⟨s,c,u,i⟩:=a
  simp only [x9,Bool.and_eq_true,decide_eq_true_eq] at hi
  unfold wk at e
  split at e
  ·rename_i hc
   obtain rfl:=Option.some.inj e
   dsimp only at hc hq ⊢
   have:i<p.l.length:=by omega
   have ht:=BV (l:=p.l) (i:=i) hi.1.1.1.1.1.2 this
   split
   ·rename_i hm
    dsimp only
    rw [ht,rP,<- hq];unfold stepT;rw [if_pos hm]
   ·rename_i hm
    dsimp only
    rw [ht,rP,<- hq];unfold stepT;rw [if_neg hm]
  ·cases e
 generalize df (wk p) ⟨0,0,false,0⟩=E at *
 obtain ⟨s,c,u,i⟩:=E
 simp only [x9,Bool.and_eq_true,decide_eq_true_eq] at h1
 unfold wk at h2
 split at h2
 ·cases h2
 ·rename_i hc
  dsimp only at hc h4
  have hi:i=p.n:=by omega
  subst hi
  have:p.l.take p.n.toNat=p.l:=List.take_of_length_le (by omega)
  rw [this] at h4
  rw [<- h4]
def jA:V:=.iface 337 (.agg [])
def oW (t:Tot):V:=.iface 270 (.agg [iv t.s,iv t.n,bv t.c])
def Ym:Eng.Spec
 | [.orow t [.int .i64,.int .i64,.int .i64] l,.s (.int .i64 age)]=>if t=276 then .ite none (BR l) (.ite none ((kO age l).n==0) (.ret jA) (.ret (oW (kO age l)))) .fail else .fail
 | _=>.fail
theorem Nq (l:List St3) (age:Int):T.anon (aC PL (cJ uk) 202 [.orow 276 [.int .i64,.int .i64,.int .i64] l,iv age]) =
  T.ite none (x9 ⟨age,l,l.length,l.length⟩ ⟨0,0,false,0⟩) (T.ite none ((df (wk ⟨age,l,l.length,l.length⟩) ⟨0,0,false,0⟩).c==0) (.ret jA)
   (.ret (oW ⟨(df (wk ⟨age,l,l.length,l.length⟩) ⟨0,0,false,0⟩).s,(df (wk ⟨age,l,l.length,l.length⟩) ⟨0,0,false,0⟩).c,(df (wk ⟨age,l,l.length,l.length⟩) ⟨0,0,false,0⟩).u⟩))) .fail:=by kernel_rfl
theorem add_eval (l:List St3) (age:Int) (v:V) (h0:(T.ite none (BR l) (.ite none ((kO age l).n==0) (.ret jA) (.ret (oW (kO age l)))) .fail).eval=some v) :
  (aC PL (cJ uk) 202 [.orow 276 [.int .i64,.int .i64,.int .i64] l,iv age]).eval=some v/\flat v=true:=by
 obtain ⟨hk,h⟩:=aF h0
 have hi:x9 ⟨age,l,l.length,l.length⟩ ⟨0,0,false,0⟩=true:=by
  simp only [x9,Bool.and_eq_true,decide_eq_true_eq]
  exact ⟨⟨⟨⟨⟨⟨⟨trivial,trivial⟩,by omega⟩,by omega⟩,by omega⟩,by omega⟩,rfl⟩,hk⟩
 refine ⟨?_,?_⟩
 ·rw [<- T.eval_anon,Nq,endA hi]
  exact aA hi h
 ·cases q:(kO age l).n==0<;>rw [q] at h<;>(obtain rfl:=Option.some.inj h;rfl)
theorem MT:SpecOk Tryz.prog 202 Ym:=by
 refine (et (Λ:=cJ uk) MN mixed Tryz.func202 (by kernel_rfl) (by kernel_rfl) K9).of_den fun args v hfl h => ?_
 clear hfl
 unfold Ym at h
 split at h
 ·rename_i t l age
  split at h
  ·rename_i ht
   subst ht
   obtain ⟨h1,h2⟩:=add_eval l age v h
   exact ⟨v,h1,⟨h2,h2⟩,rfl⟩
  ·cases h
 ·cases h
noncomputable def Q1:Cfg:=⟨Tryz.prog,lookG [(202,.val Ym)],[],0⟩
theorem lz:Q1.Ok:=Cfg.ok ⟨MT,trivial⟩ trivial
def ors (l:List St3):V:=.orow 276 [.int .i64,.int .i64,.int .i64] l
noncomputable def IY:Eng.Spec:=aC Q1 aa 175
theorem Ae:SpecOk Tryz.prog 175 IY:=af lz mixed Tryz.func175 (by kernel_rfl) (by kernel_rfl)
noncomputable def wW:Eng.Spec:=aC PL aa 176
theorem Bx:SpecOk Tryz.prog 176 wW:=af MN mixed Tryz.func176 (by kernel_rfl) (by kernel_rfl)
def heardL (y:Int) (l:List St3):Tot:=if (kO y l).n=0 then kO 0 l else kO y l
theorem Ft (y:Int) (t:Tot) (x:St3) (h:0<=t.s/\t.s<=9223372036854775807/\0<=t.n):0<=(stepT y t x).s/\(stepT y t x).s<=9223372036854775807/\0<=(stepT y t x).n/\(stepT y t x).n<=t.n+1:=by
 unfold stepT
 split
 ·rename_i hm
  unfold PG CR at hm
  simp only [Bool.and_eq_true,decide_eq_true_eq] at hm
  have:=iD (t.s+x.2.2)
  refine ⟨?_,this.2,by dsimp only;omega,by dsimp only;omega⟩
  dsimp only
  unfold cE
  split
  ·omega
  ·split<;>omega
 ·omega
theorem vQ (y:Int):∀ (l:List St3) (t:Tot),(0<=t.s/\t.s<=9223372036854775807/\0<=t.n)->0<=(l.foldl (stepT y) t).s/\(l.foldl (stepT y) t).s<=9223372036854775807/\0<=(l.foldl (stepT y) t).n/\(l.foldl (stepT y) t).n<=t.n+l.length
 | [],t,h=>⟨h.1,h.2.1,h.2.2,by simp⟩
 | x::r,t,h=>by
  have h1:=Ft y t x h
  have h2:=vQ y r (stepT y t x) ⟨h1.1,h1.2.1,h1.2.2.1⟩
  simp only [List.foldl_cons,List.length_cons]
  exact ⟨h2.1,h2.2.1,h2.2.2.1,by omega⟩
theorem Dw (y:Int) (l:List St3):0<=(kO y l).s/\(kO y l).s<=9223372036854775807/\0<=(kO y l).n/\(kO y l).n<=l.length:=by
 have:=vQ y l ⟨0,0,false⟩ ⟨by decide,by decide,by decide⟩
 unfold kO
 simpa using this
theorem Dz (y:Int) (l:List St3):0<=(heardL y l).s/\(heardL y l).s<=9223372036854775807/\0<=(heardL y l).n/\(heardL y l).n<=l.length:=by
 unfold heardL;split
 ·exact Dw 0 l
 ·exact Dw y l
def WR {α:Type} (args:List V) (f:List St3->Int->T α):T α :=
 match args with
 | [.orow t [.int .i64,.int .i64,.int .i64] l,.s (.int .i64 y)]=>if t=276 then f l y else .fail
 | _=>.fail
theorem zN {α:Type} {args:List V} {f:List St3->Int->T α} {r:α} (e:(WR args f).eval=some r):∃ l y,args=[ors l,iv y]/\(f l y).eval=some r:=by
 unfold WR at e
 split at e
 ·split at e
  ·rename_i ht;subst ht;exact ⟨_,_,rfl,e⟩
  ·cases e
 ·cases e
def qB {α:Type} (args:List V) (f:List St3->Int->Int->T α):T α :=
 match args with
 | [.orow t [.int .i64,.int .i64,.int .i64] l,.s (.int .i64 y),.s (.int .i64 r)]=>if t=276 then f l y r else .fail
 | _=>.fail
theorem ka {α:Type} {args:List V} {f:List St3->Int->Int->T α} {r:α} (e:(qB args f).eval=some r):∃ l y z,args=[ors l,iv y,iv z]/\(f l y z).eval=some r:=by
 unfold qB at e
 split at e
 ·split at e
  ·rename_i ht;subst ht;exact ⟨_,_,_,rfl,e⟩
  ·cases e
 ·cases e
def I2:Eng.Spec:=fun args=>WR args fun l y=>.ite none (BR l) (.ite none ((heardL y l).n==0) (.ret jA) (.ret (oW (heardL y l)))) .fail
theorem Aj (l:List St3) (y:Int):T.anon (IY [ors l,iv y])=T.ite none (decide (0+l.length<=l.length)) (T.ite none (BR ((l.drop 0).take l.length)) (T.ite none ((kO y ((l.drop 0).take l.length)).n==0)
  (T.ite none (decide (0+l.length<=l.length)) (T.ite none (BR ((l.drop 0).take l.length)) (T.ite none ((kO 0 ((l.drop 0).take l.length)).n==0) (.ret jA) (.ret (oW (kO 0 ((l.drop 0).take l.length))))) .fail) .fail)
  (.ret (oW (kO y ((l.drop 0).take l.length))))) .fail) .fail:=by kernel_rfl
theorem Ic (l:List St3):(l.drop 0).take l.length=l:=by rw [List.drop_zero,List.take_length]
theorem lH {c:Bool} {v1 v2 v:V} (h1:flat v1=true) (h2:flat v2=true) (h:(T.ite none c (.ret v1) (.ret v2)).eval=some v):flat v=true:=by
 cases c<;>(obtain rfl:=Option.some.inj h)<;>assumption
theorem zE:SpecOk Tryz.prog 175 I2:=by
 refine Ae.of_den fun args v hfl h => ?_
 clear hfl
 obtain ⟨l,y,rfl,h1⟩:=zN (show (WR args _).eval=some v from h)
 clear h
 obtain ⟨hk,h⟩:=aF h1
 refine ⟨v,?_,⟨lH rfl rfl h,lH rfl rfl h⟩,rfl⟩
 rw [<- T.eval_anon,Aj,Ic]
 refine aA (by simp) (aA hk ?_)
 unfold heardL at h
 by_cases q:(kO y l).n=0
 ·rw [if_pos q] at h
  exact aA (by simpa using q) (aA (by simp) (aA hk h))
 ·rw [if_neg q] at h
  have q2:((kO y l).n==0)=false:=by simpa using q
  rw [q2] at h
  exact tev_else q2 h
def timesC:Eng.Spec
 | [.s (.int .i64 s),.s (.int .i64 r)]=>.ite none (decide (0<=s)&&decide (s<=9223372036854775807)&&(decide (0<=r)&&decide (r<=9223372036854775807))) (.ite none (decide (9223372036854775807<s*r)) (.ret (.tup [iv 9223372036854775807,.tt])) (.ret (.tup [iv (s*r),.ff]))) .fail
 | _=>.fail
theorem AJ (s r:Int):T.anon (wW [iv s,iv r])=T.ite none (inU (IntKind.wrap .u64 s)&&inU (IntKind.wrap .u64 r))
  (T.ite none (bif decide (0<IntKind.wrap .u64 s*IntKind.wrap .u64 r / 18446744073709551616) then true else decide (9223372036854775807<IntKind.wrap .u64 s*IntKind.wrap .u64 r % 18446744073709551616))
   (.ret (.tup [iv 9223372036854775807,.tt])) (.ret (.tup [iv (IntKind.wrap .i64 (IntKind.wrap .u64 s*IntKind.wrap .u64 r % 18446744073709551616)),.ff]))) .fail:=by kernel_rfl
theorem Ac:SpecOk Tryz.prog 176 timesC:=by
 refine Bx.of_den fun args v hfl h => ?_
 clear hfl
 unfold timesC at h
 split at h
 ·rename_i s r
  obtain ⟨hk,h⟩:=aF h
  simp only [Bool.and_eq_true,decide_eq_true_eq] at hk
  obtain ⟨⟨h1,h2⟩,h3,h4⟩:=hk
  refine ⟨v,?_,⟨lH rfl rfl h,lH rfl rfl h⟩,rfl⟩
  rw [<- T.eval_anon,show wW [V.s (.int .i64 s),V.s (.int .i64 r)]=wW [iv s,iv r] from rfl,AJ,uz,uz,Int.emod_eq_of_lt h1 (by omega),Int.emod_eq_of_lt h3 (by omega)]
  have hp:0<=s*r:=Int.mul_nonneg h1 h3
  generalize s*r=p at *
  refine aA (by unfold inU;simp only [Bool.and_eq_true,decide_eq_true_eq];omega) ?_
  by_cases q:9223372036854775807<p
  ·rw [decide_eq_true q] at h
   refine aA ?_ h
   simp only [ef,Bool.or_eq_true,decide_eq_true_eq]
   omega
  ·rw [decide_eq_false q] at h
   refine tev_else ?_ ?_
   ·simp only [ef,Bool.or_eq_false_iff,decide_eq_false_iff_not];omega
   ·rw [show p % 18446744073709551616=p by omega,wrap64_in (by omega) (by omega)];exact h
 ·cases h
noncomputable def Q2:Cfg:=⟨Tryz.prog,lookG [(175,.val I2),(176,.val timesC)],[],0⟩
theorem vc:Q2.Ok:=Cfg.ok ⟨zE,Ac,trivial⟩ trivial
noncomputable def DU:Eng.Spec:=aC Q2 aa 160
theorem yx:SpecOk Tryz.prog 160 DU:=af vc mixed Tryz.func160 (by kernel_rfl) (by kernel_rfl)
noncomputable def spT (l:List St3) (y r:Int):T V:=T.ite none (decide (0+List.length l<=List.length l))
 (T.ite none (BR (List.take (List.length l) (List.drop 0 l)))
  (T.ite none (Tot.n (heardL y (List.take (List.length l) (List.drop 0 l)))==0)
   (T.ret (V.tup [V.s (S.int IntKind.i64 0),V.s (S.int IntKind.i64 7)]))
   (T.ite none (decide (r<0)) (T.ret (V.tup [V.s (S.int IntKind.i64 0),V.s (S.int IntKind.i64 1)]))
    (T.ite none
     (decide (0<=Tot.s (heardL y (List.take (List.length l) (List.drop 0 l))))&&decide (Tot.s (heardL y (List.take (List.length l) (List.drop 0 l)))<=9223372036854775807) &&
      (decide (0<=r)&&decide (r<=9223372036854775807)))
     (T.ite none (decide (9223372036854775807<Tot.s (heardL y (List.take (List.length l) (List.drop 0 l)))*r))
      (T.ite none (bif Tot.c (heardL y (List.take (List.length l) (List.drop 0 l))) then true else true) (T.ite none (Tot.n (heardL y (List.take (List.length l) (List.drop 0 l)))==0) T.fail (T.ret (V.tup [V.s (S.int IntKind.i64 (IntKind.wrap IntKind.i64 (Int.tdiv (9223372036854775807) (Tot.n (heardL y (List.take (List.length l) (List.drop 0 l))))))),V.s (S.int IntKind.i64 2)]))) (T.ite none (Tot.n (heardL y (List.take (List.length l) (List.drop 0 l)))==0) T.fail (T.ret (V.tup [V.s (S.int IntKind.i64 (IntKind.wrap IntKind.i64 (Int.tdiv (9223372036854775807) (Tot.n (heardL y (List.take (List.length l) (List.drop 0 l))))))),V.s (S.int IntKind.i64 0)]))))
      (T.ite none (bif Tot.c (heardL y (List.take (List.length l) (List.drop 0 l))) then true else false) (T.ite none (Tot.n (heardL y (List.take (List.length l) (List.drop 0 l)))==0) T.fail (T.ret (V.tup [V.s (S.int IntKind.i64 (IntKind.wrap IntKind.i64 (Int.tdiv (Tot.s (heardL y (List.take (List.length l) (List.drop 0 l)))*r) (Tot.n (heardL y (List.take (List.length l) (List.drop 0 l))))))),V.s (S.int IntKind.i64 2)]))) (T.ite none (Tot.n (heardL y (List.take (List.length l) (List.drop 0 l)))==0) T.fail (T.ret (V.tup [V.s (S.int IntKind.i64 (IntKind.wrap IntKind.i64 (Int.tdiv (Tot.s (heardL y (List.take (List.length l) (List.drop 0 l)))*r) (Tot.n (heardL y (List.take (List.length l) (List.drop 0 l))))))),V.s (S.int IntKind.i64 0)])))))
     T.fail)))
  T.fail)
 T.fail
def spV (t:Tot) (r:Int):Int:=if t.n=0 then 0 else if r<0 then 0 else Int.tdiv (if 9223372036854775807<t.s*r then 9223372036854775807 else t.s*r) t.n
def spE (t:Tot) (r:Int):Int:=if t.n=0 then 7 else if r<0 then 1 else if 9223372036854775807<t.s*r\/t.c=true then 2 else 0
def AG:Eng.Spec:=fun args=>qB args fun l y r=>.ite none (BR l&&decide (r<=9223372036854775807)) (.ret (du (spV (heardL y l) r) (spE (heardL y l) r))) .fail
theorem Ig {a n:Int} (h1:0<=a) (h2:a<=9223372036854775807) (h3:0<n):IntKind.wrap .i64 (Int.tdiv a n)=Int.tdiv a n:=by
 rw [Int.tdiv_eq_ediv_of_nonneg h1]
 exact wrap64_in (by have:=Int.ediv_nonneg h1 (Int.le_of_lt h3);omega) (Int.le_trans (Int.ediv_le_self _ h1) h2)
theorem yh (l:List St3) (y r:Int):T.anon (DU [ors l,iv y,iv r])=spT l y r:=by kernel_rfl
theorem yE:SpecOk Tryz.prog 160 AG:=by
 refine yx.of_den fun args v hfl h => ?_
 clear hfl
 obtain ⟨l,y,r,rfl,h1⟩:=ka (show (qB args _).eval=some v from h)
 clear h
 obtain ⟨hk,h⟩:=aF h1
 obtain rfl:=Option.some.inj h
 simp only [Bool.and_eq_true,decide_eq_true_eq] at hk
 refine ⟨du (spV (heardL y l) r) (spE (heardL y l) r),?_,⟨rfl,rfl⟩,rfl⟩
 rw [<- T.eval_anon,yh]
 unfold spT
 rw [Ic]
 refine aA (by simp) (aA hk.1 ?_)
 obtain ⟨h1,h2,h3,h4⟩:=Dz y l
 generalize heardL y l=t at *
 obtain ⟨s,n,c⟩:=t
 dsimp only at *
 unfold spV spE
 by_cases q:n=0
 ·subst q;exact aA rfl rfl
 ·have q2:(n==0)=false:=by simpa using q
  refine tev_else q2 ?_
  simp only [q,if_false]
  by_cases hr:r<0
  ·rw [if_pos hr,if_pos hr]
   exact aA (decide_eq_true hr) rfl
  ·rw [if_neg hr,if_neg hr]
   have hp:0<=s*r:=Int.mul_nonneg h1 (by omega)
   generalize s*r=p at *
   refine tev_else (decide_eq_false hr) (aA (by simp only [Bool.and_eq_true,decide_eq_true_eq];omega) ?_)
   by_cases hc:9223372036854775807<p
   ·rw [if_pos hc,if_pos (Or.inl hc)]
    refine aA (decide_eq_true hc) ?_
    rw [Ig (by decide) (by decide) (by omega)]
    exact aA (by cases c<;>rfl) (tev_else q2 rfl)
   ·rw [if_neg hc]
    refine tev_else (decide_eq_false hc) ?_
    rw [Ig hp (by omega) (by omega)]
    cases c
    ·rw [if_neg (by simp;omega)]
     exact tev_else rfl (tev_else q2 rfl)
    ·rw [if_pos (Or.inr rfl)]
     exact aA rfl (tev_else q2 rfl)
end Go.Proofs.YtncmdfdppmfeeaaGreatDoor.Sta
