import Derived.Test.YtgpgppncblldiaaGreatDoorRows
import Derived.WalkKit
import Derived.ProofKit
import Derived.OpenShut
import Derived.Lib.Hide
import Derived.Lib.Mul64
import Derived.Laws.Bits64b
import Derived.Shelf.Bits.Mul64
import Derived.Deep.QuietTactic
import Derived.BigQuiet
import Derived.Handy
import Derived.Test.YtgpgppncblldiaaGreatDoorGL
set_option linter.unusedVariables false
set_option linter.unusedSimpArgs false
set_option maxRecDepth 100000
noncomputable section
namespace Go.Proofs.YtgpgppncblldiaaGreatDoor.Sta
open Go.ChangeShapes Go.WideShapes Go.ChangeAt Go.RowKit
def Tc (v c:Int) (w:World) (e:Ending) (w':World):Prop:=e=.returned (.tuple #[.int .u64 v,.int .u64 c])/\w=w'
set_option maxHeartbeats 1000000 in
theorem ni (x y:Nat) (hx:x<18446744073709551616) (hy:y<18446744073709551616) (w:World) :
  Calls Tryz.prog 150 #[.int .u64 x,.int .u64 y] w (Tc ((x*y / 18446744073709551616:Nat):Int) ((x*y % 18446744073709551616:Nat):Int) w):=by
 obtain ⟨bd,bt,bw,hhi⟩:=Lib.mul64_hi x y hx hy;have ba:=Lib.half_mul_le (a:=x / 4294967296) (b:=y / 4294967296) (by omega) (by omega);have bb:=Lib.half_mul_le (a:=x / 4294967296) (b:=y % 4294967296) (by omega) (by omega);have bc:=Lib.half_mul_le (a:=x % 4294967296) (b:=y / 4294967296) (by omega) (by omega);have ba':x / 4294967296*(y / 4294967296)<18446744073709551616:=by omega
 have bb':x / 4294967296*(y % 4294967296)<18446744073709551616:=by omega
 have bc':x % 4294967296*(y / 4294967296)<18446744073709551616:=by omega
 have bh1:x / 4294967296*(y / 4294967296)+(x / 4294967296*(y % 4294967296)+x % 4294967296*(y % 4294967296) / 4294967296) / 4294967296<18446744073709551616:=by omega
 have bh:x / 4294967296*(y / 4294967296)+(x / 4294967296*(y % 4294967296)+x % 4294967296*(y % 4294967296) / 4294967296) / 4294967296+((x / 4294967296*(y % 4294967296)+x % 4294967296*(y % 4294967296) / 4294967296) % 4294967296+x % 4294967296*(y / 4294967296)) / 4294967296<18446744073709551616:=by omega
 go_enter Tryz.func150,Tryz.ntmps150
 go_wp2
 simp only [Mul64.maskN x hx,Mul64.maskN y hy,Mul64.divN,Mul64.mulN,Mul64.addN,Mul64.wrapN _ bd,Mul64.wrapN _ bb',Mul64.wrapN _ bt,Mul64.maskN _ bt,Mul64.wrapN _ bc',Mul64.wrapN _ bw,Mul64.wrapN _ ba',Mul64.wrapN _ bh1,Mul64.wrapN _ bh,Mul64.wrapM (x*y)];rw [hhi]
 go_ret2
 exact ⟨rfl,rfl⟩
open Go.Eng
def uv (n:Int):V:=.s (.int .u64 n)
def inU (a:Int):Bool:=decide (0<=a)&&decide (a<18446744073709551616)
def uG:Eng.Spec
 | [.s (.int .u64 x),.s (.int .u64 y)]=>.ite none (inU x&&inU y) (.ret (.tup [uv (x*y / 18446744073709551616),uv (x*y % 18446744073709551616)])) .fail
 | _=>.fail
theorem vx (args:List V) (v:V) (h:(uG args).eval=some v):dh args=true/\flat v=true:=by
 unfold uG at h;split at h
 ·obtain ⟨_,h⟩:=aJ h;simp only [T.eval,c9] at h;subst h;exact ⟨rfl,rfl⟩
 ·cases h
theorem Gh:an Tryz.prog 150 uG:=by
 refine an.aeU Tryz.func150 (by kernel_rfl) (by kernel_rfl) vx fun args v w hfl h hfv => ?_;clear hfl hfv;unfold uG at h;split at h
 ·rename_i x y;obtain ⟨hc,h⟩:=aJ h;simp only [inU,AS,AT] at hc;simp only [T.eval,c9] at h;subst h;obtain ⟨a,rfl⟩:=Int.eq_ofNat_of_zero_le hc.1.1;obtain ⟨b,rfl⟩:=Int.eq_ofNat_of_zero_le hc.2.1;refine (ni a b (by omega) (by omega) w).mono ?_;rintro e w' ⟨rfl,rfl⟩;refine ⟨?_,Below.refl _ _⟩;simp [uv,V.den,aH,S.den]
 ·cases h
end Go.Proofs.YtgpgppncblldiaaGreatDoor.Sta
namespace Go.Proofs.YtgpgppncblldiaaGreatDoor.Sta
open Go.Eng Go.RowKit Mil
def oT:Eng.Spec:=aK P0 ab 182
theorem fj:an Tryz.prog 182 oT:=af oS mixed Tryz.func182 (by kernel_rfl) (by kernel_rfl)
abbrev St3:=Int × Int × Int
def ZX (own:Bool) (l:List St3):Blk:=.lst own 214 [.int .i64,.int .i64,.int .i64] l
structure Tot where
 s:Int
 n:Int
 c:Bool
deriving DecidableEq
def ad1:Code:=bP Tryz.prog 149 0
structure PA1 where (age:Int) (l:List St3) (k:Nat) (n:Int)
structure AA1 where (s c:Int) (u:Bool) (i:Int)
def vsA (p:PA1) (a:AA1):List V:=[iv p.age,.ptr 1 0,.sub 0 3 0 p.k,iv p.n,iv a.i]
def bsA (p:PA1) (a:AA1):List Blk:=[ZX false p.l,.cells 208 [iv a.s,iv a.c,bv a.u]]
abbrev SA:List (Nat × Src):=[(0,.same),(1,.same)]
def KQ (x:St3):Bool:=decide (0<=x.1)&&decide (0<=x.2.1)&&decide (0<=x.2.2)
def QL:Eng.Spec
 | [.agg [.s (.int .i64 a),.s (.int .i64 b),.s (.int .i64 c)]]=>.ret (bv (KQ (a,b,c)))
 | _=>.fail
def PL:Cfg:=⟨Tryz.prog,lookG [(182,.val QL),(183,.val TD),(150,.val uG)],[],0⟩
def rtA (age:Int) (l:List St3) (k:Nat) (n s c:Int) (u:Bool) (i:Int):T (Ex × St):=T.ite none (decide (i<n))
 (T.ite none (decide (0<=i)&&(decide (i<(↑k:Int))&&decide (0+Int.toNat i<List.length l)))
  (T.ite none (decide (0+Int.toNat i<List.length l))
   (T.ite none (bif !KQ ((g3 l i).1,(g3 l i).2.1,(g3 l i).2.2) then true else decide ((g3 l i).2.1<age))
    (T.ret (Ex.normal,bI [1,5,10,11,12] (aF SA) 1000 54 (vsA ⟨age,l,k,n⟩ ⟨s,c,u,IntKind.wrap IntKind.i64 (i+1)⟩) (bsA ⟨age,l,k,n⟩ ⟨s,c,u,IntKind.wrap IntKind.i64 (i+1)⟩)))
    (T.ite none (inR s&&inR (g3 l i).2.2)
     (T.ret (Ex.normal,bI [1,5,10,11,12] (aF SA) 1000 54 (vsA ⟨age,l,k,n⟩ ⟨bY (s+(g3 l i).2.2),IntKind.wrap IntKind.i64 (c+1),(bif u then true else jf (s+(g3 l i).2.2)==2),IntKind.wrap IntKind.i64 (i+1)⟩) (bsA ⟨age,l,k,n⟩ ⟨bY (s+(g3 l i).2.2),IntKind.wrap IntKind.i64 (c+1),(bif u then true else jf (s+(g3 l i).2.2)==2),IntKind.wrap IntKind.i64 (i+1)⟩)))
     T.fail))
   T.fail)
  T.fail)
 (T.ret (Ex.exit 0,bI [1,5,10,11,12] (aF SA) 1000 54 (vsA ⟨age,l,k,n⟩ ⟨s,c,u,i⟩) (bsA ⟨age,l,k,n⟩ ⟨s,c,u,i⟩)))
theorem GG:an Tryz.prog 182 QL:=by
 refine fj.aer fun args v hfl h => ?_;clear hfl;unfold QL at h;split at h
 ·rename_i a b c;obtain rfl:=AI h;refine ⟨bv (KQ (a,b,c)),?_,⟨rfl,rfl⟩,rfl⟩;have e:T.anon (oT [.agg [iv a,iv b,iv c]])=T.ret (V.s (S.bool (bif bif decide (0<=a) then decide (0<=b) else false then decide (0<=c) else false))):=by kernel_rfl
  rw [<- T.ael,show oT [.agg [V.s (.int .i64 a),V.s (.int .i64 b),V.s (.int .i64 c)]]=oT [.agg [iv a,iv b,iv c]] from rfl,e];simp only [ef,KQ];rfl
 ·cases h
theorem Q3:PL.Ok:=Cfg.ok ⟨GG,Kt,Gh,trivial⟩ trivial
def Fm:List V->List Blk->Option (PA1 × AA1)
 | [.s (.int .i64 age),.ptr 1 0,.sub 0 3 0 k,.s (.int .i64 n),.s (.int .i64 i)],[.lst false t [.int .i64,.int .i64,.int .i64] l,.cells t2 [.s (.int .i64 s),.s (.int .i64 c),.s (.bool u)]] =>
  if t=214/\t2=208 then some (⟨age,l,k,n⟩,⟨s,c,u,i⟩) else none
 | _,_=>none
theorem xc (l:List V) (b:List Blk) (d:PA1 × AA1) (h:Fm l b=some d):l=vsA d.1 d.2/\b=bsA d.1 d.2:=by
 unfold Fm at h;split at h
 ·split at h
  ·rename_i ht;obtain ⟨rfl,rfl⟩:=ht;cases h;exact ⟨rfl,rfl⟩
  ·cases h
 ·cases h
def vz (l:List St3):Bool:=decide (l.length<=1000000)&&l.all fun x=>inR x.2.2
def Am (p:PA1) (a:AA1):Bool:=decide (p.k=p.l.length)&&decide (p.n=(p.k:Int))&&decide (0<=a.i)&&decide (a.i<=p.n)&&decide (0<=a.c)&&decide (a.c<=a.i)&&inR a.s&&vz p.l
def RL (age:Int) (x:St3):Bool:=KQ x&&decide (age<=x.2.1)
def yk (p:PA1) (a:AA1):Option AA1 :=
 if a.i<p.n then some (if RL p.age (g3 p.l a.i)=true then ⟨bY (a.s+(g3 p.l a.i).2.2),a.c+1,a.u||(jf (a.s+(g3 p.l a.i).2.2)==2),a.i+1⟩ else ⟨a.s,a.c,a.u,a.i+1⟩) else none
def outA (p:PA1) (a:AA1):T (Ex × St):=.ret (.exit 0,bI [1,5,10,11,12] [0,1] 1000 54 (vsA p a) (bsA p a))
theorem U1 {l:List St3} {i:Int} (h0:0<=i) (h:i<l.length):∃ x,l[i.toNat]?=some x/\g3 l i=x:=by
 have hl:i.toNat<l.length:=by omega
 refine ⟨l[i.toNat],by simp [hl],?_⟩;unfold g3;rw [Nat.zero_add,ae0,No hl];rfl
theorem IU {l:List St3} (h:vz l=true) {i:Int} (h0:0<=i) (hi:i<l.length):inR (g3 l i).2.2=true:=by
 obtain ⟨x,h1,h2⟩:=U1 h0 hi;rw [h2];unfold vz at h;simp only [AS,ae2] at h;exact h.2 x (List.mem_of_getElem? h1)
theorem rv (n:Int):inR (bY n)=true:=bT.2 (jd n)
theorem stA (p:PA1) (a b:AA1) (h:Am p a=true) (e:yk p a=some b):Am p b=true/\(p.n - b.i).toNat<(p.n - a.i).toNat:=by
 obtain ⟨s,c,u,i⟩:=a;unfold yk at e;split at e
 ·rename_i hc;obtain rfl:=AI e;simp only [Am,AS,AT] at h hc ⊢;obtain ⟨⟨⟨⟨⟨⟨⟨h1,h2⟩,h3⟩,h4⟩,h5⟩,h6⟩,h7⟩,h8⟩:=h;split
  ·exact ⟨⟨⟨⟨⟨⟨⟨⟨h1,h2⟩,by show 0<=i+1;omega⟩,by show i+1<=p.n;omega⟩,by show 0<=c+1;omega⟩,by show c+1<=i+1;omega⟩,rv _⟩,h8⟩,by show (p.n - (i+1)).toNat<(p.n - i).toNat;omega⟩
  ·exact ⟨⟨⟨⟨⟨⟨⟨⟨h1,h2⟩,by show 0<=i+1;omega⟩,by show i+1<=p.n;omega⟩,h5⟩,by show c<=i+1;omega⟩,h7⟩,h8⟩,by show (p.n - (i+1)).toNat<(p.n - i).toNat;omega⟩
 ·cases e
theorem ER:aI PL ad1 (gS [1,5,10,11,12] SA 1000 1000 54 Fm Am yk outA):=by
 refine cY (vs:=vsA) (bs:=bsA) Q3 mixed (az _) xc (fun p a=>(p.n - a.i).toNat) stA fun ⟨age,l,k,n⟩ ⟨s,c,u,i⟩ h => ?_;have e:T.anon (aY PL ab ad1 [1,5,10,11,12] SA 1000 1000 (bI [1,5,10,11,12] (aF SA) 1000 54 (vsA ⟨age,l,k,n⟩ ⟨s,c,u,i⟩) (bsA ⟨age,l,k,n⟩ ⟨s,c,u,i⟩)))=rtA age l k n s c u i:=by kernel_rfl
 rw [<- T.ael (t:=aY _ _ _ _ _ _ _ _),e];clear e;simp only [Am,AS,AT] at h;obtain ⟨⟨⟨⟨⟨⟨⟨rfl,rfl⟩,h3⟩,h4⟩,h5⟩,h6⟩,h7⟩,h8⟩:=h;have hlen:l.length<=1000000:=by unfold vz at h8;simp only [AS,AT] at h8;exact h8.1
 simp only [yk,outA];unfold rtA;by_cases hc:i<l.length
 ·rw [if_pos hc];have h9:=IU h8 h3 hc;generalize g3 l i=x at *
  refine ⟨fun b hb => ?_,fun h=>by cases h⟩;obtain rfl:=AI hb;rw [wrap64_in (n:=i+1) (by omega) (by omega),wrap64_in (n:=c+1) (by omega) (by omega)];refine aB (by (first | with_reducible rfl | assumption | (simp only [ef,eV,AS,afj,Bool.and_eq_false_iff,Bool.or_eq_false_iff,AT,afb,beq_iff_eq,bne_iff_ne,ae3,bne_eq_false_iff_eq,Bool.not_eq_true',Bool.not_eq_false',ne_eq,Bool.true_and,Bool.and_true,Bool.false_and,Bool.and_false,Bool.true_or,Bool.or_true,Bool.not_true,Bool.not_false,Bool.cond_true,Bool.cond_false,true_and,and_true];first | done | omega))) (aB (by (first | with_reducible rfl | assumption | (simp only [ef,eV,AS,afj,Bool.and_eq_false_iff,Bool.or_eq_false_iff,AT,afb,beq_iff_eq,bne_iff_ne,ae3,bne_eq_false_iff_eq,Bool.not_eq_true',Bool.not_eq_false',ne_eq,Bool.true_and,Bool.and_true,Bool.false_and,Bool.and_false,Bool.true_or,Bool.or_true,Bool.not_true,Bool.not_false,Bool.cond_true,Bool.cond_false,true_and,and_true];first | done | omega))) (aB (by (first | with_reducible rfl | assumption | (simp only [ef,eV,AS,afj,Bool.and_eq_false_iff,Bool.or_eq_false_iff,AT,afb,beq_iff_eq,bne_iff_ne,ae3,bne_eq_false_iff_eq,Bool.not_eq_true',Bool.not_eq_false',ne_eq,Bool.true_and,Bool.and_true,Bool.false_and,Bool.and_false,Bool.true_or,Bool.or_true,Bool.not_true,Bool.not_false,Bool.cond_true,Bool.cond_false,true_and,and_true];first | done | omega))) ?_));by_cases hm:RL age x=true
  ·rw [if_pos hm];unfold RL at hm;simp only [AS,AT] at hm;refine tev_else (by rw [show (x.1,x.2.1,x.2.2)=x from rfl,hm.1];simp;omega) (aB (by rw [h7,h9];rfl) ?_);cases u<;>rfl
  ·rw [if_neg hm];refine aB ?_ rfl;rw [show (x.1,x.2.1,x.2.2)=x from rfl];unfold RL at hm;simp only [AS,AT,not_and] at hm;by_cases hr:KQ x=true
   ·have:=hm hr;rw [hr];simp;omega
   ·rw [show KQ x=false by simpa using hr];rfl
 ·rw [if_neg hc];refine ⟨fun b hb=>(by cases hb),fun _ r hr => ?_⟩;obtain rfl:=AI hr;exact ⟨by simp,tev_else (by (first | with_reducible rfl | assumption | (simp only [ef,eV,AS,afj,Bool.and_eq_false_iff,Bool.or_eq_false_iff,AT,afb,beq_iff_eq,bne_iff_ne,ae3,bne_eq_false_iff_eq,Bool.not_eq_true',Bool.not_eq_false',ne_eq,Bool.true_and,Bool.and_true,Bool.false_and,Bool.and_false,Bool.true_or,Bool.or_true,Bool.not_true,Bool.not_false,Bool.cond_true,Bool.cond_false,true_and,and_true];first | done | omega))) rfl⟩
def wJ:List (Nat × bD):=[(3,gS [1,5,10,11,12] SA 1000 1000 54 Fm Am yk outA)]
theorem ack:findL wJ 3=some (gS [1,5,10,11,12] SA 1000 1000 54 Fm Am yk outA):=rfl
theorem abb:ar ad1=some 3:=by kernel_rfl
theorem PT:∀ a∈bN (codeOf Tryz.prog 149),∀ sp,bX wJ a=some sp->aI PL a sp:=by
 have e:bN (codeOf Tryz.prog 149)=[ad1]:=by kernel_rfl
 rw [e];intro a ha;rcases ae8.1 ha with h | ha
 ·rw [h];exact dG abb ack ER
 ·cases ha
def stepT (age:Int) (t:Tot) (x:St3):Tot:=if RL age x=true then ⟨bY (t.s+x.2.2),t.n+1,t.c||(jf (t.s+x.2.2)==2)⟩ else t
def ld (age:Int) (l:List St3):Tot:=l.foldl (stepT age) ⟨0,0,false⟩
theorem uE (age:Int) (l:List St3) (x:St3):ld age (l++[x])=stepT age (ld age l) x:=by unfold ld;rw [List.foldl_append];rfl
theorem EP {l:List St3} {i:Int} (h0:0<=i) (h:i<l.length):l.take (i+1).toNat=l.take i.toNat++[g3 l i]:=by
 obtain ⟨x,h1,h2⟩:=U1 h0 h;rw [h2,show (i+1).toNat=i.toNat+1 by omega,List.take_add_one,h1];rfl
theorem endA {p:PA1} (h:Am p ⟨0,0,false,0⟩=true):cC (yk p) ⟨0,0,false,0⟩=⟨(ld p.age p.l).s,(ld p.age p.l).n,(ld p.age p.l).c,p.n⟩:=by
 obtain ⟨h1,h2,h3⟩:=cE (stA p) h;have h4:=h3 (fun a=>(⟨a.s,a.c,a.u⟩:Tot)=ld p.age (p.l.take a.i.toNat)) rfl fun a b hi hq e=>by
  obtain ⟨s,c,u,i⟩:=a;simp only [Am,AS,AT] at hi;unfold yk at e;split at e
  ·rename_i hc;obtain rfl:=AI e;dsimp only at hc hq ⊢;have:i<p.l.length:=by omega
   have ht:=EP (l:=p.l) (i:=i) hi.1.1.1.1.1.2 this;split
   ·rename_i hm;dsimp only;rw [ht,uE,<- hq];unfold stepT;rw [if_pos hm]
   ·rename_i hm;dsimp only;rw [ht,uE,<- hq];unfold stepT;rw [if_neg hm]
  ·cases e
 generalize cC (yk p) ⟨0,0,false,0⟩=E at *
 obtain ⟨s,c,u,i⟩:=E;simp only [Am,AS,AT] at h1;unfold yk at h2;split at h2
 ·cases h2
 ·rename_i hc;dsimp only at hc h4;have hi:i=p.n:=by omega
  subst hi;have:p.l.take p.n.toNat=p.l:=afg (by omega);rw [this] at h4;rw [<- h4]
def ka:V:=.iface 292 (.agg [])
def pt (t:Tot):V:=.iface 208 (.agg [iv t.s,iv t.n,bv t.c])
def Zw:Eng.Spec
 | [.orow t [.int .i64,.int .i64,.int .i64] l,.s (.int .i64 age)]=>if t=214 then .ite none (vz l) (.ite none ((ld age l).n==0) (.ret ka) (.ret (pt (ld age l)))) .fail else .fail
 | _=>.fail
theorem Oe (l:List St3) (age:Int):T.anon (aK PL (bX wJ) 149 [.orow 214 [.int .i64,.int .i64,.int .i64] l,iv age]) =
  T.ite none (Am ⟨age,l,l.length,l.length⟩ ⟨0,0,false,0⟩) (T.ite none ((cC (yk ⟨age,l,l.length,l.length⟩) ⟨0,0,false,0⟩).c==0) (.ret ka)
   (.ret (pt ⟨(cC (yk ⟨age,l,l.length,l.length⟩) ⟨0,0,false,0⟩).s,(cC (yk ⟨age,l,l.length,l.length⟩) ⟨0,0,false,0⟩).c,(cC (yk ⟨age,l,l.length,l.length⟩) ⟨0,0,false,0⟩).u⟩))) .fail:=by kernel_rfl
theorem add_eval (l:List St3) (age:Int) (v:V) (h0:(T.ite none (vz l) (.ite none ((ld age l).n==0) (.ret ka) (.ret (pt (ld age l)))) .fail).eval=some v) :
  (aK PL (bX wJ) 149 [.orow 214 [.int .i64,.int .i64,.int .i64] l,iv age]).eval=some v/\flat v=true:=by
 obtain ⟨hk,h⟩:=aJ h0;have hi:Am ⟨age,l,l.length,l.length⟩ ⟨0,0,false,0⟩=true:=by
  simp only [Am,AS,AT];exact ⟨⟨⟨⟨⟨⟨⟨trivial,trivial⟩,by omega⟩,by omega⟩,by omega⟩,by omega⟩,rfl⟩,hk⟩
 refine ⟨?_,?_⟩
 ·rw [<- T.ael,Oe,endA hi];exact aB hi h
 ·cases q:(ld age l).n==0<;>rw [q] at h<;>(obtain rfl:=AI h;rfl)
theorem L7:an Tryz.prog 149 Zw:=by
 refine (dA (Λ:=bX wJ) Q3 mixed Tryz.func149 (by kernel_rfl) (by kernel_rfl) PT).aer fun args v hfl h => ?_;clear hfl;unfold Zw at h;split at h
 ·rename_i t l age;split at h
  ·rename_i ht;subst ht;obtain ⟨h1,h2⟩:=add_eval l age v h;exact ⟨v,h1,⟨h2,h2⟩,rfl⟩
  ·cases h
 ·cases h
def Q1:Cfg:=⟨Tryz.prog,lookG [(149,.val Zw)],[],0⟩
theorem oU:Q1.Ok:=Cfg.ok ⟨L7,trivial⟩ trivial
def ors (l:List St3):V:=.orow 214 [.int .i64,.int .i64,.int .i64] l
def LF:Eng.Spec:=aK Q1 ab 116
theorem Cz:an Tryz.prog 116 LF:=af oU mixed Tryz.func116 (by kernel_rfl) (by kernel_rfl)
def yY:Eng.Spec:=aK PL ab 117
theorem Dz:an Tryz.prog 117 yY:=af Q3 mixed Tryz.func117 (by kernel_rfl) (by kernel_rfl)
def heardL (y:Int) (l:List St3):Tot:=if (ld y l).n=0 then ld 0 l else ld y l
theorem GZ (y:Int) (t:Tot) (x:St3) (h:0<=t.s/\t.s<=9223372036854775807/\0<=t.n):0<=(stepT y t x).s/\(stepT y t x).s<=9223372036854775807/\0<=(stepT y t x).n/\(stepT y t x).n<=t.n+1:=by
 unfold stepT;split
 ·rename_i hm;unfold RL KQ at hm;simp only [AS,AT] at hm;have:=jd (t.s+x.2.2);refine ⟨?_,this.2,by dsimp only;omega,by dsimp only;omega⟩;dsimp only;unfold bY;split
  ·omega
  ·split<;>omega
 ·omega
theorem yO (y:Int):∀ (l:List St3) (t:Tot),(0<=t.s/\t.s<=9223372036854775807/\0<=t.n)->0<=(l.foldl (stepT y) t).s/\(l.foldl (stepT y) t).s<=9223372036854775807/\0<=(l.foldl (stepT y) t).n/\(l.foldl (stepT y) t).n<=t.n+l.length
 | [],t,h=>⟨h.1,h.2.1,h.2.2,by simp⟩
 | x::r,t,h=>by
  have h1:=GZ y t x h;have h2:=yO y r (stepT y t x) ⟨h1.1,h1.2.1,h1.2.2.1⟩;simp only [List.foldl_cons,List.length_cons];exact ⟨h2.1,h2.2.1,h2.2.2.1,by omega⟩
theorem DB (y:Int) (l:List St3):0<=(ld y l).s/\(ld y l).s<=9223372036854775807/\0<=(ld y l).n/\(ld y l).n<=l.length:=by
 have:=yO y l ⟨0,0,false⟩ ⟨by decide,by decide,by decide⟩;unfold ld;simpa using this
theorem tf (y:Int) (l:List St3):0<=(heardL y l).s/\(heardL y l).s<=9223372036854775807/\0<=(heardL y l).n/\(heardL y l).n<=l.length:=by
 unfold heardL;split
 ·exact DB 0 l
 ·exact DB y l
def Yw {α:Type} (args:List V) (f:List St3->Int->T α):T α :=
 match args with
 | [.orow t [.int .i64,.int .i64,.int .i64] l,.s (.int .i64 y)]=>if t=214 then f l y else .fail
 | _=>.fail
theorem BF {α:Type} {args:List V} {f:List St3->Int->T α} {r:α} (e:(Yw args f).eval=some r):∃ l y,args=[ors l,iv y]/\(f l y).eval=some r:=by
 unfold Yw at e;split at e
 ·split at e
  ·rename_i ht;subst ht;exact ⟨_,_,rfl,e⟩
  ·cases e
 ·cases e
def ry {α:Type} (args:List V) (f:List St3->Int->Int->T α):T α :=
 match args with
 | [.orow t [.int .i64,.int .i64,.int .i64] l,.s (.int .i64 y),.s (.int .i64 r)]=>if t=214 then f l y r else .fail
 | _=>.fail
theorem lK {α:Type} {args:List V} {f:List St3->Int->Int->T α} {r:α} (e:(ry args f).eval=some r):∃ l y z,args=[ors l,iv y,iv z]/\(f l y z).eval=some r:=by
 unfold ry at e;split at e
 ·split at e
  ·rename_i ht;subst ht;exact ⟨_,_,_,rfl,e⟩
  ·cases e
 ·cases e
def JV:Eng.Spec:=fun args=>Yw args fun l y=>.ite none (vz l) (.ite none ((heardL y l).n==0) (.ret ka) (.ret (pt (heardL y l)))) .fail
theorem EN (l:List St3) (y:Int):T.anon (LF [ors l,iv y])=T.ite none (decide (0+l.length<=l.length)) (T.ite none (vz ((l.drop 0).take l.length)) (T.ite none ((ld y ((l.drop 0).take l.length)).n==0)
  (T.ite none (decide (0+l.length<=l.length)) (T.ite none (vz ((l.drop 0).take l.length)) (T.ite none ((ld 0 ((l.drop 0).take l.length)).n==0) (.ret ka) (.ret (pt (ld 0 ((l.drop 0).take l.length))))) .fail) .fail)
  (.ret (pt (ld y ((l.drop 0).take l.length))))) .fail) .fail:=by kernel_rfl
theorem Ka (l:List St3):(l.drop 0).take l.length=l:=by rw [List.drop_zero,List.take_length]
theorem mD {c:Bool} {v1 v2 v:V} (h1:flat v1=true) (h2:flat v2=true) (h:(T.ite none c (.ret v1) (.ret v2)).eval=some v):flat v=true:=by
 cases c<;>(obtain rfl:=AI h)<;>assumption
theorem EW:an Tryz.prog 116 JV:=by
 refine Cz.aer fun args v hfl h => ?_;clear hfl;obtain ⟨l,y,rfl,h1⟩:=BF (show (Yw args _).eval=some v from h);clear h;obtain ⟨hk,h⟩:=aJ h1;refine ⟨v,?_,⟨mD rfl rfl h,mD rfl rfl h⟩,rfl⟩;rw [<- T.ael,EN,Ka];refine aB (by simp) (aB hk ?_);unfold heardL at h;by_cases q:(ld y l).n=0
 ·rw [if_pos q] at h;exact aB (by simpa using q) (aB (by simp) (aB hk h))
 ·rw [if_neg q] at h;have q2:((ld y l).n==0)=false:=by simpa using q
  rw [q2] at h;exact tev_else q2 h
def timesC:Eng.Spec
 | [.s (.int .i64 s),.s (.int .i64 r)]=>.ite none (decide (0<=s)&&decide (s<=9223372036854775807)&&(decide (0<=r)&&decide (r<=9223372036854775807))) (.ite none (decide (9223372036854775807<s*r)) (.ret (.tup [iv 9223372036854775807,.tt])) (.ret (.tup [iv (s*r),.ff]))) .fail
 | _=>.fail
theorem Er (s r:Int):T.anon (yY [iv s,iv r])=T.ite none (inU (IntKind.wrap .u64 s)&&inU (IntKind.wrap .u64 r))
  (T.ite none (bif decide (0<IntKind.wrap .u64 s*IntKind.wrap .u64 r / 18446744073709551616) then true else decide (9223372036854775807<IntKind.wrap .u64 s*IntKind.wrap .u64 r % 18446744073709551616))
   (.ret (.tup [iv 9223372036854775807,.tt])) (.ret (.tup [iv (IntKind.wrap .i64 (IntKind.wrap .u64 s*IntKind.wrap .u64 r % 18446744073709551616)),.ff]))) .fail:=by kernel_rfl
theorem Ej:an Tryz.prog 117 timesC:=by
 refine Dz.aer fun args v hfl h => ?_;clear hfl;unfold timesC at h;split at h
 ·rename_i s r;obtain ⟨hk,h⟩:=aJ h;simp only [AS,AT] at hk;obtain ⟨⟨h1,h2⟩,h3,h4⟩:=hk;refine ⟨v,?_,⟨mD rfl rfl h,mD rfl rfl h⟩,rfl⟩;rw [<- T.ael,show yY [V.s (.int .i64 s),V.s (.int .i64 r)]=yY [iv s,iv r] from rfl,Er,qV,qV,Int.emod_eq_of_lt h1 (by omega),Int.emod_eq_of_lt h3 (by omega)];have hp:0<=s*r:=Int.mul_nonneg h1 h3;generalize s*r=p at *
  refine aB (by unfold inU;simp only [AS,AT];omega) ?_;by_cases q:9223372036854775807<p
  ·rw [sh q] at h;refine aB ?_ h;simp only [eV,afj,AT];omega
  ·rw [BY q] at h;refine tev_else ?_ ?_
   ·simp only [eV,Bool.or_eq_false_iff,afb];omega
   ·rw [show p % 18446744073709551616=p by omega,wrap64_in (by omega) (by omega)];exact h
 ·cases h
def Q2:Cfg:=⟨Tryz.prog,lookG [(116,.val JV),(117,.val timesC)],[],0⟩
theorem Bd:Q2.Ok:=Cfg.ok ⟨EW,Ej,trivial⟩ trivial
def Ep:Eng.Spec:=aK Q2 ab 92
theorem zu:an Tryz.prog 92 Ep:=af Bd mixed Tryz.func92 (by kernel_rfl) (by kernel_rfl)
def spT (l:List St3) (y r:Int):T V:=T.ite none (decide (0+List.length l<=List.length l))
 (T.ite none (vz (List.take (List.length l) (List.drop 0 l)))
  (T.ite none (Tot.n (heardL y (List.take (List.length l) (List.drop 0 l)))==0)
   (T.ret (V.tup [V.s (S.int IntKind.i64 0),V.s (S.int IntKind.i64 7)]))
   (T.ite none (decide (r<0)) (T.ret (V.tup [V.s (S.int IntKind.i64 0),V.s (S.int IntKind.i64 1)]))
    (T.ite none
     (decide (0<=Tot.s (heardL y (List.take (List.length l) (List.drop 0 l))))&&decide (Tot.s (heardL y (List.take (List.length l) (List.drop 0 l)))<=9223372036854775807) &&
      (decide (0<=r)&&decide (r<=9223372036854775807)))
     (T.ite none (decide (9223372036854775807<Tot.s (heardL y (List.take (List.length l) (List.drop 0 l)))*r))
      (T.ite none (bif Tot.c (heardL y (List.take (List.length l) (List.drop 0 l))) then true else true) (T.ite none (Tot.n (heardL y (List.take (List.length l) (List.drop 0 l)))==0) T.fail (T.ret (V.tup [V.s (S.int IntKind.i64 (IntKind.wrap IntKind.i64 (Int.tdiv (9223372036854775807) (Tot.n (heardL y (List.take (List.length l) (List.drop 0 l))))))),V.s (S.int IntKind.i64 2)]))) (T.ite none (Tot.n (heardL y (List.take (List.length l) (List.drop 0 l)))==0) T.fail (T.ret (V.tup [V.s (S.int IntKind.i64 (IntKind.wrap IntKind.i64 (Int.tdiv (9223372036854775807) (Tot.n (heardL y (List.take (List.length l) (List.drop 0 l))))))),V.s (S.int IntKind.i64 0)]))))
      (T.ite none (bif Tot.c (heardL y (List.take (List.length l) (List.drop 0 l))) then true else false) (T.ite none (Tot.n (heardL y (List.take (List.length l) (List.drop 0 l)))==0) T.fail (T.ret (V.tup [V.s (S.int IntKind.i64 (IntKind.wrap IntKind.i64 (Int.tdiv (Tot.s (heardL y (List.take (List.length l) (List.drop 0 l)))*r) (Tot.n (heardL y (List.take (List.length l) (List.drop 0 l))))))),V.s (S.int IntKind.i64 2)]))) (T.ite none (Tot.n (heardL y (List.take (List.length l) (List.drop 0 l)))==0) T.fail (T.ret (V.tup [V.s (S.int IntKind.i64 (IntKind.wrap IntKind.i64 (Int.tdiv (Tot.s (heardL y (List.take (List.length l) (List.drop 0 l)))*r) (Tot.n (heardL y (List.take (List.length l) (List.drop 0 l))))))),V.s (S.int IntKind.i64 0)])))))
     T.fail)))
  T.fail)
 T.fail
def spV (t:Tot) (r:Int):Int:=if t.n=0 then 0 else if r<0 then 0 else Int.tdiv (if 9223372036854775807<t.s*r then 9223372036854775807 else t.s*r) t.n
def spE (t:Tot) (r:Int):Int:=if t.n=0 then 7 else if r<0 then 1 else if 9223372036854775807<t.s*r\/t.c=true then 2 else 0
def E7:Eng.Spec:=fun args=>ry args fun l y r=>.ite none (vz l&&decide (r<=9223372036854775807)) (.ret (dJ (spV (heardL y l) r) (spE (heardL y l) r))) .fail
theorem Lv {a n:Int} (h1:0<=a) (h2:a<=9223372036854775807) (h3:0<n):IntKind.wrap .i64 (Int.tdiv a n)=Int.tdiv a n:=by
 rw [Int.tdiv_eq_ediv_of_nonneg h1];exact wrap64_in (by have:=Int.ediv_nonneg h1 (Int.le_of_lt h3);omega) (Int.le_trans (Int.ediv_le_self _ h1) h2)
theorem Aq (l:List St3) (y r:Int):T.anon (Ep [ors l,iv y,iv r])=spT l y r:=by kernel_rfl
theorem AO:an Tryz.prog 92 E7:=by
 refine zu.aer fun args v hfl h => ?_;clear hfl;obtain ⟨l,y,r,rfl,h1⟩:=lK (show (ry args _).eval=some v from h);clear h;obtain ⟨hk,h⟩:=aJ h1;obtain rfl:=AI h;simp only [AS,AT] at hk;refine ⟨dJ (spV (heardL y l) r) (spE (heardL y l) r),?_,⟨rfl,rfl⟩,rfl⟩;rw [<- T.ael,Aq];unfold spT;rw [Ka];refine aB (by simp) (aB hk.1 ?_);obtain ⟨h1,h2,h3,h4⟩:=tf y l;generalize heardL y l=t at *
 obtain ⟨s,n,c⟩:=t;dsimp only at *
 unfold spV spE;by_cases q:n=0
 ·subst q;exact aB rfl rfl
 ·have q2:(n==0)=false:=by simpa using q
  refine tev_else q2 ?_;simp only [q,if_false];by_cases hr:r<0
  ·rw [if_pos hr,if_pos hr];exact aB (sh hr) rfl
  ·rw [if_neg hr,if_neg hr];have hp:0<=s*r:=Int.mul_nonneg h1 (by omega);generalize s*r=p at *
   refine tev_else (BY hr) (aB (by simp only [AS,AT];omega) ?_);by_cases hc:9223372036854775807<p
   ·rw [if_pos hc,if_pos (Or.inl hc)];refine aB (sh hc) ?_;rw [Lv (by decide) (by decide) (by omega)];exact aB (by cases c<;>rfl) (tev_else q2 rfl)
   ·rw [if_neg hc];refine tev_else (BY hc) ?_;rw [Lv hp (by omega) (by omega)];cases c
    ·rw [if_neg (by simp;omega)];exact tev_else rfl (tev_else q2 rfl)
    ·rw [if_pos (Or.inr rfl)];exact aB rfl (tev_else q2 rfl)
end Go.Proofs.YtgpgppncblldiaaGreatDoor.Sta
end
