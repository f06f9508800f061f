import Derived.Below
import Derived.Laws.ComplexArith
import Derived.RowKit
import Derived.IntWalk
import Derived.Orders
import Derived.RowKit3
import Derived.Laws.Tables
import Derived.Laws.Rows
import Derived.Laws.Entries
import Derived.KernelRfl
import Derived.Laws.StructEq
import Derived.Laws.Small
import Derived.Laws.Pointers
import Derived.Laws.AppendOwn
import Derived.Laws.MakeOwn
set_option linter.unusedVariables false
set_option linter.unusedSimpArgs false
noncomputable section
namespace Go
theorem c9 {A : Type _} (a b : A) : (some a = some b) = (a = b) := Option.some.injEq a b
theorem sh {p : Prop} [inst : Decidable p] (h : p) : decide p = true := decide_eq_true h
theorem AI {A : Type _} {a b : A} (h : some a = some b) : a = b := Option.some.inj h
theorem AS (a b : Bool) : ((a && b) = true) = (a = true ∧ b = true) := Bool.and_eq_true a b
theorem AT {p : Prop} [inst : Decidable p] : (decide p = true) = p := decide_eq_true_eq
theorem By {p : Prop} [inst : Decidable p] (h : ¬p) : decide p = false := decide_eq_false h
theorem BY {A : Type _} {B : Type _} {b : A} {x : Option B} {f : B → Option A} : x.bind f = some b ↔ ∃ a, x = some a ∧ f a = some b := Option.bind_eq_some_iff
theorem IN {A : Type _} {as bs : List A} : (as ++ bs).length = as.length + bs.length := List.length_append
theorem IS {p : Prop} [inst : Decidable p] (h : decide p = true) : p := of_decide_eq_true h
theorem IT {A : Type _} {B : Type _} (a : A) (b : B) (c : A) (d : B) : ((a, b) = (c, d)) = (a = c ∧ b = d) := Prod.mk.injEq a b c d
theorem No {A : Type _} (y : A) {a : A} {l : List A} (h : a ∈ l) : a ∈ y :: l := List.mem_cons_of_mem y h
theorem OF {A : Type _} {l : List A} {i : Nat} (h : i < l.length) : l[i]? = some l[i] := List.getElem?_eq_getElem h
theorem ae6 {A : Type _} {B : Type _} {b : A} {x : Option B} {f : B → A} : Option.map f x = some b ↔ ∃ a, x = some a ∧ f a = b := Option.map_eq_some_iff
theorem ae7 {A : Type _} {l : List A} {i : Nat} {a : A} : l.getD i a = l[i]?.getD a := List.getD_eq_getElem?_getD
theorem ae8 {A : Type _} {a : A} {l : List A} : a ∈ a :: l := List.mem_cons_self
theorem ae9 {A : Type _} {p : A → Bool} {l : List A} : l.all p = true ↔ ∀ (x : A), x ∈ l → p x = true := List.all_eq_true
theorem afa (a : Int) : a ≤ a := Int.le_refl a
theorem afb {A : Type _} [BEq A] [LawfulBEq A] {a b : A} : (a == b) = false ↔ a ≠ b := beq_eq_false_iff_ne
theorem afc {A : Type _} {as : List A} {i : Nat} {a : A} : (as.set i a).length = as.length := List.length_set
theorem afd {A : Type _} {b : A} {l : List A} {a : A} : a ∈ b :: l ↔ a = b ∨ a ∈ l := List.mem_cons
theorem afe {A : Type _} {i : Nat} {l : List A} : (List.take i l).length = min i l.length := List.length_take
theorem aff {A : Type _} {l : List A} {n : Nat} (h : n < l.length) : l[n] ∈ l := List.getElem_mem h
theorem afg {p : Prop} [inst : Decidable p] (h : decide p = false) : ¬p := of_decide_eq_false h
theorem afh (n : Nat) : n ≤ n := Nat.le_refl n
theorem afi {p : Prop} {x : Decidable p} : decide p = false ↔ ¬p := decide_eq_false_iff_not
theorem afj {A : Type _} {x : Option A} : x.isSome = true ↔ ∃ a, x = some a := Option.isSome_iff_exists
theorem afk {A : Type _} {B : Type _} {as : List A} (f : A → B) : (List.map f as).length = as.length := List.length_map f
theorem afl {A : Type _} {i : Nat} {l : List A} : (List.drop i l).length = l.length - i := List.length_drop
theorem afm {A : Type _} {i : Nat} {l : List A} (h : l.length ≤ i) : List.take i l = l := List.take_of_length_le h
theorem afn {n m : Nat} (h : Nat.beq n m = true) : n = m := Nat.eq_of_beq_eq_true h
theorem afo {A : Type _} {a b : A} : a ∈ [b] ↔ a = b := List.mem_singleton
theorem afp (a b : Bool) : ((a || b) = true) = (a = true ∨ b = true) := Bool.or_eq_true a b
theorem afq {n m k : Nat} (h : n ≤ m) (g : m ≤ k) : n ≤ k := Nat.le_trans h g
end Go
namespace Go.Eng
def gs:Nat:=5
structure Glob (w:World):Prop where
 size:gs<=w.heap.size
 len:∃ m,w.cell? ⟨0,0,none⟩=some (.int .i64 m)
theorem Glob.keep {w w':World} (h:Glob w) (hb:∀ k,k<gs->w'.heap[k]?=w.heap[k]?):Glob w':=by
 have hs:gs<=w'.heap.size:=by
  rcases Nat.lt_or_ge (gs - 1) w'.heap.size with q | q
  ·unfold gs at q ⊢;omega
  ·have h5:=hb (gs - 1) (by decide);rw [Array.getElem?_eq_none q,Array.getElem?_eq_getElem (by have:=h.size;unfold gs at this ⊢;omega)] at h5;cases h5
 refine ⟨hs,?_⟩;obtain ⟨m,hm⟩:=h.len;refine ⟨m,?_⟩;rw [World.cell?_of_block (w:=w) (hb _ (by decide))];exact hm
end Go.Eng
namespace Go.Flt
open Ieee
def Val (d:Datum) (n:Nat):Prop:=∃ (m:Nat) (q:Nat),d=.number false m (-(q:Int))/\m=n*2 ^ q
theorem two_pos (e:Nat):0<2 ^ e:=Nat.pow_pos (by decide)
theorem yd {n e:Nat} (hn:n≠0):(n*2 ^ e).log2=n.log2+e:=by
 have h1:=Nat.log2_self_le hn;have h2:=Nat.lt_log2_self (n:=n);have hm:n*2 ^ e≠0:=Nat.mul_ne_zero hn (by have:=two_pos e;omega);apply Nat.le_antisymm
 ·have:(n*2 ^ e).log2<n.log2+e+1:=by
   rw [Nat.log2_lt hm,show n.log2+e+1=(n.log2+1)+e by omega,Nat.pow_add];exact Nat.mul_lt_mul_of_pos_right h2 (two_pos e)
  omega
 ·rw [Nat.le_log2 hm,Nat.pow_add];exact Nat.mul_le_mul_right _ h1
theorem oJ (way:Toward) (neg:Bool) (n d:Nat):way.cut neg (n*2 ^ d) d=n:=by
 unfold Toward.cut;by_cases hn:n=0
 ·subst hn;cases way<;>simp [Nat.one_shiftLeft]
 ·have hl:d<=(n*2 ^ d).log2+2:=by rw [yd hn];omega
  have hmin:min d ((n*2 ^ d).log2+2)=d:=by omega
  simp only [hmin,Nat.one_shiftLeft];rw [Nat.mul_div_cancel _ (two_pos d),Nat.mul_mod_left];have hp:0<2 ^ d:=two_pos d;cases way<;>simp<;>omega
def fI (n:Nat):Nat:=if n=0 then 0 else (n.log2+1022)*2 ^ 52+n*2 ^ (52 - n.log2)
theorem vm {n:Nat} (hn:n≠0) (h:n<2 ^ 53):n.log2<=52:=by
 have:=(Nat.log2_lt hn).2 h;omega
theorem adC {n:Nat} (hn:n≠0) (h:n<2 ^ 53):2 ^ 52<=n*2 ^ (52 - n.log2)/\n*2 ^ (52 - n.log2)<2 ^ 53:=by
 have hl:=vm hn h;have h1:=Nat.log2_self_le hn;have h2:=Nat.lt_log2_self (n:=n);constructor
 ·have:2 ^ n.log2*2 ^ (52 - n.log2)<=n*2 ^ (52 - n.log2):=Nat.mul_le_mul_right _ h1
  rwa [<- Nat.pow_add,show n.log2+(52 - n.log2)=52 by omega] at this
 ·have:n*2 ^ (52 - n.log2)<2 ^ (n.log2+1)*2 ^ (52 - n.log2):=Nat.mul_lt_mul_of_pos_right h2 (two_pos _)
  rwa [<- Nat.pow_add,show n.log2+1+(52 - n.log2)=53 by omega] at this
theorem vC {n:Nat} (h:n<2 ^ 53) (q:Nat):double.nearest false (n*2 ^ q) (-(q:Int))=fI n:=by
 unfold Format.nearest fI;by_cases hn:n=0
 ·subst hn;simp [Format.word]
 ·have hm:n*2 ^ q≠0:=Nat.mul_ne_zero hn (by have:=two_pos q;omega);have hl:=vm hn h;obtain ⟨m1,m2⟩:=adC hn h;rw [if_neg hm,if_neg hn,yd hn];have hlp:double.leastPlace = -1074:=by decide
  have hfb:(double.fractionBits:Int)=52:=rfl;have hlast:max (-(q:Int)+((n.log2+q:Nat):Int) - double.fractionBits) double.leastPlace=(n.log2:Int) - 52:=by
   rw [hlp,hfb];omega
  simp only [hlast];have hbin:double.binade=2 ^ 52:=rfl;have hinf:double.infRung=2047*2 ^ 52:=by decide
  rw [hlp,hbin,hinf];have hk:Toward.even.cut false ((n*2 ^ q) <<< (-(q:Int) - ((n.log2:Int) - 52)).toNat) (((n.log2:Int) - 52) - -(q:Int)).toNat=n*2 ^ (52 - n.log2):=by
   by_cases c:q<=52 - n.log2
   ·have e1:(-(q:Int) - ((n.log2:Int) - 52)).toNat=52 - n.log2 - q:=by omega
    have e2:(((n.log2:Int) - 52) - -(q:Int)).toNat=0:=by omega
    rw [e1,e2,Nat.shiftLeft_eq,Nat.mul_assoc,<- Nat.pow_add,show q+(52 - n.log2 - q)=52 - n.log2 by omega];have:=oJ .even false (n*2 ^ (52 - n.log2)) 0;simpa using this
   ·have e1:(-(q:Int) - ((n.log2:Int) - 52)).toNat=0:=by omega
    have e2:(((n.log2:Int) - 52) - -(q:Int)).toNat=q - (52 - n.log2):=by omega
    rw [e1,e2,Nat.shiftLeft_zero];have:=oJ .even false (n*2 ^ (52 - n.log2)) (q - (52 - n.log2))
    rwa [Nat.mul_assoc,<- Nat.pow_add,show 52 - n.log2+(q - (52 - n.log2))=q by omega] at this
  rw [hk];have e3:((n.log2:Int) - 52 - -1074).toNat=n.log2+1022:=by omega
  rw [e3];unfold Format.word;have:(n.log2+1022)*2 ^ 52+n*2 ^ (52 - n.log2)<=2047*2 ^ 52:=by omega
  rw [if_neg (by simp)];exact Nat.min_eq_left this
theorem AO {n:Nat} (h:n<2 ^ 53):FloatKind.nearest .f64 (n:Int)=fI n:=by
 have:=vC h 0;simp only [Nat.pow_zero,Nat.mul_one] at this;rw [<- this];unfold FloatKind.nearest FloatKind.encode;have h1:decide ((n:Int)<0)=false:=by simp
 rw [h1];rfl
theorem val_zero (q:Nat):Val (.number false 0 (-(q:Int))) 0:=⟨0,q,rfl,(Nat.zero_mul _).symm⟩
theorem qY {n:Nat} (h:n<2 ^ 53):Val (double.read (fI n)) n:=by
 unfold fI;by_cases hn:n=0
 ·subst hn;exact val_zero 1074
 ·have hl:=vm hn h;obtain ⟨m1,m2⟩:=adC hn h;rw [if_neg hn];refine ⟨n*2 ^ (52 - n.log2),52 - n.log2,?_,rfl⟩;generalize hK:n*2 ^ (52 - n.log2)=K at *
  unfold Format.read;have hsw:double.signWeight=2 ^ 63:=rfl;have hbin:double.binade=2 ^ 52:=rfl;have hinf:double.infRung=2047*2 ^ 52:=by decide
  have hlp:double.leastPlace = -1074:=by decide
  rw [hsw,hbin,hinf,hlp];have b:(n.log2+1022)*2 ^ 52+K<2 ^ 63:=by omega
  have e1:((n.log2+1022)*2 ^ 52+K) / 2 ^ 63=0:=Nat.div_eq_of_lt b;have e2:((n.log2+1022)*2 ^ 52+K) % 2 ^ 63=(n.log2+1022)*2 ^ 52+K:=Nat.mod_eq_of_lt b;simp only [e1,e2];rw [if_neg (by omega),if_pos (by omega)];have e3:((n.log2+1022)*2 ^ 52+K) / 2 ^ 52=n.log2+1023:=by omega
  have e4:((n.log2+1022)*2 ^ 52+K) % 2 ^ 52=K - 2 ^ 52:=by omega
  rw [e3,e4,show 2 ^ 52+(K - 2 ^ 52)=K by omega,show (-1074+((n.log2+1023 - 1:Nat):Int)) = -((52 - n.log2:Nat):Int) by omega];rfl
theorem rZ (n q a b:Nat) (h:a=b+q):(n*2 ^ q) <<< b=n*2 ^ a:=by
 rw [Nat.shiftLeft_eq,Nat.mul_assoc,<- Nat.pow_add,h,Nat.add_comm q b]
theorem dN (m u:Nat):signed false m u=(m <<< u:Nat):=rfl
theorem aaz {d e:Datum} {a b:Nat} (hd:Val d a) (he:Val e b):∃ r,d.sum e=some r/\Val r (a+b):=by
 obtain ⟨m,q,rfl,rfl⟩:=hd;obtain ⟨m',q',rfl,rfl⟩:=he
 let Q:=max q q'
 have hb:min (-(q:Int)) (-(q':Int)) = -((max q q':Nat):Int):=by omega
 simp only [Datum.sum,hb];have e1:(-(q:Int) - -((max q q':Nat):Int)).toNat=max q q' - q:=by omega
 have e2:(-(q':Int) - -((max q q':Nat):Int)).toNat=max q q' - q':=by omega
 rw [e1,e2,dN,dN,rZ a q (max q q') (max q q' - q) (by omega),rZ b q' (max q q') (max q q' - q') (by omega)];refine ⟨_,rfl,(a+b)*2 ^ max q q',max q q',?_,rfl⟩;have e3:((a*2 ^ max q q':Nat):Int)+((b*2 ^ max q q':Nat):Int)=(((a+b)*2 ^ max q q':Nat):Int):=by rw [<- Int.natCast_add,<- Nat.add_mul]
 rw [e3];congr 1
 ·split
  ·rfl
  ·exact By (Int.not_lt.2 (Int.natCast_nonneg _))
theorem CD {d e:Datum} {a b:Nat} (hd:Val d a) (he:Val e b):d.order e=some (compare (a:Int) (b:Int)):=by
 obtain ⟨m,q,rfl,rfl⟩:=hd;obtain ⟨m',q',rfl,rfl⟩:=he;have hb:min (-(q:Int)) (-(q':Int)) = -((max q q':Nat):Int):=by omega
 simp only [Datum.order,hb];have e1:(-(q:Int) - -((max q q':Nat):Int)).toNat=max q q' - q:=by omega
 have e2:(-(q':Int) - -((max q q':Nat):Int)).toNat=max q q' - q':=by omega
 rw [e1,e2,dN,dN,rZ a q (max q q') (max q q' - q) (by omega),rZ b q' (max q q') (max q q' - q') (by omega)];congr 1;have hp:0<2 ^ max q q':=two_pos _;simp only [compare,compareOfLessAndEq];have l1:(((a*2 ^ max q q':Nat):Int)<((b*2 ^ max q q':Nat):Int))↔(a:Int)<(b:Int):=by
  rw [Int.ofNat_lt,Int.ofNat_lt,Nat.mul_lt_mul_right hp]
 have l2:(((a*2 ^ max q q':Nat):Int)=((b*2 ^ max q q':Nat):Int))↔(a:Int)=(b:Int):=by
  rw [Int.ofNat_inj,Int.ofNat_inj];exact ⟨fun h=>Nat.eq_of_mul_eq_mul_right hp h,fun h=>by rw [h]⟩
 simp only [l1,l2]
theorem Es {d:Datum} {n:Nat} (h:Val d n):d.toInt .zero=some (n:Int):=by
 obtain ⟨m,q,rfl,rfl⟩:=h;have e1:(-(q:Int)).toNat=0:=by omega
 have e2:(- -(q:Int)).toNat=q:=by omega
 simp only [Datum.toInt,Datum.integral,e1,e2,Nat.shiftLeft_zero,oJ,dN]
theorem yj {a b:Nat} (ha:a<2 ^ 53) (hb:b<2 ^ 53):FloatKind.f64.format.order (fI a) (fI b)=some (compare (a:Int) (b:Int)):=CD (qY ha) (qY hb)
theorem Lu {n:Nat} (h:n<2 ^ 53):floatToIntVal .f64 (fI n) .i64=some (n:Int):=by
 unfold floatToIntVal;have:(FloatKind.f64.decode (fI n)).toInt .zero=some (n:Int):=Es (qY h);rw [this];have h1:IntKind.i64.min = -9223372036854775808:=by decide
 have h2:IntKind.i64.max=9223372036854775807:=by decide
 simp only [h1,h2];rw [if_pos (by omega)]
end Go.Flt
namespace Go.Proofs.YtgpgppncblldiaaGreatDoor.Mil
def bZ (n:Int):Int:=if 9223372036854775807<n then 9223372036854775807 else if n < -9223372036854775808 then -9223372036854775808 else n
def jt (n:Int):Int:=if 9223372036854775807<n\/n < -9223372036854775808 then 2 else 0
theorem fh (n:Int) (h1 : -9223372036854775808<=n) (h2:n<=9223372036854775807):bZ n=n/\jt n=0:=by
 unfold bZ jt;rw [if_neg (by omega),if_neg (by omega),if_neg (by omega)];exact ⟨rfl,rfl⟩
theorem Ll (n:Int) (h:9223372036854775807<n):bZ n=9223372036854775807/\jt n=2:=by
 unfold bZ jt;rw [if_pos h,if_pos (Or.inl h)];exact ⟨rfl,rfl⟩
theorem Kp (n:Int) (h:n < -9223372036854775808):bZ n = -9223372036854775808/\jt n=2:=by
 unfold bZ jt;rw [if_neg (by omega),if_pos h,if_pos (Or.inr h)];exact ⟨rfl,rfl⟩
theorem ju (n:Int) : -9223372036854775808<=bZ n/\bZ n<=9223372036854775807:=by
 unfold bZ;split
 ·omega
 ·split<;>omega
def mulI (a b:Int):Int:=a*b / 1000
def dnI (a b:Int):Int:=Int.fdiv a b
def upI (a b:Int):Int := -(Int.fdiv (-a) b)
def upV (a b:Int):Int:=if b=0 then 0 else bZ (upI a b)
def upE (a b:Int):Int:=if b=0 then 3 else jt (upI a b)
def dnV (a b:Int):Int:=if b=0 then 0 else bZ (dnI a b)
def dnE (a b:Int):Int:=if b=0 then 3 else jt (dnI a b)
def aE (a lo hi:Int):Int:=if hi<a then hi else if a<lo then lo else a
end Go.Proofs.YtgpgppncblldiaaGreatDoor.Mil
namespace Go.Proofs.YtgpgppncblldiaaGreatDoor.Conf
open Mil
structure Cf where
 target:Int
 util:Int
 stable:Int
 panic:Int
 grain:Int
 threshold:Int
 up:Int
 down:Int
 min:Int
 max:Int
 initial:Int
 grace:Int
 delay:Int
 burst:Int
 limit:Int
 queue:Int
 timeout:Int
 ready:Int
 subset:Int
 sample:Int
structure Cf.Ok (c:Cf):Prop where
 target : -9223372036854775808<=c.target/\c.target<=9223372036854775807
 util : -9223372036854775808<=c.util/\c.util<=9223372036854775807
 stable : -9223372036854775808<=c.stable/\c.stable<=9223372036854775807
 panic : -9223372036854775808<=c.panic/\c.panic<=9223372036854775807
 grain : -9223372036854775808<=c.grain/\c.grain<=9223372036854775807
 threshold : -9223372036854775808<=c.threshold/\c.threshold<=9223372036854775807
 up : -9223372036854775808<=c.up/\c.up<=9223372036854775807
 down : -9223372036854775808<=c.down/\c.down<=9223372036854775807
 min : -9223372036854775808<=c.min/\c.min<=9223372036854775807
 max : -9223372036854775808<=c.max/\c.max<=9223372036854775807
 initial : -9223372036854775808<=c.initial/\c.initial<=9223372036854775807
 grace : -9223372036854775808<=c.grace/\c.grace<=9223372036854775807
 delay : -9223372036854775808<=c.delay/\c.delay<=9223372036854775807
 burst : -9223372036854775808<=c.burst/\c.burst<=9223372036854775807
 limit : -9223372036854775808<=c.limit/\c.limit<=9223372036854775807
 queue : -9223372036854775808<=c.queue/\c.queue<=9223372036854775807
 timeout : -9223372036854775808<=c.timeout/\c.timeout<=9223372036854775807
 ready : -9223372036854775808<=c.ready/\c.ready<=9223372036854775807
 subset : -9223372036854775808<=c.subset/\c.subset<=9223372036854775807
 sample : -9223372036854775808<=c.sample/\c.sample<=9223372036854775807
def fy (n lo hi:Int):Bool:=decide (n<lo)||decide (hi<n)
def fj (c:Cf):Int:=if c.max=0 then 100 else c.max
def KI (c:Cf):Int:=max (bZ (mulI c.target c.util)) 1
def nq (c:Cf):List UInt8 :=
 if fy c.target 10 1000000 then [116,97,114,103,101,116] else
 if fy c.util 100 1000 then [117,116,105,108] else
 if fy c.stable 6 600 then [115,116,97,98,108,101] else
 if fy c.panic 1 c.stable then [112,97,110,105,99] else
 if fy c.grain 1 c.panic then [103,114,97,105,110] else
 if fy c.threshold 1100 10000 then [116,104,114,101,115,104,111,108,100] else
 if fy c.up 1001 1000000 then [117,112] else
 if fy c.down 1001 1000000 then [100,111,119,110] else
 if fy c.min 0 100 then [109,105,110] else
 if (!(c.max==0)&&fy c.max (max c.min 1) 100) then [109,97,120] else
 if fy c.initial 0 (fj c) then [105,110,105,116,105,97,108] else
 if fy c.grace 0 600 then [103,114,97,99,101] else
 if fy c.delay 0 600 then [100,101,108,97,121] else
 if (!(c.burst == -1000)&&fy c.burst 0 100000000) then [98,117,114,115,116] else
 if fy c.limit 1 1000 then [108,105,109,105,116] else
 if fy c.queue 0 200 then [113,117,101,117,101] else
 if fy c.timeout 1 10000 then [116,105,109,101,111,117,116] else
 if fy c.ready 0 100 then [114,101,97,100,121] else
 if fy c.subset 0 100 then [115,117,98,115,101,116] else
 if fy c.sample 0 100 then [115,97,109,112,108,101] else
 []
def dC (c:Cf):Bool:=(nq c).isEmpty
theorem aU {n lo hi:Int} (h:fy n lo hi=false):lo<=n/\n<=hi:=by
 unfold fy at h;simp only [Bool.or_eq_false_iff,afi] at h;omega
structure Cf.May (c:Cf):Prop where
 target:10<=c.target/\c.target<=1000000
 util:100<=c.util/\c.util<=1000
 stable:6<=c.stable/\c.stable<=600
 panic:1<=c.panic/\c.panic<=c.stable
 grain:1<=c.grain/\c.grain<=c.panic
 threshold:1100<=c.threshold/\c.threshold<=10000
 up:1001<=c.up/\c.up<=1000000
 down:1001<=c.down/\c.down<=1000000
 min:0<=c.min/\c.min<=100
 max:c.max=0\/(c.min<=c.max/\1<=c.max/\c.max<=100)
 initial:0<=c.initial/\c.initial<=fj c
 grace:0<=c.grace/\c.grace<=600
 delay:0<=c.delay/\c.delay<=600
 burst:c.burst = -1000\/(0<=c.burst/\c.burst<=100000000)
 limit:1<=c.limit/\c.limit<=1000
 queue:0<=c.queue/\c.queue<=200
 timeout:1<=c.timeout/\c.timeout<=10000
 ready:0<=c.ready/\c.ready<=100
 subset:0<=c.subset/\c.subset<=100
 sample:0<=c.sample/\c.sample<=100
theorem cj {b:Bool} {x y:List UInt8} (hx:x≠[]) (h:(if b=true then x else y)=[]):b=false/\y=[]:=by
 cases b
 ·exact ⟨rfl,by simpa using h⟩
 ·exact absurd (by simpa using h) hx
theorem may_of {c:Cf} (h:dC c=true):c.May:=by
 have h:nq c=[]:=by simpa [dC] using h
 unfold nq at h;obtain ⟨e0,h⟩:=cj (by decide) h;obtain ⟨e1,h⟩:=cj (by decide) h;obtain ⟨e2,h⟩:=cj (by decide) h;obtain ⟨e3,h⟩:=cj (by decide) h;obtain ⟨e4,h⟩:=cj (by decide) h;obtain ⟨e5,h⟩:=cj (by decide) h;obtain ⟨e6,h⟩:=cj (by decide) h;obtain ⟨e7,h⟩:=cj (by decide) h;obtain ⟨e8,h⟩:=cj (by decide) h;obtain ⟨e9,h⟩:=cj (by decide) h;obtain ⟨e10,h⟩:=cj (by decide) h;obtain ⟨e11,h⟩:=cj (by decide) h;obtain ⟨e12,h⟩:=cj (by decide) h;obtain ⟨e13,h⟩:=cj (by decide) h;obtain ⟨e14,h⟩:=cj (by decide) h;obtain ⟨e15,h⟩:=cj (by decide) h;obtain ⟨e16,h⟩:=cj (by decide) h;obtain ⟨e17,h⟩:=cj (by decide) h;obtain ⟨e18,h⟩:=cj (by decide) h;obtain ⟨e19,h⟩:=cj (by decide) h;have emax:c.max=0\/(c.min<=c.max/\1<=c.max/\c.max<=100):=by
  simp only [Bool.and_eq_false_iff,Bool.not_eq_false',beq_iff_eq] at e9;rcases e9 with e | e
  ·exact .inl e
  ·have:=aU e;omega
 have eburst:c.burst = -1000\/(0<=c.burst/\c.burst<=100000000):=by
  simp only [Bool.and_eq_false_iff,Bool.not_eq_false',beq_iff_eq] at e13;rcases e13 with e | e
  ·exact .inl e
  ·exact .inr (aU e)
 exact ⟨aU e0,aU e1,aU e2,aU e3,aU e4,aU e5,aU e6,aU e7,aU e8,emax,aU e10,aU e11,aU e12,eburst,aU e14,aU e15,aU e16,aU e17,aU e18,aU e19⟩
theorem E7 {c:Cf} (h:c.May):1<=fj c/\fj c<=100/\c.min<=fj c:=by
 unfold fj;have h1:=h.min;rcases h.max with e | e
 ·rw [if_pos e];omega
 ·rw [if_neg (by omega)];omega
end Go.Proofs.YtgpgppncblldiaaGreatDoor.Conf
namespace Go.Eng
open Go.RowKit
inductive S where
 | bool (b:Bool) | int (k:IntKind) (n:Int) | float (k:FloatKind) (b:Nat) | cx (k:FloatKind) (re im:Nat) | str (s:ByteArray) | ifc (t:TypeId) (s:S) | nilI | sli (a:Option Addr) (n cap:Nat)
def S.den:S->Value
 | .bool b=>.bool b | .int k n=>.int k n | .float k b=>.float k b | .cx k a b=>.complex k a b | .str s=>.string s | .ifc t s=>.iface t s.den | .nilI=>.nilIface | .sli a n cap=>.slice a n cap
inductive K where
 | int (k:IntKind) | bool | str | fl (k:FloatKind) | cx (k:FloatKind) | any | sl
 deriving DecidableEq
def K.T:K->Type
 | .int _=>Int
 | .bool=>Bool
 | .str=>ByteArray
 | .fl _=>Nat
 | .cx _=>Nat × Nat
 | .any=>Option (TypeId × S)
 | .sl=>Option Addr × Nat × Nat
def K.s:(k:K)->k.T->S
 | .int k,n=>.int k n
 | .bool,b=>.bool b
 | .str,s=>.str s
 | .fl k,b=>.float k b
 | .cx k,z=>.cx k z.1 z.2
 | .any,none=>.nilI
 | .any,some z=>.ifc z.1 z.2
 | .sl,z=>.sli z.1 z.2.1 z.2.2
def Row:List K->Type
 | []=>Unit
 | [k]=>k.T
 | k::k2::r=>k.T × Row (k2::r)
def Row.cells:(ks:List K)->Row ks->List S
 | [],_=>[]
 | [k],x=>[k.s x]
 | k::k2::r,x=>k.s x.1::Row.cells (k2::r) x.2
theorem Row.aew:∀ (ks:List K) (x:Row ks),(Row.cells ks x).length=ks.length
 | [],_=>rfl
 | [k],x=>rfl
 | k::k2::r,x=>by simp only [Row.cells,List.length_cons,Row.aew (k2::r) x.2]
def aN (ks:List K) (l:List (Row ks)):List Value:=l.flatMap fun x=>(Row.cells ks x).map S.den
inductive V where
 | s (x:S)
 /- a whole number that the text itself tells -/
 | n (k:IntKind) (x:Int)
 /- v where dj i is w,else nothing -/
 | may (i:Nat) (w:Bool) (v:V)
 | tt | ff
 | b (i:Nat)
 | ptr (i off:Nat)
 | iface (t:TypeId) (v:V)
 | nilIface | nilPtr | nilSl
 /- a slice of the block i: where it begins,its length,its capacity -/
 | sl (i off len cap:Nat)
 /- (read for a contract) a slice whose block holds these cells -/
 | row (t:TypeId) (l:List V) (off len cap:Nat)
 | agg (l:List V) | tup (l:List V)
 | raw (v:Value)
 | junk
 /- a place in the rows of block i,of sz cells each -/
 | pr (i sz row fld:Nat)
 /- len rows of block i,from row off on -/
 | sub (i sz off len:Nat)
 /- (read for a contract) a slice that holds these rows -/
 | orow (t:TypeId) (ks:List K) (l:List (Row ks))
structure Core where
 blk:Nat
 off:Nat
 cap:Nat
 at_:Option Addr
 cond:Bool
structure Slot where
 core:Core
 fp:Nat->Prop
abbrev Env:=Nat->Slot
mutual
def V.den (ν:Env):V->Value
 | .s x=>x.den
 | .n k x=>.int k x
 | .may i w v=>bif (ν i).core.cond==w then v.den ν else undef
 | .tt=>.bool true
 | .ff=>.bool false
 | .b i=>.bool (ν i).core.cond
 | .ptr i off=>.pointer (some ⟨(ν i).core.blk,(ν i).core.off+off,none⟩)
 | .iface t v=>.iface t (v.den ν)
 | .nilIface=>.nilIface
 | .nilPtr=>.pointer none
 | .nilSl=>.slice none 0 0
 | .sl i off len cap=>.slice (some ⟨(ν i).core.blk,(ν i).core.off+off,none⟩) len cap
 | .agg l=>.agg (aH ν l).toArray
 | .tup l=>.tuple (aH ν l).toArray
 | .raw v=>v
 | .row _ _ _ _ _=>undef
 | .orow _ _ _=>undef
 | .pr i sz row fld=>.pointer (some (((ν i).core.at_.getD ⟨0,0,none⟩).add (row*sz+fld)))
 | .sub i sz off len=>.slice ((ν i).core.at_.map fun a=>if (ν i).core.cap=off then a else a.add (off*sz)) len ((ν i).core.cap - off)
 | .junk=>undef
def aH (ν:Env):List V->List Value
 | []=>[]
 | v::r=>v.den ν::aH ν r
end
theorem ax (ν:Env):∀ l,aH ν l=l.map (V.den ν)
 | []=>rfl
 | v::r=>by simp [aH,ax ν r]
mutual
def V.ok (p:Nat->Bool):V->Bool
 | .b i=>p i
 | .may i _ v=>p i&&v.ok p
 | .ptr i _=>p i
 | .sl i _ _ _=>p i
 | .iface _ v=>v.ok p
 | .agg l=>okL p l
 | .tup l=>okL p l
 | .row _ _ _ _ _=>false
 | .orow _ _ _=>false
 | .pr i _ _ _=>p i
 | .sub i _ _ _=>p i
 | .junk=>false
 | _=>true
def okL (p:Nat->Bool):List V->Bool
 | []=>true
 | v::r=>v.ok p&&okL p r
end
theorem ka (p:Nat->Bool):∀ l,okL p l=true↔∀ v∈l,v.ok p=true
 | []=>by simp [okL]
 | v::r=>by simp [okL,ka p r]
mutual
theorem V.aeA {p q:Nat->Bool} (h:∀ i,p i=true->q i=true):∀ v:V,v.ok p=true->v.ok q=true
 | .b i,e=>by simp only [V.ok] at *;exact h i e
 | .may i _ v,e=>by simp only [V.ok,AS] at *;exact ⟨h i e.1,V.aeA h v e.2⟩
 | .n _ _,_=>rfl
 | .ptr i _,e=>by simp only [V.ok] at *;exact h i e
 | .sl i _ _ _,e=>by simp only [V.ok] at *;exact h i e
 | .iface _ v,e=>by simp only [V.ok] at *;exact V.aeA h v e
 | .agg l,e=>by simp only [V.ok] at *;exact gB h l e
 | .tup l,e=>by simp only [V.ok] at *;exact gB h l e
 | .row _ _ _ _ _,e=>by simp [V.ok] at e
 | .orow _ _ _,e=>by simp [V.ok] at e
 | .pr i _ _ _,e=>by simp only [V.ok] at *;exact h i e
 | .sub i _ _ _,e=>by simp only [V.ok] at *;exact h i e
 | .junk,e=>by simp [V.ok] at e
 | .s _,_=>rfl
 | .tt,_=>rfl
 | .ff,_=>rfl
 | .nilIface,_=>rfl
 | .nilPtr,_=>rfl
 | .nilSl,_=>rfl
 | .raw _,_=>rfl
theorem gB {p q:Nat->Bool} (h:∀ i,p i=true->q i=true):∀ l:List V,okL p l=true->okL q l=true
 | [],_=>rfl
 | v::r,e=>by simp only [okL,AS] at *;exact ⟨V.aeA h v e.1,gB h r e.2⟩
end
mutual
theorem V.aev {ν ν':Env} {p:Nat->Bool} (h:∀ i,p i=true->(ν i).core=(ν' i).core):∀ v:V,v.ok p=true->v.den ν=v.den ν'
 | .b i,e=>by simp only [V.ok,V.den] at *;rw [h i e]
 | .may i _ v,e=>by simp only [V.ok,V.den,AS] at *;rw [h i e.1,V.aev h v e.2]
 | .n _ _,_=>rfl
 | .ptr i _,e=>by simp only [V.ok,V.den] at *;rw [h i e]
 | .sl i _ _ _,e=>by simp only [V.ok,V.den] at *;rw [h i e]
 | .iface _ v,e=>by simp only [V.ok,V.den] at *;rw [V.aev h v e]
 | .agg l,e=>by simp only [V.ok,V.den] at *;rw [cg h l e]
 | .tup l,e=>by simp only [V.ok,V.den] at *;rw [cg h l e]
 | .row _ _ _ _ _,e=>by simp [V.ok] at e
 | .orow _ _ _,e=>by simp [V.ok] at e
 | .pr i _ _ _,e=>by simp only [V.ok,V.den] at *;rw [h i e]
 | .sub i _ _ _,e=>by simp only [V.ok,V.den] at *;rw [h i e]
 | .junk,e=>by simp [V.ok] at e
 | .s _,_=>rfl
 | .tt,_=>rfl
 | .ff,_=>rfl
 | .nilIface,_=>rfl
 | .nilPtr,_=>rfl
 | .nilSl,_=>rfl
 | .raw _,_=>rfl
theorem cg {ν ν':Env} {p:Nat->Bool} (h:∀ i,p i=true->(ν i).core=(ν' i).core):∀ l:List V,okL p l=true->aH ν l=aH ν' l
 | [],_=>rfl
 | v::r,e=>by simp only [okL,AS,aH] at *;rw [V.aev h v e.1,cg h r e.2]
end
inductive T (α:Type) where
 | ret (a:α) | ite (i:Option Nat) (c:Bool) (x y:T α) | fail
def T.bind {α β:Type}:T α->(α->T β)->T β
 | .ret a,f=>f a
 | .ite i c x y,f=>.ite i c (x.bind f) (y.bind f)
 | .fail,_=>.fail
def T.eval {α:Type}:T α->Option α
 | .ret a=>some a
 | .ite _ c x y=>bif c then x.eval else y.eval
 | .fail=>none
theorem T.aey {α β:Type} (f:α->T β):∀ t:T α,(t.bind f).eval=t.eval.bind fun a=>(f a).eval
 | .ret a=>rfl
 | .ite i c x y=>by cases c<;>simp [T.bind,T.eval,T.aey f x,T.aey f y]
 | .fail=>rfl
theorem T.aes {α β:Type} {f:α->T β} {t:T α} {r:β} (h:(t.bind f).eval=some r):∃ a,t.eval=some a/\(f a).eval=some r:=by
 rw [T.aey] at h;cases ht:t.eval with
 | none=>rw [ht] at h;cases h
 | some a=>rw [ht] at h;exact ⟨a,rfl,h⟩
def T.strip {α:Type}:T α->T α
 | .ret a=>.ret a
 | .ite _ c x y=>.ite none c x.strip y.strip
 | .fail=>.fail
theorem T.aeH {α:Type}:∀ t:T α,t.strip.eval=t.eval
 | .ret a=>rfl
 | .ite i c x y=>by simp [T.strip,T.eval,T.aeH x,T.aeH y]
 | .fail=>rfl
def known (K:List (Nat × Bool)) (i:Nat):Option Bool :=
 match K with
 | []=>none
 | (j,b)::r=>if j==i then some b else known r i
def T.simp {α:Type} (K:List (Nat × Bool)):T α->T α
 | .ret a=>.ret a
 | .fail=>.fail
 | .ite none c x y=>.ite none c (x.simp K) (y.simp K)
 | .ite (some i) c x y=>match known K i with
  | some true=>x.simp K
  | some false=>y.simp K
  | none=>.ite (some i) c (x.simp ((i,true)::K)) (y.simp ((i,false)::K))
inductive Blk where
 | cells (t:TypeId) (l:List V)
 /- cells that are only read -/
 | ro (t:TypeId) (l:List V)
 | leaf (b:Bool)
 /- rows,as many as they be: owned (a slice's whole array is its own),or only read -/
 | lst (own:Bool) (t:TypeId) (ks:List K) (l:List (Row ks))
 /- what was given on -/
 | dead
 /- cells that hold nothing,or the place of a row of their own;of the cells g nothing is known;cell x.1 holds the place of block x.2 -/
 | bx (t tp tb:TypeId) (ks:List K) (l:List (Option (Row ks))) (g:List Nat) (x:Option (Nat × Nat))
 /- rows of their own of which cell p holds a slice of rows of its own: the other cells l,and of each slice how long it is and its rows m (where these are not so many nothing is known of it);the slice of row z.1 is lent as block z.2 -/
 | nst (t:TypeId) (p:Nat) (ks:List K) (ti:TypeId) (ki:List K) (l:List (Row ks)) (m:List (Nat × List (Row ki))) (x:List (Nat × Nat))
def VA (p:Nat->Bool):Option (Nat × Nat)->Bool
 | none=>true
 | some x=>p x.2
def Qx (σ:Nat->Nat):Option (Nat × Nat)->Option (Nat × Nat)
 | none=>none
 | some x=>some (x.1,σ x.2)
theorem CK {p q:Nat->Bool} (h:∀ i,p i=true->q i=true):∀ x,VA p x=true->VA q x=true
 | none,_=>rfl
 | some _,e=>h _ e
theorem HD {σ:Nat->Nat} {p q:Nat->Bool} (h:∀ i,p i=true->q (σ i)=true):∀ x,VA p x=true->VA q (Qx σ x)=true
 | none,_=>rfl
 | some _,e=>h _ e
def O3 (p:Nat->Bool) (x:List (Nat × Nat)):Bool:=x.all fun z=>p z.2
def MO (σ:Nat->Nat) (x:List (Nat × Nat)):List (Nat × Nat):=x.map fun z=>(z.1,σ z.2)
theorem dZ {p:Nat->Bool} {x:List (Nat × Nat)}:O3 p x=true↔∀ z∈x,p z.2=true:=ae9
theorem EC {p q:Nat->Bool} (h:∀ i,p i=true->q i=true) {x:List (Nat × Nat)} (e:O3 p x=true):O3 q x=true:=dZ.2 fun z hz=>h _ (dZ.1 e z hz)
theorem JH {σ:Nat->Nat} {p q:Nat->Bool} (h:∀ i,p i=true->q (σ i)=true) {x:List (Nat × Nat)} (e:O3 p x=true):O3 q (MO σ x)=true:=dZ.2 fun z hz=>by
 obtain ⟨y,hy,rfl⟩:=List.mem_map.1 hz;exact h _ (dZ.1 e y hy)
def Blk.ok (p:Nat->Bool):Blk->Bool
 | .cells _ l=>okL p l
 | .ro _ l=>okL p l
 | .leaf _=>true
 | .lst _ _ _ _=>true
 | .dead=>true
 | .bx _ _ _ _ _ _ x=>VA p x
 | .nst _ _ _ _ _ _ _ x=>O3 p x
theorem Blk.aeA {p q:Nat->Bool} (h:∀ i,p i=true->q i=true):∀ {b:Blk},b.ok p=true->b.ok q=true
 | .cells _ l,e=>gB h l e
 | .ro _ l,e=>gB h l e
 | .leaf _,_=>rfl
 | .lst ..,_=>rfl
 | .dead,_=>rfl
 | .bx _ _ _ _ _ _ x,e=>CK h x e
 | .nst _ _ _ _ _ _ _ x,e=>EC h e
def Blk.owned:Blk->Bool
 | .cells ..=>true
 | .ro ..=>false
 | .leaf _=>false
 | .lst own _ _ _=>own
 | .dead=>false
 | .bx ..=>true
 | .nst ..=>true
def oP {ks:List K} (l:List (Option (Row ks))) (g:List Nat) (lt:Option (Nat × Nat)) (r:Nat) (x:Row ks):Prop:=l[r]?=some (some x)/\r ∉ g/\∀ q,lt=some q->q.1≠r
def Reads (w:World) (at_:Option Addr) (cs:List Value):Prop:=∀ (j:Nat) (u:Value),cs[j]?=some u->∃ a,at_=some a/\w.cell? (a.add j)=some u
def aeD (w:World) (base:Nat) (e:TypeId) (size:Nat) (v:Value) (n:Nat) (xs:List Value):Prop :=
 xs.length=n*size /\
 ((v=.slice none 0 0/\n=0) \/
  ∃ g off cap cur,v=.slice (some ⟨g,off,none⟩) n cap/\base<=g/\w.heap[g]?=some (.cells cur e (0,0))/\n<=cap/\cap<=maxLen/\off+cap*size<=cur.size/\(cur.toList.drop off).take (n*size)=xs)
theorem gx {w:World} {base:Nat} {e:TypeId} {size:Nat} {v:Value} {n:Nat} {xs:List Value} (h:w.ownsRow base e size v n xs):aeD w base e size v n xs :=
 ⟨h.1,h.2.imp id fun ⟨g,cap,cur,h0,h1,h2,h3,h4,h5,h6⟩=>⟨g,0,cap,cur,h0,h1,h2,h3,h4,by omega,by simpa using h6⟩⟩
theorem iF (w:World) (base:Nat) (e:TypeId) (size:Nat):aeD w base e size (.slice none 0 0) 0 []:=⟨by simp,.inl ⟨rfl,rfl⟩⟩
theorem aeD.lt {w:World} {base:Nat} {e:TypeId} {size:Nat} {v:Value} {n:Nat} {xs:List Value} (h:aeD w base e size v n xs):∀ k,v.ownBlock=some k->base<=k/\k<w.heap.size:=by
 intro k hk;rcases h.2 with ⟨rfl,_⟩ | ⟨g,off,cap,cur,rfl,hb,hg,_⟩
 ·simp [Value.ownBlock] at hk
 ·simp [Value.ownBlock] at hk;subst hk;exact ⟨hb,(Array.getElem?_eq_some_iff.1 hg).1⟩
theorem aeD.cells {w:World} {base:Nat} {e:TypeId} {size:Nat} {a:Addr} {n cap:Nat} {xs:List Value} (h:aeD w base e size (.slice (some a) n cap) n xs):∀ j u,xs[j]?=some u->w.cell? (a.add j)=some u:=by
 intro j u hu;rcases h.2 with ⟨h0,_⟩ | ⟨g,off,cap',cur,h0,_,hgg,_,_,_,htake⟩
 ·cases h0
 ·simp only [Value.slice.injEq,c9,true_and] at h0;obtain ⟨rfl,_⟩:=h0;have hadd:(⟨g,off,none⟩:Addr).add j=⟨g,off+j,none⟩:=by unfold Addr.add;split<;>simp_all
  rw [hadd,cell_of_row w g (off+j) cur e (0,0) hgg];rw [<- htake,List.getElem?_take] at hu;split at hu
  ·rw [List.getElem?_drop] at hu;simpa using hu
  ·cases hu
structure pj (ν:Env) (σ:Slot) (w:World) (t tp tb:TypeId) (ks:List K) (l:List (Option (Row ks))) (g:List Nat) (lt:Option (Nat × Nat)) (vals:List Value) (box:Nat->Nat):Prop where
 own:aeD w 0 t 1 (.slice σ.core.at_ l.length σ.core.cap) l.length vals
 emp:∀ r,l[r]?=some none->r ∉ g->(∀ q,lt=some q->q.1≠r)->vals[r]?=some .nilIface
 full:∀ r x,oP l g lt r x->vals[r]?=some (.iface tp (.pointer (some ⟨box r,0,none⟩)))/\w.heap[box r]?=some (.cells ((Row.cells ks x).map S.den).toArray tb (0,0))
 lent:∀ q,lt=some q->q.1<l.length/\vals[q.1]?=some (.iface tp (.pointer (some ⟨(ν q.2).core.blk,(ν q.2).core.off,none⟩)))
 fp:∀ k,σ.fp k↔(∃ a,σ.core.at_=some a/\k=a.block)\/∃ r x,oP l g lt r x/\k=box r
 inj:∀ r x r' x',oP l g lt r x->oP l g lt r' x'->box r=box r'->r=r'
 apart:∀ r x a,oP l g lt r x->σ.core.at_=some a->box r≠a.block
def cr {β:Type} (m:List (Nat × List β)) (x:List (Nat × Nat)) (r:Nat) (q:Nat × List β):Prop:=m[r]?=some q/\q.2.length=q.1/\∀ z∈x,z.1≠r
def bB (p:Nat) (v:Value) (c:List Value):List Value:=c.take p++v::c.drop p
def cz (p:Nat) (ks:List K) (iv:Nat->Value):Nat->List (Row ks)->List Value
 | _,[]=>[]
 | r,x::l=>bB p (iv r) ((Row.cells ks x).map S.den)++cz p ks iv (r+1) l
structure n9 (ν:Env) (σ:Slot) (w:World) (t:TypeId) (p:Nat) (ks:List K) (ti:TypeId) (ki:List K) (l:List (Row ks)) (m:List (Nat × List (Row ki))) (x:List (Nat × Nat)) (iv:Nat->Value):Prop where
 len:m.length=l.length
 one:∀ r,(iv r).oneCell'=true
 own:aeD w 0 t (ks.length+1) (.slice σ.core.at_ l.length σ.core.cap) l.length (cz p ks iv 0 l)
 full:∀ r q,cr m x r q->aeD w 0 ti ki.length (iv r) q.1 (aN ki q.2)
 lent:∀ z∈x,∃ q,m[z.1]?=some q/\iv z.1=.slice (ν z.2).core.at_ q.1 (ν z.2).core.cap
 fp:∀ k,σ.fp k↔(∃ a,σ.core.at_=some a/\k=a.block)\/∃ r q,cr m x r q/\(iv r).ownBlock=some k
 inj:∀ r q r' q' k,cr m x r q->cr m x r' q'->(iv r).ownBlock=some k->(iv r').ownBlock=some k->r=r'
 apart:∀ r q a,cr m x r q->σ.core.at_=some a->(iv r).ownBlock≠some a.block
def Blk.den (ν:Env) (σ:Slot) (w:World):Blk->Prop
 | .cells t l=>σ.core.off=0/\(∀ k,σ.fp k↔k=σ.core.blk)/\w.heap[σ.core.blk]?=some (.cells (aH ν l).toArray t (0,0))
 | .ro t l=>σ.core.off=0/\(∀ k,σ.fp k↔k=σ.core.blk)/\w.heap[σ.core.blk]?=some (.cells (aH ν l).toArray t (0,0))
 | .leaf b=>σ.core.cond=b/\∀ k,¬ σ.fp k
 | .lst true t ks l=>aeD w 0 t ks.length (.slice σ.core.at_ l.length σ.core.cap) l.length (aN ks l)/\(∀ k,σ.fp k↔∃ a,σ.core.at_=some a/\k=a.block)
 | .lst false t ks l=>(l.length<=σ.core.cap/\(σ.core.at_=none->σ.core.cap=0))/\Reads w σ.core.at_ (aN ks l)/\(∀ k,σ.fp k↔aN ks l≠[]/\∃ a,σ.core.at_=some a/\k=a.block)
 | .dead=>∀ k,¬ σ.fp k
 | .bx t tp tb ks l g lt=>∃ vals box,pj ν σ w t tp tb ks l g lt vals box
 | .nst t p ks ti ki l m x=>∃ iv,n9 ν σ w t p ks ti ki l m x iv
theorem QB {w:World} {a:Addr} {u:Value} (h:w.cell? a=some u):a.block<w.heap.size:=by
 unfold World.cell? at h;rcases Nat.lt_or_ge a.block w.heap.size with q | q
 ·exact q
 ·rw [Array.getElem?_eq_none q] at h;cases h
theorem gh (a:Addr) (n:Nat):(a.add n).block=a.block:=by unfold Addr.add;split<;>rfl
theorem Gh {w:World} {at_:Option Addr} {cs:List Value} (h:Reads w at_ cs) (hn:cs≠[]) {a:Addr} (ha:at_=some a):a.block<w.heap.size:=by
 obtain ⟨u,r,rfl⟩:=List.exists_cons_of_ne_nil hn;obtain ⟨b,hb,hc⟩:=h 0 u rfl;rw [ha] at hb;cases hb;have:=QB hc
 rwa [gh] at this
theorem Blk.bnd {ν:Env} {σ:Slot} {w:World}:∀ {b:Blk},b.den ν σ w->∀ k,σ.fp k->k<w.heap.size
 | .cells t l,⟨_,h2,h3⟩,k,hk=>by
  rw [h2] at hk;subst hk;rcases Nat.lt_or_ge σ.core.blk w.heap.size with h | h
  ·exact h
  ·rw [Array.getElem?_eq_none h] at h3;cases h3
 | .ro t l,⟨_,h2,h3⟩,k,hk=>by
  rw [h2] at hk;subst hk;rcases Nat.lt_or_ge σ.core.blk w.heap.size with h | h
  ·exact h
  ·rw [Array.getElem?_eq_none h] at h3;cases h3
 | .leaf b,⟨_,h2⟩,k,hk=>absurd hk (h2 k)
 | .lst true t ks l,⟨h1,h2⟩,k,hk=>by
  obtain ⟨a,ha,rfl⟩:=(h2 k).1 hk;exact (h1.lt _ (by simp [Value.ownBlock,ha])).2
 | .lst false t ks l,⟨_,h1,h2⟩,k,hk=>by
  obtain ⟨hn,a,ha,rfl⟩:=(h2 k).1 hk;exact Gh h1 hn ha
 | .dead,h,k,hk=>absurd hk (h k)
 | .bx t tp tb ks l g lt,⟨vals,box,d⟩,k,hk=>by
  rcases (d.fp k).1 hk with ⟨a,ha,rfl⟩ | ⟨r,x,hx,rfl⟩
  ·exact (d.own.lt _ (by simp [Value.ownBlock,ha])).2
  ·have h3:=(d.full r x hx).2;rcases Nat.lt_or_ge (box r) w.heap.size with h | h
   ·exact h
   ·rw [Array.getElem?_eq_none h] at h3;cases h3
 | .nst t p ks ti ki l m x,⟨iv,d⟩,k,hk=>by
  rcases (d.fp k).1 hk with ⟨a,ha,rfl⟩ | ⟨r,q,hq,h⟩
  ·exact (d.own.lt _ (by simp [Value.ownBlock,ha])).2
  ·exact ((d.full r q hq).lt _ h).2
theorem bJ {w w':World} {base:Nat} {e:TypeId} {size:Nat} {v:Value} {n:Nat} {xs:List Value} (h:aeD w base e size v n xs) (hb:∀ k,v.ownBlock=some k->w'.heap[k]?=w.heap[k]?):aeD w' base e size v n xs:=by
 refine ⟨h.1,?_⟩;rcases h.2 with h0 | ⟨g,off,cap,cur,rfl,h1,h2,h3⟩
 ·exact .inl h0
 ·exact .inr ⟨g,off,cap,cur,rfl,h1,by rw [hb g rfl];exact h2,h3⟩
theorem AN {w w':World} {at_:Option Addr} {cs:List Value} (h:Reads w at_ cs) (hb:∀ a,at_=some a->cs≠[]->w'.heap[a.block]?=w.heap[a.block]?):Reads w' at_ cs:=by
 intro j u hj;obtain ⟨a,ha,hc⟩:=h j u hj;refine ⟨a,ha,?_⟩;rw [World.cell?_of_block (w:=w) (by rw [gh];exact hb a ha (by rintro rfl;simp at hj))];exact hc
theorem Blk.loc {ν:Env} {σ:Slot} {w w':World}:∀ {b:Blk},b.den ν σ w->(∀ k,σ.fp k->w'.heap[k]?=w.heap[k]?)->b.den ν σ w'
 | .cells t l,⟨h1,h2,h3⟩,h=>⟨h1,h2,by rw [h _ ((h2 _).2 rfl)];exact h3⟩
 | .ro t l,⟨h1,h2,h3⟩,h=>⟨h1,h2,by rw [h _ ((h2 _).2 rfl)];exact h3⟩
 | .leaf b,h,_=>h
 | .lst true t ks l,⟨h1,h2⟩,h=>⟨bJ h1 fun k hk=>h k ((h2 k).2 (by
   cases e:σ.core.at_ with
   | none=>rw [e] at hk;cases hk
   | some a=>rw [e] at hk;simp only [Value.ownBlock,c9] at hk;exact ⟨a,rfl,hk.symm⟩)),h2⟩
 | .lst false t ks l,⟨h0,h1,h2⟩,h=>⟨h0,AN h1 fun a ha hn=>h _ ((h2 _).2 ⟨hn,a,ha,rfl⟩),h2⟩
 | .dead,h,_=>h
 | .bx t tp tb ks l g lt,⟨vals,box,d⟩,h=>⟨vals,box,{ d with
   own:=bJ d.own fun k hk=>h k ((d.fp k).2 (.inl (by
    cases e:σ.core.at_ with
    | none=>rw [e] at hk;cases hk
    | some a=>rw [e] at hk;simp only [Value.ownBlock,c9] at hk;exact ⟨a,rfl,hk.symm⟩)))
   full:=fun r x hx=>⟨(d.full r x hx).1,by rw [h _ ((d.fp _).2 (.inr ⟨r,x,hx,rfl⟩))];exact (d.full r x hx).2⟩ }⟩
 | .nst t p ks ti ki l m x,⟨iv,d⟩,h=>⟨iv,{ d with
   own:=bJ d.own fun k hk=>h k ((d.fp k).2 (.inl (by
    cases e:σ.core.at_ with
    | none=>rw [e] at hk;cases hk
    | some a=>rw [e] at hk;simp only [Value.ownBlock,c9] at hk;exact ⟨a,rfl,hk.symm⟩)))
   full:=fun r q hq=>bJ (d.full r q hq) fun k hk=>h k ((d.fp k).2 (.inr ⟨r,q,hq,hk⟩)) }⟩
theorem Blk.aev {ν ν':Env} {σ σ':Slot} {w:World} {p:Nat->Bool} (h:∀ i,p i=true->(ν i).core=(ν' i).core) (hc:σ.core=σ'.core) (hf:σ.fp=σ'.fp) :
  ∀ {b:Blk},b.ok p=true->b.den ν σ w->b.den ν' σ' w
 | .cells t l,hb,⟨h1,h2,h3⟩=>by
  refine ⟨hc ▸ h1,fun k=>by rw [<- hf,<- hc];exact h2 k,?_⟩;rw [<- hc,<- cg h l hb];exact h3
 | .ro t l,hb,⟨h1,h2,h3⟩=>by
  refine ⟨hc ▸ h1,fun k=>by rw [<- hf,<- hc];exact h2 k,?_⟩;rw [<- hc,<- cg h l hb];exact h3
 | .leaf b,_,⟨h1,h2⟩=>⟨hc ▸ h1,fun k=>by rw [<- hf];exact h2 k⟩
 | .lst true t ks l,_,⟨h1,h2⟩=>⟨hc ▸ h1,fun k=>by rw [<- hf,<- hc];exact h2 k⟩
 | .lst false t ks l,_,⟨h0,h1,h2⟩=>⟨hc ▸ h0,hc ▸ h1,fun k=>by rw [<- hf,<- hc];exact h2 k⟩
 | .dead,_,h=>fun k=>by rw [<- hf];exact h k
 | .bx t tp tb ks l g lt,hb,⟨vals,box,d⟩=>⟨vals,box,⟨hc ▸ d.own,d.emp,d.full,fun q hq=>by
   have:=d.lent q hq;subst hq;rw [<- h q.2 hb];exact this,fun k=>by rw [<- hf,<- hc];exact d.fp k,d.inj,hc ▸ d.apart⟩⟩
 | .nst t p ks ti ki l m x,hb,⟨iv,d⟩=>⟨iv,⟨d.len,d.one,hc ▸ d.own,d.full,fun z hz=>by
   rw [<- h z.2 (dZ.1 hb z hz)];exact d.lent z hz,fun k=>by rw [<- hf,<- hc];exact d.fp k,d.inj,hc ▸ d.apart⟩⟩
abbrev Heap:=List (Nat × Blk)
def look (h:Heap) (i:Nat):Option Blk :=
 match h with
 | []=>none
 | (j,b)::r=>if j==i then some b else look r i
abbrev ay:=Nat->Option Blk
def over (u:Heap) (L:ay):ay:=fun i=>match look u i with | some b=>some b | none=>L i
theorem bf (u h:Heap) (i:Nat):look (u++h) i=over u (look h) i:=by
 unfold over
 induction u with
 | nil=>rfl
 | cons x r ih =>
  obtain ⟨j,b⟩:=x;simp only [List.cons_append,look];by_cases hj:(j==i)=true
  ·simp [hj]
  ·simp [hj,ih]
theorem aq {h:Heap} {i:Nat} {b:Blk} (e:look h i=some b):(i,b)∈h:=by
 induction h with
 | nil=>cases e
 | cons x r ih =>
  obtain ⟨j,b'⟩:=x;simp only [look] at e;by_cases hj:(j==i)=true
  ·simp only [hj,if_true,c9] at e;subst e;simp at hj;subst hj;exact ae8
  ·simp only [hj] at e;exact No _ (ih (by simpa using e))
theorem gL {h:Heap} {i:Nat}:look h i=none↔∀ b,(i,b) ∉ h:=by
 induction h with
 | nil=>simp [look]
 | cons x r ih =>
  obtain ⟨j,b'⟩:=x;simp only [look];by_cases hj:(j==i)=true
  ·simp only [hj,if_true];simp at hj;subst hj;constructor
   ·intro h;cases h
   ·intro h;exact absurd ae8 (h b')
  ·simp only [hj];simp at hj;simp only [Bool.false_eq_true,if_false,ih];constructor
   ·intro h b hb;rcases afd.1 hb with e | e
    ·cases e;exact hj rfl
    ·exact h b e
   ·intro h b hb;exact h b (No _ hb)
structure Rel (ν:Env) (L:ay) (w:World):Prop where
 den:∀ i b,L i=some b->b.den ν (ν i) w
 dis:∀ i j bi bj,i≠j->L i=some bi->L j=some bj->bi.owned=true->∀ k,(ν i).fp k->¬ (ν j).fp k
theorem Rel.sub {ν:Env} {L L':ay} {w:World} (h:Rel ν L w) (hs:∀ i b,L' i=some b->L i=some b):Rel ν L' w :=
 ⟨fun i b e=>h.den i b (hs i b e),fun i j bi bj ne ei ej o=>h.dis i j bi bj ne (hs _ _ ei) (hs _ _ ej) o⟩
structure Prog (w w':World) (F:Nat->Prop):Prop where
 os:w'.os=w.os
 tape:w'.tape=w.tape
 output:w'.output=w.output
 size:w.heap.size<=w'.heap.size
 block:∀ k,k<w.heap.size->¬ F k->w'.heap[k]?=w.heap[k]?
theorem Prog.refl (w:World) (F:Nat->Prop):Prog w w F:=⟨rfl,rfl,rfl,afh _,fun _ _ _=>rfl⟩
theorem Prog.trans {a b c:World} {F G H:Nat->Prop} (h:Prog a b F) (k:Prog b c G) (hF:∀ i,F i->H i) (hG:∀ i,i<a.heap.size->G i->H i):Prog a c H :=
 ⟨k.os.trans h.os,k.tape.trans h.tape,k.output.trans h.output,afq h.size k.size,fun i hi hn =>
  (k.block i (Nat.lt_of_lt_of_le hi h.size) (fun g=>hn (hG i hi g))).trans (h.block i hi (fun f=>hn (hF i f)))⟩
theorem Prog.drew {a b:World} {F:Nat->Prop} (h:Prog a b F):Prog a { b with drawn:=b.drawn+1 } F:=⟨h.os,h.tape,h.output,h.size,h.block⟩
theorem Prog.aeT {w w':World} {F:Nat->Prop} (h:Below w.heap.size w w'):Prog w w' F:=⟨h.os,h.tape,h.output,h.size,fun k hk _=>h.block k hk⟩
theorem Prog.below {w w':World} (h:Prog w w' fun _=>False):Below w.heap.size w w':=⟨h.os,h.tape,h.output,h.size,fun k hk=>h.block k hk id⟩
def strd (n:Nat):Nat:=bif Nat.beq (n % 8) 7 then 64 else 8
theorem lX (n:Nat):(strd n=8/\n % 8≠7)\/(strd n=64/\n % 8=7):=by
 unfold strd;cases e:Nat.beq (n % 8) 7
 ·exact .inl ⟨rfl,fun h=>by rw [h] at e;cases e⟩
 ·exact .inr ⟨rfl,afn e⟩
theorem dD (n:Nat):8<=strd n:=by rcases lX n with ⟨e,_⟩ | ⟨e,_⟩<;>omega
theorem zf (n j:Nat):strd (n+strd n*j)=strd n:=by
 rcases lX n with ⟨e,h⟩ | ⟨e,h⟩
 ·rw [e];rcases lX (n+8*j) with ⟨e2,h2⟩ | ⟨e2,h2⟩
  ·exact e2
  ·omega
 ·rw [e];rcases lX (n+64*j) with ⟨e2,h2⟩ | ⟨e2,h2⟩
  ·omega
  ·exact e2
theorem Ce (n j:Nat):n+strd n*j+strd (n+strd n*j)=n+strd n*(j+1):=by rw [zf,Nat.mul_succ,Nat.add_assoc]
def fresh (nx i:Nat):Prop:=nx<=i/\i<nx+strd nx
structure Ext (ν ν':Env) (w:World) (nx:Nat) (u:Heap):Prop where
 core:∀ i,¬ fresh nx i->(ν' i).core=(ν i).core
 fp:∀ i,¬ fresh nx i->look u i=none->(ν' i).fp=(ν i).fp
 old:∀ i,¬ fresh nx i->∀ k,(ν' i).fp k->(ν i).fp k\/w.heap.size<=k\/∃ j,¬ fresh nx j/\look u j≠none/\(ν j).fp k
 new:∀ i,fresh nx i->look u i≠none->∀ k,(ν' i).fp k->w.heap.size<=k\/∃ j,¬ fresh nx j/\look u j≠none/\(ν j).fp k
def cC (ν:Env) (nx:Nat) (u:Heap) (k:Nat):Prop:=∃ i,look u i≠none/\¬ fresh nx i/\(ν i).fp k
theorem Rel.frame {ν ν':Env} {L L':ay} {w w':World} {nx:Nat} {u:Heap} {p:Nat->Bool} (hL:Rel ν L w) (hsub:∀ i b,L' i=some b->L i=some b)
  (hp:∀ i,p i=true->¬ fresh nx i) (hok:∀ i b,L i=some b->b.ok p=true/\¬ fresh nx i)
  (hup:∀ i,¬ fresh nx i->look u i≠none->∃ b,L' i=some b/\b.owned=true)
  (hx:Ext ν ν' w nx u) (h':Rel ν' (over u L') w') (hg:Prog w w' (cC ν nx u)):Rel ν' (over u L) w':=by
 have key:∀ i b,L i=some b->look u i=none->b.den ν' (ν' i) w':=by
  intro i b hi hu;have hf:=(hok i b hi).2;have hd:=hL.den i b hi;have hd':b.den ν (ν i) w':=Blk.loc hd fun k hk=>by
   refine hg.block k (Blk.bnd hd k hk) ?_;rintro ⟨j,hj,hjf,hjk⟩;obtain ⟨bj,hbj,ho⟩:=hup j hjf hj;by_cases e:j=i
   ·subst e;exact hj hu
   ·exact hL.dis j i bj b e (hsub _ _ hbj) hi ho k hjk hk
  exact Blk.aev (fun j hj=>(hx.core j (hp j hj)).symm) (hx.core i hf).symm (hx.fp i hf hu).symm (hok i b hi).1 hd'
 have cases':∀ i b,over u L i=some b->(look u i=some b)\/(look u i=none/\L i=some b):=by
  intro i b h;unfold over at h;cases e:look u i with
  | some b'=>rw [e] at h;exact .inl h
  | none=>rw [e] at h;exact .inr ⟨rfl,h⟩
 have up:∀ i b,look u i=some b->over u L' i=some b:=fun i b h=>by unfold over;rw [h]
 have lo:∀ i b,look u i=none->L' i=some b->over u L' i=some b:=fun i b h h2=>by unfold over;rw [h];exact h2
 -- the footprint of what was there lies in the old world,that of what is new does not
 have oldfp:∀ i b,look u i=none->L i=some b->∀ k,(ν' i).fp k->k<w.heap.size/\(ν i).fp k:=by
  intro i b hu hi k hk;rw [hx.fp i (hok i b hi).2 hu] at hk;exact ⟨Blk.bnd (hL.den i b hi) k hk,hk⟩
 have updfp:∀ i b,look u i=some b->∀ k,(ν' i).fp k->w.heap.size<=k\/∃ m,¬ fresh nx m/\look u m≠none/\(ν m).fp k:=by
  intro i b hu k hk;by_cases hf:fresh nx i
  ·exact hx.new i hf (by rw [hu];simp) k hk
  ·rcases hx.old i hf k hk with h | h | h
   ·exact .inr ⟨i,hf,by rw [hu];simp,h⟩
   ·exact .inl h
   ·exact .inr h
 refine ⟨fun i b h => ?_,fun i j bi bj ne hi hj ho k hk hk' => ?_⟩
 ·rcases cases' i b h with h1 | ⟨h1,h2⟩
  ·exact h'.den i b (up i b h1)
  ·exact key i b h2 h1
 ·rcases cases' i bi hi with h1 | ⟨h1,h2⟩<;>rcases cases' j bj hj with h3 | ⟨h3,h4⟩
  ·exact h'.dis i j bi bj ne (up _ _ h1) (up _ _ h3) ho k hk hk'
  ·obtain ⟨hlt,hjk⟩:=oldfp j bj h3 h4 k hk';rcases updfp i bi h1 k hk with h | ⟨m,hf,hm,h⟩
   ·omega
   ·obtain ⟨b0,hb0,ho0⟩:=hup m hf hm;have nej:m≠j:=fun e=>hm (by rw [e];exact h3);exact hL.dis m j b0 bj nej (hsub _ _ hb0) h4 ho0 k h hjk
  ·obtain ⟨hlt,hik⟩:=oldfp i bi h1 h2 k hk;rcases updfp j bj h3 k hk' with h | ⟨m,hf,hm,h⟩
   ·omega
   ·obtain ⟨b0,hb0,ho0⟩:=hup m hf hm;have nei:i≠m:=fun e=>hm (by rw [<- e];exact h1);exact hL.dis i m bi b0 nei h2 (hsub _ _ hb0) ho k hik h
  ·obtain ⟨_,hik⟩:=oldfp i bi h1 h2 k hk;obtain ⟨_,hjk⟩:=oldfp j bj h3 h4 k hk';exact hL.dis i j bi bj ne h2 h4 ho k hik hjk
def V.aet:V->Bool
 | .junk=>true
 | _=>false
theorem V.aeP {p:Nat->Bool} {v:V} (h:v.ok p=true):v.aet=false:=by cases v<;>simp_all [V.ok,V.aet]
def nf (nx:Nat) (i:Nat):Bool := !(Nat.ble nx i&&Nat.blt i (nx+strd nx))
theorem du {nx i:Nat}:nf nx i=true↔¬ fresh nx i:=by
 unfold nf fresh;have h1:=Nat.ble_eq (x:=nx) (y:=i);have h2:=Nat.blt_eq (x:=i) (y:=nx+strd nx);cases e1:Nat.ble nx i<;>cases e2:Nat.blt i (nx+strd nx)<;>simp_all<;>omega
theorem Glob.prog {w w':World} {F:Nat->Prop} (h:Glob w) (hp:Prog w w' F) (hF:∀ k,F k->gs<=k):Glob w' :=
 h.keep fun k hk=>hp.block k (Nat.lt_of_lt_of_le hk h.size) fun hf=>absurd (hF k hf) (by omega)
structure Cu (ν:Env) (L:ay) (w:World):Prop where
 glob:Glob w
 own:∀ i b,L i=some b->b.owned=true->∀ k,(ν i).fp k->gs<=k
theorem Cu.sub {ν:Env} {L L':ay} {w:World} (h:Cu ν L w) (hs:∀ i b,L' i=some b->L i=some b):Cu ν L' w:=⟨h.glob,fun i b e=>h.own i b (hs i b e)⟩
def aeC (P:Program) (o:Oper) (ρ:Operand->V) (L:ay) (nx:Nat) (v:V) (u:Heap):Prop :=
 ∀ (ν:Env) (a:Act) (w:World) (K:Act->World->Prop) (Q:Exit->Act->World->Prop),Cu ν L w ->
  (∀ x,(ρ x).aet=false->a.eval x=(ρ x).den ν)->(∀ x,(ρ x).aet=false->(ρ x).ok (nf nx)=true)->(∀ i b,L i=some b->b.ok (nf nx)=true/\¬ fresh nx i)->Rel ν L w ->
  (∀ ν' w',Ext ν ν' w nx u->Rel ν' (over u L) w'->Prog w w' (cC ν nx u)->K (a.put o.dst (v.den ν')) w')->o.wp P a w K Q
theorem Ext.refl (ν:Env) (w:World) (nx:Nat):Ext ν ν w nx [] :=
 ⟨fun _ _=>rfl,fun _ _ _=>rfl,fun _ _ _ h=>.inl h,fun _ _ h=>absurd rfl h⟩
theorem av {P:Program} {o:Oper} {ρ:Operand->V} {L:ay} {nx:Nat} {v:V}
  (h:∀ (ν:Env) (w:World) (a:Act),(∀ x,(ρ x).aet=false->a.eval x=(ρ x).den ν)->Rel ν L w->(execOp a.eval o).run P w=.ok (.value (v.den ν)) w):aeC P o ρ L nx v []:=by
 intro ν a w K Q hG hρ _ _ hr hk;unfold Oper.wp;rw [h ν w a hρ hr];exact hk ν w (Ext.refl ν w nx) hr (Prog.refl w _)
def leaves (u:Heap):Bool:=u.all fun (_,b)=>match b with | .leaf _=>true | _=>false
def leafEnv (ν:Env) (u:Heap):Env:=fun i=>match look u i with
 | some (.leaf b)=>{ core:={ (ν i).core with cond:=b },fp:=fun _=>False }
 | _=>ν i
theorem mw {u:Heap} (hl:leaves u=true) {i:Nat} {b:Blk} (h:look u i=some b):∃ c,b=.leaf c:=by
 have:=ae9.1 hl _ (aq h);cases b<;>simp_all
theorem fi {ν:Env} {u:Heap} {w:World} {nx:Nat} (hl:leaves u=true) (hf:∀ i,look u i≠none->fresh nx i):Ext ν (leafEnv ν u) w nx u:=by
 have out:∀ i,¬ fresh nx i->leafEnv ν u i=ν i:=by
  intro i hi;unfold leafEnv;cases h:look u i with
  | none=>rfl
  | some b=>exact absurd (hf i (by rw [h];simp)) hi
 refine ⟨fun i hi=>by rw [out i hi],fun i hi _=>by rw [out i hi],fun i hi k hk=>by rw [out i hi] at hk;exact .inl hk,fun i _ hn k hk => ?_⟩;obtain ⟨b,hb⟩:=Option.ne_none_iff_exists'.1 hn;obtain ⟨c,rfl⟩:=mw hl hb;unfold leafEnv at hk;rw [hb] at hk;exact hk.elim
theorem fb {ν:Env} {u:Heap} {w:World} {nx:Nat} {L:ay} (hl:leaves u=true) (hf:∀ i,look u i≠none->fresh nx i)
  (hL:∀ i b,L i=some b->b.ok (nf nx)=true/\¬ fresh nx i) (hr:Rel ν L w):Rel (leafEnv ν u) (over u L) w:=by
 have out:∀ i,¬ fresh nx i->leafEnv ν u i=ν i:=by
  intro i hi;unfold leafEnv;cases h:look u i with
  | none=>rfl
  | some b=>exact absurd (hf i (by rw [h];simp)) hi
 have new:∀ i b,look u i=some b->∃ c,b=.leaf c/\(leafEnv ν u i).core.cond=c/\∀ k,¬ (leafEnv ν u i).fp k:=by
  intro i b hb;obtain ⟨c,rfl⟩:=mw hl hb;exact ⟨c,rfl,by unfold leafEnv;rw [hb],fun k hk=>by unfold leafEnv at hk;rw [hb] at hk;exact hk⟩
 have cases':∀ i b,over u L i=some b->(look u i=some b)\/(look u i=none/\L i=some b):=by
  intro i b h;unfold over at h;cases e:look u i with
  | some b'=>rw [e] at h;exact .inl h
  | none=>rw [e] at h;exact .inr ⟨rfl,h⟩
 refine ⟨fun i b h => ?_,fun i j bi bj ne hi hj ho k hk hk' => ?_⟩
 ·rcases cases' i b h with h1 | ⟨h1,h2⟩
  ·obtain ⟨c,rfl,e1,e2⟩:=new i b h1;exact ⟨e1,e2⟩
  ·have:=hL i b h2;exact Blk.aev (fun j hj=>by rw [out j (du.1 hj)]) (by rw [out i this.2]) (by rw [out i this.2]) this.1 (hr.den i b h2)
 ·rcases cases' i bi hi with h1 | ⟨h1,h2⟩
  ·exact (new i bi h1).choose_spec.2.2 k hk
  ·rcases cases' j bj hj with h3 | ⟨h3,h4⟩
   ·exact (new j bj h3).choose_spec.2.2 k hk'
   ·rw [out i (hL i bi h2).2] at hk;rw [out j (hL j bj h4).2] at hk';exact hr.dis i j bi bj ne h2 h4 ho k hk hk'
theorem kJ {P:Program} {o:Oper} {ρ:Operand->V} {L:ay} {nx:Nat} {c:Bool}
  (h:∀ (ν:Env) (w:World) (a:Act),(∀ x,(ρ x).aet=false->a.eval x=(ρ x).den ν)->Rel ν L w->(execOp a.eval o).run P w=.ok (.value (.bool c)) w):aeC P o ρ L nx (.b nx) [(nx,.leaf c)]:=by
 intro ν a w K Q hG hρ _ hL hr hk;unfold Oper.wp;rw [h ν w a hρ hr];have hf:∀ i,look [(nx,Blk.leaf c)] i≠none->fresh nx i:=by
  intro i hi;simp only [look] at hi;by_cases e:(nx==i)=true
  ·simp at e;subst e;exact ⟨afh _,by have:=dD nx;omega⟩
  ·simp [e] at hi
 have:=hk (leafEnv ν [(nx,.leaf c)]) w (fi rfl hf) (fb rfl hf hL hr) (Prog.refl w _);have e:V.den (leafEnv ν [(nx,Blk.leaf c)]) (.b nx)=.bool c:=by simp [V.den,leafEnv,look]
 rw [e] at this;exact this
theorem SY {ν:Env} {L:ay} {nx bk:Nat} {t:TypeId} {l:List V} {w w':World} (hl:okL (nf nx) l=true) (hL:∀ i b,L i=some b->b.ok (nf nx)=true/\¬ fresh nx i) (hr:Rel ν L w)
  (hbl:Below w.heap.size w w') (hbk:w.heap.size<=bk) (hc:w'.heap[bk]?=some (.cells (aH ν l).toArray t (0,0))) :
  ∃ ν':Env,(ν' nx).core.off=0/\(ν' nx).core.blk=bk/\Ext ν ν' w nx [(nx,.cells t l)]/\Rel ν' (over [(nx,.cells t l)] L) w'/\Prog w w' (cC ν nx [(nx,.cells t l)]):=by
 let ν':Env:=fun i=>if i=nx then { core:=⟨bk,0,0,none,false⟩,fp:=fun k=>k=bk } else ν i
 have hnx:fresh nx nx:=⟨afh _,by have:=dD nx;omega⟩
 have out:∀ i,¬ fresh nx i->ν' i=ν i:=fun i hi=>if_neg (fun e:i=nx=>hi (by rw [e];exact hnx));have lk:∀ i,look [(nx,Blk.cells t l)] i=if i=nx then some (.cells t l) else none:=by
  intro i;simp only [look];by_cases e:i=nx
  ·simp [e]
  ·have:(nx==i)=false:=by simp;exact fun h=>e h.symm
   simp [e,this]
 have hx:Ext ν ν' w nx [(nx,.cells t l)]:=by
  refine ⟨fun i hi=>by rw [out i hi],fun i hi _=>by rw [out i hi],fun i hi k hk=>by rw [out i hi] at hk;exact .inl hk,fun i _ hn k hk => ?_⟩;rw [lk] at hn;by_cases e:i=nx
  ·subst e;simp only [ν',if_true] at hk;omega
  ·simp [e] at hn
 have hpr:Prog w w' (cC ν nx [(nx,.cells t l)]):=Prog.aeT hbl;have hrel:Rel ν' (over [(nx,.cells t l)] L) w':=by
  have hov:∀ i b,over [(nx,Blk.cells t l)] L i=some b->(i=nx/\b=.cells t l)\/(i≠nx/\L i=some b):=by
   intro i b hb;unfold over at hb;rw [lk] at hb;by_cases e:i=nx
   ·simp [e] at hb;exact .inl ⟨e,hb.symm⟩
   ·simp [e] at hb;exact .inr ⟨e,hb⟩
  have oldlt:∀ i b,L i=some b->∀ k,(ν' i).fp k->k<w.heap.size/\(ν i).fp k:=by
   intro i b hb k hk;rw [out i (hL i b hb).2] at hk;exact ⟨Blk.bnd (hr.den i b hb) k hk,hk⟩
  refine ⟨fun i b hb => ?_,fun i j bi bj ne hi hj ho k hk hk' => ?_⟩
  ·rcases hov i b hb with ⟨rfl,rfl⟩ | ⟨ne,h2⟩
   ·have e:ν' i={ core:=⟨bk,0,0,none,false⟩,fp:=fun k=>k=bk }:=if_pos rfl;rw [e];refine ⟨rfl,fun k=>Iff.rfl,?_⟩;rw [cg (ν:=ν') (ν':=ν) (p:=nf i) (fun j hj=>by rw [out j (du.1 hj)]) l hl];exact hc
   ·have h3:=hL i b h2;refine Blk.aev (ν:=ν) (σ:=ν i) (p:=nf nx) (fun j hj=>by rw [out j (du.1 hj)]) (by rw [out i h3.2]) (by rw [out i h3.2]) h3.1 ?_;exact Blk.loc (hr.den i b h2) fun k hk=>hbl.block k (Blk.bnd (hr.den i b h2) k hk)
  ·rcases hov i bi hi with ⟨rfl,rfl⟩ | ⟨_,h2⟩<;>rcases hov j bj hj with ⟨rfl,rfl⟩ | ⟨_,h4⟩
   ·exact ne rfl
   ·have:=oldlt j bj h4 k hk';simp only [ν',if_true] at hk;omega
   ·have:=oldlt i bi h2 k hk;simp only [ν',if_true] at hk';omega
   ·exact hr.dis i j bi bj ne h2 h4 ho k (oldlt i bi h2 k hk).2 (oldlt j bj h4 k hk').2
 exact ⟨ν',by simp [ν'],by simp [ν'],hx,hrel,hpr⟩
theorem kZ {ν:Env} {L:ay} {nx:Nat} {b:Blk} {σ:Slot} {w w':World} (hb:b.ok (nf nx)=true) (hL:∀ i b,L i=some b->b.ok (nf nx)=true/\¬ fresh nx i) (hr:Rel ν L w)
  (hbl:Below w.heap.size w w') (hfp:∀ k,σ.fp k->w.heap.size<=k) (hden:∀ ν':Env,(∀ i,¬ fresh nx i->(ν' i).core=(ν i).core)->b.den ν' σ w') :
  ∃ ν':Env,ν' nx=σ/\Ext ν ν' w nx [(nx,b)]/\Rel ν' (over [(nx,b)] L) w'/\Prog w w' (cC ν nx [(nx,b)]):=by
 let ν':Env:=fun i=>if i=nx then σ else ν i
 have hnx:fresh nx nx:=⟨afh _,by have:=dD nx;omega⟩
 have out:∀ i,¬ fresh nx i->ν' i=ν i:=fun i hi=>if_neg (fun e:i=nx=>hi (by rw [e];exact hnx));have lk:∀ i,look [(nx,b)] i=if i=nx then some b else none:=by
  intro i;simp only [look];by_cases e:i=nx
  ·simp [e]
  ·have:(nx==i)=false:=by simp;exact fun h=>e h.symm
   simp [e,this]
 have hx:Ext ν ν' w nx [(nx,b)]:=by
  refine ⟨fun i hi=>by rw [out i hi],fun i hi _=>by rw [out i hi],fun i hi k hk=>by rw [out i hi] at hk;exact .inl hk,fun i _ hn k hk => ?_⟩;rw [lk] at hn;by_cases e:i=nx
  ·subst e;simp only [ν',if_true] at hk;exact .inl (hfp k hk)
  ·simp [e] at hn
 have hpr:Prog w w' (cC ν nx [(nx,b)]):=Prog.aeT hbl;have hrel:Rel ν' (over [(nx,b)] L) w':=by
  have hov:∀ i b',over [(nx,b)] L i=some b'->(i=nx/\b'=b)\/(i≠nx/\L i=some b'):=by
   intro i b' hb;unfold over at hb;rw [lk] at hb;by_cases e:i=nx
   ·simp [e] at hb;exact .inl ⟨e,hb.symm⟩
   ·simp [e] at hb;exact .inr ⟨e,hb⟩
  have oldlt:∀ i b,L i=some b->∀ k,(ν' i).fp k->k<w.heap.size/\(ν i).fp k:=by
   intro i b hb k hk;rw [out i (hL i b hb).2] at hk;exact ⟨Blk.bnd (hr.den i b hb) k hk,hk⟩
  refine ⟨fun i b' hb' => ?_,fun i j bi bj ne hi hj ho k hk hk' => ?_⟩
  ·rcases hov i b' hb' with ⟨rfl,rfl⟩ | ⟨ne,h2⟩
   ·have e:ν' i=σ:=if_pos rfl;rw [e];exact hden ν' fun j hj=>by rw [out j hj]
   ·have h3:=hL i b' h2;refine Blk.aev (ν:=ν) (σ:=ν i) (p:=nf nx) (fun j hj=>by rw [out j (du.1 hj)]) (by rw [out i h3.2]) (by rw [out i h3.2]) h3.1 ?_;exact Blk.loc (hr.den i b' h2) fun k hk=>hbl.block k (Blk.bnd (hr.den i b' h2) k hk)
  ·rcases hov i bi hi with ⟨rfl,rfl⟩ | ⟨_,h2⟩<;>rcases hov j bj hj with ⟨rfl,rfl⟩ | ⟨_,h4⟩
   ·exact ne rfl
   ·have:=oldlt j bj h4 k hk';simp only [ν',if_true] at hk;have:=hfp k hk;omega
   ·have:=oldlt i bi h2 k hk;simp only [ν',if_true] at hk';have:=hfp k hk';omega
   ·exact hr.dis i j bi bj ne h2 h4 ho k (oldlt i bi h2 k hk).2 (oldlt j bj h4 k hk').2
 exact ⟨ν',by simp [ν'],hx,hrel,hpr⟩
theorem mR {ν:Env} {L:ay} {nx i:Nat} {b bi:Blk} {σ:Slot} {w w':World} (hb:b.ok (nf nx)=true) (hL:∀ i b,L i=some b->b.ok (nf nx)=true/\¬ fresh nx i) (hr:Rel ν L w) (hi:L i=some bi) (ho:bi.owned=true)
  (hg:Prog w w' (ν i).fp) (hfp:∀ k,σ.fp k->w.heap.size<=k\/(ν i).fp k) (hden:∀ ν':Env,(∀ i,¬ fresh nx i->(ν' i).core=(ν i).core)->b.den ν' σ w') :
  ∃ ν':Env,ν' nx=σ/\Ext ν ν' w nx [(nx,b),(i,.dead)]/\Rel ν' (over [(nx,b),(i,.dead)] L) w'/\Prog w w' (cC ν nx [(nx,b),(i,.dead)]):=by
 have hnx:fresh nx nx:=⟨afh _,by have:=dD nx;omega⟩
 have hif:¬ fresh nx i:=(hL i bi hi).2;have hin:i≠nx:=fun e=>hif (by rw [e];exact hnx)
 let ν':Env:=fun j=>if j=nx then σ else if j=i then { core:=(ν i).core,fp:=fun _=>False } else ν j
 have lk:∀ j,look [(nx,b),(i,Blk.dead)] j=if j=nx then some b else if j=i then some .dead else none:=by
  intro j;simp only [look];by_cases e:j=nx
  ·simp [e]
  ·have q:(nx==j)=false:=by simp;exact fun h=>e h.symm
   by_cases e2:j=i
   ·subst e2;rw [if_neg e,q];simp
   ·have q2:(i==j)=false:=by simp;exact fun h=>e2 h.symm
    simp [e,e2,q,q2]
 have e1:ν' nx=σ:=by simp [ν']
 have e2:ν' i={ core:=(ν i).core,fp:=fun _=>False }:=by simp [ν',hin]
 have e3:∀ j,j≠nx->j≠i->ν' j=ν j:=fun j h1 h2=>by simp [ν',h1,h2]
 have hcore:∀ j,¬ fresh nx j->(ν' j).core=(ν j).core:=by
  intro j hj;by_cases q:j=i
  ·subst q;rw [e2]
  ·rw [e3 j (fun e=>hj (by rw [e];exact hnx)) q]
 have hx:Ext ν ν' w nx [(nx,b),(i,.dead)]:=by
  refine ⟨hcore,fun j hj hn => ?_,fun j hj k hk => ?_,fun j _ hn k hk => ?_⟩
  ·have hjn:j≠nx:=fun e=>hj (by rw [e];exact hnx);rw [lk] at hn;by_cases q:j=i
   ·rw [if_neg hjn,if_pos q] at hn;cases hn
   ·rw [e3 j hjn q]
  ·have hjn:j≠nx:=fun e=>hj (by rw [e];exact hnx);by_cases q:j=i
   ·subst q;rw [e2] at hk;exact hk.elim
   ·rw [e3 j hjn q] at hk;exact .inl hk
  ·by_cases q:j=nx
   ·subst q;rw [e1] at hk;rcases hfp k hk with h | h
    ·exact .inl h
    ·exact .inr ⟨i,hif,by rw [lk];simp [hin],h⟩
   ·by_cases q2:j=i
    ·subst q2;rw [e2] at hk;exact hk.elim
    ·rw [lk] at hn;simp [q,q2] at hn
 have hov:∀ j b',over [(nx,b),(i,Blk.dead)] L j=some b'->(j=nx/\b'=b)\/(j=i/\j≠nx/\b'=.dead)\/(j≠nx/\j≠i/\L j=some b'):=by
  intro j b' hb;unfold over at hb;rw [lk] at hb;by_cases q:j=nx
  ·simp [q] at hb;exact .inl ⟨q,hb.symm⟩
  ·by_cases q2:j=i
   ·simp [q2,hin] at hb;exact .inr (.inl ⟨q2,q,hb.symm⟩)
   ·simp [q,q2] at hb;exact .inr (.inr ⟨q,q2,hb⟩)
 refine ⟨ν',e1,hx,⟨fun j b' hb' => ?_,fun j m bj bm ne hj hm hoj k hk hk' => ?_⟩,⟨hg.os,hg.tape,hg.output,hg.size,fun k hk hn=>hg.block k hk fun hf=>hn ⟨i,by rw [lk];simp [hin],hif,hf⟩⟩⟩
 ·rcases hov j b' hb' with ⟨rfl,rfl⟩ | ⟨rfl,_,rfl⟩ | ⟨q1,q2,h2⟩
  ·rw [e1];exact hden ν' hcore
  ·rw [e2];exact fun _ h=>h
  ·have h3:=hL j b' h2;rw [e3 j q1 q2];refine Blk.aev (ν:=ν) (σ:=ν j) (p:=nf nx) (fun m hm=>(hcore m (du.1 hm)).symm) rfl rfl h3.1 ?_;exact Blk.loc (hr.den j b' h2) fun k hk=>hg.block k (Blk.bnd (hr.den j b' h2) k hk) fun hf=>hr.dis i j bi b' (Ne.symm q2) hi h2 ho k hf hk
 ·rcases hov j bj hj with ⟨rfl,rfl⟩ | ⟨rfl,_,rfl⟩ | ⟨q1,q2,h2⟩
  ·rcases hov m bm hm with ⟨rfl,rfl⟩ | ⟨rfl,_,rfl⟩ | ⟨r1,r2,h4⟩
   ·exact ne rfl
   ·rw [e2] at hk';exact hk'
   ·rw [e1] at hk;rw [e3 m r1 r2] at hk';rcases hfp k hk with h | h
    ·have:=Blk.bnd (hr.den m bm h4) k hk';omega
    ·exact hr.dis i m bi bm (Ne.symm r2) hi h4 ho k h hk'
  ·cases hoj
  ·rw [e3 j q1 q2] at hk;rcases hov m bm hm with ⟨rfl,rfl⟩ | ⟨rfl,_,rfl⟩ | ⟨r1,r2,h4⟩
   ·rw [e1] at hk';rcases hfp k hk' with h | h
    ·have:=Blk.bnd (hr.den j bj h2) k hk;omega
    ·exact hr.dis i j bi bj (Ne.symm q2) hi h2 ho k h hk
   ·rw [e2] at hk';exact hk'
   ·rw [e3 m r1 r2] at hk';exact hr.dis j m bj bm ne h2 h4 hoj k hk hk'
theorem yr {P:Program} {o:Oper} {ρ:Operand->V} {L:ay} {nx:Nat} {t:TypeId} {l:List V} {v:V} {X:Nat->Value} (hl:okL (nf nx) l=true) (hv:∀ (ν:Env),(ν nx).core.off=0->v.den ν=X (ν nx).core.blk)
  (h:∀ (ν:Env) (w:World) (a:Act),(∀ x,(ρ x).aet=false->a.eval x=(ρ x).den ν)->Rel ν L w->(execOp a.eval o).run P w=.ok (.value (X w.heap.size)) (w.alloc (.cells (aH ν l).toArray t))) :
  aeC P o ρ L nx v [(nx,.cells t l)]:=by
 intro ν a w K Q hG hρ _ hL hr hk;unfold Oper.wp;rw [h ν w a hρ hr]
 let ν':Env:=fun i=>if i=nx then { core:=⟨w.heap.size,0,0,none,false⟩,fp:=fun k=>k=w.heap.size } else ν i
 have hnx:fresh nx nx:=⟨afh _,by have:=dD nx;omega⟩
 have out:∀ i,¬ fresh nx i->ν' i=ν i:=fun i hi=>if_neg (fun e:i=nx=>hi (by rw [e];exact hnx));have lk:∀ i,look [(nx,Blk.cells t l)] i=if i=nx then some (.cells t l) else none:=by
  intro i;simp only [look];by_cases e:i=nx
  ·simp [e]
  ·have:(nx==i)=false:=by simp;exact fun h=>e h.symm
   simp [e,this]
 have hx:Ext ν ν' w nx [(nx,.cells t l)]:=by
  refine ⟨fun i hi=>by rw [out i hi],fun i hi _=>by rw [out i hi],fun i hi k hk=>by rw [out i hi] at hk;exact .inl hk,fun i _ hn k hk => ?_⟩;rw [lk] at hn;by_cases e:i=nx
  ·subst e;simp only [ν',if_true] at hk;omega
  ·simp [e] at hn
 have hpr:Prog w (w.alloc (.cells (aH ν l).toArray t)) (cC ν nx [(nx,.cells t l)]) :=
  ⟨rfl,rfl,rfl,by simp,fun k hk _=>Below.heap_alloc w _ k hk⟩
 have hrel:Rel ν' (over [(nx,.cells t l)] L) (w.alloc (.cells (aH ν l).toArray t)):=by
  have hov:∀ i b,over [(nx,Blk.cells t l)] L i=some b->(i=nx/\b=.cells t l)\/(i≠nx/\L i=some b):=by
   intro i b hb;unfold over at hb;rw [lk] at hb;by_cases e:i=nx
   ·simp [e] at hb;exact .inl ⟨e,hb.symm⟩
   ·simp [e] at hb;exact .inr ⟨e,hb⟩
  have oldlt:∀ i b,L i=some b->∀ k,(ν' i).fp k->k<w.heap.size/\(ν i).fp k:=by
   intro i b hb k hk;rw [out i (hL i b hb).2] at hk;exact ⟨Blk.bnd (hr.den i b hb) k hk,hk⟩
  refine ⟨fun i b hb => ?_,fun i j bi bj ne hi hj ho k hk hk' => ?_⟩
  ·rcases hov i b hb with ⟨rfl,rfl⟩ | ⟨ne,h2⟩
   ·have e:ν' i={ core:=⟨w.heap.size,0,0,none,false⟩,fp:=fun k=>k=w.heap.size }:=if_pos rfl;rw [e];refine ⟨rfl,fun k=>Iff.rfl,?_⟩;rw [cg (ν:=ν') (ν':=ν) (p:=nf i) (fun j hj=>by rw [out j (du.1 hj)]) l hl];exact heap_alloc_new w _
   ·have h3:=hL i b h2;refine Blk.aev (ν:=ν) (σ:=ν i) (p:=nf nx) (fun j hj=>by rw [out j (du.1 hj)]) (by rw [out i h3.2]) (by rw [out i h3.2]) h3.1 ?_;exact Blk.loc (hr.den i b h2) fun k hk=>Below.heap_alloc w _ k (Blk.bnd (hr.den i b h2) k hk)
  ·rcases hov i bi hi with ⟨rfl,rfl⟩ | ⟨_,h2⟩<;>rcases hov j bj hj with ⟨rfl,rfl⟩ | ⟨_,h4⟩
   ·exact ne rfl
   ·have:=oldlt j bj h4 k hk';simp only [ν',if_true] at hk;omega
   ·have:=oldlt i bi h2 k hk;simp only [ν',if_true] at hk';omega
   ·exact hr.dis i j bi bj ne h2 h4 ho k (oldlt i bi h2 k hk).2 (oldlt j bj h4 k hk').2
 have:=hk ν' _ hx hrel hpr;have e:V.den ν' v=X w.heap.size:=by
  have:=hv ν' (by simp [ν']);simpa [ν'] using this
 rw [e] at this;exact this
theorem pY {P:Program} {o:Oper} {ρ:Operand->V} {L:ay} {nx:Nat} {t:TypeId} {l:List V} (hl:okL (nf nx) l=true)
  (h:∀ (ν:Env) (w:World) (a:Act),(∀ x,(ρ x).aet=false->a.eval x=(ρ x).den ν)->Rel ν L w->(execOp a.eval o).run P w=.ok (.value (.pointer (some ⟨w.heap.size,0,none⟩))) (w.alloc (.cells (aH ν l).toArray t))) :
  aeC P o ρ L nx (.ptr nx 0) [(nx,.cells t l)] :=
 yr (X:=fun n=>.pointer (some ⟨n,0,none⟩)) hl (fun ν h0=>by simp [V.den,h0]) h
theorem A8 {P:Program} {o:Oper} {ρ:Operand->V} {L:ay} {nx i:Nat} {t:TypeId} {l l':List V} (hi:L i=some (.cells t l))
  (h:∀ (ν:Env) (w:World) (a:Act),(∀ x,(ρ x).aet=false->a.eval x=(ρ x).den ν)->Rel ν L w->(execOp a.eval o).run P w=.ok .skip (w.setRow (ν i).core.blk (aH ν l').toArray)) :
  aeC P o ρ L nx (.raw undef) [(i,.cells t l')]:=by
 intro ν a w K Q hG hρ _ hL hr hk;unfold Oper.wp;rw [h ν w a hρ hr];obtain ⟨d1,d2,d3⟩:=hr.den i _ hi;have lk:∀ j,look [(i,Blk.cells t l')] j=if j=i then some (.cells t l') else none:=by
  intro j;simp only [look];by_cases e:j=i
  ·simp [e]
  ·have:(i==j)=false:=by simp;exact fun h=>e h.symm
   simp [e,this]
 have hnf:¬ fresh nx i:=(hL i _ hi).2;have hx:Ext ν ν w nx [(i,.cells t l')]:=by
  refine ⟨fun _ _=>rfl,fun _ _ _=>rfl,fun _ _ _ h=>.inl h,fun j hj hn => ?_⟩;rw [lk] at hn;by_cases e:j=i
  ·subst e;exact absurd hj hnf
  ·simp [e] at hn
 have hpr:Prog w (w.setRow (ν i).core.blk (aH ν l').toArray) (cC ν nx [(i,.cells t l')]):=by
  refine ⟨rfl,rfl,rfl,by simp,fun k _ hk=>setRow_other w _ k _ fun e=>hk ⟨i,by rw [lk];simp,hnf,?_⟩⟩;rw [d2];exact e
 have hov:∀ j b,over [(i,Blk.cells t l')] L j=some b->(j=i/\b=.cells t l')\/(j≠i/\L j=some b):=by
  intro j b hb;unfold over at hb;rw [lk] at hb;by_cases e:j=i
  ·simp [e] at hb;exact .inl ⟨e,hb.symm⟩
  ·simp [e] at hb;exact .inr ⟨e,hb⟩
 have hrel:Rel ν (over [(i,.cells t l')] L) (w.setRow (ν i).core.blk (aH ν l').toArray):=by
  refine ⟨fun j b hb => ?_,fun j m bj bm ne hj hm ho k hk hk' => ?_⟩
  ·rcases hov j b hb with ⟨rfl,rfl⟩ | ⟨ne,h2⟩
   ·exact ⟨d1,d2,setRow_heap w _ _ _ t (0,0) d3⟩
   ·refine Blk.loc (hr.den j b h2) fun k hk=>setRow_other w _ k _ fun e => ?_;exact hr.dis i j _ b (Ne.symm ne) hi h2 rfl k ((d2 k).2 e) hk
  ·have o1:∃ b,L j=some b/\b.owned=true:=by
    rcases hov j bj hj with ⟨rfl,rfl⟩ | ⟨_,h2⟩
    ·exact ⟨_,hi,rfl⟩
    ·exact ⟨_,h2,ho⟩
   have o2:∃ b,L m=some b:=by
    rcases hov m bm hm with ⟨rfl,rfl⟩ | ⟨_,h2⟩
    ·exact ⟨_,hi⟩
    ·exact ⟨_,h2⟩
   obtain ⟨b1,h1,h1'⟩:=o1;obtain ⟨b2,h2⟩:=o2;exact hr.dis j m b1 b2 ne h1 h2 h1' k hk hk'
 exact hk ν _ hx hrel hpr
def dj (L:ay):V->Option Bool
 | .tt=>some true
 | .ff=>some false
 | .s (.bool c)=>some c
 | .b i=>match L i with
  | some (.leaf c)=>some c
  | _=>none
 | _=>none
theorem ck {ν:Env} {L:ay} {w:World} (hr:Rel ν L w) {v:V} {c:Bool} (h:dj L v=some c):v.den ν=.bool c:=by
 cases v with
 | s x=>cases x<;>simp_all [dj,V.den,S.den]
 | tt=>simp_all [dj,V.den]
 | ff=>simp_all [dj,V.den]
 | b i =>
  simp only [dj] at h;split at h
  ·rename_i c' hc;have:=(hr.den i _ hc).1;simp only [c9] at h;subst h;simp [V.den,this]
  ·cases h
 | _=>simp [dj] at h
def iS {α:Type} (L:ay) (v:V) (x y:T α):T α :=
 match v with
 | .tt=>x
 | .ff=>y
 | .s (.bool c)=>.ite none c x y
 | .b i=>match L i with
  | some (.leaf c)=>.ite (some i) c x y
  | _=>.fail
 | _=>.fail
theorem iR {α:Type} {L:ay} {v:V} {x y:T α} {r:α} (h:(iS L v x y).eval=some r):∃ c,dj L v=some c/\(bif c then x.eval else y.eval)=some r:=by
 unfold iS at h;split at h
 ·exact ⟨true,rfl,h⟩
 ·exact ⟨false,rfl,h⟩
 ·exact ⟨_,rfl,h⟩
 ·rename_i i;split at h
  ·rename_i c hc;exact ⟨c,by simp [dj,hc],h⟩
  ·cases h
 ·cases h
def cellsOf:V->List V
 | .agg l=>l
 | v=>[v]
def V.one:V->Bool
 | .agg _ | .tup _ | .junk | .may _ _ _ | .row _ _ _ _ _ | .orow _ _ _=>false
 | .raw x=>x.oneCell'
 | _=>true
theorem V.one_den {ν:Env} {v:V} (h:v.one=true):(v.den ν).oneCell'=true:=by
 cases v with
 | s x=>cases x<;>rfl
 | raw x=>exact h
 | _=>first | rfl | (simp [V.one] at h;done)
def bN (v:V):Bool:=(cellsOf v).all V.one
theorem gg {ν:Env} {v:V} (h:bN v=true):(v.den ν).cells=(aH ν (cellsOf v)).toArray:=by
 cases v with
 | s x=>cases x<;>rfl
 | agg l=>rfl
 | tup l=>simp [bN,cellsOf,V.one] at h
 | raw x=>simp [bN,cellsOf,V.one] at h;cases x<;>simp_all [Value.oneCell']<;>rfl
 | junk=>simp [bN,cellsOf,V.one] at h
 | may _ _ _=>simp [bN,cellsOf,V.one] at h
 | row _ _ _ _ _=>simp [bN,cellsOf,V.one] at h
 | _=>rfl
def fw:Value->V
 | .bool true=>.tt
 | .bool false=>.ff
 | .int k n=>.n k n
 | .float k b=>.s (.float k b)
 | .complex k a b=>.s (.cx k a b)
 | .string s=>.s (.str s)
 | .nilIface=>.nilIface
 | .pointer none=>.nilPtr
 | .slice none 0 0=>.nilSl
 | v=>.raw v
def ofValue:Value->V
 | .agg cs=>.agg (cs.toList.map fw)
 | v=>fw v
theorem dy (ν:Env) (v:Value):(fw v).den ν=v:=by
 unfold fw;split<;>rfl
theorem j9 (ν:Env) (v:Value):(ofValue v).den ν=v:=by
 unfold ofValue;split
 ·rename_i cs;simp only [V.den,ax,List.map_map];have:(V.den ν ∘ fw)=id:=funext fun x=>dy ν x;simp [this]
 ·exact dy ν _
theorem nz (p:Nat->Bool) (v:Value):(fw v).ok p=true:=by
 unfold fw;split<;>rfl
theorem qc (p:Nat->Bool) (v:Value):(ofValue v).ok p=true:=by
 unfold ofValue;split
 ·simp only [V.ok,ka,List.mem_map];rintro v ⟨x,_,rfl⟩;exact nz p x
 ·exact nz p _
def ev (tmps:Nat->V):Operand->V
 | .tmp t=>tmps t
 | .const v=>ofValue v
 | .global g=>.raw (.pointer (some ⟨g,0,none⟩))
 | .func f=>.raw (.func (.func f) #[] #[])
def fZ (P:Program) (t:TypeId):Option Bool :=
 match P.underlying t with
 | some (.struct _)=>some true
 | some (.array _ _)=>some true
 | some _=>some false
 | none=>none
def sizeB (P:Program) (t:TypeId):Option Nat:=(P.info? t).map (·.size)
theorem dm {P:Program} {t:TypeId} {b:Bool} (h:fZ P t=some b) (w:World):(isAgg t).run P w=.ok b w:=by
 unfold fZ at h;split at h<;>simp_all [isAgg,run_underlying]
theorem run_sizeOf {P:Program} {t:TypeId} {n:Nat} (h:sizeB P t=some n) (w:World):(sizeOf t).run P w=.ok n w:=by
 unfold sizeB at h;cases hi:P.info? t with
 | none=>simp [hi] at h
 | some i=>simp [hi] at h;simp [sizeOf,typeInfo,hi,h]
theorem ew {P:Program} {t:TypeId} {z:Value} (h:(P.info? t).bind (·.zero)=some z) (w:World):(zeroValue t).run P w=.ok z w:=by
 cases hi:P.info? t with
 | none=>simp [hi] at h
 | some i=>simp [hi] at h;simp [zeroValue,typeInfo,hi,h]
theorem cY (b o n:Nat):Addr.add ⟨b,o,none⟩ n=⟨b,o+n,none⟩:=by unfold Addr.add;split<;>simp_all
theorem ef {P:Program} {w:World} {ν:Env} {g off:Nat} {t0 t:TypeId} {l:List V} {b:Bool} {n:Nat} (hg:w.heap[g]?=some (.cells (aH ν l).toArray t0 (0,0)))
  (ha:fZ P t=some b) (hs:sizeB P t=some n) (hn:off+n<=l.length) (h1:b=false->off<l.length) :
  (Instr.loadAt t (.pointer (some ⟨g,off,none⟩))).run P w=.ok (if b then .agg (aH ν ((l.drop off).take n)).toArray else V.den ν (l.getD off .junk)) w:=by
 unfold Instr.loadAt Instr.sureAddr loadVar;simp only [Sem.run_bind,Sem.run_pure,Result.andThen_ok,dm ha,Sem.run_ite];have hcell:∀ j,w.cell? ⟨g,j,none⟩=(l.map (V.den ν))[j]?:=by
  intro j;rw [cell_of_row w g j _ t0 (0,0) hg,ax];simp
 cases b with
 | true =>
  simp only [if_true,Sem.run_bind,run_sizeOf hs,Result.andThen_ok];have hlen:((aH ν ((l.drop off).take n))).length=n:=by
   rw [ax];simp;omega
  have:=run_loadCells_list (P:=P) w ⟨g,off,none⟩ (aH ν ((l.drop off).take n)) (by
   intro j v hj;rw [cY,hcell];rw [ax] at hj;simp only [List.getElem?_map,List.getElem?_take,List.getElem?_drop] at hj;split at hj
   ·simpa using hj
   ·simp at hj)
  rw [hlen] at this;rw [this];rfl
 | false =>
  have hlt:=h1 rfl;have:w.cell? ⟨g,off,none⟩=some (V.den ν (l.getD off .junk)):=by
   rw [hcell];simp [List.getD,OF hlt]
  simp [this]
theorem pd {P:Program} {w:World} {ν:Env} {g off:Nat} {t0 t:TypeId} {l:List V} {v:V} {n:Nat} (hg:w.heap[g]?=some (.cells (aH ν l).toArray t0 (0,0)))
  (hs:sizeB P t=some n) (hv:bN v=true) (hn:(cellsOf v).length=n) (hl:off+n<=l.length) :
  (Instr.storeAt t (.pointer (some ⟨g,off,none⟩)) (v.den ν)).run P w=.ok () (w.setRow g (aH ν (l.take off++cellsOf v++l.drop (off+n))).toArray):=by
 unfold Instr.storeAt Instr.sureAddr storeVar;have hsz:(v.den ν).cells.size=n:=by rw [gg hv,ax];simp [hn]
 simp only [Sem.run_bind,Sem.run_pure,Result.andThen_ok,run_sizeOf hs,hsz,ne_eq,not_true_eq_false,if_false];rw [gg hv];have h1:∀ x∈(aH ν (cellsOf v)),x.oneCell'=true:=by
  intro x hx;rw [ax] at hx;obtain ⟨y,hy,rfl⟩:=List.mem_map.1 hx;exact V.one_den (ae9.1 hv y hy)
 have hlen:(aH ν (cellsOf v)).length=n:=by rw [ax];simp [hn]
 have:=run_storeCells_at (P:=P) g off t0 (aH ν (cellsOf v)) 0 (aH ν l).toArray w hg (by rw [hlen];simp [ax];omega) h1;simp only [Nat.add_zero,hlen] at this;rw [this];congr 2;simp [ax,List.map_append,List.map_take,List.map_drop]
mutual
def V.ren (σ:Nat->Nat):V->V
 | .b i=>.b (σ i)
 | .may i w v=>.may (σ i) w (v.ren σ)
 | .ptr i off=>.ptr (σ i) off
 | .sl i off len cap=>.sl (σ i) off len cap
 | .iface t v=>.iface t (v.ren σ)
 | .agg l=>.agg (Ax σ l)
 | .tup l=>.tup (Ax σ l)
 | .pr i sz row fld=>.pr (σ i) sz row fld
 | .sub i sz off len=>.sub (σ i) sz off len
 | v=>v
def Ax (σ:Nat->Nat):List V->List V
 | []=>[]
 | v::r=>v.ren σ::Ax σ r
end
mutual
theorem V.aeK {ν ν':Env} {σ:Nat->Nat} {p:Nat->Bool} (h:∀ i,p i=true->(ν' (σ i)).core=(ν i).core):∀ v:V,v.ok p=true->(v.ren σ).den ν'=v.den ν
 | .b i,e=>by simp only [V.ok,V.den,V.ren] at *;rw [h i e]
 | .may i _ v,e=>by simp only [V.ok,V.den,V.ren,AS] at *;rw [h i e.1,V.aeK h v e.2]
 | .n _ _,_=>rfl
 | .ptr i _,e=>by simp only [V.ok,V.den,V.ren] at *;rw [h i e]
 | .sl i _ _ _,e=>by simp only [V.ok,V.den,V.ren] at *;rw [h i e]
 | .iface _ v,e=>by simp only [V.ok,V.den,V.ren] at *;rw [V.aeK h v e]
 | .agg l,e=>by simp only [V.ok,V.den,V.ren] at *;rw [gu h l e]
 | .tup l,e=>by simp only [V.ok,V.den,V.ren] at *;rw [gu h l e]
 | .row _ _ _ _ _,e=>by simp [V.ok] at e
 | .orow _ _ _,e=>by simp [V.ok] at e
 | .pr i _ _ _,e=>by simp only [V.ok,V.den,V.ren] at *;rw [h i e]
 | .sub i _ _ _,e=>by simp only [V.ok,V.den,V.ren] at *;rw [h i e]
 | .junk,e=>by simp [V.ok] at e
 | .s _,_=>rfl
 | .tt,_=>rfl
 | .ff,_=>rfl
 | .nilIface,_=>rfl
 | .nilPtr,_=>rfl
 | .nilSl,_=>rfl
 | .raw _,_=>rfl
theorem gu {ν ν':Env} {σ:Nat->Nat} {p:Nat->Bool} (h:∀ i,p i=true->(ν' (σ i)).core=(ν i).core):∀ l:List V,okL p l=true->aH ν' (Ax σ l)=aH ν l
 | [],_=>rfl
 | v::r,e=>by simp only [okL,AS,aH,Ax] at *;rw [V.aeK h v e.1,gu h r e.2]
end
mutual
theorem V.aeS {σ:Nat->Nat} {p q:Nat->Bool} (h:∀ i,p i=true->q (σ i)=true):∀ v:V,v.ok p=true->(v.ren σ).ok q=true
 | .b i,e=>by simp only [V.ok,V.ren] at *;exact h i e
 | .may i _ v,e=>by simp only [V.ok,V.ren,AS] at *;exact ⟨h i e.1,V.aeS h v e.2⟩
 | .n _ _,_=>rfl
 | .ptr i _,e=>by simp only [V.ok,V.ren] at *;exact h i e
 | .sl i _ _ _,e=>by simp only [V.ok,V.ren] at *;exact h i e
 | .iface _ v,e=>by simp only [V.ok,V.ren] at *;exact V.aeS h v e
 | .agg l,e=>by simp only [V.ok,V.ren] at *;exact ko h l e
 | .tup l,e=>by simp only [V.ok,V.ren] at *;exact ko h l e
 | .row _ _ _ _ _,e=>by simp [V.ok] at e
 | .orow _ _ _,e=>by simp [V.ok] at e
 | .pr i _ _ _,e=>by simp only [V.ok,V.ren] at *;exact h i e
 | .sub i _ _ _,e=>by simp only [V.ok,V.ren] at *;exact h i e
 | .junk,e=>by simp [V.ok] at e
 | .s _,_=>rfl
 | .tt,_=>rfl
 | .ff,_=>rfl
 | .nilIface,_=>rfl
 | .nilPtr,_=>rfl
 | .nilSl,_=>rfl
 | .raw _,_=>rfl
theorem ko {σ:Nat->Nat} {p q:Nat->Bool} (h:∀ i,p i=true->q (σ i)=true):∀ l:List V,okL p l=true->okL q (Ax σ l)=true
 | [],_=>rfl
 | v::r,e=>by simp only [okL,AS,Ax] at *;exact ⟨V.aeS h v e.1,ko h r e.2⟩
end
def Blk.ren (σ:Nat->Nat):Blk->Blk
 | .cells t l=>.cells t (Ax σ l)
 | .ro t l=>.ro t (Ax σ l)
 | .bx t tp tb ks l g x=>.bx t tp tb ks l g (Qx σ x)
 | .nst t p ks ti ki l m x=>.nst t p ks ti ki l m (MO σ x)
 | b=>b
theorem Blk.aeF {σ:Nat->Nat}:∀ b:Blk,(b.ren σ).owned=b.owned
 | .cells ..=>rfl
 | .ro ..=>rfl
 | .leaf _=>rfl
 | .lst ..=>rfl
 | .dead=>rfl
 | .bx ..=>rfl
 | .nst ..=>rfl
theorem Blk.aeS {σ:Nat->Nat} {p q:Nat->Bool} (h:∀ i,p i=true->q (σ i)=true):∀ b:Blk,b.ok p=true->(b.ren σ).ok q=true
 | .cells _ l,e=>ko h l e
 | .ro _ l,e=>ko h l e
 | .leaf _,_=>rfl
 | .lst ..,_=>rfl
 | .dead,_=>rfl
 | .bx _ _ _ _ _ _ x,e=>HD h x e
 | .nst _ _ _ _ _ _ _ x,e=>JH h e
theorem Blk.aeK {ν ν':Env} {s s':Slot} {w:World} {σ:Nat->Nat} {p:Nat->Bool} (h:∀ i,p i=true->(ν' (σ i)).core=(ν i).core) (hc:s.core=s'.core) (hf:s.fp=s'.fp) :
  ∀ {b:Blk},b.ok p=true->b.den ν s w->(b.ren σ).den ν' s' w
 | .cells t l,hb,⟨h1,h2,h3⟩=>by
  refine ⟨hc ▸ h1,fun k=>by rw [<- hf,<- hc];exact h2 k,?_⟩;rw [<- hc,gu h l hb];exact h3
 | .ro t l,hb,⟨h1,h2,h3⟩=>by
  refine ⟨hc ▸ h1,fun k=>by rw [<- hf,<- hc];exact h2 k,?_⟩;rw [<- hc,gu h l hb];exact h3
 | .leaf b,_,⟨h1,h2⟩=>⟨hc ▸ h1,fun k=>by rw [<- hf];exact h2 k⟩
 | .lst true t ks l,_,⟨h1,h2⟩=>⟨hc ▸ h1,fun k=>by rw [<- hf,<- hc];exact h2 k⟩
 | .lst false t ks l,_,⟨h0,h1,h2⟩=>⟨hc ▸ h0,hc ▸ h1,fun k=>by rw [<- hf,<- hc];exact h2 k⟩
 | .dead,_,h=>fun k=>by rw [<- hf];exact h k
 | .bx t tp tb ks l g lt,hb,⟨vals,box,d⟩=>⟨vals,box,by
   have hl:∀ r x,oP l g (Qx σ lt) r x↔oP l g lt r x:=by
    intro r x;cases lt with
    | none=>exact Iff.rfl
    | some q=>exact ⟨fun ⟨h1,h2,h3⟩=>⟨h1,h2,fun q' hq'=>by cases hq';exact h3 (q.1,σ q.2) rfl⟩,fun ⟨h1,h2,h3⟩=>⟨h1,h2,fun q' hq'=>by cases hq';exact h3 q rfl⟩⟩
   exact ⟨hc ▸ d.own,fun r h1 h2 h3=>d.emp r h1 h2 (fun q hq=>by subst hq;exact h3 (q.1,σ q.2) rfl),fun r x hx=>d.full r x ((hl r x).1 hx),fun q hq=>by
    cases lt with
    | none=>cases hq
    | some q0 =>
     cases hq;have:=d.lent q0 rfl;rw [h q0.2 hb];exact this,fun k=>by
    rw [<- hf,<- hc,d.fp k];exact or_congr Iff.rfl ⟨fun ⟨r,x,h1,h2⟩=>⟨r,x,(hl r x).2 h1,h2⟩,fun ⟨r,x,h1,h2⟩=>⟨r,x,(hl r x).1 h1,h2⟩⟩,
    fun r x r' x' h1 h2=>d.inj r x r' x' ((hl r x).1 h1) ((hl r' x').1 h2),fun r x a h1 h2=>d.apart r x a ((hl r x).1 h1) (by rw [hc];exact h2)⟩⟩
 | .nst t p ks ti ki l m x,hb,⟨iv,d⟩=>⟨iv,by
   have hl:∀ r q,cr m (MO σ x) r q↔cr m x r q:=fun r q =>
    ⟨fun ⟨h1,h2,h3⟩=>⟨h1,h2,fun z hz=>h3 (z.1,σ z.2) (List.mem_map.2 ⟨z,hz,rfl⟩)⟩,fun ⟨h1,h2,h3⟩=>⟨h1,h2,fun z hz=>by
     obtain ⟨y,hy,rfl⟩:=List.mem_map.1 hz;exact h3 y hy⟩⟩
   exact ⟨d.len,d.one,hc ▸ d.own,fun r q hq=>d.full r q ((hl r q).1 hq),fun z hz=>by
    obtain ⟨y,hy,rfl⟩:=List.mem_map.1 hz;have:=d.lent y hy;rw [<- h y.2 (dZ.1 hb y hy)] at this;exact this,fun k=>by
    rw [<- hf,<- hc,d.fp k];exact or_congr Iff.rfl ⟨fun ⟨r,q,h1,h2⟩=>⟨r,q,(hl r q).2 h1,h2⟩,fun ⟨r,q,h1,h2⟩=>⟨r,q,(hl r q).1 h1,h2⟩⟩,
    fun r q r' q' k h1 h2=>d.inj r q r' q' k ((hl r q).1 h1) ((hl r' q').1 h2),fun r q a h1 h2=>d.apart r q a ((hl r q).1 h1) (by rw [hc];exact h2)⟩⟩
abbrev Obj:=List V->Heap->T (V × Heap)
def inH (h:Heap) (i:Nat):Bool:=(look h i).isSome
def inO (h h':Heap) (i:Nat):Bool:=inH h' i||match look h i with
 | some b => !b.owned
 | none=>false
def iX (h:Heap) (v:V) (h':Heap):Bool:=v.ok (inO h h')&&h'.all fun p=>p.2.owned&&p.2.ok (inO h h')&&(match look h p.1 with
 | some b=>b.owned
 | none=>true)
def gN (ν:Env) (h:Heap) (k:Nat):Prop:=∃ j b,look h j=some b/\b.owned=true/\(ν j).fp k
structure au (P:Program) (f:Nat) (sp:Obj):Prop where
 body:∃ fn,P.funcs[f]?=some fn/\fn.body.isSome=true/\(fn.name=="runtime.NumGoroutine")=false
 calls:∀ (args:List V) (h:Heap) (v:V) (h':Heap) (ν:Env) (w:World),Glob w->(∀ k,gN ν h k->gs<=k)->okL (inH h) args=true->(∀ i b,look h i=some b->b.ok (inH h)=true/\i<h.length)->Rel ν (look h) w->(sp args h).eval=some (v,h')->iX h v h'=true ->
  Calls P f (aH ν args).toArray w fun e w'=>∃ ν':Env,e=.returned (v.den ν')/\(∀ i,inH h i=true->(ν' i).core=(ν i).core)/\Rel ν' (look h') w' /\
   (∀ i b,look h' i=some b->∀ k,(ν' i).fp k->gN ν h k\/w.heap.size<=k)/\Prog w w' (gN ν h)
abbrev Spec:=List V->T V
inductive Con where
 | val (sp:Spec)
 | obj (sp:Obj)
 /- of one block's cells,told by its type,and plain values: it writes nothing -/
 | get (t:TypeId) (sp:List V->List V->T V)
 /- of all that the arguments lead to: it changes nothing,and gives a plain value -/
 | see (sp:List V->Heap->T V)
instance:Coe (List V->T V) Con:=⟨.val⟩
instance:Coe (List V->Heap->T (V × Heap)) Con:=⟨.obj⟩
structure Cfg where
 P:Program
 G:Nat->Option Con
 E:List TypeId
 /- remainders by told numbers up to this are parted into told numbers -/
 ways:Nat
mutual
def bD (L:ay):V->V
 | .b i=>match dj L (.b i) with
  | some c=>.s (.bool c)
  | none=>.junk
 | .ptr _ _=>.junk
 | .sl _ _ _ _=>.junk
 | .row _ _ _ _ _=>.junk
 | .orow _ _ _=>.junk
 | .may _ _ _=>.junk
 | .n k x=>.s (.int k x)
 | .iface t v=>.iface t (bD L v)
 | .agg l=>.agg (aV L l)
 | .tup l=>.tup (aV L l)
 | v=>v
def aV (L:ay):List V->List V
 | []=>[]
 | v::r=>bD L v::aV L r
end
def flat (v:V):Bool:=v.ok fun _=>false
def dh (l:List V):Bool:=okL (fun _=>false) l
theorem kN {v:V} (h:flat v=true) (ν ν':Env):v.den ν=v.den ν':=V.aev (p:=fun _=>false) (fun i hi=>by cases hi) v h
theorem fc {l:List V} (h:dh l=true) (ν ν':Env):aH ν l=aH ν' l:=cg (p:=fun _=>false) (fun i hi=>by cases hi) l h
mutual
theorem fY {ν:Env} {L:ay} {w:World} (hr:Rel ν L w):∀ v:V,flat (bD L v)=true->(bD L v).den ν=v.den ν
 | .b i,h=>by
  cases ht:dj L (.b i) with
  | some c=>simp only [bD,ht,V.den,S.den];have:=ck hr ht;simpa [V.den] using this.symm
  | none=>simp [bD,ht,flat,V.ok] at h
 | .ptr _ _,h=>by simp [bD,flat,V.ok] at h
 | .sl _ _ _ _,h=>by simp [bD,flat,V.ok] at h
 | .row _ _ _ _ _,h=>by simp [bD,flat,V.ok] at h
 | .orow _ _ _,h=>by simp [bD,flat,V.ok] at h
 | .pr _ _ _ _,h=>by simp [bD,flat,V.ok] at h
 | .sub _ _ _ _,h=>by simp [bD,flat,V.ok] at h
 | .may _ _ _,h=>by simp [bD,flat,V.ok] at h
 | .n _ _,_=>rfl
 | .iface t v,h=>by
  simp only [bD,V.den,flat,V.ok] at *
  rw [fY hr v h]
 | .agg l,h=>by
  simp only [bD,V.den,flat,V.ok] at *
  rw [cJ hr l h]
 | .tup l,h=>by
  simp only [bD,V.den,flat,V.ok] at *
  rw [cJ hr l h]
 | .s _,_=>rfl
 | .tt,_=>rfl
 | .ff,_=>rfl
 | .nilIface,_=>rfl
 | .nilPtr,_=>rfl
 | .nilSl,_=>rfl
 | .raw _,_=>rfl
 | .junk,_=>rfl
theorem cJ {ν:Env} {L:ay} {w:World} (hr:Rel ν L w):∀ l:List V,dh (aV L l)=true->aH ν (aV L l)=aH ν l
 | [],_=>rfl
 | v::r,h=>by
  simp only [aV,dh,okL,AS,aH] at *
  rw [fY hr v h.1,cJ hr r h.2]
end
def cd (n:Nat):List V->List V × Heap
 | []=>([],[])
 | .s (.bool c)::r=>(.b n::(cd (n+1) r).1,(n,.leaf c)::(cd (n+1) r).2)
 | v::r=>(v::(cd n r).1,(cd n r).2)
def attach (n:Nat):V->V × Heap
 | .s (.bool c)=>(.b n,[(n,.leaf c)])
 | .tup l=>(.tup (cd n l).1,(cd n l).2)
 | .agg l=>(.agg (cd n l).1,(cd n l).2)
 | v=>(v,[])
theorem dB:∀ (l:List V) (n:Nat),leaves (cd n l).2=true
 | [],_=>rfl
 | v::r,n=>by
  unfold cd;split
  ·rename_i h;cases h
  ·rename_i h;cases h;simp only [leaves,List.all_cons,Bool.true_and];exact dB r (n+1)
  ·rename_i h;cases h;exact dB r n
theorem gi:∀ (l:List V) (n i:Nat) (b:Blk),(i,b)∈(cd n l).2->n<=i
 | [],_,_,_,h=>by simp [cd] at h
 | v::r,n,i,b,h=>by
  unfold cd at h;split at h
  ·rename_i h';cases h'
  ·rename_i h';cases h';simp only [afd] at h;rcases h with h | h
   ·cases h;exact afh _
   ·have:=gi r (n+1) i b h;omega
  ·rename_i h';cases h';exact gi r n i b h
theorem fx:∀ (l:List V) (n i:Nat) (b:Blk),(i,b)∈(cd n l).2->look (cd n l).2 i=some b
 | [],_,_,_,h=>by simp [cd] at h
 | v::r,n,i,b,h=>by
  unfold cd at h ⊢;split at h
  ·rename_i h';cases h'
  ·rename_i h';cases h';simp only [afd] at h;rcases h with h | h
   ·cases h;simp [look]
   ·have hge:=gi r (n+1) i b h;have hne:(n==i)=false:=by simp;omega
    simp only [look,hne];exact fx r (n+1) i b h
  ·rename_i h';cases h';exact fx r n i b h
theorem gv {ν ν':Env}:∀ (l:List V) (n:Nat),dh l=true->(∀ i c,(i,Blk.leaf c)∈(cd n l).2->(ν' i).core.cond=c)->aH ν' (cd n l).1=aH ν l
 | [],_,_,_=>rfl
 | v::r,n,h,hc=>by
  simp only [dh,okL,AS] at h;unfold cd at hc ⊢;split
  ·rename_i h';cases h'
  ·rename_i c r' h';cases h';simp only [aH,V.den,S.den];rw [gv r (n+1) h.2 (fun i c hi=>hc i c (by simp only;exact No _ hi)),hc n c (by simp)]
  ·rename_i v' r' hne h';cases h';simp only [aH];rw [kN h.1 ν' ν,gv r n h.2 (fun i c hi=>hc i c ?_)];split
   ·rename_i h';cases h'
   ·rename_i h';cases h';exact absurd rfl (hne _)
   ·rename_i h';cases h';exact hi
theorem cP (v:V) (n:Nat):leaves (attach n v).2=true:=by
 unfold attach;split
 ·rfl
 ·exact dB _ _
 ·exact dB _ _
 ·rfl
theorem j5 (v:V) (n i:Nat) (b:Blk) (h:(i,b)∈(attach n v).2):look (attach n v).2 i=some b:=by
 unfold attach at h ⊢;split at h
 ·simp at h;obtain ⟨rfl,rfl⟩:=h;simp [look]
 ·exact fx _ _ _ _ h
 ·exact fx _ _ _ _ h
 ·simp at h
theorem oL (v:V) (n i:Nat) (b:Blk) (h:(i,b)∈(attach n v).2):n<=i:=by
 unfold attach at h;split at h
 ·simp at h;omega
 ·exact gi _ _ _ _ h
 ·exact gi _ _ _ _ h
 ·simp at h
theorem l7 {ν ν':Env} (v:V) (n:Nat) (h:flat v=true) (hc:∀ i c,(i,Blk.leaf c)∈(attach n v).2->(ν' i).core.cond=c):(attach n v).1.den ν'=v.den ν:=by
 unfold attach at hc ⊢;split at hc
 ·rename_i c;simp only [V.den,S.den];rw [hc n c (by simp)]
 ·simp only [V.den];rw [gv _ n (by simpa [flat,dh,V.ok] using h) hc]
 ·simp only [V.den];rw [gv _ n (by simpa [flat,dh,V.ok] using h) hc]
 ·rename_i v _ _ _;exact kN h ν' ν
def nu0:Env:=fun _=>⟨⟨0,0,0,none,false⟩,fun _=>False⟩
def fF:V->Bool
 | .row _ l _ _ _=>dh l
 | .orow _ _ _=>true
 | v=>flat v
def gS (l:List V):Bool:=l.all fF
def holds (n:Nat) (w:World):V->Value->Prop
 | .row t l off len cap,x=>∃ b,n<=b/\x=.slice (some ⟨b,off,none⟩) len cap/\w.heap[b]?=some (.cells (aH nu0 l).toArray t (0,0))
 | .orow t ks l,x=>aeD w n t ks.length x l.length (aN ks l)
 | v,x=>x=v.den nu0
def iu (n:Nat) (w:World):V->Value->Prop
 | .orow t ks l,x=>∃ at_ cap,x=.slice at_ l.length cap/\(l.length<=cap/\(at_=none->cap=0))/\Reads w at_ (aN ks l)
 | v,x=>holds n w v x
def jQ (n:Nat) (w:World):List V->List Value->Prop
 | [],[]=>True
 | v::r,x::xs=>iu n w v x/\jQ n w r xs
 | _,_=>False
theorem B3 {v:V} (h:flat v=true):fF v=true:=by
 cases v<;>first | exact h | (simp [flat,V.ok] at h;done)
theorem dz {n:Nat} {w:World} {v:V} (h:flat v=true) {x:Value}:holds n w v x↔x=v.den nu0:=by
 cases v<;>first | exact Iff.rfl | (simp [flat,V.ok] at h;done)
theorem kr {n:Nat} {w:World} {v:V} (h:flat v=true) {x:Value}:iu n w v x↔x=v.den nu0:=by
 cases v<;>first | exact Iff.rfl | (simp [flat,V.ok] at h;done)
theorem pz {n:Nat} {w:World}:∀ {l:List V} {xs:List Value},dh l=true->jQ n w l xs->xs=aH nu0 l
 | [],[],_,_=>rfl
 | v::r,x::xs,h,hh=>by
  simp only [dh,okL,AS] at h;rw [aH,<- pz h.2 hh.2,(kr h.1).1 hh.1]
 | [],_::_,_,hh=>hh.elim
 | _::_,[],_,hh=>hh.elim
structure an (P:Program) (f:Nat) (sp:Spec):Prop where
 body:∃ fn,P.funcs[f]?=some fn/\fn.body.isSome=true/\(fn.name=="runtime.NumGoroutine")=false
 calls:∀ (args:List V) (v:V) (xs:List Value) (w:World),Glob w->gS args=true->(sp args).eval=some v->fF v=true->jQ 0 w args xs ->
  Calls P f xs.toArray w fun e w'=>∃ x,e=.returned x/\holds w.heap.size w' v x/\Below w.heap.size w w'
def dk (L:ay):V->V
 | .sl i off len cap=>match L i with
  | some (.cells t l)=>.row t (aV L l) off len cap
  | some (.ro t l)=>.row t (aV L l) off len cap
  | _=>.junk
 | .sub i sz off len=>match L i with
  | some (.lst _ t ks l)=>if sz=ks.length/\0<sz then .orow t ks ((l.drop off).take len) else .junk
  | _=>.junk
 | v=>bD L v
def EI (L:ay):V->Option Bool
 | .sub i _ off len=>match L i with
  | some (.lst _ _ _ l)=>some (decide (off+len<=l.length))
  | _=>none
 | _=>none
def oQ (L:ay):List V->Option Bool
 | []=>none
 | v::r=>match EI L v,oQ L r with
  | none,x=>x
  | some a,none=>some a
  | some a,some b=>some (a&&b)
theorem qe {L:ay}:∀ {l:List V} {v:V},v∈l->(∀ b,oQ L l=some b->b=true)->∀ b,EI L v=some b->b=true
 | x::r,v,hm,h,b,hb=>by
  unfold oQ at h;rcases afd.1 hm with rfl | hm
  ·rw [hb] at h;cases e:oQ L r with
   | none=>rw [e] at h;exact h b rfl
   | some c=>rw [e] at h;have:=h _ rfl;rw [AS] at this;exact this.1
  ·refine qe hm (fun c hc => ?_) b hb;rw [hc] at h;cases e:EI L x with
   | none=>rw [e] at h;exact h c rfl
   | some d=>rw [e] at h;have:=h _ rfl;rw [AS] at this;exact this.2
theorem aL {ks:List K}:∀ l:List (Row ks),(aN ks l).length=l.length*ks.length
 | []=>by simp [aN]
 | x::r=>by
  have:=aL r;simp only [aN,List.flatMap_cons,IN,afk,Row.aew,List.length_cons] at *
  rw [this,Nat.add_mul];omega
theorem cu {ks:List K} (a b:List (Row ks)):aN ks (a++b)=aN ks a++aN ks b:=by simp [aN]
theorem fX {ks:List K}:∀ (l:List (Row ks)) (o:Nat),aN ks (l.drop o)=(aN ks l).drop (o*ks.length)
 | l,0=>by simp
 | [],o+1=>by simp [aN]
 | x::r,o+1=>by
  rw [List.drop_succ_cons,fX r o];have:aN ks (x::r)=(Row.cells ks x).map S.den++aN ks r:=by simp [aN]
  have hn:((Row.cells ks x).map S.den).length=ks.length:=by simp [Row.aew]
  have e0:((Row.cells ks x).map S.den).drop ((o+1)*ks.length)=[]:=List.drop_eq_nil_of_le (by rw [hn,Nat.add_mul];omega);rw [this,List.drop_append,e0,List.nil_append,hn,Nat.add_mul,Nat.one_mul,Nat.add_sub_cancel]
theorem pe {ks:List K} (l:List (Row ks)) (n:Nat):∀ (j:Nat) (u:Value),(aN ks (l.take n))[j]?=some u->(aN ks l)[j]?=some u:=by
 intro j u h
 conv=>lhs;rw [<- List.take_append_drop n l,cu]
 rw [List.getElem?_append_left]
 ·exact h
 ·exact (List.getElem?_eq_some_iff.1 h).1
theorem add_add (a:Addr) (i j:Nat):(a.add i).add j=a.add (i+j):=by
 unfold Addr.add;by_cases hi:i=0<;>by_cases hj:j=0<;>simp [hi,hj,Nat.add_assoc]
theorem wg {w:World} {base:Nat} {e:TypeId} {size:Nat} {at_:Option Addr} {n cap:Nat} {xs:List Value} (h:aeD w base e size (.slice at_ n cap) n xs):Reads w at_ xs/\n<=cap:=by
 rcases h.2 with ⟨h0,hn⟩ | ⟨g,off,c,cur,h0,h1,h2,h3,h4,h5,h6⟩
 ·simp only [Value.slice.injEq] at h0;obtain ⟨rfl,rfl,rfl⟩:=h0;refine ⟨fun j u hj => ?_,afh _⟩;have:xs=[]:=List.eq_nil_of_length_eq_zero (by simpa using h.1);subst this;simp at hj
 ·simp only [Value.slice.injEq,true_and] at h0;obtain ⟨rfl,rfl⟩:=h0;refine ⟨fun j u hj=>⟨⟨g,off,none⟩,rfl,?_⟩,h3⟩;exact h.cells j u hj
theorem cK {ν:Env} {σ:Slot} {w:World} {own:Bool} {t:TypeId} {ks:List K} {l:List (Row ks)} (h:(Blk.lst own t ks l).den ν σ w):Reads w σ.core.at_ (aN ks l)/\l.length<=σ.core.cap:=by
 cases own with
 | true=>exact wg h.1
 | false=>exact ⟨h.2.1,h.1.1⟩
theorem mX {ν:Env} {σ:Slot} {w:World} {own:Bool} {t:TypeId} {ks:List K} {l:List (Row ks)} (h:(Blk.lst own t ks l).den ν σ w) (hn:σ.core.at_=none):σ.core.cap=0:=by
 cases own with
 | true =>
  rcases h.1.2 with ⟨q,_⟩ | ⟨g,off,c,cur,q,_⟩
  ·rw [hn] at q;simp only [Value.slice.injEq] at q;exact q.2.2
  ·rw [hn] at q;simp at q
 | false=>exact h.1.2 hn
theorem vg {w:World} {at_:Option Addr} {cap:Nat} {ks:List K} {l:List (Row ks)} (h:Reads w at_ (aN ks l)) (hc:l.length<=cap) {off len:Nat} (hl:off+len<=l.length) :
  Reads w (at_.map fun a=>if cap=off then a else a.add (off*ks.length)) (aN ks ((l.drop off).take len)):=by
 intro j u hj;have h1:=pe _ _ j u hj;rw [fX,List.getElem?_drop] at h1;obtain ⟨a,ha,hcell⟩:=h _ u h1;subst ha;refine ⟨_,rfl,?_⟩;by_cases e:cap=off
 ·have:len=0:=by omega
  subst this;simp [aN] at hj
 ·show w.cell? ((if cap=off then a else a.add (off*ks.length)).add j)=_;rw [if_neg e,add_add];exact hcell
theorem jX {L:ay}:∀ v:V,fF (bD L v)=flat (bD L v):=by
 intro v;cases v<;>try rfl
 case b i =>
  simp only [bD];split<;>rfl
theorem qT {ν:Env} {L:ay} {w:World} (hr:Rel ν L w) {v:V} (h:fF (dk L v)=true) (hg:∀ b,EI L v=some b->b=true):iu 0 w (dk L v) (v.den ν):=by
 have row:∀ {i off len cap:Nat} {t:TypeId} {l:List V},dh (aV L l)=true->(ν i).core.off=0->w.heap[(ν i).core.blk]?=some (.cells (aH ν l).toArray t (0,0)) ->
   holds 0 w (.row t (aV L l) off len cap) (V.den ν (.sl i off len cap)):=by
  intro i off len cap t l hf h0 hc;refine ⟨(ν i).core.blk,Nat.zero_le _,by simp [V.den,h0],?_⟩;rw [fc hf nu0 ν,cJ hr l hf];exact hc
 have plain:∀ {v:V},fF (bD L v)=true->iu 0 w (bD L v) (v.den ν):=by
  intro v hf;rw [jX] at hf;rw [kr hf,kN hf nu0 ν];exact (fY hr v hf).symm
 cases v with
 | sl i off len cap =>
  simp only [dk] at h ⊢;cases hL:L i with
  | none=>rw [hL] at h;simp [fF,flat,V.ok] at h
  | some b =>
   cases b with
   | cells t l =>
    rw [hL] at h;exact row h (hr.den i _ hL).1 (hr.den i _ hL).2.2
   | ro t l =>
    rw [hL] at h;exact row h (hr.den i _ hL).1 (hr.den i _ hL).2.2
   | _=>rw [hL] at h;simp [fF,flat,V.ok] at h
 | sub i sz off len =>
  simp only [dk,EI] at h hg ⊢;cases hL:L i with
  | none=>rw [hL] at h;simp [fF,flat,V.ok] at h
  | some b =>
   cases b with
   | lst own t ks l =>
    rw [hL] at h hg;simp only at h hg ⊢;by_cases hs:sz=ks.length/\0<sz
    ·rw [if_pos hs];have hle:off+len<=l.length:=by simpa using hg _ rfl
     obtain ⟨r1,r2⟩:=cK (hr.den i _ hL);have hlen:((l.drop off).take len).length=len:=by simp;omega
     refine ⟨_,(ν i).core.cap - off,?_,?_,vg r1 r2 hle⟩
     ·rw [hlen,<- hs.1];rfl
     ·refine ⟨by rw [hlen];omega,fun hn => ?_⟩;have:=mX (hr.den i _ hL) (by cases e:(ν i).core.at_ with | none=>rfl | some a=>rw [e] at hn;cases hn);omega
    ·rw [if_neg hs] at h;simp [fF,flat,V.ok] at h
   | _=>rw [hL] at h;simp [fF,flat,V.ok] at h
 | _=>exact plain h
def dU (n:Nat):V->V × Heap
 | .row t l off len cap=>(.sl n off len cap,[(n,.cells t l)])
 | .orow t ks l=>(.sub n ks.length 0 l.length,[(n,.lst true t ks l)])
 | v=>attach n v
theorem B5 {P:Program} {o:Oper} {ρ:Operand->V} {L:ay} {nx f:Nat} {sp:Spec} {c:Call} {args:List V} {v:V} (hop:o.op=.call c) (hc:c.callee=.value (.func f))
  (hsp:an P f sp) (hρ:ρ (.func f)=.raw (.func (.func f) #[] #[])) (ha:args=c.args.toList.map fun x=>dk L (ρ x)) (hfl:gS args=true) (hga:∀ b,oQ L (c.args.toList.map ρ)=some b->b=true) (hv:(sp args).eval=some v) (hfv:fF v=true)
  (hn:∀ i b,(i,b)∈(dU nx v).2->i<nx+strd nx):aeC P o ρ L nx (dU nx v).1 (dU nx v).2:=by
 intro ν a w K Q hG he _ hL hr hk;obtain ⟨fn,hf,hb,hnm⟩:=hsp.body;have hh:∀ l:List Operand,(∀ x∈l,x∈c.args.toList)->gS (l.map fun x=>dk L (ρ x))=true->jQ 0 w (l.map fun x=>dk L (ρ x)) (l.map a.eval):=by
  intro l
  induction l with
  | nil=>intro _ _;trivial
  | cons x r ih =>
   intro hm h;simp only [gS,List.map_cons,List.all_cons,AS] at h;have hj:(ρ x).aet=false:=by
    cases e:ρ x<;>first | rfl | (rw [e] at h;simp [dk,bD,fF,flat,V.ok] at h)
   refine ⟨?_,ih (fun y hy=>hm y (No _ hy)) (by simpa [gS] using h.2)⟩;rw [he x hj];exact qT hr h.1 fun b hb=>qe (v:=ρ x) (List.mem_map.2 ⟨x,hm x ae8,rfl⟩) hga b hb
 have hfe:a.eval (.func f)=.func (.func f) #[] #[]:=rfl;have hargs:c.args.map a.eval=(c.args.toList.map a.eval).toArray:=by
  apply Array.ext';simp
 have hrun:(execOp a.eval o).run P w=.ok (.enter f (c.args.toList.map a.eval).toArray) w:=by
  unfold execOp;simp only [hop,resolve,hc,hargs,Deferred.ofValue,hfe,invoke,callFunc,Sem.run_bind,Sem.run_pure,Result.andThen_ok,run_program,hf,hnm];cases hbd:fn.body with
  | none=>simp [hbd] at hb
  | some bd=>simp [hbd]
 unfold Oper.wp;rw [hrun];refine Calls.mono (hsp.calls args v _ w hG.glob hfl hv hfv (ha ▸ hh _ (fun _ h=>h) (ha ▸ hfl))) ?_;rintro e w' ⟨x,rfl,hx,hbl⟩;have plain:flat v=true->K (a.put o.dst x) w'->K (a.put o.dst x) w':=fun _ h=>h;have flatCase:flat v=true->dU nx v=attach nx v->K (a.put o.dst x) w':=by
  intro hfv he';rw [he'] at hn hk;obtain rfl:=(dz hfv).1 hx;have hf:∀ i,look (attach nx v).2 i≠none->fresh nx i:=by
   intro i hi;obtain ⟨b,hb⟩:=Option.ne_none_iff_exists'.1 hi;have:=aq hb;exact ⟨oL _ _ _ _ this,hn _ _ this⟩
  have hr':Rel ν L w':=⟨fun i b hb=>Blk.loc (hr.den i b hb) fun k hk=>hbl.block k (Blk.bnd (hr.den i b hb) k hk),hr.dis⟩
  have:=hk (leafEnv ν (attach nx v).2) w' (fi (cP _ _) hf) (fb (cP _ _) hf hL hr') (Prog.aeT hbl);have e:V.den (leafEnv ν (attach nx v).2) (attach nx v).1=v.den nu0:=l7 (ν:=nu0) v nx hfv fun i c hi=>by
   unfold leafEnv;rw [j5 _ _ _ _ hi]
  rw [e] at this;exact this
 cases v<;>first | exact flatCase hfv rfl | skip
 case row t l off len cap =>
  obtain ⟨bk,hbk,rfl,hcell⟩:=hx;have hfl':dh l=true:=hfv;obtain ⟨ν',h0,h1,hx,hrel,hpr⟩:=SY (t:=t) (l:=l) (gB (fun i hi=>by cases hi) l hfl') hL hr hbl hbk (by rw [fc hfl' ν nu0];exact hcell);have:=hk ν' w' hx hrel hpr;have e:V.den ν' (V.sl nx off len cap)=.slice (some ⟨bk,off,none⟩) len cap:=by simp [V.den,h0,h1]
  rw [show (dU nx (V.row t l off len cap)).1=V.sl nx off len cap from rfl,e] at this;exact this
 case orow t ks l =>
  have hx:aeD w' w.heap.size t ks.length x l.length (aN ks l):=hx;obtain ⟨at_,cap,rfl,hblk⟩:∃ at_ cap,x=.slice at_ l.length cap/\∀ a,at_=some a->w.heap.size<=a.block:=by
   rcases hx.2 with ⟨h0,hn0⟩ | ⟨g,off,c,cur,h0,h1,_⟩
   ·exact ⟨none,0,by rw [h0,hn0],fun a h=>by cases h⟩
   ·exact ⟨_,_,h0,fun a h=>by cases h;exact h1⟩
  obtain ⟨ν',e1,hx',hrel,hpr⟩:=kZ (b:=.lst true t ks l) (σ:=⟨⟨0,0,cap,at_,false⟩,fun k=>∃ a,at_=some a/\k=a.block⟩) rfl hL hr hbl (by rintro k ⟨a,ha,rfl⟩;exact hblk a ha)
   (fun ν' _=>⟨⟨hx.1,hx.2.imp id fun ⟨g,off,c,cur,h0,h1,h2⟩=>⟨g,off,c,cur,h0,Nat.zero_le _,h2⟩⟩,fun k=>Iff.rfl⟩)
  have:=hk ν' w' hx' hrel hpr;have e:V.den ν' (V.sub nx ks.length 0 l.length)=.slice at_ l.length cap:=by
   simp only [V.den,e1,Nat.zero_mul,Nat.sub_zero];congr 1;cases at_ with
   | none=>rfl
   | some a=>simp [Addr.add]
  rw [show (dU nx (V.orow t ks l)).1=V.sub nx ks.length 0 l.length from rfl,e] at this;exact this
structure Fq (P:Program) (f:Nat) (t:TypeId) (sp:List V->List V->T V):Prop where
 body:∃ fn,P.funcs[f]?=some fn/\fn.body.isSome=true/\(fn.name=="runtime.NumGoroutine")=false
 calls:∀ (l args:List V) (v:V) (b:Nat) (w:World),Glob w->gs<=b->dh l=true->dh args=true->(sp l args).eval=some v->flat v=true->w.heap[b]?=some (.cells (aH nu0 l).toArray t (0,0)) ->
  Calls P f (.pointer (some ⟨b,0,none⟩)::aH nu0 args).toArray w fun e w'=>e=.returned (v.den nu0)/\Below w.heap.size w w'
structure sf (P:Program) (f:Nat) (sp:List V->Heap->T V):Prop where
 body:∃ fn,P.funcs[f]?=some fn/\fn.body.isSome=true/\(fn.name=="runtime.NumGoroutine")=false
 calls:∀ (args:List V) (h:Heap) (v:V) (ν:Env) (w:World),Glob w->(∀ k,gN ν h k->gs<=k)->okL (inH h) args=true->(∀ i b,look h i=some b->b.ok (inH h)=true/\i<h.length)->Rel ν (look h) w->(sp args h).eval=some v->flat v=true ->
  Calls P f (aH ν args).toArray w fun e w'=>e=.returned (v.den nu0)/\Below w.heap.size w w'
theorem EL {L:ay} {v:V} (h:flat (bD L v)=true):v.aet=false:=by
 cases v<;>first | rfl | (simp [bD,flat,V.ok] at h)
theorem qB {L:ay}:∀ {l:List V},dh (aV L l)=true->∀ v∈l,v.aet=false
 | x::r,h,v,hv=>by
  simp only [aV,dh,okL,AS] at h;rcases afd.1 hv with rfl | hv
  ·exact EL h.1
  ·exact qB (l:=r) h.2 v hv
theorem Gk {P:Program} {o:Oper} {ρ:Operand->V} {L:ay} {nx f:Nat} {t:TypeId} {sp:List V->List V->T V} {c:Call} {v:V} (hop:o.op=.call c) (hc:c.callee=.value (.func f))
  (hsp:Fq P f t sp) {i:Nat} {r l:List V} (ha:c.args.toList.map ρ=.ptr i 0::r) (hLi:L i=some (.cells t l)) (hl:dh (aV L l)=true) (hrf:dh (aV L r)=true) (hv:(sp (aV L l) (aV L r)).eval=some v) (hfv:flat v=true)
  (hn:∀ i b,(i,b)∈(attach nx v).2->i<nx+strd nx):aeC P o ρ L nx (attach nx v).1 (attach nx v).2:=by
 intro ν a w K Q hG he _ hL hr hk;obtain ⟨fn,hf,hb,hnm⟩:=hsp.body;obtain ⟨d1,d2,d3⟩:=hr.den i _ hLi;have hj:∀ x∈c.args.toList,(ρ x).aet=false:=by
  intro x hx;have:ρ x∈V.ptr i 0::r:=by rw [<- ha];exact List.mem_map.2 ⟨x,hx,rfl⟩
  rcases afd.1 this with q | q
  ·rw [q];rfl
  ·exact qB hrf _ q
 have hfe:a.eval (.func f)=.func (.func f) #[] #[]:=rfl;have hargs:c.args.map a.eval=(.pointer (some ⟨(ν i).core.blk,0,none⟩)::aH nu0 (aV L r)).toArray:=by
  apply Array.ext';rw [Array.toList_map];have e:c.args.toList.map a.eval=aH ν (c.args.toList.map ρ):=by
   rw [ax,List.map_map];exact List.map_congr_left fun x hx=>he x (hj x hx)
  rw [e,ha];show (V.ptr i 0).den ν::aH ν r=_;rw [<- cJ hr r hrf,fc hrf ν nu0];simp [V.den,d1]
 have hrun:(execOp a.eval o).run P w=.ok (.enter f (.pointer (some ⟨(ν i).core.blk,0,none⟩)::aH nu0 (aV L r)).toArray) w:=by
  unfold execOp;simp only [hop,resolve,hc,hargs,Deferred.ofValue,hfe,invoke,callFunc,Sem.run_bind,Sem.run_pure,Result.andThen_ok,run_program,hf,hnm];cases hbd:fn.body with
  | none=>simp [hbd] at hb
  | some bd=>simp [hbd]
 have hcell:w.heap[(ν i).core.blk]?=some (.cells (aH nu0 (aV L l)).toArray t (0,0)):=by
  rw [fc hl nu0 ν,cJ hr l hl];exact d3
 unfold Oper.wp;rw [hrun];refine Calls.mono (hsp.calls _ _ v _ w hG.glob (hG.own i _ hLi rfl _ ((d2 _).2 rfl)) hl hrf hv hfv hcell) ?_;rintro e w' ⟨rfl,hbl⟩;have hf:∀ i,look (attach nx v).2 i≠none->fresh nx i:=by
  intro i hi;obtain ⟨b,hb⟩:=Option.ne_none_iff_exists'.1 hi;have:=aq hb;exact ⟨oL _ _ _ _ this,hn _ _ this⟩
 have hr':Rel ν L w':=⟨fun i b hb=>Blk.loc (hr.den i b hb) fun k hk=>hbl.block k (Blk.bnd (hr.den i b hb) k hk),hr.dis⟩
 have:=hk (leafEnv ν (attach nx v).2) w' (fi (cP _ _) hf) (fb (cP _ _) hf hL hr') (Prog.aeT hbl);have e:V.den (leafEnv ν (attach nx v).2) (attach nx v).1=v.den nu0:=l7 (ν:=nu0) v nx hfv fun i c hi=>by
  unfold leafEnv;rw [j5 _ _ _ _ hi]
 rw [e] at this;exact this
end Go.Eng
namespace Go.Eng
open Go.RowKit
abbrev R:=T (V × Heap)
def sv1:V->V
 | .n k x=>.s (.int k x)
 | v=>v
def sv:V->V
 | .n k x=>.s (.int k x)
 | .agg l=>.agg (l.map sv1)
 | v=>v
theorem NQ (ν:Env) (v:V):(sv1 v).den ν=v.den ν:=by cases v<;>rfl
theorem TW (p:Nat->Bool) (v:V):(sv1 v).ok p=v.ok p:=by cases v<;>rfl
theorem yx (ν:Env):∀ l:List V,aH ν (l.map sv1)=aH ν l
 | []=>rfl
 | v::r=>by simp only [List.map_cons,aH,NQ,yx ν r]
theorem Ci (p:Nat->Bool):∀ l:List V,okL p (l.map sv1)=okL p l
 | []=>rfl
 | v::r=>by simp only [List.map_cons,okL,TW,Ci p r]
theorem B1 (ν:Env) (v:V):(sv v).den ν=v.den ν:=by
 cases v<;>first | rfl | (simp only [sv,V.den,yx])
theorem sH (v:V):(sv v).aet=v.aet:=by cases v<;>rfl
theorem aba (p:Nat->Bool) (v:V):(sv v).ok p=v.ok p:=by
 cases v<;>first | rfl | (simp only [sv,V.ok,Ci])
theorem rU {P:Program} {o:Oper} {ρ:Operand->V} {L:ay} {nx:Nat} {v:V} {u:Heap} (h:aeC P o (fun x=>sv (ρ x)) L nx v u):aeC P o ρ L nx v u:=by
 intro ν a w K Q hG he hok hL hr hk;refine h ν a w K Q hG (fun x hx => ?_) (fun x hx => ?_) hL hr hk
 ·rw [B1];exact he x (by rw [sH] at hx;exact hx)
 ·rw [aba];exact hok x (by rw [sH] at hx;exact hx)
def rL (op:BinOp) (k:IntKind) (a b:Int):Option V :=
 match op with
 | .add=>some (.n k (k.wrap (a+b)))
 | .sub=>some (.n k (k.wrap (a - b)))
 | .mul=>some (.n k (k.wrap (a*b)))
 | .quo=>if b=0 then none else some (.n k (k.wrap (a.tdiv b)))
 | .rem=>if b=0 then none else some (.n k (a.tmod b))
 | .eql=>some (if a==b then .tt else .ff)
 | .neq=>some (if a != b then .tt else .ff)
 | .lss=>some (if decide (a<b) then .tt else .ff)
 | .leq=>some (if decide (a<=b) then .tt else .ff)
 | .gtr=>some (if decide (b<a) then .tt else .ff)
 | .geq=>some (if decide (b<=a) then .tt else .ff)
 | _=>none
def pu (v:V):R:=.ret (v,[])
def bo (nx:Nat) (c:Bool):R:=.ret (.b nx,[(nx,.leaf c)])
def yJ (nx:Nat) (op:BinOp) (k:IntKind) (a b:Int):R :=
 match op with
 | .add=>pu (.s (.int k (k.wrap (a+b))))
 | .sub=>pu (.s (.int k (k.wrap (a - b))))
 | .mul=>pu (.s (.int k (k.wrap (a*b))))
 | .quo=>.ite none (b==0) .fail (pu (.s (.int k (k.wrap (a.tdiv b)))))
 | .rem=>.ite none (b==0) .fail (pu (.s (.int k (a.tmod b))))
 | .and=>pu (.s (.int k (bits .and k a b)))
 | .or=>pu (.s (.int k (bits .or k a b)))
 | .xor=>pu (.s (.int k (bits .xor k a b)))
 | .andNot=>pu (.s (.int k (bits .andNot k a b)))
 | .eql=>bo nx (a==b)
 | .neq=>bo nx (a != b)
 | .lss=>bo nx (decide (a<b))
 | .leq=>bo nx (decide (a<=b))
 | .gtr=>bo nx (decide (b<a))
 | .geq=>bo nx (decide (b<=a))
 | _=>.fail
def mI (op:BinOp) (k:IntKind) (a b:Int):R :=
 match op with
 | .shl=>.ite none (decide (b<0)) .fail (pu (.s (.int k (k.wrap (a*2 ^ (min b.toNat k.bits))))))
 | .shr=>.ite none (decide (b<0)) .fail (pu (.s (.int k (a.fdiv (2 ^ (min b.toNat k.bits))))))
 | _=>.fail
def qO:BinOp->Bool
 | .shl=>true
 | .shr=>true
 | _=>false
def Cd (P:Program) (L:ay) (t:TypeId) (x y:V):Option Bool :=
 match P.underlying t,x,y with
 | some (.int _),.s (.int k a),.s (.int k' b)=>if k=k' then some (a==b) else none
 | some .string,.s (.str a),.s (.str b)=>some (a.toList==b.toList)
 | some .bool,x,y=>match dj L x,dj L y with
  | some a,some b=>some (a==b)
  | _,_=>none
 | _,_,_=>none
def fU (P:Program) (L:ay) (xs ys:List V):List Field->Option Bool
 | []=>some true
 | f::fs =>
  if f.name≠"_" then
   match fZ P f.type,xs[f.offset]?,ys[f.offset]? with
   | some false,some x,some y=>match Cd P L f.type x y,fU P L xs ys fs with
    | some a,some b=>some (a&&b)
    | _,_=>none
   | _,_,_=>none
  else fU P L xs ys fs
def JV (C:Cfg) (L:ay) (t:TypeId) (xs ys:List V):Option Bool :=
 if C.E.contains t then
  match C.P.underlying t with
  | some (.struct fs)=>fU C.P L xs ys fs.toList
  | _=>none
 else none
def w8 (op:BinOp) (c:Bool):Option Bool :=
 match op with
 | .eql=>some c
 | .neq=>some (!c)
 | _=>none
def opt {α β:Type} (x:Option α) (f:α->T β):T β :=
 match x with
 | some a=>f a
 | none=>.fail
theorem aa {α β:Type} {x:Option α} {f:α->T β} {r:β} (h:(opt x f).eval=some r):∃ a,x=some a/\(f a).eval=some r:=by
 cases x with
 | none=>cases h
 | some a=>exact ⟨a,rfl,h⟩
def LL (C:Cfg) (L:ay) (nx:Nat) (op:BinOp) (t:TypeId) (x y:V):R :=
 match x,y with
 | .s (.int k a),.s (.int k' b)=>if qO op then mI op k a b else if k=k' then yJ nx op k a b else .fail
 | .s (.str a),.s (.str b)=>match op with
  | .add=>.ite none (decide (((a.size+b.size:Nat):Int)>IntKind.i64.max)) .fail (pu (.s (.str (a++b))))
  | .eql=>bo nx (a.toList==b.toList)
  | .neq=>bo nx (!(a.toList==b.toList))
  | _=>.fail
 | .agg xs,.agg ys=>opt (JV C L t xs ys) fun c=>opt (w8 op c) (bo nx)
 | x,y=>match C.P.underlying t with
  | some .bool=>opt (dj L x) fun a=>opt (dj L y) fun b=>opt (w8 op (a==b)) (bo nx)
  | some (.pointer _)=>match x,y with
   | .nilPtr,.nilPtr=>opt (w8 op true) fun c=>pu (if c then .tt else .ff)
   | .ptr _ _,.nilPtr=>opt (w8 op false) fun c=>pu (if c then .tt else .ff)
   | .nilPtr,.ptr _ _=>opt (w8 op false) fun c=>pu (if c then .tt else .ff)
   | _,_=>.fail
  | _=>.fail
structure Cfg.Ok (C:Cfg):Prop where
 G:∀ f sp,C.G f=some (.val sp)->an C.P f sp
 O:∀ f sp,C.G f=some (.obj sp)->au C.P f sp
 R:∀ f t sp,C.G f=some (.get t sp)->Fq C.P f t sp
 S:∀ f sp,C.G f=some (.see sp)->sf C.P f sp
 E:∀ t,t∈C.E->C.P.stoodInHeld t=false/\C.P.eqGuardType C.P.depth t=false
def OQ (v:V) (u:Heap):Prop:=v.ok (fun _=>true)=true/\∀ i b,(i,b)∈u->b.ok (fun _=>true)=true
theorem aw {v v':V} {u:Heap} (h:(pu v).eval=some (v',u)):v'=v/\u=[]:=by simp [pu,T.eval] at h;exact ⟨h.1.symm,h.2⟩
theorem dp {nx:Nat} {c:Bool} {v':V} {u:Heap} (h:(bo nx c).eval=some (v',u)):v'=.b nx/\u=[(nx,.leaf c)]:=by simp [bo,T.eval] at h;exact ⟨h.1.symm,h.2.symm⟩
section bin
variable {C:Cfg} {o:Oper} {ρ:Operand->V} {L:ay} {nx:Nat} {v:V} {u:Heap} {op:BinOp} {t yt:TypeId} {x y:Operand}
theorem Ds (hop:o.op=.binOp op t x y yt) (a:Act) (w:World):(execOp a.eval o).run C.P w=((eqGuard op t x y (a.eval x) (a.eval y)).run C.P w).andThen fun _ w'=>((binOp op t (a.eval x) (a.eval y)).run C.P w').andThen fun v w''=>.ok (.value v) w'':=by
 unfold execOp;simp only [hop,Sem.run_bind,Sem.run_pure];cases (eqGuard op t x y (a.eval x) (a.eval y)).run C.P w<;>rfl
theorem fm (hop:o.op=.binOp op t x y yt) {r:V}
  (h:∀ (ν:Env) (w:World) (a:Act),(∀ x,(ρ x).aet=false->a.eval x=(ρ x).den ν)->Rel ν L w ->
   (eqGuard op t x y (a.eval x) (a.eval y)).run C.P w=.ok () w/\(binOp op t (a.eval x) (a.eval y)).run C.P w=.ok (r.den ν) w):aeC C.P o ρ L nx r []:=by
 refine av fun ν w a he hr => ?_;obtain ⟨h1,h2⟩:=h ν w a he hr;rw [Ds hop,h1];simp [h2]
theorem gz (hop:o.op=.binOp op t x y yt) {c:Bool}
  (h:∀ (ν:Env) (w:World) (a:Act),(∀ x,(ρ x).aet=false->a.eval x=(ρ x).den ν)->Rel ν L w ->
   (eqGuard op t x y (a.eval x) (a.eval y)).run C.P w=.ok () w/\(binOp op t (a.eval x) (a.eval y)).run C.P w=.ok (.bool c) w):aeC C.P o ρ L nx (.b nx) [(nx,.leaf c)]:=by
 refine kJ fun ν w a he hr => ?_;obtain ⟨h1,h2⟩:=h ν w a he hr;rw [Ds hop,h1];simp [h2]
theorem C8 (hop:o.op=.binOp op t x y yt) {k:IntKind} {a b:Int} (hx:ρ x=.s (.int k a)) (hy:ρ y=.s (.int k b)) (hs:qO op=false) (h:(yJ nx op k a b).eval=some (v,u)):aeC C.P o ρ L nx v u:=by
 have ex:∀ (ν:Env) (A:Act),(∀ x,(ρ x).aet=false->A.eval x=(ρ x).den ν)->A.eval x=.int k a/\A.eval y=.int k b:=fun ν A he =>
  ⟨by rw [he x (by rw [hx];rfl),hx];rfl,by rw [he y (by rw [hy];rfl),hy];rfl⟩
 have pureC:∀ {r:Int},(∀ w,(binOp op t (.int k a) (.int k b)).run C.P w=.ok (.int k r) w)->aeC C.P o ρ L nx (.s (.int k r)) []:=fun hr =>
  fm hop fun ν w A he _=>by obtain ⟨e1,e2⟩:=ex ν A he;rw [e1,e2,eqGuard_at_int];exact ⟨rfl,hr w⟩
 have boolC:∀ {c:Bool},(∀ w,(binOp op t (.int k a) (.int k b)).run C.P w=.ok (.bool c) w)->aeC C.P o ρ L nx (.b nx) [(nx,.leaf c)]:=fun hr =>
  gz hop fun ν w A he _=>by obtain ⟨e1,e2⟩:=ex ν A he;rw [e1,e2,eqGuard_at_int];exact ⟨rfl,hr w⟩
 cases op<;>simp only [yJ] at h<;>first | (simp [qO] at hs;done) | skip
 case add=>obtain ⟨rfl,rfl⟩:=aw h;exact pureC fun w=>by simp [binOp_add,Op.intArith]
 case sub=>obtain ⟨rfl,rfl⟩:=aw h;exact pureC fun w=>by simp [binOp_sub,Op.intArith]
 case mul=>obtain ⟨rfl,rfl⟩:=aw h;exact pureC fun w=>by simp [binOp_mul,Op.intArith]
 case quo =>
  simp only [T.eval] at h;cases hb:(b==0) with
  | true=>simp [hb] at h
  | false =>
   simp only [hb,cond_false] at h;obtain ⟨rfl,rfl⟩:=aw h;have:b≠0:=by simpa using hb
   exact pureC fun w=>by simp [binOp_quo,Op.intDiv,this]
 case rem =>
  simp only [T.eval] at h;cases hb:(b==0) with
  | true=>simp [hb] at h
  | false =>
   simp only [hb,cond_false] at h;obtain ⟨rfl,rfl⟩:=aw h;have:b≠0:=by simpa using hb
   exact pureC fun w=>by simp [binOp_rem,Op.intDiv,this]
 case and=>obtain ⟨rfl,rfl⟩:=aw h;exact pureC fun w=>by simp [binOp_and,intBits_and]
 case or=>obtain ⟨rfl,rfl⟩:=aw h;exact pureC fun w=>by simp [binOp_or,intBits_or]
 case xor=>obtain ⟨rfl,rfl⟩:=aw h;exact pureC fun w=>by simp [binOp_xor,intBits_xor]
 case andNot=>obtain ⟨rfl,rfl⟩:=aw h;exact pureC fun w=>by simp [binOp_andNot,intBits_andNot]
 case eql=>obtain ⟨rfl,rfl⟩:=dp h;exact boolC fun w=>by simp [binOp_eql]
 case neq=>obtain ⟨rfl,rfl⟩:=dp h;exact boolC fun w=>by simp [binOp_neq]
 case lss=>obtain ⟨rfl,rfl⟩:=dp h;exact boolC fun w=>by simp [binOp_lss]
 case leq=>obtain ⟨rfl,rfl⟩:=dp h;exact boolC fun w=>by simp [binOp_leq]
 case gtr=>obtain ⟨rfl,rfl⟩:=dp h;exact boolC fun w=>by simp [binOp_gtr]
 case geq=>obtain ⟨rfl,rfl⟩:=dp h;exact boolC fun w=>by simp [binOp_geq]
theorem vr (hop:o.op=.binOp op t x y yt) {k:IntKind} {a b:Int} (hx:ρ x=.n k a) (hy:ρ y=.n k b) (h:rL op k a b=some v):aeC C.P o ρ L nx v []:=by
 have ex:∀ (ν:Env) (A:Act),(∀ x,(ρ x).aet=false->A.eval x=(ρ x).den ν)->A.eval x=.int k a/\A.eval y=.int k b:=fun ν A he =>
  ⟨by rw [he x (by rw [hx];rfl),hx];rfl,by rw [he y (by rw [hy];rfl),hy];rfl⟩
 have pureC:∀ {r:V},(∀ ν w,(binOp op t (.int k a) (.int k b)).run C.P w=.ok (r.den ν) w)->aeC C.P o ρ L nx r []:=fun hr =>
  fm hop fun ν w A he _=>by obtain ⟨e1,e2⟩:=ex ν A he;rw [e1,e2,eqGuard_at_int];exact ⟨rfl,hr ν w⟩
 have bd:∀ (c:Bool) (ν:Env),V.den ν (if c=true then .tt else .ff)=.bool c:=fun c ν=>by cases c<;>rfl
 cases op<;>simp only [rL,c9] at h<;>first | (cases h;done) | skip
 case add=>subst h;exact pureC fun ν w=>by simp [binOp_add,Op.intArith,V.den]
 case sub=>subst h;exact pureC fun ν w=>by simp [binOp_sub,Op.intArith,V.den]
 case mul=>subst h;exact pureC fun ν w=>by simp [binOp_mul,Op.intArith,V.den]
 case quo =>
  split at h
  ·cases h
  ·rename_i hb;simp only [c9] at h;subst h;exact pureC fun ν w=>by simp [binOp_quo,Op.intDiv,hb,V.den]
 case rem =>
  split at h
  ·cases h
  ·rename_i hb;simp only [c9] at h;subst h;exact pureC fun ν w=>by simp [binOp_rem,Op.intDiv,hb,V.den]
 case eql=>subst h;exact pureC fun ν w=>by rw [bd];simp [binOp_eql]
 case neq=>subst h;exact pureC fun ν w=>by rw [bd];simp [binOp_neq]
 case lss=>subst h;exact pureC fun ν w=>by rw [bd];simp [binOp_lss]
 case leq=>subst h;exact pureC fun ν w=>by rw [bd];simp [binOp_leq]
 case gtr=>subst h;exact pureC fun ν w=>by rw [bd];simp [binOp_gtr]
 case geq=>subst h;exact pureC fun ν w=>by rw [bd];simp [binOp_geq]
theorem wU (hop:o.op=.binOp op t x y yt) {k k':IntKind} {a b:Int} (hx:ρ x=.s (.int k a)) (hy:ρ y=.s (.int k' b)) (h:(mI op k a b).eval=some (v,u)):aeC C.P o ρ L nx v u:=by
 have ex:∀ (ν:Env) (A:Act),(∀ x,(ρ x).aet=false->A.eval x=(ρ x).den ν)->A.eval x=.int k a/\A.eval y=.int k' b:=fun ν A he =>
  ⟨by rw [he x (by rw [hx];rfl),hx];rfl,by rw [he y (by rw [hy];rfl),hy];rfl⟩
 have pureC:∀ {r:Int},(∀ w,(binOp op t (.int k a) (.int k' b)).run C.P w=.ok (.int k r) w)->aeC C.P o ρ L nx (.s (.int k r)) []:=fun hr =>
  fm hop fun ν w A he _=>by obtain ⟨e1,e2⟩:=ex ν A he;rw [e1,e2,eqGuard_at_int];exact ⟨rfl,hr w⟩
 cases op<;>simp only [mI] at h<;>first | (cases h;done) | skip
 all_goals
  simp only [T.eval] at h;cases hb:decide (b<0) with
  | true=>simp [hb] at h
  | false =>
   simp only [hb,cond_false] at h;obtain ⟨rfl,rfl⟩:=aw h;have hb':¬ b<0:=by simpa using hb
   first
    | exact pureC fun w=>by rw [binOp_shl];simp [Op.shift,hb']
    | exact pureC fun w=>by rw [binOp_shr];simp [Op.shift,hb']
theorem AJ {P:Program} {ν:Env} {w:World} {L:ay} (hr:Rel ν L w) {t:TypeId} {x y:V} {c:Bool} (h:Cd P L t x y=some c) (d:Nat):(Op.equalIn (d+1) t (x.den ν) (y.den ν)).run P w=.ok c w:=by
 unfold Cd at h;split at h
 ·rename_i hu;split at h
  ·rename_i hk;subst hk;simp only [c9] at h;subst h;exact run_equalIn_int w d t _ _ _ _ hu
  ·cases h
 ·rename_i hu;simp only [c9] at h;subst h;exact run_equalIn_string w d t _ _ hu
 ·rename_i hu;split at h
  ·rename_i h1 h2;simp only [c9] at h;subst h;rw [ck hr h1,ck hr h2];exact run_equalIn_bool w d t _ _ hu
  ·cases h
 ·cases h
theorem mW {P:Program} {ν:Env} {w:World} {t:TypeId} {xs:List V} {off:Nat} {x:V} (ha:fZ P t=some false) (hx:xs[off]?=some x):(part t (aH ν xs).toArray off).run P w=.ok (x.den ν) w:=by
 unfold part;simp only [Sem.run_bind,dm ha,Result.andThen_ok,Bool.false_eq_true,if_false];have:(aH ν xs).toArray[off]?=some (x.den ν):=by rw [ax];simp [hx]
 rw [this];rfl
theorem i7 {P:Program} {ν:Env} {w:World} {L:ay} (hr:Rel ν L w) {xs ys:List V} (d:Nat):∀ {fs:List Field} {c:Bool},fU P L xs ys fs=some c ->
  (Op.eqFields (d+1) (aH ν xs).toArray (aH ν ys).toArray fs).run P w=.ok c w
 | [],c,h=>by simp [fU] at h;subst h;rfl
 | f::fs,c,h=>by
  unfold fU at h;unfold Op.eqFields;by_cases hn:f.name≠"_"
  ·simp only [hn,ne_eq,not_false_eq_true,if_true] at h ⊢;split at h
   ·rename_i x y ha hx hy;split at h
    ·rename_i a b h1 h2;simp only [c9] at h;subst h;have ih:=i7 hr d h2;simp only [Sem.run_bind,mW ha hx,mW ha hy,Result.andThen_ok,AJ hr h1,Sem.run_ite];cases a
     ·simp
     ·simpa using ih
    ·cases h
   ·cases h
  ·simp only [hn,if_false] at h ⊢;exact i7 hr d h
theorem kK {op:BinOp} {a c:Bool} (h:w8 op a=some c):(op=.eql/\c=a)\/(op=.neq/\c = !a):=by
 unfold w8 at h;split at h<;>simp_all
theorem Qi (hC:C.Ok) (hop:o.op=.binOp op t x y yt) (h:(LL C L nx op t (ρ x) (ρ y)).eval=some (v,u)):aeC C.P o ρ L nx v u:=by
 unfold LL at h;split at h
 ·rename_i k a k' b hx hy;by_cases hs:qO op=true
  ·rw [if_pos hs] at h;exact wU hop hx hy h
  ·rw [if_neg hs] at h;by_cases hk:k=k'
   ·rw [if_pos hk] at h;subst hk;exact C8 hop hx hy (by simpa using hs) h
   ·rw [if_neg hk] at h;cases h
 ·rename_i a b hx hy;have ex:∀ (ν:Env) (A:Act),(∀ x,(ρ x).aet=false->A.eval x=(ρ x).den ν)->A.eval x=.string a/\A.eval y=.string b:=fun ν A he =>
   ⟨by rw [he x (by rw [hx];rfl),hx];rfl,by rw [he y (by rw [hy];rfl),hy];rfl⟩
  split at h
  ·simp only [T.eval] at h;cases hb:decide (((a.size+b.size:Nat):Int)>IntKind.i64.max) with
   | true=>simp only [hb,cond_true] at h;cases h
   | false =>
    simp only [hb,cond_false] at h;obtain ⟨rfl,rfl⟩:=aw h;have hb':¬ (((a.size+b.size:Nat):Int)>IntKind.i64.max):=by simpa using hb
    refine fm hop fun ν w A he _ => ?_;obtain ⟨e1,e2⟩:=ex ν A he;rw [e1,e2,eqGuard_at_string];refine ⟨rfl,?_⟩;show (Op.stringOp .add a b).run C.P w=_;unfold Op.stringOp;simp only [if_neg hb'];rfl
  ·obtain ⟨rfl,rfl⟩:=dp h;refine gz hop fun ν w A he _ => ?_;obtain ⟨e1,e2⟩:=ex ν A he;rw [e1,e2,eqGuard_at_string];exact ⟨rfl,rfl⟩
  ·obtain ⟨rfl,rfl⟩:=dp h;refine gz hop fun ν w A he _ => ?_;obtain ⟨e1,e2⟩:=ex ν A he;rw [e1,e2,eqGuard_at_string];exact ⟨rfl,rfl⟩
  ·cases h
 ·rename_i xs ys hx hy;obtain ⟨c,hc,h⟩:=aa h;obtain ⟨c',hc',h⟩:=aa h;obtain ⟨rfl,rfl⟩:=dp h;unfold JV at hc;split at hc
  ·rename_i hE;have hE':=hC.E t (by simpa using hE);split at hc
   ·rename_i fs hu;have hfo:C.P.fieldsOf t=fs:=by simp [Program.fieldsOf,hu]
    refine gz hop fun ν w A he hr => ?_;have e1:A.eval x=.agg (aH ν xs).toArray:=by rw [he x (by rw [hx];rfl),hx];rfl
    have e2:A.eval y=.agg (aH ν ys).toArray:=by rw [he y (by rw [hy];rfl),hy];rfl
    have hq:(Op.equalIn 10000 t (.agg (aH ν xs).toArray) (.agg (aH ν ys).toArray)).run C.P w=.ok c w:=by
     rw [show (10000:Nat)=9999+1 from rfl,run_equalIn_struct w 9999 t _ _ (by rw [hfo];exact hu) hE'.1,hfo,show (9999:Nat)=9998+1 from rfl];exact i7 hr 9998 hc
    rw [e1,e2];refine ⟨run_eqGuard_agg w op t x y _ _ hE'.2,?_⟩;rcases kK hc' with ⟨rfl,rfl⟩ | ⟨rfl,rfl⟩
    ·rw [run_eql_struct,hq];rfl
    ·rw [run_neq_struct,hq];rfl
   ·cases hc
  ·cases hc
 ·rename_i hns1 hns2 hns3;split at h
  ·rename_i hu;obtain ⟨a,ha,h⟩:=aa h;obtain ⟨b,hb,h⟩:=aa h;obtain ⟨c',hc',h⟩:=aa h;obtain ⟨rfl,rfl⟩:=dp h;refine gz hop fun ν w A he hr => ?_;have j1:(ρ x).aet=false:=by cases e:ρ x<;>first | rfl | (rw [e] at ha;simp [dj] at ha)
   have j2:(ρ y).aet=false:=by cases e:ρ y<;>first | rfl | (rw [e] at hb;simp [dj] at hb)
   rw [he x j1,he y j2,ck hr ha,ck hr hb,eqGuard_at_bool];refine ⟨rfl,?_⟩;have hq:=run_equal_bool (P:=C.P) w t a b hu;rcases kK hc' with ⟨rfl,rfl⟩ | ⟨rfl,rfl⟩
   ·show (do pure (Value.bool (<- Op.equal t (.bool a) (.bool b)))).run C.P w=_;simp [hq]
   ·show (do pure (Value.bool (!(<- Op.equal t (.bool a) (.bool b))))).run C.P w=_;simp [hq]
  ·rename_i el hu;have go:∀ {p q:Option Addr} {c:Bool},(∀ w,(Op.equal t (.pointer p) (.pointer q)).run C.P w=.ok c w)->∀ {c':Bool},w8 op c=some c'->∀ w:World,(eqGuard op t x y (.pointer p) (.pointer q)).run C.P w=.ok () w/\(binOp op t (.pointer p) (.pointer q)).run C.P w=.ok (.bool c') w:=by
    intro p q c hq c' hn w;rw [eqGuard_at_pointer];refine ⟨rfl,?_⟩;rcases kK hn with ⟨rfl,rfl⟩ | ⟨rfl,rfl⟩
    ·show (do pure (Value.bool (<- Op.equal t (.pointer p) (.pointer q)))).run C.P w=_;simp [hq]
    ·show (do pure (Value.bool (!(<- Op.equal t (.pointer p) (.pointer q))))).run C.P w=_;simp [hq]
   have eq:∀ (p q:Option Addr),(p=none\/q=none)->∀ w,(Op.equal t (.pointer p) (.pointer q)).run C.P w=.ok (p.isNone&&q.isNone) w:=by
    intro p q hpq w;have gen:∀ d,(Op.equalIn (d+1) t (.pointer p) (.pointer q)).run C.P w=.ok (p.isNone&&q.isNone) w:=by
     intro d;rcases hpq with rfl | rfl
     ·cases q<;>simp [Op.equalIn,run_underlying hu]
     ·cases p<;>simp [Op.equalIn,run_underlying hu]
    exact gen 9999
   have fin:∀ {p q:Env->Option Addr} {c c':Bool} {r:V},(∀ ν,(ρ x).den ν=.pointer (p ν))->(∀ ν,(ρ y).den ν=.pointer (q ν))->(ρ x).aet=false->(ρ y).aet=false->(∀ ν,p ν=none\/q ν=none) ->
     (∀ ν,c=((p ν).isNone&&(q ν).isNone))->w8 op c=some c'->(∀ ν,r.den ν=.bool c')->aeC C.P o ρ L nx r []:=by
    intro p q c c' r hp hq j1 j2 hn hc hcc hr;refine fm hop fun ν w A he _ => ?_;rw [he x j1,he y j2,hp,hq,hr];exact go (fun w=>by rw [eq _ _ (hn ν),hc ν]) hcc w
   split at h
   ·rename_i hx hy;obtain ⟨c',hc',h⟩:=aa h;obtain ⟨rfl,rfl⟩:=aw h;exact fin (p:=fun _=>none) (q:=fun _=>none) (fun ν=>by rw [hx];rfl) (fun ν=>by rw [hy];rfl) (by rw [hx];rfl) (by rw [hy];rfl) (fun _=>.inl rfl) (fun _=>rfl) hc' (fun ν=>by cases c'<;>rfl)
   ·rename_i i off hx hy;obtain ⟨c',hc',h⟩:=aa h;obtain ⟨rfl,rfl⟩:=aw h;exact fin (p:=fun ν=>some ⟨(ν i).core.blk,(ν i).core.off+off,none⟩) (q:=fun _=>none) (fun ν=>by rw [hx];rfl) (fun ν=>by rw [hy];rfl) (by rw [hx];rfl) (by rw [hy];rfl) (fun _=>.inr rfl) (fun _=>rfl) hc' (fun ν=>by cases c'<;>rfl)
   ·rename_i i off hx hy;obtain ⟨c',hc',h⟩:=aa h;obtain ⟨rfl,rfl⟩:=aw h;exact fin (p:=fun ν=>none) (q:=fun ν=>some ⟨(ν i).core.blk,(ν i).core.off+off,none⟩) (fun ν=>by rw [hx];rfl) (fun ν=>by rw [hy];rfl) (by rw [hx];rfl) (by rw [hy];rfl) (fun _=>.inl rfl) (fun _=>rfl) hc' (fun ν=>by cases c'<;>rfl)
   ·cases h
  ·cases h
end bin
end Go.Eng
namespace Go.Eng
open Go.RowKit
def me (l:List V) (off:Nat) (c:List V):List V:=l.take off++c++l.drop (off+c.length)
def o8 (place:Nat->Option (Nat × Nat)) (cells:List V):List (Nat × V)->Option (List V)
 | []=>some cells
 | (i,v)::rest =>
  match place i with
  | none=>none
  | some (off,size) =>
   if (cellsOf v).length=size/\off+(cellsOf v).length<=cells.length/\bN v=true then o8 place (me cells off (cellsOf v)) rest else none
theorem vc (off:Nat):∀ (c:List Value) (k:Nat) (l:List Value),off+k+c.length<=l.length ->
  ((c.zipIdx k).foldl (fun cs (p:Value × Nat)=>cs.setIfInBounds (off+p.2) p.1) l.toArray)=(l.take (off+k)++c++l.drop (off+k+c.length)).toArray
 | [],k,l,h=>by simp
 | v::r,k,l,h=>by
  simp only [List.zipIdx_cons,List.foldl_cons];have e:l.toArray.setIfInBounds (off+k) v=(l.set (off+k) v).toArray:=by simp
  rw [e,vc off r (k+1) (l.set (off+k) v) (by simp at h ⊢;omega)];congr 1;have e:=list_seg_step l (off+k) v r (by simp only [List.length_cons] at h ⊢;omega);simpa [Nat.add_assoc] using e
theorem kY {ν:Env} {place:Nat->Option (Nat × Nat)}:∀ {parts:List (Nat × V)} {cells r:List V},o8 place cells parts=some r ->
  Instr.fill place (aH ν cells).toArray (parts.map fun (i,v)=>(i,v.den ν))=some (aH ν r).toArray
 | [],cells,r,h=>by simp [o8] at h;subst h;rfl
 | (i,v)::rest,cells,r,h=>by
  unfold o8 at h;simp only [List.map_cons];unfold Instr.fill;split at h
  ·cases h
  ·rename_i off size hp;simp only [hp];split at h
   ·rename_i hc;obtain ⟨h1,h2,h3⟩:=hc;have hsz:(v.den ν).cells.size=size:=by rw [gg h3,ax];simp [h1]
    have hcs:(aH ν cells).toArray.size=cells.length:=by rw [ax];simp
    rw [if_neg (by rw [hsz,hcs];simp;omega)];have ih:=kY (ν:=ν) h;rw [<- ih];congr 1;rw [gg h3];have hf:=vc off (aH ν (cellsOf v)) 0 (aH ν cells) (by rw [ax,ax];simp;omega);simp only [Nat.add_zero] at hf;rw [show (aH ν (cellsOf v)).toArray.zipIdx=((aH ν (cellsOf v)).zipIdx).toArray by simp];rw [List.foldl_toArray,hf];simp only [me,ax,List.map_append,List.map_take,List.map_drop,afk]
   ·cases h
end Go.Eng
namespace Go.Eng
open Go.RowKit
theorem l6 (ν:Env) (z:Value):z.cells=(aH ν (cellsOf (ofValue z))).toArray:=by
 unfold ofValue;split
 ·rename_i cs;simp only [cellsOf,ax,List.map_map];have:(V.den ν ∘ fw)=id:=funext fun x=>dy ν x;simp [this,Value.cells]
 ·rename_i h;have e:z.cells=#[z]:=by
   unfold Value.cells;split
   ·rename_i cs;exact absurd rfl (h cs)
   ·rfl
  have e2:cellsOf (fw z)=[fw z]:=by
   unfold cellsOf;split
   ·rename_i l hl;unfold fw at hl;split at hl<;>cases hl
   ·rfl
  rw [e,e2,ax];simp [dy]
def yF (P:Program) (t:TypeId) (parts:List (Nat × V)):Option (List V) :=
 match P.info? t,P.underlying t with
 | some it,some (.array _ e) =>
  match it.zero,P.info? e with
  | some z,some ie=>o8 (fun i=>some (i*ie.size,ie.size)) (cellsOf (ofValue z)) parts
  | _,_=>none
 | some it,some (.struct fields) =>
  match it.zero,fields.toList.mapM (fun f=>(P.info? f.type).map fun i=>(f.offset,i.size)) with
  | some z,some places=>o8 (places.toArray[·]?) (cellsOf (ofValue z)) parts
  | _,_=>none
 | _,_=>none
theorem AG {P:Program} {t:TypeId} {parts:List (Nat × V)} {r:List V} (h:yF P t parts=some r) (ν:Env):P.built t (parts.map fun (i,v)=>(i,v.den ν))=some (aH ν r).toArray:=by
 unfold yF at h;unfold Program.built;split at h
 ·rename_i it n e h1 h2;split at h
  ·rename_i z ie h3 h4;simp only [h1,h2,h3,h4];rw [l6 ν z];exact kY h
  ·cases h
 ·rename_i it fields h1 h2;split at h
  ·rename_i z places h3 h4;simp only [h1,h2,h3,h4];rw [l6 ν z];exact kY h
  ·cases h
 ·cases h
def Re (L:ay) (v:V):Option (Nat × Nat × TypeId × List V) :=
 match v with
 | .ptr i off=>match L i with
  | some (.cells t l)=>some (i,off,t,l)
  | _=>none
 | _=>none
def Yw (L:ay) (v:V):Option (Nat × Nat × TypeId × List V) :=
 match v with
 | .ptr i off=>match L i with
  | some (.cells t l)=>some (i,off,t,l)
  | some (.ro t l)=>some (i,off,t,l)
  | _=>none
 | _=>none
def qW (P:Program) (L:ay) (t:TypeId) (x:V):R :=
 opt (Yw L x) fun (_,off,_,l)=>opt (fZ P t) fun b=>opt (sizeB P t) fun n =>
  if off+n<=l.length/\(b=false->off<l.length) then pu (if b then .agg ((l.drop off).take n) else l.getD off .junk) else .fail
def Da (P:Program) (L:ay) (t:TypeId) (x y:V):R :=
 opt (Re L x) fun (i,off,t0,l)=>opt (sizeB P t) fun n =>
  if bN y=true/\(cellsOf y).length=n/\off+n<=l.length then .ret (.raw undef,[(i,.cells t0 (me l off (cellsOf y)))]) else .fail
def og (P:Program) (t:TypeId) (f:Nat):Option Field :=
 match P.underlying t with
 | some (.struct fs)=>fs[f]?
 | _=>none
def js (P:Program) (t:TypeId) (x:V) (f:Nat):R :=
 match x with
 | .ptr i off=>opt (og P t f) fun fd=>opt (sizeB P fd.type) fun n=>if n=0 then .fail else pu (.ptr i (off+fd.offset))
 | _=>.fail
def yL (P:Program) (t:TypeId) (x:V) (f:Nat):R :=
 match x with
 | .agg l=>opt (og P t f) fun fd=>opt (fZ P fd.type) fun b=>opt (sizeB P fd.type) fun n =>
  if b then (if fd.offset+n<=l.length then pu (.agg ((l.drop fd.offset).take n)) else .fail) else opt l[fd.offset]? pu
 | _=>.fail
def isIface (P:Program) (t:TypeId):Option Bool :=
 match P.underlying t with
 | some (.interface _)=>some true
 | some _=>some false
 | none=>none
def qZ (P:Program) (asserted:TypeId) (ok:Bool) (x:V):R :=
 opt (isIface P asserted) fun b=>if b then .fail else
  match x with
  | .iface t v=>if t=asserted then pu (if ok then .tup [v,.tt] else v) else
   if ok then opt ((P.info? asserted).bind (·.zero)) fun z=>pu (.tup [ofValue z,.ff]) else .fail
  | .nilIface=>if ok then opt ((P.info? asserted).bind (·.zero)) fun z=>pu (.tup [ofValue z,.ff]) else .fail
  | _=>.fail
def unV (L:ay) (nx:Nat) (op:UnOp) (x:V):R :=
 match op,x with
 | .neg,.s (.int k n)=>pu (.s (.int k (k.wrap (0 - n))))
 | .xor,.s (.int k n)=>pu (.s (.int k (bits .xor k (if k.signed then -1 else k.max) n)))
 | .not,.tt=>pu .ff
 | .not,.ff=>pu .tt
 | .not,x=>opt (dj L x) fun c=>bo nx (!c)
 | _,_=>.fail
def Gq (P:Program) (src dst:TypeId) (x:V):R :=
 match P.underlying src,P.underlying dst,x with
 | some _,some (.int k),.s (.int _ n)=>pu (.s (.int k (k.wrap n)))
 | some _,some (.int k),.n _ n=>pu (.n k (k.wrap n))
 | some _,some .string,.s (.str s)=>pu (.s (.str s))
 | _,_,_=>.fail
def mT (x:V) (i:Nat):R :=
 match x with
 | .tup l=>opt l[i]? pu
 | _=>.fail
def kI (x:V):R :=
 match x with
 | .ptr i off=>pu (.ptr i off)
 | .pr i sz row fld=>pu (.pr i sz row fld)
 | _=>.fail
def yw (z:Value) (n:Nat):List V:=(List.range n).map fun i=>fw (z.cells[i % z.cells.size]!)
def gE (P:Program) (nx:Nat) (t:TypeId) (len:Nat) (parts:List (Nat × V)):R :=
 match P.underlying t with
 | some (.slice e)=>opt (P.info? e) fun ie=>opt ie.zero fun z =>
  if len*ie.size>2 ^ 24\/len*ie.size=0\/(parts.all fun p => !p.2.aet)=false then .fail else
   opt (o8 (fun i=>some (i*ie.size,ie.size)) (yw z (len*ie.size)) parts) fun l=>.ret (.sl nx 0 len len,[(nx,.cells e l)])
 | _=>.fail
def RV (i off sz:Nat) (n:Int):(m j:Nat)->R
 | 0,_=>.fail
 | m+1,j=>.ite none (decide (n=(j:Int))) (pu (.ptr i (off+j*sz))) (RV i off sz n m (j+1))
def jh (P:Program) (t:TypeId) (x ix:V):R :=
 match x,ix with
 | .sl i off len _,ix=>match P.underlying t with
  | some (.slice e)=>opt (sizeB P e) fun sz=>match ix with
   | .n _ n=>if 0<=n/\n<len then pu (.ptr i (off+n.toNat*sz)) else .fail
   | .s (.int _ n)=>if len<=64 then RV i off sz n len 0 else .fail
   | _=>.fail
  | _=>.fail
 | .ptr i off,ix=>match P.underlying t with
  | some (.array len e)=>opt (sizeB P e) fun sz=>match ix with
   | .n _ n=>if 0<=n/\n<len then pu (.ptr i (off+n.toNat*sz)) else .fail
   | .s (.int _ n)=>if len<=64 then RV i off sz n len 0 else .fail
   | _=>.fail
  | _=>.fail
 | _,_=>.fail
def kD (P:Program) (b:Builtin) (argTypes:Array TypeId) (args:List V):R :=
 match b,args with
 | .max,[.s (.int k x),.s (.int _ y)]=>pu (.s (.int k (if y>x then y else x)))
 | .min,[.s (.int k x),.s (.int _ y)]=>pu (.s (.int k (if y<x then y else x)))
 | .len,[.sl _ _ n _]=>match argTypes[0]? with
  | some t=>(match P.underlying t with
   | some (.slice _)=>pu (.n .i64 n)
   | _=>.fail)
  | none=>.fail
 | .cap,[.sl _ _ _ n]=>match argTypes[0]? with
  | some t=>(match P.underlying t with
   | some (.slice _)=>pu (.n .i64 n)
   | _=>.fail)
  | none=>.fail
 | .len,[.s (.str s)]=>match argTypes[0]? with
  | some t=>(match P.underlying t with
   | some .string=>pu (.s (.int .i64 s.size))
   | _=>.fail)
  | none=>.fail
 | _,_=>.fail
def kF (nx:Nat) (u:Heap):Bool:=u.all fun p=>Nat.blt p.1 (nx+strd nx)
def callV (C:Cfg) (ρ:Operand->V) (L:ay) (nx:Nat) (c:Call):R :=
 match c.callee with
 | .value (.func f)=>opt (C.G f) fun con=>match con with
  | .obj _=>.fail
  | .get _ _=>.fail
  | .see _=>.fail
  | .val sp =>
   if gS (c.args.toList.map fun x=>dk L (ρ x))=true then
    (match oQ L (c.args.toList.map ρ) with
    | none=>(sp (c.args.toList.map fun x=>dk L (ρ x))).strip.bind fun v=>if fF v=true/\kF nx (dU nx v).2=true then .ret (dU nx v) else .fail
    | some b=>.ite none b ((sp (c.args.toList.map fun x=>dk L (ρ x))).strip.bind fun v=>if fF v=true/\kF nx (dU nx v).2=true then .ret (dU nx v) else .fail) .fail)
   else .fail
 | .builtin b=>kD C.P b c.argTypes (c.args.toList.map fun x=>sv (ρ x))
 | _=>.fail
def sure (i:Nat) (w:Bool):V->V
 | .may j w' v=>if Nat.beq j i&&(w'==w) then v else .may j w' v
 | v=>v
def DD (L:ay) (nx:Nat) (c x y:V):R :=
 match c with
 | .b i=>match L i with
  | some (.leaf cl)=>match dj L (sure i true x),dj L (sure i false y) with
   | some a,some b=>bo nx (bif cl then a else b)
   | _,_=>match sv (sure i true x),sv (sure i false y) with
    | .s (.int k a),.s (.int k' b)=>if k=k' then pu (.s (.int k (bif cl then a else b))) else .ite (some i) cl (pu (sure i true x)) (pu (sure i false y))
    | _,_=>.ite (some i) cl (pu (sure i true x)) (pu (sure i false y))
  | _=>.fail
 | c=>iS L c (pu x) (pu y)
def uI (k:IntKind) (m:Int) (u:Heap):(n j:Nat)->R
 | 0,_=>.fail
 | n+1,j=>.ite none (decide (m=(j:Int))) (.ret (.n k j,u)) (uI k m u n (j+1))
def Ic (n:Nat) (p:V × Heap):R :=
 match p.1 with
 | .s (.int k m)=>uI k m p.2 n 0
 | _=>.ret p
def BV (w:Nat) (op:BinOp) (y:V) (r:R):R :=
 match op,y with
 | .rem,.n _ b=>if 0<b/\b<=w then r.bind (Ic b.toNat) else r
 | _,_=>r
def Qn (C:Cfg) (ρ:Operand->V) (L:ay) (nx:Nat) (o:Oper):R :=
 match o.op with
 | .move x | .assign x=>pu (ρ x)
 | .pick c x y=>DD L nx (ρ c) (ρ x) (ρ y)
 | .alloc t=>opt ((C.P.info? t).bind (·.zero)) fun z=>.ret (.ptr nx 0,[(nx,.cells t (cellsOf (ofValue z)))])
 | .box t x=>if bN (ρ x)=true then .ret (.ptr nx 0,[(nx,.cells t (cellsOf (ρ x)))]) else .fail
 | .build t parts=>opt (yF C.P t (parts.toList.map fun (i,x)=>(i,ρ x))) fun l=>pu (.agg l)
 | .load t x=>qW C.P L t (ρ x)
 | .store t x y=>Da C.P L t (ρ x) (ρ y)
 | .nilCheck x=>kI (ρ x)
 | .binOp op t x y _=>BV C.ways op (ρ y) (match ρ x,ρ y with
  | .n k a,.n k' b=>if k=k' then (match rL op k a b with
   | some v=>pu v
   | none=>LL C L nx op t (sv (ρ x)) (sv (ρ y))) else LL C L nx op t (sv (ρ x)) (sv (ρ y))
  | _,_=>LL C L nx op t (sv (ρ x)) (sv (ρ y)))
 | .unOp op _ x=>unV L nx op (sv (ρ x))
 | .convert src dst x=>Gq C.P src dst (ρ x)
 | .makeInterface t x=>opt (isIface C.P t) fun b=>if b||(ρ x).aet then .fail else pu (.iface t (ρ x))
 | .fieldAddr s x f=>js C.P s (ρ x) f
 | .field s x f=>yL C.P s (ρ x) f
 | .extract x i=>mT (ρ x) i
 | .typeAssert x _ t ok=>qZ C.P t ok (ρ x)
 | .buildSlice t len parts=>gE C.P nx t len (parts.toList.map fun (i,x)=>(i,ρ x))
 | .indexAddr t x ix=>jh C.P t (ρ x) (ρ ix)
 | .call c=>callV C ρ L nx c
 | _=>.fail
section sound
variable {C:Cfg} {o:Oper} {ρ:Operand->V} {L:ay} {nx:Nat} {v:V} {u:Heap}
theorem D3 (h:OQ v u):v.aet=false:=V.aeP h.1
theorem AK {x:V} {i off:Nat} {t:TypeId} {l:List V} (h:Re L x=some (i,off,t,l)):x=.ptr i off/\L i=some (.cells t l):=by
 unfold Re at h;split at h
 ·split at h
  ·simp at h;obtain ⟨rfl,rfl,rfl,rfl⟩:=h;exact ⟨rfl,by assumption⟩
  ·cases h
 ·cases h
theorem kC {x:V} {i off:Nat} {t:TypeId} {l:List V} (h:Yw L x=some (i,off,t,l)):x=.ptr i off/\∀ (ν:Env) (w:World),Rel ν L w->(ν i).core.off=0/\w.heap[(ν i).core.blk]?=some (.cells (aH ν l).toArray t (0,0)):=by
 unfold Yw at h;split at h
 ·split at h
  ·rename_i hL;simp at h;obtain ⟨rfl,rfl,rfl,rfl⟩:=h;exact ⟨rfl,fun ν w hr=>⟨(hr.den _ _ hL).1,(hr.den _ _ hL).2.2⟩⟩
  ·rename_i hL;simp at h;obtain ⟨rfl,rfl,rfl,rfl⟩:=h;exact ⟨rfl,fun ν w hr=>⟨(hr.den _ _ hL).1,(hr.den _ _ hL).2.2⟩⟩
  ·cases h
 ·cases h
theorem yI {t:TypeId} {x:Operand} (hop:o.op=.load t x) (h:(qW C.P L t (ρ x)).eval=some (v,u)):aeC C.P o ρ L nx v u:=by
 unfold qW at h;obtain ⟨⟨i,off,t0,l⟩,hp,h⟩:=aa h;obtain ⟨b,hb,h⟩:=aa h;obtain ⟨n,hn,h⟩:=aa h;split at h
 ·rename_i hc;obtain ⟨rfl,rfl⟩:=aw h;obtain ⟨hx,hL⟩:=kC hp;refine av fun ν w a he hr => ?_;obtain ⟨d1,d3⟩:=hL ν w hr;have e:a.eval x=.pointer (some ⟨(ν i).core.blk,off,none⟩):=by
   rw [he x (by rw [hx];rfl),hx];simp [V.den,d1]
  unfold execOp;simp only [hop,e,Sem.run_bind,ef (P:=C.P) d3 hb hn hc.1 hc.2,Result.andThen_ok];cases b<;>rfl
 ·cases h
theorem Ej {t:TypeId} {x y:Operand} (hop:o.op=.store t x y) (h:(Da C.P L t (ρ x) (ρ y)).eval=some (v,u)):aeC C.P o ρ L nx v u:=by
 unfold Da at h;obtain ⟨⟨i,off,t0,l⟩,hp,h⟩:=aa h;obtain ⟨n,hn,h⟩:=aa h;split at h
 ·rename_i hc;simp only [T.eval,c9,IT] at h;obtain ⟨rfl,rfl⟩:=h;obtain ⟨hx,hL⟩:=AK hp;refine A8 hL fun ν w a he hr => ?_;obtain ⟨d1,d2,d3⟩:=hr.den i _ hL;have e:a.eval x=.pointer (some ⟨(ν i).core.blk,off,none⟩):=by
   rw [he x (by rw [hx];rfl),hx];simp [V.den,d1]
  have j:(ρ y).aet=false:=by
   cases hy:ρ y<;>first | rfl | (rw [hy] at hc;simp [bN,cellsOf,V.one] at hc)
  have e2:a.eval y=(ρ y).den ν:=he y j;unfold execOp;simp only [hop,e,e2,Sem.run_bind,pd (P:=C.P) d3 hn hc.1 hc.2.1 hc.2.2,Result.andThen_ok];rw [me,hc.2.1];rfl
 ·cases h
theorem iq {P:Program} {t:TypeId} {f:Nat} {fd:Field} (h:og P t f=some fd):∃ fs,P.underlying t=some (.struct fs)/\fs[f]?=some fd:=by
 unfold og at h;split at h
 ·exact ⟨_,by assumption,h⟩
 ·cases h
theorem qF {t:TypeId} {x:Operand} {f:Nat} (hop:o.op=.fieldAddr t x f) (h:(js C.P t (ρ x) f).eval=some (v,u)):aeC C.P o ρ L nx v u:=by
 unfold js at h;split at h
 ·rename_i i off hx;obtain ⟨fd,hf,h⟩:=aa h;obtain ⟨n,hn,h⟩:=aa h;split at h
  ·cases h
  ·rename_i h0;obtain ⟨rfl,rfl⟩:=aw h;obtain ⟨fs,hu,hfs⟩:=iq hf;refine av fun ν w a he hr => ?_;have e:a.eval x=.pointer (some ⟨(ν i).core.blk,(ν i).core.off+off,none⟩):=by rw [he x (by rw [hx];rfl),hx];rfl
   unfold execOp;simp only [hop,e,Instr.fieldAt,Instr.sureAddr,fieldPlace,Sem.run_bind,run_underlying hu,Result.andThen_ok,hfs,Sem.run_pure,run_sizeOf hn,Sem.run_ite,if_neg h0,cY];simp [V.den,Nat.add_assoc]
 ·cases h
theorem EV {t:TypeId} {x:Operand} {f:Nat} (hop:o.op=.field t x f) (h:(yL C.P t (ρ x) f).eval=some (v,u)):aeC C.P o ρ L nx v u:=by
 unfold yL at h;split at h
 ·rename_i l hx;obtain ⟨fd,hf,h⟩:=aa h;obtain ⟨b,hb,h⟩:=aa h;obtain ⟨n,hn,h⟩:=aa h;obtain ⟨fs,hu,hfs⟩:=iq hf;have ex:∀ (ν:Env) (a:Act),(∀ x,(ρ x).aet=false->a.eval x=(ρ x).den ν)->a.eval x=.agg (aH ν l).toArray:=fun ν a he=>by rw [he x (by rw [hx];rfl),hx];rfl
  cases b with
  | true =>
   simp only [if_true] at h;split at h
   ·rename_i hl;obtain ⟨rfl,rfl⟩:=aw h;refine av fun ν w a he hr => ?_;unfold execOp;simp only [hop,ex ν a he,Instr.field,Sem.run_bind,run_underlying hu,Result.andThen_ok,hfs,asAgg,Sem.run_pure,part,dm hb,if_true,run_sizeOf hn];simp [V.den,ax,List.map_drop,List.map_take]
   ·cases h
  | false =>
   simp only [Bool.false_eq_true,if_false] at h;obtain ⟨y,hy,h⟩:=aa h;obtain ⟨rfl,rfl⟩:=aw h;refine av fun ν w a he hr => ?_;unfold execOp;simp only [hop,ex ν a he,Instr.field,Sem.run_bind,run_underlying hu,Result.andThen_ok,hfs,asAgg,Sem.run_pure,mW hb hy]
 ·cases h
theorem n8 {P:Program} {t:TypeId} (h:isIface P t=some false):∃ d,P.underlying t=some d/\∀ m,d≠.interface m:=by
 unfold isIface at h;split at h
 ·cases h
 ·rename_i d hne hd;exact ⟨d,hd,fun m e=>hne m (e ▸ rfl)⟩
 ·cases h
theorem Ab {xt t:TypeId} {x:Operand} {ok:Bool} (hop:o.op=.typeAssert x xt t ok) (hg:OQ v u) (h:(qZ C.P t ok (ρ x)).eval=some (v,u)):aeC C.P o ρ L nx v u:=by
 unfold qZ at h;obtain ⟨b,hb,h1⟩:=aa h;clear h;have h:=h1;clear h1;cases b with
 | true=>cases h
 | false =>
  obtain ⟨d,hd,hne⟩:=n8 hb;simp only [Bool.false_eq_true,if_false] at h;have fail:∀ {z:Value} {X:Value},(C.P.info? t).bind (·.zero)=some z->(X=.nilIface\/∃ t' y,X=.iface t' y/\t'≠t)->ok=true->∀ w:World,(Instr.typeAssert X xt t ok).run C.P w=.ok (.tuple #[z,.bool false]) w:=by
   intro z X hz hX hok w;subst hok;unfold Instr.typeAssert;simp only [Sem.run_bind,run_underlying hd,Result.andThen_ok];rcases hX with rfl | ⟨t',y,rfl,hne'⟩
   ·split<;>simp_all [ew hz]
   ·split<;>simp_all [ew hz]
  split at h
  ·rename_i t' y hx;split at h
   ·rename_i ht;subst ht;obtain ⟨rfl,rfl⟩:=aw h;refine av fun ν w a he hr => ?_;have e:a.eval x=.iface t' (y.den ν):=by rw [he x (by rw [hx];rfl),hx];rfl
    unfold execOp;simp only [hop,e,Sem.run_bind];have:(Instr.typeAssert (.iface t' (y.den ν)) xt t' ok).run C.P w=.ok (if ok then .tuple #[y.den ν,.bool true] else y.den ν) w:=by
     unfold Instr.typeAssert;simp only [Sem.run_bind,run_underlying hd,Result.andThen_ok];split<;>simp_all
    rw [this];cases ok<;>rfl
   ·rename_i ht;split at h
    ·rename_i hok;obtain ⟨z,hz,h⟩:=aa h;obtain ⟨rfl,rfl⟩:=aw h;refine av fun ν w a he hr => ?_;have e:a.eval x=.iface t' (y.den ν):=by rw [he x (by rw [hx];rfl),hx];rfl
     unfold execOp;simp only [hop,e,Sem.run_bind,fail hz (.inr ⟨t',_,rfl,ht⟩) hok];simp [V.den,aH,j9]
    ·cases h
  ·rename_i hx;split at h
   ·rename_i hok;obtain ⟨z,hz,h⟩:=aa h;obtain ⟨rfl,rfl⟩:=aw h;refine av fun ν w a he hr => ?_;have e:a.eval x=.nilIface:=by rw [he x (by rw [hx];rfl),hx];rfl
    unfold execOp;simp only [hop,e,Sem.run_bind,fail hz (.inl rfl) hok];simp [V.den,aH,j9]
   ·cases h
  ·cases h
theorem UM {t:TypeId} {op:UnOp} {x:Operand} (hop:o.op=.unOp op t x) (h:(unV L nx op (ρ x)).eval=some (v,u)):aeC C.P o ρ L nx v u:=by
 unfold unV at h;split at h
 ·rename_i k n hx;obtain ⟨rfl,rfl⟩:=aw h;refine av fun ν w a he hr => ?_;have e:a.eval x=.int k n:=by rw [he x (by rw [hx];rfl),hx];rfl
  unfold execOp;simp only [hop,e,Op.unary,Op.intArith];simp [V.den,S.den]
 ·rename_i k n hx;obtain ⟨rfl,rfl⟩:=aw h;refine av fun ν w a he hr => ?_;have e:a.eval x=.int k n:=by rw [he x (by rw [hx];rfl),hx];rfl
  unfold execOp;simp only [hop,e,Op.unary,intBits_xor];simp [V.den,S.den]
 ·rename_i hx;obtain ⟨rfl,rfl⟩:=aw h;refine av fun ν w a he hr => ?_;have e:a.eval x=.bool true:=by rw [he x (by rw [hx];rfl),hx];rfl
  unfold execOp;simp only [hop,e,Op.unary];simp [V.den]
 ·rename_i hx;obtain ⟨rfl,rfl⟩:=aw h;refine av fun ν w a he hr => ?_;have e:a.eval x=.bool false:=by rw [he x (by rw [hx];rfl),hx];rfl
  unfold execOp;simp only [hop,e,Op.unary];simp [V.den]
 ·obtain ⟨c,hc,h⟩:=aa h;obtain ⟨rfl,rfl⟩:=dp h;refine kJ fun ν w a he hr => ?_;have j:(ρ x).aet=false:=by cases e:ρ x<;>first | rfl | (rw [e] at hc;simp [dj] at hc)
  have e:a.eval x=.bool c:=by rw [he x j,ck hr hc]
  unfold execOp;simp only [hop,e,Op.unary];simp
 ·cases h
theorem Gs {src dst:TypeId} {x:Operand} (hop:o.op=.convert src dst x) (h:(Gq C.P src dst (ρ x)).eval=some (v,u)):aeC C.P o ρ L nx v u:=by
 unfold Gq at h;split at h
 ·rename_i d k k' n hs hd hx;obtain ⟨rfl,rfl⟩:=aw h;refine av fun ν w a he hr => ?_;have e:a.eval x=.int k' n:=by rw [he x (by rw [hx];rfl),hx];rfl
  unfold execOp;simp only [hop,e,convert,Sem.run_bind,run_underlying hs,run_underlying hd,Result.andThen_ok,Conv.intToInt];simp [V.den,S.den]
 ·rename_i d k k' n hs hd hx;obtain ⟨rfl,rfl⟩:=aw h;refine av fun ν w a he hr => ?_;have e:a.eval x=.int k' n:=by rw [he x (by rw [hx];rfl),hx];rfl
  unfold execOp;simp only [hop,e,convert,Sem.run_bind,run_underlying hs,run_underlying hd,Result.andThen_ok,Conv.intToInt];simp [V.den]
 ·rename_i d s hs hd hx;obtain ⟨rfl,rfl⟩:=aw h;refine av fun ν w a he hr => ?_;have e:a.eval x=.string s:=by rw [he x (by rw [hx];rfl),hx];rfl
  unfold execOp;simp only [hop,e,convert,Sem.run_bind,run_underlying hs,run_underlying hd,Result.andThen_ok];simp [V.den,S.den]
 ·cases h
theorem vF {x:Operand} {i:Nat} (hop:o.op=.extract x i) (h:(mT (ρ x) i).eval=some (v,u)):aeC C.P o ρ L nx v u:=by
 unfold mT at h;split at h
 ·rename_i l hx;obtain ⟨y,hy,h⟩:=aa h;obtain ⟨rfl,rfl⟩:=aw h;refine av fun ν w a he hr => ?_;have e:a.eval x=.tuple (aH ν l).toArray:=by rw [he x (by rw [hx];rfl),hx];rfl
  have hi:(aH ν l).toArray[i]?=some (v.den ν):=by rw [ax];simp [hy]
  unfold execOp;simp only [hop,e,Instr.extract,hi];simp
 ·cases h
theorem tg {x:Operand} (hop:o.op=.nilCheck x) (h:(kI (ρ x)).eval=some (v,u)):aeC C.P o ρ L nx v u:=by
 unfold kI at h;split at h
 ·rename_i i off hx;obtain ⟨rfl,rfl⟩:=aw h;refine av fun ν w a he hr => ?_;have e:a.eval x=.pointer (some ⟨(ν i).core.blk,(ν i).core.off+off,none⟩):=by rw [he x (by rw [hx];rfl),hx];rfl
  unfold execOp;simp only [hop,e];simp [V.den]
 ·rename_i i sz row fld hx;obtain ⟨rfl,rfl⟩:=aw h;refine av fun ν w a he hr => ?_;have e:a.eval x=.pointer (some (((ν i).core.at_.getD ⟨0,0,none⟩).add (row*sz+fld))):=by rw [he x (by rw [hx];rfl),hx];rfl
  unfold execOp;simp only [hop,e];simp [V.den]
 ·cases h
theorem yb {x:Operand} (hop:o.op=.move x\/o.op=.assign x) (hg:OQ v u) (h:(pu (ρ x)).eval=some (v,u)):aeC C.P o ρ L nx v u:=by
 obtain ⟨rfl,rfl⟩:=aw h;refine av fun ν w a he hr => ?_;have e:a.eval x=(ρ x).den ν:=he x (D3 hg);unfold execOp;rcases hop with hop | hop<;>simp only [hop,e]<;>rfl
theorem rb {ν:Env} {i:Nat} {w:Bool} (h:(ν i).core.cond=w) (v:V):(sure i w v).den ν=v.den ν:=by
 cases v with
 | may j w' x =>
  simp only [sure];split
  ·rename_i hc;simp only [AS,beq_iff_eq] at hc;have hj:j=i:=afn hc.1;have hw:w'=w:=hc.2;subst hj hw;simp [V.den,h]
  ·rfl
 | _=>rfl
theorem oS {i:Nat} {w:Bool} {v:V} (h:(sure i w v).aet=false):v.aet=false:=by cases v<;>first | rfl | exact h
theorem m4 {c x y:Operand} (hop:o.op=.pick c x y) {a:Act} {w:World} {b:Bool} {r:Value} (hc:a.eval c=.bool b) (hr:(if b then a.eval x else a.eval y)=r):(execOp a.eval o).run C.P w=.ok (.value r) w:=by
 unfold execOp;simp only [hop,hc,asBool,Sem.run_bind,Sem.run_pure,Result.andThen_ok,hr]
theorem rT {x:V} {b:Bool} (h:dj L x=some b):x.aet=false:=by cases x<;>first | rfl | (simp [dj] at h)
theorem JO {c x y:Operand} (hop:o.op=.pick c x y) (hg:OQ v u) (h:(DD L nx (ρ c) (ρ x) (ρ y)).eval=some (v,u)):aeC C.P o ρ L nx v u:=by
 have hj:=D3 hg;unfold DD at h;split at h
 ·rename_i i hci;split at h
  ·rename_i cl hcl;have hcv:∀ {ν:Env} {w:World} {a:Act},(∀ x,(ρ x).aet=false->a.eval x=(ρ x).den ν)->Rel ν L w->a.eval c=.bool cl/\(ν i).core.cond=cl:=by
    intro ν w a he hr;have:=(hr.den i _ hcl).1;exact ⟨by rw [he c (by rw [hci];rfl),hci];simp [V.den,this],this⟩
   have side:∀ {ν:Env} {w:World} {a:Act} {r:Value},(∀ x,(ρ x).aet=false->a.eval x=(ρ x).den ν)->Rel ν L w ->
     (cl=true->(sure i true (ρ x)).aet=false/\(sure i true (ρ x)).den ν=r)->(cl=false->(sure i false (ρ y)).aet=false/\(sure i false (ρ y)).den ν=r)->(if cl then a.eval x else a.eval y)=r:=by
    intro ν w a r he hr h1 h2;have hcond:=(hcv he hr).2;cases cl with
    | true =>
     obtain ⟨j1,d1⟩:=h1 rfl;rw [if_pos rfl,he x (oS j1),<- rb hcond,d1]
    | false =>
     obtain ⟨j1,d1⟩:=h2 rfl;rw [if_neg (by simp),he y (oS j1),<- rb hcond,d1]
   have br:(T.ite (some i) cl (pu (sure i true (ρ x))) (pu (sure i false (ρ y)))).eval=some (v,u)->aeC C.P o ρ L nx v u:=by
    intro h;have hh:v=(if cl then sure i true (ρ x) else sure i false (ρ y))/\u=[]:=by cases cl<;>exact aw h
    obtain ⟨e0,rfl⟩:=hh;refine av fun ν w a he hr=>m4 hop (hcv he hr).1 (side he hr ?_ ?_)
    ·rintro rfl;simp at e0;subst e0;exact ⟨hj,rfl⟩
    ·rintro rfl;simp at e0;subst e0;exact ⟨hj,rfl⟩
   split at h
   ·rename_i a b ha hb;obtain ⟨rfl,rfl⟩:=dp h;refine kJ fun ν w A he hr=>m4 hop (hcv he hr).1 (side he hr ?_ ?_)
    ·rintro rfl;exact ⟨rT ha,by rw [ck hr ha];rfl⟩
    ·rintro rfl;exact ⟨rT hb,by rw [ck hr hb];rfl⟩
   ·split at h
    ·rename_i k a k' b hxa hyb;split at h
     ·rename_i hk;subst hk;obtain ⟨rfl,rfl⟩:=aw h;refine av fun ν w A he hr=>m4 hop (hcv he hr).1 (side he hr ?_ ?_)
      ·rintro rfl;exact ⟨by rw [<- sH,hxa];rfl,by rw [<- B1,hxa];rfl⟩
      ·rintro rfl;exact ⟨by rw [<- sH,hyb];rfl,by rw [<- B1,hyb];rfl⟩
     ·exact br h
    ·exact br h
  ·cases h
 ·obtain ⟨b,hb,h⟩:=iR h;have hh:v=(if b then ρ x else ρ y)/\u=[]:=by cases b<;>exact aw h
  obtain ⟨e0,rfl⟩:=hh;refine av fun ν w a he hr => ?_;have e:a.eval c=.bool b:=by rw [he c (rT hb),ck hr hb]
  refine m4 hop e ?_;cases b
  ·simp at e0;subst e0;simp [he y hj]
  ·simp at e0;subst e0;simp [he x hj]
theorem BI {t:TypeId} {x:Operand} (hop:o.op=.makeInterface t x) (h:(opt (isIface C.P t) fun b=>if b||(ρ x).aet then T.fail else pu (.iface t (ρ x))).eval=some (v,u)):aeC C.P o ρ L nx v u:=by
 obtain ⟨b,hb,h⟩:=aa h;cases b with
 | true=>cases h
 | false =>
  simp only [Bool.false_or] at h;split at h
  ·cases h
  ·rename_i hj;obtain ⟨rfl,rfl⟩:=aw h;obtain ⟨d,hd,hne⟩:=n8 hb;refine av fun ν w a he hr => ?_;have e:a.eval x=(ρ x).den ν:=he x (by simpa using hj);unfold execOp;simp only [hop,e,Instr.makeInterface,Sem.run_bind,run_underlying hd,Result.andThen_ok];cases d<;>first | (exact absurd rfl (hne _)) | (simp [V.den])
theorem B9 {t:TypeId} {parts:Array (Nat × Operand)} (hop:o.op=.build t parts) (hg:OQ v u) (hj:∀ p∈parts.toList,(ρ p.2).aet=false)
  (h:(opt (yF C.P t (parts.toList.map fun (i,x)=>(i,ρ x))) fun l=>pu (.agg l)).eval=some (v,u)):aeC C.P o ρ L nx v u:=by
 obtain ⟨l,hl,h⟩:=aa h;obtain ⟨rfl,rfl⟩:=aw h;refine av fun ν w a he hr => ?_;have hb:=AG hl ν;have e:(parts.map fun (i,x)=>(i,a.eval x)).toList=(parts.toList.map fun (i,x)=>(i,ρ x)).map fun (i,v)=>(i,v.den ν):=by
  simp only [Array.toList_map,List.map_map];apply List.map_congr_left;rintro ⟨i,x⟩ hp;simp [he x (hj _ hp)]
 unfold execOp;simp only [hop,Sem.run_bind];rw [run_build w t _ _ (by rw [e];exact hb)];simp [V.den]
theorem PI {t:TypeId} {x:Operand} (hop:o.op=.box t x) (h:(if bN (ρ x)=true then (T.ret (V.ptr nx 0,[(nx,Blk.cells t (cellsOf (ρ x)))]):R) else T.fail).eval=some (v,u)):aeC C.P o ρ L nx v u:=by
 split at h
 ·rename_i hf;simp only [T.eval,c9,IT] at h;obtain ⟨rfl,rfl⟩:=h;have j:(ρ x).aet=false:=by cases e:ρ x<;>first | rfl | (rw [e] at hf;simp [bN,cellsOf,V.one] at hf)
  intro ν a w K Q hG he hok hL hr hk;refine pY (t:=t) (l:=cellsOf (ρ x)) ?_ ?_ ν a w K Q hG he hok hL hr hk
  ·have:=hok x j;unfold cellsOf;split
   ·rename_i l hl;rw [hl] at this;exact this
   ·simp [okL,this]
  ·intro ν w a he hr;have e:a.eval x=(ρ x).den ν:=he x j;unfold execOp;simp only [hop,e,Instr.box,newVar,newRow,gg hf,Sem.run_bind,run_newObj,Result.andThen_ok,Sem.run_pure];rfl
 ·cases h
theorem CR {t:TypeId} (hop:o.op=.alloc t) (h:(opt ((C.P.info? t).bind (·.zero)) fun z=>(T.ret (V.ptr nx 0,[(nx,Blk.cells t (cellsOf (ofValue z)))]):R)).eval=some (v,u)):aeC C.P o ρ L nx v u:=by
 obtain ⟨z,hz,h⟩:=aa h;simp only [T.eval,c9,IT] at h;obtain ⟨rfl,rfl⟩:=h;refine pY (t:=t) (l:=cellsOf (ofValue z)) ?_ ?_
 ·have:=qc (nf nx) z;unfold cellsOf;split
  ·rename_i l hl;rw [hl] at this;exact this
  ·simp [okL,this]
 ·intro ν w a he hr;unfold execOp;simp only [hop,Instr.alloc,newVar,newRow,Sem.run_bind,ew hz,run_newObj,Result.andThen_ok,Sem.run_pure,l6 ν z];rfl
theorem wh {c:Call} {b:Builtin} (hop:o.op=.call c) (hc:c.callee=.builtin b) (h:(kD C.P b c.argTypes (c.args.toList.map ρ)).eval=some (v,u)):aeC C.P o ρ L nx v u:=by
 have run:∀ (a:Act) (w:World),(execOp a.eval o).run C.P w=(builtin b c.argTypes o.type (c.args.map fun | .const _=>true | _=>false) (c.args.map a.eval)).run C.P w:=by
  intro a w;unfold execOp;simp only [hop,resolve,hc,invoke,Sem.run_bind,Sem.run_pure,Result.andThen_ok];rfl
 have args2:∀ {ν:Env} {a:Act} {x y:V},(∀ x,(ρ x).aet=false->a.eval x=(ρ x).den ν)->c.args.toList.map ρ=[x,y]->x.aet=false->y.aet=false->c.args.map a.eval=#[x.den ν,y.den ν]:=by
  intro ν a x y he hm jx jy;apply Array.ext';rw [Array.toList_map]
  match hcl:c.args.toList,hm with
  | [p,q],hm =>
   simp only [List.map_cons,List.map_nil,List.cons.injEq,and_true] at hm;obtain ⟨rfl,rfl⟩:=hm;simp [he _ jx,he _ jy]
 have args1:∀ {ν:Env} {a:Act} {x:V},(∀ x,(ρ x).aet=false->a.eval x=(ρ x).den ν)->c.args.toList.map ρ=[x]->x.aet=false->c.args.map a.eval=#[x.den ν]:=by
  intro ν a x he hm jx;apply Array.ext';rw [Array.toList_map]
  match hcl:c.args.toList,hm with
  | [p],hm =>
   simp only [List.map_cons,List.map_nil,List.cons.injEq,and_true] at hm;subst hm;simp [he _ jx]
 unfold kD at h;split at h
 ·rename_i k x k' y hm;obtain ⟨rfl,rfl⟩:=aw h;refine av fun ν w a he hr => ?_;rw [run,args2 he hm rfl rfl];simp [builtin,Builtin.max_,Builtin.max2,V.den,S.den]
 ·rename_i k x k' y hm;obtain ⟨rfl,rfl⟩:=aw h;refine av fun ν w a he hr => ?_;rw [run,args2 he hm rfl rfl];simp [builtin,Builtin.min_,Builtin.min2,V.den,S.den]
 ·rename_i i off n cap hm;split at h
  ·rename_i t ht;split at h
   ·rename_i hu;obtain ⟨rfl,rfl⟩:=aw h;refine av fun ν w a he hr => ?_;rw [run,args1 he hm rfl];simp [builtin,Builtin.len_,ht,run_underlying hu,goInt,V.den]
   ·cases h
  ·cases h
 ·rename_i i off n cap hm;split at h
  ·rename_i t ht;split at h
   ·rename_i hu;obtain ⟨rfl,rfl⟩:=aw h;refine av fun ν w a he hr => ?_;rw [run,args1 he hm rfl];simp [builtin,Builtin.cap_,ht,run_underlying hu,goInt,V.den]
   ·cases h
  ·cases h
 ·rename_i s hm;split at h
  ·rename_i t ht;split at h
   ·rename_i hu;obtain ⟨rfl,rfl⟩:=aw h;refine av fun ν w a he hr => ?_;rw [run,args1 he hm rfl];simp [builtin,Builtin.len_,ht,run_underlying hu,goInt,V.den,S.den]
   ·cases h
  ·cases h
 ·cases h
theorem Hc (hC:C.Ok) {c:Call} (hop:o.op=.call c) (hf:∀ f,ρ (.func f)=.raw (.func (.func f) #[] #[])) (h:(callV C ρ L nx c).eval=some (v,u)):aeC C.P o ρ L nx v u:=by
 unfold callV at h;split at h
 ·rename_i f hc;obtain ⟨con,hsp,h⟩:=aa h;cases con with
  | obj _=>cases h
  | get _ _=>cases h
  | see _=>cases h
  | val sp =>
  simp only at h;split at h
  ·rename_i hfl;have key:(∀ b,oQ L (c.args.toList.map ρ)=some b->b=true)->((sp (c.args.toList.map fun x=>dk L (ρ x))).strip.bind fun v=>if fF v=true/\kF nx (dU nx v).2=true then (T.ret (dU nx v):R) else .fail).eval=some (v,u)->aeC C.P o ρ L nx v u:=by
    intro hga h;obtain ⟨r,hr,h⟩:=T.aes h;rw [T.aeH] at hr;split at h
    ·rename_i hv;simp only [T.eval,c9] at h;obtain ⟨h1,h2⟩:=Prod.mk.inj h;subst h1 h2;refine B5 hop hc (hC.G f sp hsp) (hf f) rfl hfl hga hr hv.1 fun i b hi => ?_;have:=ae9.1 hv.2 _ hi;simpa [Nat.blt_eq] using this
    ·cases h
   split at h
   ·rename_i hn;exact key (fun b hb=>by rw [hn] at hb;cases hb) h
   ·rename_i b hn;cases b with
    | true=>exact key (fun b hb=>by rw [hn] at hb;exact (AI hb).symm) h
    | false=>cases h
  ·cases h
 ·rename_i b hc;exact rU (wh (ρ:=fun x=>sv (ρ x)) hop hc h)
 ·cases h
theorem yc {p:Nat->Bool} {place:Nat->Option (Nat × Nat)}:∀ {parts:List (Nat × V)} {cells r:List V},o8 place cells parts=some r->okL p cells=true->(∀ q∈parts,q.2.ok p=true)->okL p r=true
 | [],cells,r,h,hc,hp=>by simp [o8] at h;subst h;exact hc
 | (i,x)::rest,cells,r,h,hc,hp=>by
  unfold o8 at h;split at h
  ·cases h
  ·split at h
   ·refine yc h ?_ fun q hq=>hp q (No _ hq);have hx:=hp (i,x) ae8;rw [ka] at hc ⊢;intro y hy;unfold me at hy;rcases List.mem_append.1 hy with hy | hy
    ·rcases List.mem_append.1 hy with hy | hy
     ·exact hc y (List.mem_of_mem_take hy)
     ·unfold cellsOf at hy;split at hy
      ·simp only [V.ok] at hx;exact (ka p _).1 hx y hy
      ·simp only [afo] at hy;subst hy;exact hx
    ·exact hc y (List.mem_of_mem_drop hy)
   ·cases h
theorem Bj (ν:Env) (z:Value) (n:Nat):(aH ν (yw z n)).toArray=(Array.range n).map (z.cells[· % z.cells.size]!):=by
 apply Array.ext';simp [yw,ax,dy,List.map_map,Function.comp_def]
theorem uc {P:Program} (w:World) (t e:TypeId) (len:Nat) (parts:Array (Nat × Value)) (cells:Array Value) (ie:TypeInfo) (z:Value)
  (hu:P.underlying t=some (.slice e)) (hie:P.info? e=some ie) (hz:ie.zero=some z) (hsmall:¬ len*ie.size>2 ^ 24) (hpos:¬ len*ie.size=0)
  (h:Instr.fill (fun i=>some (i*ie.size,ie.size)) ((Array.range (len*ie.size)).map (z.cells[· % z.cells.size]!)) parts.toList=some cells) :
  (Instr.buildSlice t len parts).run P w=.ok (.slice (some ⟨w.heap.size,0,none⟩) len len) (w.alloc (.cells cells e)):=by
 simp [Instr.buildSlice,run_underlying hu,sizeOf,typeInfo,zeroValue,hie,hz,hsmall,hpos,h,newRow]
theorem o9 {t:TypeId} {len:Nat} {parts:Array (Nat × Operand)} (hop:o.op=.buildSlice t len parts) (h:(gE C.P nx t len (parts.toList.map fun (i,x)=>(i,ρ x))).eval=some (v,u)):aeC C.P o ρ L nx v u:=by
 unfold gE at h;split at h
 ·rename_i e hu;obtain ⟨ie,hie,h⟩:=aa h;obtain ⟨z,hz,h⟩:=aa h;split at h
  ·cases h
  ·rename_i hn;obtain ⟨l,hl,h⟩:=aa h;simp only [T.eval,c9,IT] at h;obtain ⟨rfl,rfl⟩:=h;have h1:¬ len*ie.size>2 ^ 24:=fun h=>hn (.inl h);have h2:¬ len*ie.size=0:=fun h=>hn (.inr (.inl h));have h3:∀ p∈parts.toList,(ρ p.2).aet=false:=by
    intro p hp;cases e:(ρ p.2).aet
    ·rfl
    ·refine absurd (.inr (.inr ?_)) hn;rw [List.all_eq_false];exact ⟨(p.1,ρ p.2),List.mem_map.2 ⟨p,hp,rfl⟩,by simp [e]⟩
   intro ν a w K Q hG he hok hL hr hk;refine yr (t:=e) (l:=l) (X:=fun n=>.slice (some ⟨n,0,none⟩) len len) ?_ (fun ν h0=>by simp [V.den,h0]) ?_ ν a w K Q hG he hok hL hr hk
   ·refine yc hl ?_ ?_
    ·rw [ka];intro y hy;simp only [yw,List.mem_map] at hy;obtain ⟨_,_,rfl⟩:=hy;exact nz _ _
    ·intro q hq;obtain ⟨p,hp,rfl⟩:=List.mem_map.1 hq;exact hok _ (h3 p hp)
   ·intro ν w a he hr;have hf:=kY (ν:=ν) hl;rw [Bj] at hf;have e':(parts.map fun (i,x)=>(i,a.eval x)).toList=(parts.toList.map fun (i,x)=>(i,ρ x)).map fun (i,v)=>(i,v.den ν):=by
     simp only [Array.toList_map,List.map_map];apply List.map_congr_left;rintro ⟨i,x⟩ hp;simp [he x (h3 _ hp)]
    unfold execOp;simp only [hop,Sem.run_bind];rw [uc w t e len _ _ ie z hu hie hz h1 h2 (by rw [e'];exact hf)];rfl
 ·cases h
theorem oI {i off sz:Nat} {n:Int}:∀ {m j:Nat},(RV i off sz n m j).eval=some (v,u)->∃ k,j<=k/\k<j+m/\n=(k:Int)/\v=.ptr i (off+k*sz)/\u=[]
 | 0,j,h=>by cases h
 | m+1,j,h=>by
  unfold RV at h;simp only [T.eval] at h;cases e:decide (n=(j:Int))
  ·rw [e] at h;obtain ⟨k,h1,h2,h3⟩:=oI (m:=m) h;exact ⟨k,by omega,by omega,h3⟩
  ·rw [e] at h;obtain ⟨rfl,rfl⟩:=aw h;exact ⟨j,afh _,by omega,by simpa using e,rfl,rfl⟩
theorem rD {t:TypeId} {x ix:Operand} (hop:o.op=.indexAddr t x ix) (h:(jh C.P t (ρ x) (ρ ix)).eval=some (v,u)):aeC C.P o ρ L nx v u:=by
 have key:∀ {i off len sz:Nat} {k:IntKind} {n:Int},(∀ (ν:Env) (a:Act),(∀ x,(ρ x).aet=false->a.eval x=(ρ x).den ν)->∀ w:World,
   (Instr.indexAt t (a.eval x) (.int k n)).run C.P w=if 0<=n/\n<len then .ok (.pointer (some ⟨(ν i).core.blk,(ν i).core.off+off+n.toNat*sz,none⟩)) w else (Instr.indexAt t (a.eval x) (.int k n)).run C.P w) ->
   (∀ (ν:Env) (a:Act),(∀ x,(ρ x).aet=false->a.eval x=(ρ x).den ν)->a.eval ix=.int k n)->∀ m:Nat,n=(m:Int)->m<len->aeC C.P o ρ L nx (.ptr i (off+m*sz)) []:=by
  intro i off len sz k n hrun hix m hm hlt;refine av fun ν w a he hr => ?_;unfold execOp;simp only [hop,hix ν a he,Sem.run_bind];rw [hrun ν a he w,if_pos (by omega)];subst hm;simp [V.den,Nat.add_assoc]
 unfold jh at h;split at h
 ·rename_i i off len cap hx;split at h
  ·rename_i e hu;obtain ⟨sz,hsz,h⟩:=aa h
   have hrun:∀ {k:IntKind} {n:Int} (ν:Env) (a:Act),(∀ x,(ρ x).aet=false->a.eval x=(ρ x).den ν)->∀ w:World,
     (Instr.indexAt t (a.eval x) (.int k n)).run C.P w=if 0<=n/\n<len then .ok (.pointer (some ⟨(ν i).core.blk,(ν i).core.off+off+n.toNat*sz,none⟩)) w else (Instr.indexAt t (a.eval x) (.int k n)).run C.P w:=by
    intro k n ν a he w;split
    ·rename_i hlt;have ex:a.eval x=.slice (some ⟨(ν i).core.blk,(ν i).core.off+off,none⟩) len cap:=by rw [he x (by rw [hx];rfl),hx];rfl
     simp [ex,Instr.indexAt,asIntOf,Sem.run_bind,run_underlying hu,hlt.1,hlt.2,run_sizeOf hsz,cY]
    ·rfl
   split at h
   ·rename_i k n hix;split at h
    ·rename_i hlt;obtain ⟨rfl,rfl⟩:=aw h;exact key hrun (fun ν a he=>by rw [he ix (by rw [hix];rfl),hix];rfl) n.toNat (by omega) (by omega)
    ·cases h
   ·rename_i k n hix;split at h
    ·obtain ⟨m,h1,h2,h3,rfl,rfl⟩:=oI h;exact key hrun (fun ν a he=>by rw [he ix (by rw [hix];rfl),hix];rfl) m h3 (by omega)
    ·cases h
   ·cases h
  ·cases h
 ·rename_i i off hx;split at h
  ·rename_i len e hu;obtain ⟨sz,hsz,h⟩:=aa h
   have hrun:∀ {k:IntKind} {n:Int} (ν:Env) (a:Act),(∀ x,(ρ x).aet=false->a.eval x=(ρ x).den ν)->∀ w:World,
     (Instr.indexAt t (a.eval x) (.int k n)).run C.P w=if 0<=n/\n<len then .ok (.pointer (some ⟨(ν i).core.blk,(ν i).core.off+off+n.toNat*sz,none⟩)) w else (Instr.indexAt t (a.eval x) (.int k n)).run C.P w:=by
    intro k n ν a he w;split
    ·rename_i hlt;have ex:a.eval x=.pointer (some ⟨(ν i).core.blk,(ν i).core.off+off,none⟩):=by rw [he x (by rw [hx];rfl),hx];rfl
     simp [ex,Instr.indexAt,asIntOf,Instr.sureAddr,Sem.run_bind,run_underlying hu,hlt.1,hlt.2,run_sizeOf hsz,cY]
    ·rfl
   split at h
   ·rename_i k n hix;split at h
    ·rename_i hlt;obtain ⟨rfl,rfl⟩:=aw h;exact key hrun (fun ν a he=>by rw [he ix (by rw [hix];rfl),hix];rfl) n.toNat (by omega) (by omega)
    ·cases h
   ·rename_i k n hix;split at h
    ·obtain ⟨m,h1,h2,h3,rfl,rfl⟩:=oI h;exact key hrun (fun ν a he=>by rw [he ix (by rw [hix];rfl),hix];rfl) m h3 (by omega)
    ·cases h
   ·cases h
  ·cases h
 ·cases h
theorem m9 {k:IntKind} {m:Int} {u u':Heap} {v:V}:∀ {n j:Nat},(uI k m u n j).eval=some (v,u')->v=.n k m/\u'=u
 | 0,j,h=>by cases h
 | n+1,j,h=>by
  unfold uI at h;simp only [T.eval] at h;cases e:decide (m=(j:Int))
  ·rw [e] at h;exact m9 (n:=n) h
  ·rw [e] at h;simp only [cond_true,c9,IT] at h;obtain ⟨rfl,rfl⟩:=h;exact ⟨by rw [IS e],rfl⟩
theorem zN {n:Nat} {p:V × Heap} {v:V} {u:Heap} (h:(Ic n p).eval=some (v,u)):p.2=u/\∀ ν,p.1.den ν=v.den ν:=by
 unfold Ic at h;split at h
 ·rename_i k m hp;obtain ⟨rfl,rfl⟩:=m9 h;exact ⟨rfl,fun ν=>by rw [hp];rfl⟩
 ·simp only [T.eval,c9] at h;subst h;exact ⟨rfl,fun _=>rfl⟩
theorem Af {w:Nat} {op:BinOp} {y:V} {r:R} {v:V} {u:Heap} (h:(BV w op y r).eval=some (v,u)):∃ v0,r.eval=some (v0,u)/\∀ ν,v0.den ν=v.den ν:=by
 unfold BV at h;split at h
 ·split at h
  ·obtain ⟨p,h1,h2⟩:=T.aes h;obtain ⟨rfl,h3⟩:=zN h2;exact ⟨p.1,h1,h3⟩
  ·exact ⟨v,h,fun _=>rfl⟩
 ·exact ⟨v,h,fun _=>rfl⟩
theorem aeC.same {P:Program} {o:Oper} {ρ:Operand->V} {L:ay} {nx:Nat} {v0 v:V} {u:Heap} (hd:∀ ν,v0.den ν=v.den ν) (h:aeC P o ρ L nx v0 u):aeC P o ρ L nx v u :=
 fun ν a w K Q h0 h1 h2 h3 h4 hk=>h ν a w K Q h0 h1 h2 h3 h4 fun ν' w' e1 e2 e3=>by rw [hd ν'];exact hk ν' w' e1 e2 e3
theorem Mq (hC:C.Ok) (hf:∀ f,ρ (.func f)=.raw (.func (.func f) #[] #[])) (hg:OQ v u) (hb:∀ t parts,o.op=.build t parts->∀ p∈parts.toList,(ρ p.2).aet=false) (h:(Qn C ρ L nx o).eval=some (v,u)):aeC C.P o ρ L nx v u:=by
 unfold Qn at h;split at h
 ·rename_i hop;exact yb (.inl hop) hg h
 ·rename_i hop;exact yb (.inr hop) hg h
 ·rename_i hop;exact JO hop hg h
 ·rename_i hop;exact CR hop h
 ·rename_i hop;exact PI hop h
 ·rename_i hop;exact B9 hop hg (hb _ _ hop) h
 ·rename_i hop;exact yI hop h
 ·rename_i hop;exact Ej hop h
 ·rename_i hop;exact tg hop h
 ·rename_i op t x y yt hop;obtain ⟨v,h,hd⟩:=Af h;refine aeC.same hd ?_;have gen:(LL C L nx op t (sv (ρ x)) (sv (ρ y))).eval=some (v,u)->aeC C.P o ρ L nx v u:=fun h=>rU (Qi (ρ:=fun z=>sv (ρ z)) hC hop h);split at h
  ·rename_i k a k' b hx hy;split at h
   ·rename_i hk;subst hk;split at h
    ·rename_i c hc;obtain ⟨rfl,rfl⟩:=aw h;exact vr hop hx hy hc
    ·exact gen h
   ·exact gen h
  ·exact gen h
 ·rename_i hop;exact rU (UM (ρ:=fun z=>sv (ρ z)) hop h)
 ·rename_i hop;exact Gs hop h
 ·rename_i hop;exact BI hop h
 ·rename_i hop;exact qF hop h
 ·rename_i hop;exact EV hop h
 ·rename_i hop;exact vF hop h
 ·rename_i hop;exact Ab hop hg h
 ·rename_i hop;exact o9 hop h
 ·rename_i hop;exact rD hop h
 ·rename_i hop;exact Hc hC hop hf h
 ·cases h
end sound
end Go.Eng
end
