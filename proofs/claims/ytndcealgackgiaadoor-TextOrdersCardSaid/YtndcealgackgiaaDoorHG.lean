import Derived.Laws.Strings
import Derived.Test.YtndcealgackgiaaDoorHF
/- Layer 4: told. -/
namespace Go.Proofs.YtndcealgackgiaaDoor.Txt
open Go.Eng Go.RowKit
set_option maxRecDepth 100000
theorem tld_run : (tldX []).eval = some (.s (.bool true)) := by kernel_rfl
end Go.Proofs.YtndcealgackgiaaDoor.Txt

/- Layer 4: TextNumbers. -/
namespace Go.Proofs.YtndcealgackgiaaDoor.Txt
open Go.Eng Go.RowKit
set_option linter.unusedVariables false
set_option linter.unusedSimpArgs false
set_option maxRecDepth 100000
def yesT : Eng.Spec
  | [] => .ret .tt
  | _ => .fail
theorem tldT_ok : SpecOk Tryd.prog 7 yesT := tldX_ok.of_den fun args v hfl h => by
  clear hfl
  unfold yesT at h
  split at h
  · obtain rfl := Option.some.inj h
    exact ⟨_, tld_run, ⟨rfl, rfl⟩, rfl⟩
  · cases h
noncomputable def NL : Cfg := ⟨Tryd.prog, lookG [(7, .val yesT), (61, .val decS), (20, .val numS), (22, .val shoS)], [], 0⟩
theorem NL_ok : NL.Ok := Cfg.ok ⟨tldT_ok, decS_ok, numS_ok, shoS_ok, trivial⟩ trivial
def aA (a : Int) : Int := W (Int.tmod (IntKind.wrap .u64 a) 1000000000)
def bB (b : Int) : Int := W (Int.tmod (IntKind.wrap .u64 b) 1000)
def kB (b : Int) : Int := W (1000 + bB b)
def T3 (b : Int) : ByteArray := (itoaB (kB b)).extract (Int.toNat 1) (Int.toNat ((itoaB (kB b)).size : Int))
def SA (c : Bool) (a : Int) : ByteArray := bif c then ⟨#[45]⟩ ++ itoaB (aA a) else itoaB (aA a)
def S1 (c : Bool) (a b : Int) : ByteArray := SA c a ++ ⟨#[46]⟩ ++ T3 b
def S2 (c : Bool) (a b : Int) : ByteArray := S1 c a b ++ ⟨#[48]⟩
def wW (c : Bool) (a b : Int) : Int := bif c then W (0 - W (W (1000 * aA a) + bB b)) else W (W (1000 * aA a) + bB b)
def n1 (c : Bool) (a b : Int) : Option Int := numF (L8 (S1 c a b))
def n2 (c : Bool) (a b : Int) : Option Int := numF (L8 (S2 c a b))
def nA (c : Bool) (a : Int) : Option Int := numF (L8 (SA c a))
def c5 (c : Bool) (a b : Int) : Bool := bif bif bif bif bif (n1 c a b).isSome then (n1 c a b).getD 0 == wW c a b else false then !(n2 c a b).isSome else false then (n2 c a b).getD 0 == 0 else false then (nA c a).isSome else false then bif (nA c a).getD 0 == wW c a b then true else bB b != 0 else false
def gd (c : Bool) (a b : Int) (x : Int) : Bool := bif (c5 c a b) == true && ((bB b == 0) == false && true) then in64 x else true
def fin5 (c : Bool) (a b : Int) : Bool := bif c5 c a b then bif bB b == 0 then true else !((showB ((n1 c a b).getD 0)).toList == (showB ((nA c a).getD 0)).toList) else false
def hd5 (c : Bool) (a b : Int) : List (Bool × Bool) := [((1000000000 : Int) == 0, false), ((1000 : Int) == 0, false), (decide (0 ≤ kB b) && decide (kB b ≤ 9223372036854775807), true), (decide ((0 : Int) ≤ 1) && (decide ((1 : Int) ≤ ((itoaB (kB b)).size : Int)) && decide (((itoaB (kB b)).size : Int) ≤ ((itoaB (kB b)).size : Int))), true), (decide (0 ≤ aA a) && decide (aA a ≤ 9223372036854775807), true), (c, c)]
def tl5 (c : Bool) (a b : Int) : List (Bool × Bool) := [(over ((SA c a).size + (⟨#[46]⟩ : ByteArray).size), false), (over ((SA c a ++ ⟨#[46]⟩).size + (T3 b).size), false), (decide ((S1 c a b).size < 4294967281), true), (over ((SA c a).size + (⟨#[46]⟩ : ByteArray).size), false), (over ((SA c a ++ ⟨#[46]⟩).size + (T3 b).size), false), (over ((S1 c a b).size + (⟨#[48]⟩ : ByteArray).size), false), (decide ((S2 c a b).size < 4294967281), true), (decide ((SA c a).size < 4294967281), true), (gd c a b ((n1 c a b).getD 0), true), (gd c a b ((nA c a).getD 0), true)]
theorem dig_of {d : Nat} (h : d < 10) : dig (UInt8.ofNat (48 + d)) = true ∧ (UInt8.ofNat (48 + d)).toNat = 48 + d := by
  have e : (UInt8.ofNat (48 + d)).toNat = 48 + d := by rw [UInt8.toNat_ofNat']; omega
  unfold dig
  rw [e, decide_eq_true (show 48 ≤ 48 + d by omega), decide_eq_true (show 48 + d ≤ 57 by omega)]
  exact ⟨rfl, rfl⟩
theorem decF_ok : ∀ (f u : Nat), u < 10 ^ (f + 1) → (∀ b ∈ decF f u, dig b = true) ∧ natL (decF f u) = (u : Int)
  | 0, u, h => by
    have hu : u % 10 = u := Nat.mod_eq_of_lt (by omega)
    unfold decF
    rw [hu]
    obtain ⟨q1, q2⟩ := dig_of (show u < 10 by omega)
    refine ⟨fun b hb => by rw [List.mem_singleton.1 hb]; exact q1, ?_⟩
    show (0 : Int) * 10 + (((UInt8.ofNat (48 + u)).toNat : Nat) - 48) = _
    rw [q2]; omega
  | f + 1, u, h => by
    unfold decF
    split
    · rename_i hu
      obtain ⟨q1, q2⟩ := dig_of hu
      refine ⟨fun b hb => by rw [List.mem_singleton.1 hb]; exact q1, ?_⟩
      show (0 : Int) * 10 + (((UInt8.ofNat (48 + u)).toNat : Nat) - 48) = _
      rw [q2]; omega
    · obtain ⟨i1, i2⟩ := decF_ok f (u / 10) (by rw [Nat.pow_succ] at h; omega)
      obtain ⟨q1, q2⟩ := dig_of (show u % 10 < 10 by omega)
      refine ⟨fun b hb => ?_, ?_⟩
      · rcases List.mem_append.1 hb with q | q
        · exact i1 b q
        · rw [List.mem_singleton.1 q]; exact q1
      · rw [natL_snoc, i2, q2]; omega
theorem decF_short : ∀ (f k u : Nat), u < 10 ^ (k + 1) → (decF f u).length ≤ k + 1
  | 0, k, u, h => by unfold decF; simp
  | f + 1, k, u, h => by
    unfold decF
    split
    · simp
    · rename_i hu
      cases k with
      | zero => simp at h; omega
      | succ k =>
        have := decF_short f k (u / 10) (by rw [Nat.pow_succ] at h; omega)
        rw [List.length_append, List.length_singleton]
        omega
theorem itoaL_nat {n : Int} (h0 : 0 ≤ n) : itoaL n = decF 19 n.toNat := by unfold itoaL; rw [if_neg (by omega)]
theorem pow20 : (10 : Nat) ^ (19 + 1) = 100000000000000000000 := by decide
theorem itoaL_ok {n : Int} (h0 : 0 ≤ n) (h1 : n ≤ 9223372036854775807) : (∀ b ∈ itoaL n, dig b = true) ∧ natL (itoaL n) = n ∧ 1 ≤ (itoaL n).length := by
  rw [itoaL_nat h0]
  obtain ⟨q1, q2⟩ := decF_ok 19 n.toNat (by rw [pow20]; omega)
  exact ⟨q1, by rw [q2]; omega, (decF_len 19 n.toNat).2⟩
theorem dig_ne {b : UInt8} (h : dig b = true) : b ≠ 46 ∧ b ≠ 45 := by
  unfold dig at h
  rw [Bool.and_eq_true, decide_eq_true_eq, decide_eq_true_eq] at h
  constructor
  · rintro rfl; exact absurd h.1 (by decide)
  · rintro rfl; exact absurd h.1 (by decide)
theorem pre_one (c b : UInt8) (l : List UInt8) : List.isPrefixOf [c] (b :: l) = (c == b) := by
  simp [List.isPrefixOf]
theorem idx_at : ∀ (D t : List UInt8), (∀ b ∈ D, dig b = true) → idxF (D ++ 46 :: t) [46] = some D.length
  | [], t, _ => by
    show idxF (46 :: t) [46] = _
    unfold idxF
    rw [pre_one]; rfl
  | b :: D, t, h => by
    show idxF (b :: (D ++ 46 :: t)) [46] = _
    unfold idxF
    rw [pre_one, if_neg (by rw [beq_iff_eq]; exact fun q => (dig_ne (h b List.mem_cons_self)).1 q.symm), idx_at D t (fun b hb => h b (List.mem_cons_of_mem _ hb))]
    rfl
theorem idx_no : ∀ D : List UInt8, (∀ b ∈ D, dig b = true) → idxF D [46] = none
  | [], _ => rfl
  | b :: D, h => by
    unfold idxF
    rw [pre_one, if_neg (by rw [beq_iff_eq]; exact fun q => (dig_ne (h b List.mem_cons_self)).1 q.symm), idx_no D (fun b hb => h b (List.mem_cons_of_mem _ hb))]
    rfl
theorem cut_at (D t : List UInt8) (h : ∀ b ∈ D, dig b = true) : cutF (D ++ 46 :: t) [46] = (D, t, true) := by
  unfold cutF
  rw [idx_at D t h]
  show (List.take D.length (D ++ 46 :: t), List.drop (D.length + 1) (D ++ 46 :: t), true) = _
  rw [List.take_left, ← List.drop_drop, List.drop_left]
  rfl
theorem cut_no (D : List UInt8) (h : ∀ b ∈ D, dig b = true) : cutF D [46] = (D, [], false) := by
  unfold cutF
  rw [idx_no D h]
def mP (c : Bool) (l : List UInt8) : List UInt8 := bif c then 45 :: l else l
theorem pre_mP (c : Bool) (D l : List UInt8) (h : ∀ b ∈ D, dig b = true) (h1 : 1 ≤ D.length) : Lib.hasPrefix (mP c (D ++ l)) [45] = c ∧ Lib.trimPrefix (mP c (D ++ l)) [45] = D ++ l := by
  unfold Lib.trimPrefix Lib.hasPrefix
  cases c with
  | true =>
    show List.isPrefixOf [45] (45 :: (D ++ l)) = true ∧ (if List.isPrefixOf [45] (45 :: (D ++ l)) = true then _ else _) = _
    rw [pre_one]
    exact ⟨rfl, rfl⟩
  | false =>
    cases D with
    | nil => simp at h1
    | cons b D =>
      show List.isPrefixOf [45] (b :: (D ++ l)) = false ∧ (if List.isPrefixOf [45] (b :: (D ++ l)) = true then _ else _) = _
      have e : ((45 : UInt8) == b) = false := by rw [beq_eq_false_iff_ne]; exact fun q => (dig_ne (h b List.mem_cons_self)).2 q.symm
      rw [pre_one, e]
      exact ⟨rfl, rfl⟩
theorem natO_of {l : List UInt8} {k : Int} (h1 : 1 ≤ l.length) (h2 : (l.length : Int) ≤ k) (h3 : ∀ b ∈ l, dig b = true) : natO l k = true := by
  unfold natO
  rw [decide_eq_true h1, decide_eq_true h2, List.all_eq_true.2 h3]; rfl
def sg (c : Bool) (n : Int) : Int := bif c then -n else n
theorem numF_pt {c : Bool} {D t : List UInt8} (hD : ∀ b ∈ D, dig b = true) (d1 : 1 ≤ D.length) (d9 : D.length ≤ 9) (ht : ∀ b ∈ t, dig b = true) (t3 : t.length = 3) : numF (mP c (D ++ 46 :: t)) = some (sg c (natL D * 1000 + natL t)) := by
  obtain ⟨p1, p2⟩ := pre_mP c D (46 :: t) hD d1
  unfold numF
  rw [p2, p1, cut_at D t hD]
  show (if natO D 9 = true then (if true = true then (if natO t 3 = true then some (bif c then -(natL D * 1000 + natL t * 10 ^ (3 - t.length)) else natL D * 1000 + natL t * 10 ^ (3 - t.length)) else none) else _) else none) = _
  rw [if_pos (natO_of d1 (by omega) hD), if_pos rfl, if_pos (natO_of (by omega) (by omega) ht), t3]
  have : (10 : Int) ^ (3 - 3) = 1 := by decide
  rw [this, Int.mul_one]
  rfl
theorem numF_no {c : Bool} {D t : List UInt8} (hD : ∀ b ∈ D, dig b = true) (d1 : 1 ≤ D.length) (t4 : 3 < t.length) : numF (mP c (D ++ 46 :: t)) = none := by
  obtain ⟨p1, p2⟩ := pre_mP c D (46 :: t) hD d1
  unfold numF
  rw [p2, p1, cut_at D t hD]
  show (if natO D 9 = true then (if true = true then (if natO t 3 = true then _ else none) else _) else none) = none
  have : natO t 3 = false := by
    unfold natO
    rw [decide_eq_false (show ¬ (t.length : Int) ≤ 3 by omega)]; simp
  rw [this]
  split <;> rfl
theorem numF_wh {c : Bool} {D : List UInt8} (hD : ∀ b ∈ D, dig b = true) (d1 : 1 ≤ D.length) (d9 : D.length ≤ 9) : numF (mP c D) = some (sg c (natL D * 1000)) := by
  obtain ⟨p1, p2⟩ := pre_mP c D [] hD d1
  rw [List.append_nil] at p1 p2
  unfold numF
  rw [p2, p1, cut_no D hD]
  show (if natO D 9 = true then (if false = true then _ else some (bif c then -(natL D * 1000) else natL D * 1000)) else none) = _
  rw [if_pos (natO_of d1 (by omega) hD)]
  rfl
theorem three {B : Int} (h0 : 0 ≤ B) (h1 : B < 1000) : ((itoaL (1000 + B)).drop 1).length = 3 ∧ (∀ b ∈ (itoaL (1000 + B)).drop 1, dig b = true) ∧ natL ((itoaL (1000 + B)).drop 1) = B := by
  obtain ⟨q1, q2, q3⟩ := itoaL_ok (n := 1000 + B) (by omega) (by omega)
  have hs : (itoaL (1000 + B)).length ≤ 4 := by
    rw [itoaL_nat (by omega)]
    exact decF_short 19 3 _ (by have : (10 : Nat) ^ (3 + 1) = 10000 := by decide
                                omega)
  obtain ⟨-, q4⟩ := natL_in _ _ rfl q1
  rw [q2] at q4
  generalize itoaL (1000 + B) = l at *
  match l, q1, q2, q3, hs, q4 with
  | [x], _, _, _, _, q4 => simp at q4; omega
  | [x, y], _, _, _, _, q4 => simp at q4; omega
  | [x, y, z], _, _, _, _, q4 => simp at q4; omega
  | [x, y, z, w], q1, q2, _, _, _ =>
    have d : ∀ b : UInt8, dig b = true → 48 ≤ b.toNat ∧ b.toNat ≤ 57 := fun b hb => by
      unfold dig at hb
      rw [Bool.and_eq_true, decide_eq_true_eq, decide_eq_true_eq] at hb
      exact hb
    have dx := d x (q1 x (by simp))
    have dy := d y (q1 y (by simp))
    have dz := d z (q1 z (by simp))
    have dw := d w (q1 w (by simp))
    have e : (((((0 : Int) * 10 + (((x.toNat : Nat) : Int) - 48)) * 10 + (((y.toNat : Nat) : Int) - 48)) * 10 + (((z.toNat : Nat) : Int) - 48)) * 10 + (((w.toNat : Nat) : Int) - 48)) = 1000 + B := q2
    refine ⟨rfl, fun b hb => q1 b (List.mem_cons_of_mem _ hb), ?_⟩
    show ((((0 : Int) * 10 + (((y.toNat : Nat) : Int) - 48)) * 10 + (((z.toNat : Nat) : Int) - 48)) * 10 + (((w.toNat : Nat) : Int) - 48)) = B
    omega
theorem show_pt {n : Int} (h : (if MX n < 0 then -MX n else MX n) % 1000 ≠ 0) : (46 : UInt8) ∈ L8 (showB n) := by
  unfold showB
  simp only
  rw [if_neg h, L8_append, L8_append]
  exact List.mem_append_left _ (List.mem_append_right _ (by show (46 : UInt8) ∈ [46]; exact List.mem_singleton.2 rfl))
theorem show_no {n : Int} (h : (if MX n < 0 then -MX n else MX n) % 1000 = 0) (h0 : 0 ≤ (if MX n < 0 then -MX n else MX n)) (h1 : (if MX n < 0 then -MX n else MX n) ≤ 9223372036854775807) : (46 : UInt8) ∉ L8 (showB n) := by
  unfold showB
  simp only
  rw [if_pos h, L8_append]
  intro hm
  rcases List.mem_append.1 hm with q | q
  · generalize decide (MX n < 0) = g at q
    cases g with
    | true =>
      have q : (46 : UInt8) ∈ [(45 : UInt8)] := q
      have := List.mem_singleton.1 q
      exact absurd this (by decide)
    | false =>
      have q : (46 : UInt8) ∈ ([] : List UInt8) := q
      cases q
  · have q : (46 : UInt8) ∈ itoaL _ := q
    exact (dig_ne ((itoaL_ok (by omega) (by omega)).1 _ q)).1 rfl
theorem mod_u64 (a : Int) {m : Int} (hm : 0 < m) (hb : m ≤ 1000000000) : 0 ≤ W (Int.tmod (IntKind.wrap .u64 a) m) ∧ W (Int.tmod (IntKind.wrap .u64 a) m) < m := by
  have a0 : 0 ≤ IntKind.wrap .u64 a := by rw [wrapu64]; omega
  have b0 := Int.tmod_nonneg m a0
  have b1 := Int.tmod_lt_of_pos (IntKind.wrap .u64 a) hm
  rw [Wi (by omega) (by omega)]
  exact ⟨b0, b1⟩
theorem tn_fin (c : Bool) (a b : Int) : fin5 c a b = true ∧ allSay (tl5 c a b) ∧ allSay (hd5 c a b) ∧ over ((⟨#[45]⟩ : ByteArray).size + (itoaB (aA a)).size) = false := by
  obtain ⟨A0, A1⟩ : 0 ≤ aA a ∧ aA a < 1000000000 := mod_u64 a (by decide) (by decide)
  obtain ⟨B0, B1⟩ : 0 ≤ bB b ∧ bB b < 1000 := mod_u64 b (by decide) (by decide)
  have ek : kB b = 1000 + bB b := by unfold kB; exact Wi (by omega) (by omega)
  obtain ⟨t3, td, tn⟩ := three B0 B1
  obtain ⟨Dd, Dn, D1⟩ := itoaL_ok A0 (by omega)
  have D9 : (itoaL (aA a)).length ≤ 9 := by
    rw [itoaL_nat A0]
    exact decF_short 19 8 _ (by have : (10 : Nat) ^ (8 + 1) = 1000000000 := by decide
                                omega)
  have lT : L8 (T3 b) = (itoaL (1000 + bB b)).drop 1 := by
    unfold T3
    rw [extract_L8, ek]; rfl
  have lA : L8 (SA c a) = mP c (itoaL (aA a)) := by cases c <;> rfl
  have l1 : L8 (S1 c a b) = mP c (itoaL (aA a) ++ 46 :: (itoaL (1000 + bB b)).drop 1) := by
    unfold S1
    rw [L8_append, L8_append, lA, lT]
    show (mP c (itoaL (aA a)) ++ [46]) ++ _ = _
    cases c
    · show (itoaL (aA a) ++ [46]) ++ _ = itoaL (aA a) ++ 46 :: _
      rw [List.append_assoc]; rfl
    · show ((45 :: itoaL (aA a)) ++ [46]) ++ _ = 45 :: (itoaL (aA a) ++ 46 :: _)
      rw [List.append_assoc]; rfl
  have l2 : L8 (S2 c a b) = mP c (itoaL (aA a) ++ 46 :: ((itoaL (1000 + bB b)).drop 1 ++ [48])) := by
    unfold S2
    rw [L8_append, l1]
    show _ ++ [48] = _
    cases c
    · show (itoaL (aA a) ++ 46 :: _) ++ [48] = itoaL (aA a) ++ 46 :: (_ ++ [48])
      rw [List.append_assoc]; rfl
    · show (45 :: (itoaL (aA a) ++ 46 :: _)) ++ [48] = 45 :: (itoaL (aA a) ++ 46 :: (_ ++ [48]))
      rw [List.cons_append, List.append_assoc]; rfl
  have e1 : n1 c a b = some (sg c (aA a * 1000 + bB b)) := by unfold n1; rw [l1, numF_pt Dd D1 D9 td t3, Dn, tn]
  have e2 : n2 c a b = none := by
    unfold n2; rw [l2]
    exact numF_no Dd D1 (by rw [List.length_append, t3]; decide)
  have eA : nA c a = some (sg c (aA a * 1000)) := by unfold nA; rw [lA, numF_wh Dd D1 D9, Dn]
  have ew : wW c a b = sg c (aA a * 1000 + bB b) := by
    unfold wW sg
    rw [Wi (n := 1000 * aA a) (by omega) (by omega), Wi (n := 1000 * aA a + bB b) (by omega) (by omega)]
    cases c
    · show 1000 * aA a + bB b = aA a * 1000 + bB b; omega
    · show W (0 - (1000 * aA a + bB b)) = -(aA a * 1000 + bB b)
      rw [Wi (by omega) (by omega)]; omega
  have e5 : c5 c a b = true := by
    unfold c5
    rw [e1, e2, eA, ew]
    show (bif bif bif bif bif true then (sg c (aA a * 1000 + bB b) == sg c (aA a * 1000 + bB b)) else false then true else false then true else false then true else false then (bif (sg c (aA a * 1000) == sg c (aA a * 1000 + bB b)) then true else bB b != 0) else false) = true
    rw [beq_self_eq_true]
    show (bif (sg c (aA a * 1000) == sg c (aA a * 1000 + bB b)) then true else bB b != 0) = true
    by_cases q : bB b = 0
    · rw [q, Int.add_zero, beq_self_eq_true]; rfl
    · have : (bB b != 0) = true := by simpa using q
      rw [this]
      cases (sg c (aA a * 1000) == sg c (aA a * 1000 + bB b)) <;> rfl
  have sgi : ∀ n : Int, 0 ≤ n → n ≤ 1000000000000 → in64 (sg c n) = true := fun n n0 n1 => by
    unfold in64 sg
    cases c
    · show (decide (-9223372036854775808 ≤ n) && decide (n ≤ 9223372036854775807)) = true
      rw [decide_eq_true (by omega), decide_eq_true (by omega)]; rfl
    · show (decide (-9223372036854775808 ≤ -n) && decide (-n ≤ 9223372036854775807)) = true
      rw [decide_eq_true (by omega), decide_eq_true (by omega)]; rfl
  have sgm : ∀ n : Int, 0 ≤ n → n ≤ 1000000000000 → (if MX (sg c n) < 0 then -MX (sg c n) else MX (sg c n)) = n := fun n n0 n1 => by
    have : MX (sg c n) = sg c n := by
      unfold MX sg
      cases c
      · show (if -9223372036854775807 > n then _ else n) = n
        rw [if_neg (by omega)]
      · show (if -9223372036854775807 > -n then _ else -n) = -n
        rw [if_neg (by omega)]
    rw [this]
    unfold sg
    cases c
    · show (if n < 0 then -n else n) = n
      rw [if_neg (by omega)]
    · show (if -n < 0 then - -n else -n) = n
      split <;> omega
  have gdx : ∀ n : Int, 0 ≤ n → n ≤ 1000000000000 → gd c a b (sg c n) = true := fun n n0 n1 => by
    unfold gd
    rw [sgi n n0 n1]
    cases ((c5 c a b) == true && ((bB b == 0) == false && true)) <;> rfl
  have zA : (itoaB (aA a)).size = (itoaL (aA a)).length := by rw [← L8_len]; unfold itoaB; exact congrArg List.length (L8_byA _)
  have zS : (SA c a).size ≤ 10 := by
    rw [← L8_len, lA]
    cases c
    · show (itoaL (aA a)).length ≤ 10; omega
    · show (45 :: itoaL (aA a)).length ≤ 10
      rw [List.length_cons]; omega
  have zT : (T3 b).size = 3 := by rw [← L8_len, lT, t3]
  have o46 : (⟨#[46]⟩ : ByteArray).size = 1 := rfl
  have o48 : (⟨#[48]⟩ : ByteArray).size = 1 := rfl
  have o45 : (⟨#[45]⟩ : ByteArray).size = 1 := rfl
  have z1 : (S1 c a b).size ≤ 14 := by unfold S1; rw [ByteArray.size_append, ByteArray.size_append, o46, zT]; omega
  have z2 : (S2 c a b).size ≤ 15 := by unfold S2; rw [ByteArray.size_append, o48]; omega
  have b1 : over ((SA c a).size + (⟨#[46]⟩ : ByteArray).size) = false := by rw [o46]; exact over_no (by omega)
  have b2 : over ((SA c a ++ ⟨#[46]⟩).size + (T3 b).size) = false := by rw [ByteArray.size_append, o46, zT]; exact over_no (by omega)
  have b3 : over ((S1 c a b).size + (⟨#[48]⟩ : ByteArray).size) = false := by rw [o48]; exact over_no (by omega)
  refine ⟨?_, ?_, ?_, ?_⟩
  · unfold fin5
    rw [e5, e1, eA]
    show (bif bB b == 0 then true else !((showB (sg c (aA a * 1000 + bB b))).toList == (showB (sg c (aA a * 1000))).toList)) = true
    by_cases q : bB b = 0
    · rw [q]; rfl
    · have : (bB b == 0) = false := by simpa using q
      rw [this]
      show (!((showB (sg c (aA a * 1000 + bB b))).toList == (showB (sg c (aA a * 1000))).toList)) = true
      rw [Bool.not_eq_true', beq_eq_false_iff_ne, ByteArray.toList_eq, ByteArray.toList_eq]
      intro he
      have p := show_pt (n := sg c (aA a * 1000 + bB b)) (by rw [sgm _ (by omega) (by omega)]; omega)
      have r := show_no (n := sg c (aA a * 1000)) (by rw [sgm _ (by omega) (by omega)]; omega) (by rw [sgm _ (by omega) (by omega)]; omega) (by rw [sgm _ (by omega) (by omega)]; omega)
      exact r (by
        have he : L8 (showB (sg c (aA a * 1000 + bB b))) = L8 (showB (sg c (aA a * 1000))) := he
        rw [← he]; exact p)
  · unfold tl5
    simp only [allSay]
    exact ⟨b1, b2, decide_eq_true (by omega), b1, b2, b3, decide_eq_true (by omega), decide_eq_true (by omega), by rw [e1]; exact gdx _ (by omega) (by omega), by rw [eA]; exact gdx _ (by omega) (by omega), trivial⟩
  · unfold hd5
    simp only [allSay]
    have zk := itoaB_size (kB b)
    refine ⟨rfl, rfl, by rw [ek, decide_eq_true (show 0 ≤ 1000 + bB b by omega), decide_eq_true (show 1000 + bB b ≤ 9223372036854775807 by omega)]; rfl, ?_, by rw [decide_eq_true A0, decide_eq_true (show aA a ≤ 9223372036854775807 by omega)]; rfl, trivial, trivial⟩
    rw [decide_eq_true (show (1 : Int) ≤ ((itoaB (kB b)).size : Int) by omega), decide_eq_true (Int.le_refl _)]; rfl
  · rw [o45, zA]; exact over_no (by omega)
end Go.Proofs.YtndcealgackgiaaDoor.Txt

