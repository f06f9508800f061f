/- Layer 10: SampleOrders. -/
import Derived.Test.YtmijloophkkanaaSamQ
import Derived.Test.YtmijloophkkanaaLaw3
namespace Go.Proofs.Ytmijloophkkanaa.Sam
open Go.Eng Go.RowKit
set_option linter.unusedVariables false
set_option linter.unusedSimpArgs false
def lawO (k : Int) (g : List Int) (j : Nat) (R : Int) : T V :=
  let L := (g.drop 0).take j
  let W := whL L (startF L.length 0 R) (lenF L.length 0).toNat
  let F := whL L (startF L.length 0 0) (lenF L.length 0).toNat
  T.ite none (decide (0 + j ≤ g.length)) (T.ite none (decide (L.length ≤ 1000) && decide (R ≤ 9223372036854775807)) (T.ite none ((W.length : Int) != sizeF k) (.ret .ff) (T.ite none (invJ ⟨k, g, j, W, W.length⟩ 1) (T.ite none (decide (0 + j ≤ g.length)) (T.ite none (decide (L.length ≤ 1000) && decide ((0 : Int) ≤ 9223372036854775807))
    (T.ite none (bif (bif k == 0 then (F.length : Int) == 0 else false) == false && ((bif decide (0 < k) then decide (0 < (F.length : Int)) else false) == true && true) then decide ((0 : Int) ≤ 0) && (decide (0 < (F.length : Int)) && decide (0 + Int.toNat 0 < F.length)) else true)
    (T.ite none (bif (bif k == 0 then (F.length : Int) == 0 else false) == false && ((bif decide (0 < k) then decide (0 < (F.length : Int)) else false) == true && true) then decide (0 + Int.toNat 0 < F.length) else true)
      (T.ret (.s (.bool (bif bif k == 0 then (F.length : Int) == 0 else false then true else bif bif decide (0 < k) then decide (0 < (F.length : Int)) else false then gI F 0 == 3 else false)))) .fail) .fail) .fail) .fail) .fail)) .fail) .fail
theorem orders_run (n r : Int) : T.anon (execS P8 (byReg olist) 10 [iv n, iv r]) = T.ite none ((61 : Int) == 0) .fail (T.ite none (invI ⟨r, IntKind.wrap .i64 (Int.tmod (IntKind.wrap .u64 n) 61)⟩ ⟨[], 0, 0⟩) (T.ite none ((100000 : Int) == 0) .fail
    (lawO (IntKind.wrap .i64 (Int.tmod (IntKind.wrap .u64 n) 61)) (endW (nxtI ⟨r, IntKind.wrap .i64 (Int.tmod (IntKind.wrap .u64 n) 61)⟩) ⟨[], 0, 0⟩).l (endW (nxtI ⟨r, IntKind.wrap .i64 (Int.tmod (IntKind.wrap .u64 n) 61)⟩) ⟨[], 0, 0⟩).j (IntKind.wrap .i64 (Int.tmod (IntKind.wrap .u64 r) 100000)))) .fail) := by kernel_rfl
theorem mod_next {a m : Int} (hm : 0 < m) (ha : 0 ≤ a) : (a + 1) % m = if a % m = m - 1 then 0 else a % m + 1 := by
  have h1 := Int.emod_nonneg a (b := m) (by omega)
  have h2 := Int.emod_lt_of_pos a hm
  rw [Int.add_emod]
  by_cases q1 : m = 1
  · subst q1
    rw [if_pos (by omega)]; omega
  · rw [Int.emod_eq_of_lt (a := 1) (by decide) (by omega)]
    split
    · rename_i h
      rw [h, show m - 1 + 1 = m by omega, Int.emod_self]
    · rw [Int.emod_eq_of_lt (by omega) (by omega)]
theorem whL_gI {g : List Int} {st : Int} {n : Nat} {q : Int} (h0 : 0 ≤ q) (h : q < n) : gI (whL g st n) q = gI g ((st + q) % g.length) := by
  unfold gI
  rw [Nat.zero_add, List.getD_eq_getElem?_getD, whL_get _ _ _ _ (by omega)]
  simp only [Option.getD_some]
  rw [show (st + (q.toNat : Nat) : Int) = st + q by omega]
  rfl
theorem wh_orderly (m : Nat) (hm : m ≤ 60) (st : Int) (hst : 0 ≤ st) (n : Nat) (hn : n ≤ m) : orderly m (whL (idL m) st n) = true := by
  unfold orderly
  simp only [Bool.and_eq_true, List.all_eq_true, decide_eq_true_eq, beq_iff_eq, whL_length]
  constructor
  · intro x hx
    unfold whL at hx
    obtain ⟨q, hq, rfl⟩ := List.mem_map.1 hx
    have := List.mem_range.1 hq
    rw [idL_length]
    have h1 := Int.emod_nonneg (st + q) (b := (m : Int)) (by omega)
    have h2 := Int.emod_lt_of_pos (st + q) (b := (m : Int)) (by omega)
    rw [idL_get m h1 h2]; omega
  · intro q hq
    have hq := List.mem_range.1 hq
    rw [whL_gI (by omega) (by omega), whL_gI (by omega) (by omega), idL_length]
    have h1 := Int.emod_nonneg (st + q) (b := (m : Int)) (by omega)
    have h2 := Int.emod_lt_of_pos (st + q) (b := (m : Int)) (by omega)
    have h3 := mod_next (a := st + q) (m := m) (by omega) (by omega)
    rw [show st + (q : Int) + 1 = st + ((q : Int) + 1) by omega] at h3
    have h4 := Int.emod_nonneg (st + ((q : Int) + 1)) (b := (m : Int)) (by omega)
    have h5 := Int.emod_lt_of_pos (st + ((q : Int) + 1)) (b := (m : Int)) (by omega)
    rw [idL_get m h1 h2, idL_get m h4 h5, h3]
    unfold wantF
    split
    · rename_i h; rw [if_pos (by omega)]; omega
    · rename_i h; rw [if_neg (by omega)]; omega
theorem sampleOrders_walk (n : Int) (_ : (Lit.int .i64 n).wf = true) (r : Int) (_ : (Lit.int .i64 r).wf = true) (w : World) :
    Calls Try.prog 10 #[.int .i64 n, .int .i64 r] w fun e w' => e = .returned (.bool true) ∧ Below w.heap.size w w' := by
  refine law_yes (args := [iv n, iv r]) (execS_loops (Λ := byReg olist) P8_ok mixed Try.func10 (by kernel_rfl) (by kernel_rfl) olps_ok) rfl (yes_anon ?_) w
  rw [orders_run, modU (n := n) (by decide) (by decide), modU (n := r) (by decide) (by decide)]
  have hk := modU_range n (m := 61) (by decide)
  have hr := modU_range r (m := 100000) (by decide)
  generalize (n % 18446744073709551616) % 61 = k at *
  generalize (r % 18446744073709551616) % 100000 = R at *
  obtain ⟨m, rfl⟩ := Int.eq_ofNat_of_zero_le hk.1
  have hi : invI ⟨r, (m : Int)⟩ ⟨[], 0, 0⟩ = true := by
    simp only [invI, Bool.and_eq_true, decide_eq_true_eq]
    exact ⟨⟨⟨rfl, rfl⟩, by omega⟩, by omega⟩
  refine yes_else rfl (yes_then hi (yes_else rfl ?_))
  rw [endI hi]
  dsimp only
  rw [Int.toNat_natCast]
  unfold lawO
  dsimp only
  have el : ((idL m).drop 0).take m = idL m := by rw [List.drop_zero, List.take_of_length_le (by rw [idL_length]; exact Nat.le_refl _)]
  rw [el, idL_length]
  have hL : lenF (m : Int) 0 = sizeF m := by unfold lenF; rw [if_neg (by decide)]
  obtain ⟨s1, s2, -, -, s5, s6⟩ := sizeF_says (n := (m : Int)) (by omega)
  rw [hL, whL_length, whL_length]
  have hg : ((sizeF (m : Int)).toNat : Int) = sizeF m := by omega
  rw [hg]
  have hst : 0 ≤ startF (m : Int) 0 R := by
    unfold startF
    by_cases q : m = 0
    · subst q
      have : mx0 R = R := by unfold mx0; rw [if_neg (by omega)]
      rw [this]
      have e0 : lenF ((0 : Nat) : Int) 0 = 0 := rfl
      rw [e0, Int.mul_zero]; decide
    · exact Int.emod_nonneg _ (by omega)
  have hj : invJ ⟨m, idL m, m, whL (idL m) (startF m 0 R) (sizeF m).toNat, (sizeF m).toNat⟩ 1 = true := by
    simp only [invJ, Bool.and_eq_true, Bool.or_eq_true, decide_eq_true_eq, whL_length]
    exact ⟨⟨⟨⟨⟨⟨trivial, by omega⟩, by omega⟩, .inl trivial⟩, by omega⟩, by omega⟩, wh_orderly m (by omega) _ hst _ (by omega)⟩
  have hz : decide (0 + m ≤ m) = true := by simp
  rw [hz]
  refine yes_then rfl (yes_then (by simp only [Bool.and_eq_true, decide_eq_true_eq]; omega) (yes_else (by simp) (yes_then hj (yes_then rfl (yes_then (by simp only [Bool.and_eq_true, decide_eq_true_eq]; omega) ?_)))))
  by_cases q : m = 0
  · subst q
    exact yes_then rfl (yes_then rfl (yes_ret rfl))
  · have hp : 0 < sizeF (m : Int) := s5 (by omega)
    have e1 : ((m : Int) == 0) = false := by rw [beq_eq_false_iff_ne]; omega
    have e2 : decide (0 < (m : Int)) = true := decide_eq_true (by omega)
    have e3 : decide (0 < sizeF (m : Int)) = true := decide_eq_true hp
    have e4 : decide (0 + Int.toNat 0 < (sizeF (m : Int)).toNat) = true := by
      simp only [decide_eq_true_eq]
      show 0 + 0 < (sizeF (m : Int)).toNat
      omega
    have e5 : gI (whL (idL m) (startF m 0 0) (sizeF m).toNat) 0 = 3 := by
      rw [whL_gI (by decide) (by omega), idL_length]
      have : startF (m : Int) 0 0 = 0 := by
        unfold startF
        have : mx0 0 = 0 := rfl
        rw [this, Int.zero_emod, Int.zero_mul, Int.zero_emod]
      rw [this, Int.zero_add, Int.zero_emod, idL_get m (by decide) (by omega)]; rfl
    rw [e1, e2, e3, e4, e5]
    exact yes_then rfl (yes_then rfl (yes_ret rfl))
end Go.Proofs.Ytmijloophkkanaa.Sam
