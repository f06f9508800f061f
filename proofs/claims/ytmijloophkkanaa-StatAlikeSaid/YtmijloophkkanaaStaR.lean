/- Layer 9: StatAlike. -/
import Derived.Test.YtmijloophkkanaaStaQ
import Derived.Test.YtmijloophkkanaaLaw3
namespace Go.Proofs.Ytmijloophkkanaa.Sta
open Go.Eng Go.RowKit Mil
set_option linter.unusedVariables false
set_option linter.unusedSimpArgs false
def lawB (p : PB1) (E : AB1) : T V :=
  T.ite none (decide (0 + E.j ≤ E.l.length)) (T.ite none (okL3 ((E.l.drop 0).take E.j)) (T.ite none ((2 : Int) == 0) .fail (T.ite none (decide (0 + E.j ≤ E.l.length)) (T.ite none (okL3 ((E.l.drop 0).take E.j) && decide (p.r ≤ 9223372036854775807))
    (T.ret (.s (.bool (bif bif bif meV (heardL 0 ((E.l.drop 0).take E.j)) == p.x then (heardL 0 ((E.l.drop 0).take E.j)).n == p.k else false then spE (heardL (IntKind.wrap .i64 (Int.tdiv p.k 2)) ((E.l.drop 0).take E.j)) p.r == 0 else false then
      spV (heardL (IntKind.wrap .i64 (Int.tdiv p.k 2)) ((E.l.drop 0).take E.j)) p.r == IntKind.wrap .i64 (p.x * p.r) else false)))) .fail) .fail)) .fail) .fail
def pB (v n r : Int) : PB1 := ⟨IntKind.wrap .i64 (Int.tmod (IntKind.wrap .u64 v) 1000000000), IntKind.wrap .i64 (1 + IntKind.wrap .i64 (Int.tmod (IntKind.wrap .u64 n) 30)), IntKind.wrap .i64 (Int.tmod (IntKind.wrap .u64 r) 101)⟩
theorem alike_run (v n r : Int) : T.anon (execS Q3 (byReg blist) 5 [iv v, iv n, iv r]) = T.ite none ((1000000000 : Int) == 0) .fail (T.ite none ((30 : Int) == 0) .fail (T.ite none ((101 : Int) == 0) .fail
    (T.ite none (invB (pB v n r) ⟨[], 0, 0⟩) (lawB (pB v n r) (endW (nxtB (pB v n r)) ⟨[], 0, 0⟩)) .fail))) := by kernel_rfl
theorem heardL_mkB {x : Int} (h1 : 0 ≤ x) (h2 : x ≤ 1000000000) {y : Int} (hy : 0 ≤ y) {m : Nat} (hm : m ≤ 1000) (hlt : y < m) : heardL y (mkB x m) = ⟨x * (((m : Int) - y).toNat : Nat), (((m : Int) - y).toNat : Nat), false⟩ := by
  unfold heardL
  rw [totL_mkB x h1 h2 y hy m hm, if_neg (by dsimp only; omega)]
theorem tdiv_mul {x n : Int} (h1 : 0 ≤ x) (hn : 0 < n) : Int.tdiv (x * n) n = x := by
  rw [Int.tdiv_eq_ediv_of_nonneg (Int.mul_nonneg h1 (by omega)), Int.mul_ediv_cancel _ (by omega)]
theorem statAlike_walk (v : Int) (_ : (Lit.int .i64 v).wf = true) (n : Int) (_ : (Lit.int .i64 n).wf = true) (r : Int) (_ : (Lit.int .i64 r).wf = true) (w : World) :
    Calls Try.prog 5 #[.int .i64 v, .int .i64 n, .int .i64 r] w fun e w' => e = .returned (.bool true) ∧ Below w.heap.size w w' := by
  refine law_yes (args := [iv v, iv n, iv r]) (execS_loops (Λ := byReg blist) Q3_ok mixed Try.func5 (by kernel_rfl) (by kernel_rfl) blps_ok) rfl (yes_anon ?_) w
  rw [alike_run]
  refine yes_else rfl (yes_else rfl (yes_else rfl ?_))
  have hx := modU_range v (m := 1000000000) (by decide)
  have hk := modU_range n (m := 30) (by decide)
  have hr := modU_range r (m := 101) (by decide)
  have hp : pB v n r = ⟨(v % 18446744073709551616) % 1000000000, 1 + (n % 18446744073709551616) % 30, (r % 18446744073709551616) % 101⟩ := by
    unfold pB
    rw [modU (n := v) (by decide) (by decide), modU (n := n) (by decide) (by decide), modU (n := r) (by decide) (by decide), wrap64_in (by omega) (by omega)]
  rw [hp]
  clear hp
  generalize (v % 18446744073709551616) % 1000000000 = x at *
  generalize (r % 18446744073709551616) % 101 = z at *
  generalize (n % 18446744073709551616) % 30 = k0 at *
  obtain ⟨m, hm⟩ : ∃ m : Nat, 1 + k0 = (m : Int) := ⟨(1 + k0).toNat, by omega⟩
  rw [hm]
  have hm1 : 1 ≤ m ∧ m ≤ 30 := by omega
  have hi : invB ⟨x, m, z⟩ ⟨[], 0, 0⟩ = true := by
    simp only [invB, Bool.and_eq_true, decide_eq_true_eq]
    exact ⟨⟨⟨rfl, rfl⟩, by omega⟩, by omega⟩
  refine yes_then hi ?_
  rw [endB hi]
  unfold lawB
  dsimp only
  have el : ((mkB x (m : Int).toNat).drop 0).take (m : Int).toNat = mkB x m := by
    rw [List.drop_zero, Int.toNat_natCast, List.take_of_length_le (by rw [mkB_length]; omega)]
  have ek : IntKind.wrap .i64 (Int.tdiv (m : Int) 2) = (m : Int) / 2 := by
    rw [Int.tdiv_eq_ediv_of_nonneg (by omega)]; exact wrap64_in (by omega) (by omega)
  have ho := okL3_mkB x hx.1 (by omega) m (by omega)
  rw [el, ek, ho, heardL_mkB hx.1 (by omega) (by decide) (by omega) (by omega), heardL_mkB hx.1 (by omega) (y := (m : Int) / 2) (by omega) (by omega) (by omega)]
  refine yes_then (by simp [mkB_length]) (yes_then rfl (yes_else rfl (yes_then (by simp [mkB_length]) (yes_then (by simp; omega) (yes_ret ?_)))))
  have e1 : ((m : Int) - 0).toNat = m := by omega
  rw [e1]
  generalize hq : ((m : Int) - (m : Int) / 2).toNat = q
  have hq1 : 1 ≤ q ∧ q ≤ 30 := by omega
  have hxz : 0 ≤ x * z := Int.mul_nonneg hx.1 hr.1
  have hxz2 : x * z ≤ 1000000000 * 100 := Int.mul_le_mul (by omega) (by omega) hr.1 (by omega)
  have hxq : x * q * z = x * z * q := by rw [Int.mul_assoc, Int.mul_comm (q : Int) z, ← Int.mul_assoc]
  have hbig : x * z * q ≤ 100000000000 * 30 := Int.mul_le_mul (by omega) (by omega) (by omega) (by omega)
  have hm3 : meV ⟨x * (m : Nat), (m : Nat), false⟩ = x := by
    unfold meV; dsimp only; rw [if_neg (by omega)]; exact tdiv_mul hx.1 (by omega)
  have hs1 : spE ⟨x * (q : Nat), (q : Nat), false⟩ z = 0 := by
    unfold spE; dsimp only; rw [if_neg (by omega), if_neg (by omega), hxq, if_neg (by simp; omega)]
  have hs2 : spV ⟨x * (q : Nat), (q : Nat), false⟩ z = x * z := by
    unfold spV; dsimp only; rw [if_neg (by omega), if_neg (by omega), hxq, if_neg (by omega)]; exact tdiv_mul hxz (by omega)
  rw [hm3, hs1, hs2, wrap64_in (n := x * z) (by omega) (by omega)]
  simp
end Go.Proofs.Ytmijloophkkanaa.Sta
