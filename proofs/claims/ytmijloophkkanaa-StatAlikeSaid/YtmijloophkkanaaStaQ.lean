/- Layer 9: lists of pods with one load. -/
import Derived.Test.YtmijloophkkanaaStaP
namespace Go.Proofs.Ytmijloophkkanaa.Sta
open Go.Eng Go.RowKit Mil
set_option linter.unusedVariables false
set_option linter.unusedSimpArgs false
noncomputable def FB (p : PB1) (a : AB1) : St := mkSt [7,8,9,10,11] [1000] 1001 76 (vsB p a) (bsB p a)
noncomputable def rtB (x k r : Int) (l : List St3) (j : Nat) (i : Int) : T (Ex × St) :=
  T.ite none (decide (i < k)) (T.ite none (true && (decide (j ≤ List.length l) && decide (j + List.length [(i, i, x)] ≤ 1000000))) (T.ret (.normal, FB ⟨x, k, r⟩ ⟨l.take j ++ [(i, i, x)], j + 1, IntKind.wrap .i64 (i + 1)⟩)) .fail) (T.ret (.exit 0, FB ⟨x, k, r⟩ ⟨l, j, i⟩))
def decB : List V → List Blk → Option (PB1 × AB1)
  | [.s (.int .i64 x), .s (.int .i64 k), .s (.int .i64 r), .sub 1000 3 0 j, .s (.int .i64 i)], [.lst true t [.int .i64, .int .i64, .int .i64] l] =>
    if t = 23 then some (⟨x, k, r⟩, ⟨l, j, i⟩) else none
  | _, _ => none
theorem decB_ok (l : List V) (b : List Blk) (d : PB1 × AB1) (h : decB l b = some d) : l = vsB d.1 d.2 ∧ b = bsB d.1 d.2 := by
  unfold decB at h
  split at h
  · split at h
    · rename_i ht
      subst ht
      cases h
      exact ⟨rfl, rfl⟩
    · cases h
  · cases h
def invB (p : PB1) (a : AB1) : Bool := decide (a.j = a.l.length) && decide ((a.j : Int) = a.i) && decide (a.i ≤ p.k) && decide (p.k ≤ 1000)
def nxtB (p : PB1) (a : AB1) : Option AB1 := if a.i < p.k then some ⟨a.l.take a.j ++ [(a.i, a.i, p.x)], a.j + 1, a.i + 1⟩ else none
noncomputable def outB (p : PB1) (a : AB1) : T (Ex × St) := .ret (.exit 0, FB p a)
theorem stB (p : PB1) (a b : AB1) (h : invB p a = true) (e : nxtB p a = some b) : invB p b = true ∧ (p.k - b.i).toNat < (p.k - a.i).toNat := by
  obtain ⟨l, j, i⟩ := a
  unfold nxtB at e
  split at e
  · rename_i hc
    obtain rfl := Option.some.inj e
    simp only [invB, Bool.and_eq_true, decide_eq_true_eq] at h hc ⊢
    obtain ⟨⟨⟨rfl, rfl⟩, h3⟩, h4⟩ := h
    exact ⟨⟨⟨⟨by simp, by omega⟩, by omega⟩, h4⟩, by omega⟩
  · cases e
theorem lpB_ok : LoopOk Q3 lk1 (famWN [7,8,9,10,11] SB 1000 1001 76 decB invB nxtB outB) := by
  refine famWN_ok (vs := vsB) (bs := bsB) Q3_ok mixed (noLoops_ok _) decB_ok (fun p a => (p.k - a.i).toNat) stB fun ⟨x, k, r⟩ ⟨l, j, i⟩ h => ?_
  have e : T.anon (roundN Q3 noLoops lk1 [7,8,9,10,11] SB 1000 1001 (mkSt [7,8,9,10,11] (keysR SB) 1001 76 (vsB ⟨x, k, r⟩ ⟨l, j, i⟩) (bsB ⟨x, k, r⟩ ⟨l, j, i⟩))) = rtB x k r l j i := by kernel_rfl
  rw [← T.eval_anon (t := roundN _ _ _ _ _ _ _ _), e]
  clear e
  simp only [invB, Bool.and_eq_true, decide_eq_true_eq] at h
  obtain ⟨⟨⟨rfl, rfl⟩, h3⟩, h4⟩ := h
  simp only [nxtB, outB]
  unfold rtB
  by_cases hc : (l.length : Int) < k
  · rw [if_pos hc]
    refine ⟨fun b hb => ?_, fun h => by cases h⟩
    obtain rfl := Option.some.inj hb
    rw [wrap64_in (n := (l.length : Int) + 1) (by omega) (by omega)]
    exact tev_then (decide_eq_true hc) (tev_then (by simp; omega) rfl)
  · rw [if_neg hc]
    refine ⟨fun b hb => (by cases hb), fun _ r hr => ?_⟩
    obtain rfl := Option.some.inj hr
    exact ⟨by simp, tev_else (decide_eq_false hc) rfl⟩
noncomputable def blist : List (Nat × LSpec) := [(4, famWN [7,8,9,10,11] SB 1000 1001 76 decB invB nxtB outB)]
theorem bfind : findL blist 4 = some (famWN [7,8,9,10,11] SB 1000 1001 76 decB invB nxtB outB) := rfl
theorem breg : firstReg lk1 = some 4 := by kernel_rfl
theorem blps_ok : ∀ a ∈ loopsIn (codeOf Try.prog 5), ∀ sp, byReg blist a = some sp → LoopOk Q3 a sp := by
  have e : loopsIn (codeOf Try.prog 5) = [lk1] := by kernel_rfl
  rw [e]
  intro a ha
  rcases List.mem_cons.1 ha with h | ha
  · rw [h]; exact byReg_mem breg bfind lpB_ok
  · cases ha
/-- m pods with load x -/
def mkB (x : Int) (m : Nat) : List St3 := (List.range m).map fun (j : Nat) => ((j : Int), (j : Int), x)
theorem mkB_succ (x : Int) (m : Nat) : mkB x (m + 1) = mkB x m ++ [((m : Int), (m : Int), x)] := by unfold mkB; rw [List.range_succ, List.map_append]; rfl
theorem mkB_length (x : Int) (m : Nat) : (mkB x m).length = m := by simp [mkB]
theorem endB {p : PB1} (h : invB p ⟨[], 0, 0⟩ = true) : endW (nxtB p) ⟨[], 0, 0⟩ = ⟨mkB p.x p.k.toNat, p.k.toNat, p.k⟩ := by
  obtain ⟨h1, h2, h3⟩ := endW_says (stB p) h
  have h4 := h3 (fun a => a.l = mkB p.x a.j) rfl fun a b hi hq e => by
    obtain ⟨l, j, i⟩ := a
    simp only [invB, Bool.and_eq_true, decide_eq_true_eq] at hi
    obtain ⟨⟨⟨h5, rfl⟩, -⟩, -⟩ := hi
    unfold nxtB at e
    split at e
    · obtain rfl := Option.some.inj e
      dsimp only at hq ⊢
      rw [mkB_succ, ← hq, List.take_of_length_le (by omega)]
    · cases e
  generalize endW (nxtB p) ⟨[], 0, 0⟩ = E at *
  obtain ⟨l, j, i⟩ := E
  simp only [invB, Bool.and_eq_true, decide_eq_true_eq] at h1
  obtain ⟨⟨⟨h5, h6⟩, h7⟩, h8⟩ := h1
  unfold nxtB at h2
  split at h2
  · cases h2
  · rename_i hc
    dsimp only at hc h4
    have : i = p.k := by omega
    subst this
    have : p.k.toNat = j := by omega
    rw [this, h4]
theorem totL_mkB (x : Int) (h1 : 0 ≤ x) (h2 : x ≤ 1000000000) (y : Int) (hy : 0 ≤ y) : ∀ m : Nat, m ≤ 1000 → totL y (mkB x m) = ⟨x * (((m : Int) - y).toNat : Nat), (((m : Int) - y).toNat : Nat), false⟩
  | 0, _ => by
    have : (((0 : Nat) : Int) - y).toNat = 0 := by omega
    rw [this]
    show (⟨0, 0, false⟩ : Tot) = _
    simp
  | m + 1, hm => by
    rw [mkB_succ, totL_snoc, totL_mkB x h1 h2 y hy m (by omega)]
    unfold stepT mayC mayR
    by_cases q : y ≤ (m : Int)
    · rw [if_pos (by simp; omega)]
      have e : (((m + 1 : Nat) : Int) - y).toNat = ((m : Int) - y).toNat + 1 := by omega
      rw [e]
      have hb : ((m : Int) - y).toNat ≤ 1000 := by omega
      generalize ((m : Int) - y).toNat = z at *
      have h5 : 0 ≤ x * (z : Int) := Int.mul_nonneg h1 (by omega)
      have h6 : x * (z : Int) ≤ 1000000000 * 1000 := Int.mul_le_mul h2 (by omega) (by omega) (by omega)
      have e2 : x * ((z + 1 : Nat) : Int) = x * (z : Int) + x := by push_cast; rw [Int.mul_add, Int.mul_one]
      rw [e2]
      obtain ⟨c1, c2⟩ := cut_in (x * (z : Int) + x) (by omega) (by omega)
      simp only [c1, c2]
      simp
    · rw [if_neg (by simp; omega)]
      have e : (((m + 1 : Nat) : Int) - y).toNat = 0 := by omega
      have e' : ((m : Int) - y).toNat = 0 := by omega
      rw [e, e']
theorem okL3_mkB (x : Int) (h1 : 0 ≤ x) (h2 : x ≤ 1000000000) (m : Nat) (hm : m ≤ 1000) : okL3 (mkB x m) = true := by
  unfold okL3
  simp only [Bool.and_eq_true, decide_eq_true_eq, List.all_eq_true, mkB_length]
  refine ⟨by omega, fun y hy => ?_⟩
  obtain ⟨j, _, rfl⟩ := List.mem_map.1 hy
  exact inR_iff.2 (by dsimp only; omega)
end Go.Proofs.Ytmijloophkkanaa.Sta
