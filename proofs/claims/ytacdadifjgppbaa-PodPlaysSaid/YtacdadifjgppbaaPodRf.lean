/- Layer 8: PodPlays. -/
import Derived.Test.YtacdadifjgppbaaPodRe
import Derived.Test.YtacdadifjgppbaaBrkAe
import Derived.Test.YtacdadifjgppbaaLaw4
namespace Go.Proofs.Ytacdadifjgppbaa.Pod
open Go.Eng Go.RowKit Go.Flt Lod Brk
set_option linter.unusedVariables false
set_option linter.unusedSimpArgs false
def decW : List V → List Blk → Option (PW × AW)
  | [.sub 0 3 0 k, .ptr 1 0, .ptr 9 0, .s (.int .i64 i)], [.lst false t0 [.int .i64, .int .i64, .int .i64] g, .cells t1 [.s (.int .i64 id), .ptr 2 0, .s (.int .i64 m), .s (.int .i64 t), .s (.int .i64 u), .s (.int .i64 s)], .cells t2 [.s (.int .i64 L), .s (.int .i64 D), .s (.cx .f64 x y)],
      .cells t3 [.s (.int .i64 id'), .ptr 10 0, .s (.int .i64 m'), .s (.int .i64 u'), .s (.int .i64 t'), .s (.int .i64 s')], .cells t4 [.s (.int .i64 L'), .s (.int .i64 D'), .s (.int .i64 b), .s (.int .i64 w)]] =>
    if t0 = 67 then if t1 = 78 then if t2 = 76 then if t3 = 65 then if t4 = 50 then some (⟨g, k, id, m, L, D, id', m', L', D'⟩, ⟨t, u, s, x, y, u', t', s', b, w, i⟩) else none else none else none else none else none
  | _, _ => none
theorem decW_ok (l : List V) (b : List Blk) (d : PW × AW) (h : decW l b = some d) : l = vsW d.1 d.2 ∧ b = bsW d.1 d.2 := by
  unfold decW at h
  split at h
  · split at h
    · rename_i ht0
      split at h
      · rename_i ht1
        split at h
        · rename_i ht2
          split at h
          · rename_i ht3
            split at h
            · rename_i ht4
              subst ht0 ht1 ht2 ht3 ht4
              cases h
              exact ⟨rfl, rfl⟩
            · cases h
          · cases h
        · cases h
      · cases h
    · cases h
  · cases h
noncomputable def famW8 : LSpec := famC [4,11,12,13] SW 1000 1000 156 decW okW goW rdW FW muW (.exit 0)
theorem lpW_ok : LoopOk D6 pl1 famW8 := famC_ok (vs := vsW) (bs := bsW) D6_ok mixed (noLoops_ok _) decW_ok (by simp) (fun _ _ => rfl) (fun _ _ => rfl) stepW_ok exW
noncomputable def wlist : List (Nat × LSpec) := [(9, famW8)]
theorem wfind : findL wlist 9 = some famW8 := rfl
theorem wreg : firstReg pl1 = some 9 := by kernel_rfl
theorem wlps_ok : ∀ a ∈ loopsIn (codeOf Try.prog 12), ∀ sp, byReg wlist a = some sp → LoopOk D6 a sp := by
  have e : loopsIn (codeOf Try.prog 12) = [pl1] := by kernel_rfl
  rw [e]
  intro a ha
  rcases List.mem_cons.1 ha with h | ha
  · rw [h]; exact byReg_mem wreg wfind lpW_ok
  · cases ha
def outN (a d : Int) : Bool := bif bif decide (a < 0) then true else decide (d < 0) then true else decide (1099511627776 < d)
theorem pplays1 (a b c d : Int) (l : List (Int × Int × Int)) : T.path [true, true] (execS D6 (byReg wlist) 12 [iv a, iv b, iv c, iv d, .orow 67 [.int .i64, .int .i64, .int .i64] l]) = some ([(outA b c, true), (outR2 b c, true)], .tt) := by kernel_rfl
theorem pplays2 (a b c d : Int) (l : List (Int × Int × Int)) : T.path [false, true, false, true] (execS D6 (byReg wlist) 12 [iv a, iv b, iv c, iv d, .orow 67 [.int .i64, .int .i64, .int .i64] l]) = some ([(outA b c, false), (outN a d, true), (outR2 b c, false), (outN a d, true)], .tt) := by kernel_rfl
theorem pplays3 (a b c d : Int) (l : List (Int × Int × Int)) : T.path [false, false, false, false, true] (execS D6 (byReg wlist) 12 [iv a, iv b, iv c, iv d, .orow 67 [.int .i64, .int .i64, .int .i64] l]) = some ([(outA b c, false), (outN a d, false), (outR2 b c, false), (outN a d, false), (decide (100 < (l.length : Int)), true)], .tt) := by kernel_rfl
theorem pplays4 (a b c d : Int) (l : List (Int × Int × Int)) : T.path [false, false, false, false, false, true] (execS D6 (byReg wlist) 12 [iv a, iv b, iv c, iv d, .orow 67 [.int .i64, .int .i64, .int .i64] l]) = some ([(outA b c, false), (outN a d, false), (outR2 b c, false), (outN a d, false), (decide (100 < (l.length : Int)), false), (invC okW ⟨l, l.length, a, d, b, c, a, d, b, c⟩ ⟨d, d, 0, 0, 0, d, d, 0, 0, 0, 0⟩, true)], .tt) := by kernel_rfl
theorem podPlays_walk (a : Int) (_ : (Lit.int .i64 a).wf = true) (b : Int) (_ : (Lit.int .i64 b).wf = true) (c : Int) (_ : (Lit.int .i64 c).wf = true) (d : Int) (_ : (Lit.int .i64 d).wf = true) (l : List (Int × Int × Int)) (_ : l.length ≤ maxLen) (_ : ∀ x ∈ l, (Lit.int .i64 x.1).wf = true ∧ (Lit.int .i64 x.2.1).wf = true ∧ (Lit.int .i64 x.2.2).wf = true) (x : Value) (w : World) (hx : holdsP 0 w (.orow 67 [.int .i64, .int .i64, .int .i64] l) x) :
    Calls Try.prog 12 #[.int .i64 a, .int .i64 b, .int .i64 c, .int .i64 d, x] w fun e w' => e = .returned (.bool true) ∧ Below w.heap.size w w' := by
  refine Law.law_rows (args := [iv a, iv b, iv c, iv d, .orow 67 [.int .i64, .int .i64, .int .i64] l]) (xs := [.int .i64 a, .int .i64 b, .int .i64 c, .int .i64 d, x]) (execS_loops (Λ := byReg wlist) D6_ok mixed Try.func12 (by kernel_rfl) (by kernel_rfl) wlps_ok) rfl (.inl ?_) w ⟨rfl, rfl, rfl, rfl, hx, trivial⟩
  by_cases q : (0 ≤ b ∧ b ≤ 1000) ∧ (0 ≤ c ∧ c ≤ 1000)
  · obtain ⟨o1, o2⟩ := outA_in q.1 q.2
    cases hN : outN a d
    · by_cases r : 100 < (l.length : Int)
      · exact T.path_eval (pplays3 a b c d l) ⟨o1, hN, o2, hN, decide_eq_true r, trivial⟩
      · have hd : 0 ≤ d ∧ d ≤ 1099511627776 := by
          unfold outN at hN
          by_cases h1 : a < 0
          · rw [decide_eq_true h1] at hN; cases hN
          rw [decide_eq_false h1] at hN
          by_cases h2 : d < 0
          · rw [decide_eq_true h2] at hN; cases hN
          rw [decide_eq_false h2] at hN
          have : ¬ (1099511627776 < d) := of_decide_eq_false hN
          omega
        have hi : okW ⟨l, l.length, a, d, b, c, a, d, b, c⟩ ⟨d, d, 0, 0, 0, d, d, 0, 0, 0, 0⟩ := by
          refine ⟨⟨rfl, rfl, rfl, rfl, hd.1, rfl, by show l.length ≤ 100; omega⟩, ⟨rfl, rfl, rfl⟩, ⟨Int.le_refl d, Int.le_refl d, hd.2, Int.le_refl 0, by show (0 : Int) ≤ 2000 * (d - d); omega⟩, ⟨isz, isz, z0.symm, z0.symm, q.1.1, q.1.2, q.2.1, q.2.2, Int.le_refl 0, (by decide : (0 : Int) ≤ 1000), Int.le_refl 0, (by decide : (0 : Int) ≤ 1000), fun h => absurd h (Int.lt_irrefl 0)⟩, Int.le_refl 0⟩
        exact T.path_eval (pplays4 a b c d l) ⟨o1, hN, o2, hN, decide_eq_false r, invC_is hi, trivial⟩
    · exact T.path_eval (pplays2 a b c d l) ⟨o1, hN, o2, hN, trivial⟩
  · obtain ⟨o1, o2⟩ := outA_out q
    exact T.path_eval (pplays1 a b c d l) ⟨o1, o2, trivial⟩
end Go.Proofs.Ytacdadifjgppbaa.Pod
