/- Layer 9: StatAsks. -/
import Derived.Test.YtmijloophkkanaaStaXn
namespace Go.Proofs.Ytmijloophkkanaa.Sta
open Go.Eng Go.RowKit Mil
set_option linter.unusedVariables false
set_option linter.unusedSimpArgs false
def lawK (l : List St3) (y r : Int) : T V :=
  let L := (l.drop 0).take l.length
  let h := heardL y L
  T.ite none (decide (0 + l.length ≤ l.length)) (T.ite none (okL3 L) (T.ite none (decide (0 + l.length ≤ l.length)) (T.ite none (okL3 L) (T.ite none (decide (0 + l.length ≤ l.length)) (T.ite none (okL3 L && decide (r ≤ 9223372036854775807)) (T.ite none (decide (0 + l.length ≤ l.length)) (T.ite none (okL3 L && decide (r ≤ 9223372036854775807))
    (T.ret (.s (.bool (bif bif bif meV h == meV h then h.n == h.n else false then spV h r == spV h r else false then spE h r == spE h r else false)))) .fail) .fail) .fail) .fail) .fail) .fail) .fail) .fail
theorem asks_run (l : List St3) (y r : Int) : T.anon (execS Q5 (byReg klist) 4 [ors l, iv y, iv r]) = T.ite none (decide (40 < (l.length : Int))) (.ret .tt) (.ite none (invK ⟨l, l.length, y, r⟩ 0) (lawK l y r) .fail) := by kernel_rfl
theorem statAsks_walk (l : List St3) (_ : l.length ≤ maxLen) (hw : ∀ x ∈ l, (Lit.int .i64 x.1).wf = true ∧ (Lit.int .i64 x.2.1).wf = true ∧ (Lit.int .i64 x.2.2).wf = true) (x : Value) (y : Int) (_ : (Lit.int .i64 y).wf = true) (r : Int) (hr : (Lit.int .i64 r).wf = true) (w : World)
    (hx : holdsP 0 w (.orow 23 [.int .i64, .int .i64, .int .i64] l) x) :
    Calls Try.prog 4 #[x, .int .i64 y, .int .i64 r] w fun e w' => e = .returned (.bool true) ∧ Below w.heap.size w w' := by
  refine Law.law_rows (args := [ors l, iv y, iv r]) (xs := [x, .int .i64 y, .int .i64 r]) (execS_loops (Λ := byReg klist) Q5_ok mixed Try.func4 (by kernel_rfl) (by kernel_rfl) klps_ok) rfl (yes_anon ?_) w ⟨hx, rfl, rfl, trivial⟩
  rw [asks_run]
  refine yes_ite (fun _ => yes_tt) fun h0 => ?_
  simp only [decide_eq_false_iff_not] at h0
  have hi : invK ⟨l, l.length, y, r⟩ 0 = true := by
    simp only [invK, Bool.and_eq_true, decide_eq_true_eq]
    exact ⟨⟨⟨trivial, by omega⟩, by omega⟩, by omega⟩
  refine yes_then hi ?_
  have ho : okL3 l = true := by
    unfold okL3
    simp only [Bool.and_eq_true, decide_eq_true_eq, List.all_eq_true]
    refine ⟨by omega, fun x hx => inR_iff.2 (wf64 (hw x hx).2.2)⟩
  have hr2 := wf64 hr
  unfold lawK
  rw [whole3]
  dsimp only
  rw [ho]
  have hd : (true && decide (r ≤ 9223372036854775807)) = true := by simp; omega
  rw [hd]
  have hz : decide (0 + l.length ≤ l.length) = true := by simp
  rw [hz]
  refine yes_then rfl (yes_then rfl (yes_then rfl (yes_then rfl (yes_then rfl (yes_then rfl (yes_then rfl (yes_then rfl (yes_ret ?_))))))))
  simp
end Go.Proofs.Ytmijloophkkanaa.Sta
