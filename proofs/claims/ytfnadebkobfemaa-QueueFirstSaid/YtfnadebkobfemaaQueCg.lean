/- Layer 20: QueueFirst. -/
import Derived.Test.YtfnadebkobfemaaQueCf
import Derived.Test.YtfnadebkobfemaaLaw3
namespace Go.Proofs.Ytfnadebkobfemaa.Que
open Go.Eng Go.RowKit
set_option linter.unusedVariables false
set_option linter.unusedSimpArgs false
def a0F : AFb := ⟨0, 0, 0, List.replicate 130 0, .nilIface, 0, []⟩
noncomputable def eFb (g : List Int) (age : Int) : AFb := endW (nxtC okFb goFb rdFb FFb muFb ⟨g, g.length, age, 50⟩) a0F
def oE (t : Int) : Bool → Option Int
  | true => some t
  | false => none
def mkB (n : Nat) : Bool := decide (0 ≤ (n : Int)) && (decide ((n : Int) ≤ (n : Int)) && decide ((n : Int) ≤ 1000000))
theorem wayR (g : List Int) (age : Int) (e : Bool) : T.path [false, true, e, true, true] (runF g age) = some ([(!(bif decide ((0 : Int) ≤ 50) then decide ((50 : Int) ≤ 200) else false), false), (invC okFb ⟨g, g.length, age, 50⟩ a0F, true), ((uO (eFb g age).u).isSome, e), (mkB (eFb g age).n, true), (invC okA (pA 50 (oE ((uO (eFb g age).u).getD 0) e) (eFb g age).n (eFb g age).l) ⟨List.replicate ((eFb g age).n : Int).toNat 0, ((eFb g age).n : Int).toNat, 0⟩, true)],
    .s (.bool (((eA (pA 50 (oE ((uO (eFb g age).u).getD 0) e) (eFb g age).n (eFb g age).l)).j : Int) == IntKind.wrap .i64 ((eFb g age).x - (eFb g age).y)))) := by cases e <;> kernel_rfl
theorem queueFirst_run (g : List Int) (age : Int) : (runF g age).eval = some (.s (.bool true)) := by
  have h0 : okFb ⟨g, g.length, age, 50⟩ a0F := ⟨rfl, rfl, Int.le_refl _, Int.le_refl _, Int.le_refl _, by show (0 : Int) ≤ 120; omega, rfl, rfl, rfl, (fun j hj => absurd hj (Nat.not_lt_zero _)), (fun z z1 z2 => by have : z < 0 := z2; omega), none, rfl, (fun t ht => by cases ht)⟩
  obtain ⟨k1, _⟩ := endC stepFb h0
  obtain ⟨_, _, h3, h4, h5, h6, _, h8, h9, _⟩ := k1
  have h3 : 0 ≤ (eFb g age).y := h3
  have h4 : (eFb g age).y ≤ (eFb g age).x := h4
  have h5 : (eFb g age).x ≤ (eFb g age).i := h5
  have h6 : (eFb g age).i ≤ 120 := h6
  have h8 : (eFb g age).n = (eFb g age).l.length := h8
  have h9 : ((eFb g age).l.length : Int) = (eFb g age).x - (eFb g age).y := h9
  obtain ⟨b1, b2, b3⟩ := all_ok (d := 50) (u := oE ((uO (eFb g age).u).getD 0) (uO (eFb g age).u).isSome) h8 (by omega)
  refine (T.path_eval (wayR g age (uO (eFb g age).u).isSome) ⟨rfl, invC_is h0, rfl, by unfold mkB; simp; omega, b1, trivial⟩).trans ?_
  rw [b3, wrap64_in (by omega) (by omega), h9]
  simp
theorem queueFirst_walk (g : List Int) (_ : g.length ≤ maxLen) (_ : ∀ x ∈ g, (Lit.int .i64 x).wf = true) (x : Value) (age : Int) (_ : (Lit.int .i64 age).wf = true) (w : World) (hx : holdsP 0 w (.orow 3 [.int .i64] g) x) :
    Calls Try.prog 3 #[x, .int .i64 age] w fun e w' => e = .returned (.bool true) ∧ Below w.heap.size w w' :=
  Law.law_rows (args := [.orow 3 [.int .i64] g, iv age]) (xs := [x, .int .i64 age]) (execS_loops (Λ := byReg [(rgFb, famFb)]) J7_ok mixed Try.func3 (by kernel_rfl) (by kernel_rfl) (one_lp (c := lpFb) (by kernel_rfl) rgFb_is lpFb_ok)) rfl (.inr (queueFirst_run g age)) w ⟨hx, rfl, trivial⟩
end Go.Proofs.Ytfnadebkobfemaa.Que
