/- Layer 15: DelaySpans. -/
import Derived.Test.Ytmijloophkkanaa15M
import Derived.Test.YtmijloophkkanaaLaw3
namespace Go.Proofs.Ytmijloophkkanaa.Del
open Go.Eng Go.RowKit
set_option linter.unusedVariables false
set_option linter.unusedSimpArgs false
noncomputable def pathS (c0 c : Bool) (P : PS) (E : AS) : Option (List (Bool × Bool) × V) :=
  let m1 := mostN P.s E.a (mx0 E.n) E.j E.l
  let m2 := mostN P.y E.a (mx0 E.n) E.j E.l
  let m3 := mostN P.y E.a (mx0 (IntKind.wrap .i64 (E.n + P.y))) E.j E.l
  some ([((61 : Int) == 0, false), ((61 : Int) == 0, false), (c0, c), (!bif decide (0 ≤ P.x) then decide (P.x ≤ 600) else false, false), (invS P ⟨0, [], 0, 0, 0⟩, true), (invW (pW P.s E.a (mx0 E.n) E.j E.l) 0, true), (!bif decide (0 ≤ P.y) then decide (P.y ≤ 600) else false, false), ((0 : Int) != 0, false),
    (invW (pW P.y E.a (mx0 E.n) E.j E.l) 0, true), (decide (m1 ≤ m2), true), (!bif decide ((0 : Int) ≤ 601) then decide ((601 : Int) ≤ 600) else false, true), (bif decide (m1 ≤ m2) then (1 : Int) == 1 else false, true), (invW (pW P.y E.a (mx0 E.n) E.j E.l) 0, true),
    (bif bif decide (m1 ≤ m2) then (1 : Int) == 1 else false then m2 == m2 else false, true), (invW (pW P.y E.a (mx0 (IntKind.wrap .i64 (E.n + P.y))) E.j E.l) 0, true)],
    .s (.bool (bif bif bif decide (m1 ≤ m2) then (1 : Int) == 1 else false then m2 == m2 else false then m3 == 0 else false)))
def rS (a : Int) : Int := IntKind.wrap .i64 (Int.tmod (IntKind.wrap .u64 a) 61)
theorem path1 (g : List Int) (a b : Int) : T.path [false, false, true, false, true, true, false, false, true, true, true, true, true, true, true] (execS D8 (byReg slist) 18 [.orow 3 [.int .i64] g, iv a, iv b]) =
    pathS (decide (rS b < rS a)) true ⟨g, g.length, rS b, rS a, rS b⟩ (endW (nxtS ⟨g, g.length, rS b, rS a, rS b⟩) ⟨0, [], 0, 0, 0⟩) := by kernel_rfl
theorem path2 (g : List Int) (a b : Int) : T.path [false, false, false, false, true, true, false, false, true, true, true, true, true, true, true] (execS D8 (byReg slist) 18 [.orow 3 [.int .i64] g, iv a, iv b]) =
    pathS (decide (rS b < rS a)) false ⟨g, g.length, rS a, rS b, rS a⟩ (endW (nxtS ⟨g, g.length, rS a, rS b, rS a⟩) ⟨0, [], 0, 0, 0⟩) := by kernel_rfl
theorem invW_of {s a t : Int} {k : Nat} {l : List Stp} (hk : k ≤ l.length) (h2 : k ≤ 1000000) : invW (pW s a t k l) 0 = true := by
  show (decide ((0 : Int) ≤ 0) && decide ((k : Int) = (k : Int)) && decide (k ≤ l.length) && decide (k ≤ 1000000)) = true
  rw [decide_eq_true hk, decide_eq_true h2, decide_eq_true (show (k : Int) = k from rfl)]; rfl
theorem spans_end {g : List Int} {x y : Int} {choices : List Bool} {tr : T V} {c0 c : Bool} (hx : 0 ≤ x) (hxy : x ≤ y) (hy : y ≤ 60) (hc : c0 = c) (e : T.path choices tr = pathS c0 c ⟨g, g.length, x, y, x⟩ (endW (nxtS ⟨g, g.length, x, y, x⟩) ⟨0, [], 0, 0, 0⟩)) : tr.eval = some (.s (.bool true)) := by
  have hi : invS ⟨g, g.length, x, y, x⟩ ⟨0, [], 0, 0, 0⟩ = true := by
    simp only [invS, Bool.and_eq_true, decide_eq_true_eq]
    exact ⟨⟨⟨⟨⟨⟨trivial, trivial⟩, trivial⟩, by decide⟩, by decide⟩, by decide⟩, by decide⟩
  obtain ⟨h1, h2, -⟩ := endW_says (stS ⟨g, g.length, x, y, x⟩) hi
  generalize endW (nxtS ⟨g, g.length, x, y, x⟩) ⟨0, [], 0, 0, 0⟩ = E at *
  obtain ⟨z, l, j, n, i⟩ := E
  simp only [invS, dlyOk, Bool.and_eq_true, decide_eq_true_eq, List.all_eq_true, stepOk] at h1
  obtain ⟨⟨⟨⟨⟨⟨-, -⟩, rfl⟩, h3⟩, h4⟩, h5⟩, ⟨⟨⟨rfl, h6⟩, h7⟩, h8⟩⟩ := h1
  unfold pathS at e
  dsimp only at e
  have hl : l.length ≤ 1000000 := by omega
  have hn : mx0 n = n := by unfold mx0; rw [if_neg (by omega)]
  have hny : mx0 (IntKind.wrap .i64 (n + y)) = n + y := by
    rw [wrap64_in (n := n + y) (by omega) (by omega)]; unfold mx0; rw [if_neg (by omega)]
  rw [hn, hny] at e
  have hp : ∀ q ∈ l, 0 ≤ q.2 := fun q hq => (h8 q hq).1.2
  have m1 : mostN x z n l.length l ≤ mostN y z n l.length l := most_mono hl h7 hp fun q hq hh => by
    obtain ⟨⟨⟨a1, a2⟩, a3⟩, a4⟩ := h8 q hq
    unfold hitW at hh ⊢
    rw [wrap64_in (n := n - x) (by omega) (by omega)] at hh
    rw [wrap64_in (n := n - y) (by omega) (by omega)]
    simp only [Bool.or_eq_true, decide_eq_true_eq] at hh ⊢
    omega
  have m3 : mostN y z (n + y) l.length l = 0 := most_none hl fun q hq => by
    obtain ⟨⟨⟨a1, a2⟩, a3⟩, a4⟩ := h8 q hq
    unfold hitW
    rw [show n + y - y = n by omega, wrap64_in (n := n) (by omega) (by omega)]
    simp only [Bool.or_eq_false_iff, decide_eq_false_iff_not]
    omega
  rw [m3, hi, decide_eq_true m1, invW_of (Nat.le_refl _) hl, invW_of (Nat.le_refl _) hl, invW_of (Nat.le_refl _) hl] at e
  have hv := T.path_eval e ⟨rfl, rfl, hc, by rw [decide_eq_true hx, decide_eq_true (show x ≤ 600 by omega)]; rfl, rfl, rfl, by rw [decide_eq_true (show 0 ≤ y by omega), decide_eq_true (show y ≤ 600 by omega)]; rfl, rfl, rfl, rfl, rfl, rfl, rfl, by simp, rfl, trivial⟩
  rw [hv]
  simp
theorem delaySpans_walk (g : List Int) (_ : g.length ≤ maxLen) (_ : ∀ x ∈ g, (Lit.int .i64 x).wf = true) (x : Value) (a : Int) (_ : (Lit.int .i64 a).wf = true) (b : Int) (_ : (Lit.int .i64 b).wf = true) (w : World) (hx : holdsP 0 w (.orow 3 [.int .i64] g) x) :
    Calls Try.prog 18 #[x, .int .i64 a, .int .i64 b] w fun e w' => e = .returned (.bool true) ∧ Below w.heap.size w w' := by
  refine Law.law_rows (args := [.orow 3 [.int .i64] g, iv a, iv b]) (xs := [x, .int .i64 a, .int .i64 b]) (execS_loops (Λ := byReg slist) D8_ok mixed Try.func18 (by kernel_rfl) (by kernel_rfl) slps_ok) rfl ?_ w ⟨hx, rfl, rfl, trivial⟩
  have h1 : 0 ≤ rS a ∧ rS a < 61 := by unfold rS; rw [modU (n := a) (by decide) (by decide)]; exact modU_range _ (by decide)
  have h2 : 0 ≤ rS b ∧ rS b < 61 := by unfold rS; rw [modU (n := b) (by decide) (by decide)]; exact modU_range _ (by decide)
  by_cases c : rS b < rS a
  · exact .inr (spans_end h2.1 (by omega) (by omega) (decide_eq_true c) (path1 g a b))
  · exact .inr (spans_end h1.1 (by omega) (by omega) (decide_eq_false c) (path2 g a b))
end Go.Proofs.Ytmijloophkkanaa.Del
