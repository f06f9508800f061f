/- Layer 7: BreakerNone. -/
import Derived.Test.YtacdadifjgppbaaBrkP
import Derived.Test.YtacdadifjgppbaaLaw3
namespace Go.Proofs.Ytacdadifjgppbaa.Brk
open Go.Eng Go.RowKit Go.Flt Lod
set_option linter.unusedVariables false
set_option linter.unusedSimpArgs false
def rD (a : Int) : Int := IntKind.wrap .i64 (Int.tmod (IntKind.wrap .u64 a) 21)
def rK (a : Int) : Int := IntKind.wrap .i64 (Int.tmod (IntKind.wrap .u64 a) 26)
def rL (a : Int) : Int := IntKind.wrap .i64 (1 + IntKind.wrap .i64 (Int.tmod (IntKind.wrap .u64 a) 30))
def leftN (c : Int) : Int := if 0 > IntKind.wrap .i64 (c - 1) then 0 else IntKind.wrap .i64 (c - 1)
def lessN (l m : Int) : Int := if l < m then l else m
noncomputable def pathN (c : Bool) (q : Int) (X Y : Nat) (d k l : Int) (E : AN) : Option (List (Bool × Bool) × V) := some
  ([((21 : Int) == 0, false), ((26 : Int) == 0, false), ((30 : Int) == 0, false), (bif !bif decide ((0 : Int) ≤ 0) then decide ((0 : Int) ≤ 1000) else false then true else !bif decide (0 ≤ d) then decide (d ≤ 1000) else false, false), (invN ⟨d, k, l, 0, d⟩ ⟨0, 0, 0, 0⟩, true),
    (okB 0 d E.x E.y, true), (valW E.y == 0, c), (bif !((q == 0) == decide (0 < E.c)) then true else bif E.c == 0 then q != 7 else false, false), (okB 0 d X Y, true), (limB l, true),
    (bif (bif (0 : Int) == 0 then adm l (valW X) (valW Y) == lessN l (leftN E.c) else false) == true && true then okB l d (fW (valW X + adm l (valW X) (valW Y))) (fW (valW Y - adm l (valW X) (valW Y))) else true, true)],
   .s (.bool (bif bif (0 : Int) == 0 then adm l (valW X) (valW Y) == lessN l (leftN E.c) else false then fr l (valW (fW (valW X + adm l (valW X) (valW Y)))) == IntKind.wrap .i64 (l - adm l (valW X) (valW Y)) else false)))
noncomputable def eN (d k l : Int) : AN := endW (nxtN ⟨d, k, l, 0, d⟩) ⟨0, 0, 0, 0⟩
theorem none1 (a b c : Int) : T.path [false, false, false, false, true, true, true, false, true, true, true] (execS B6 (byReg nlist) 6 [iv a, iv b, iv c]) =
    pathN true 7 (eN (rD a) (rK b) (rL c)).x (eN (rD a) (rK b) (rL c)).y (rD a) (rK b) (rL c) (eN (rD a) (rK b) (rL c)) := by kernel_rfl
theorem none2 (a b c : Int) : T.path [false, false, false, false, true, true, false, false, true, true, true] (execS B6 (byReg nlist) 6 [iv a, iv b, iv c]) =
    pathN false 0 (fW (valW (eN (rD a) (rK b) (rL c)).x)) (fW (valW (eN (rD a) (rK b) (rL c)).y - 1)) (rD a) (rK b) (rL c) (eN (rD a) (rK b) (rL c)) := by kernel_rfl
theorem none_end {ch : List Bool} {tr : T V} {c : Bool} {q : Int} {X Y : Nat} {d k l : Int} {E : AN} (e : T.path ch tr = pathN c q X Y d k l E) (hd : 0 ≤ d ∧ d ≤ 20) (hl : 1 ≤ l ∧ l ≤ 30) (hi : invN ⟨d, k, l, 0, d⟩ ⟨0, 0, 0, 0⟩ = true)
    (ex : isW E.x = true) (ey : isW E.y = true) (vx : valW E.x = 0) (vy : valW E.y = E.c) (hc : 0 ≤ E.c ∧ E.c ≤ 20) (hX : isW X = true) (hY : isW Y = true) (vX : valW X = 0) (vY : valW Y = if E.c = 0 then 0 else E.c - 1) (c1 : (E.c == 0) = c) (cq : (E.c = 0 ∧ q = 7) ∨ (E.c ≠ 0 ∧ q = 0)) : tr.eval = some (.s (.bool true)) := by
  unfold pathN at e
  have hleft : leftN E.c = if E.c = 0 then 0 else E.c - 1 := by
    unfold leftN
    rw [wrap64_in (n := E.c - 1) (by omega) (by omega)]
    split <;> split <;> omega
  rw [hleft, ← vY, vX, vy] at e
  have hv0 : 0 ≤ valW Y ∧ valW Y ≤ 20 := by rw [vY]; split <;> omega
  have ha : adm l 0 (valW Y) = lessN l (valW Y) := by
    unfold adm fr lessN
    repeat' split
    all_goals omega
  have hr : 0 ≤ lessN l (valW Y) ∧ lessN l (valW Y) ≤ l ∧ lessN l (valW Y) ≤ valW Y := by unfold lessN; split <;> omega
  rw [ha] at e
  have vf : valW (fW (0 + lessN l (valW Y))) = lessN l (valW Y) := by rw [valW_fW, Int.zero_add, wi_in (by omega) (by omega)]
  have vg : valW (fW (valW Y - lessN l (valW Y))) = valW Y - lessN l (valW Y) := by rw [valW_fW, wi_in (by omega) (by omega)]
  have k1 := okB_is (L := 0) (D := d) ex ey (by omega) (by omega) (by omega) (by omega)
  have k2 := okB_is (L := 0) (D := d) hX hY (by omega) (by omega) (by omega) (by omega)
  have k3 := okB_is (L := l) (D := d) (isW_fW (0 + lessN l (valW Y))) (isW_fW (valW Y - lessN l (valW Y))) (by omega) (by omega) (by omega) (by omega)
  have k4 : limB l = true := by unfold limB; rw [decide_eq_true (show 0 ≤ l by omega), decide_eq_true (show l ≤ 1000 by omega)]; rfl
  have k5 : (bif !((q == 0) == decide (0 < E.c)) then true else bif E.c == 0 then q != 7 else false) = false := by
    rcases cq with ⟨h, rfl⟩ | ⟨h, rfl⟩
    · rw [h]; rfl
    · rw [decide_eq_true (show 0 < E.c by omega), show (E.c == 0) = false by rw [beq_eq_false_iff_ne]; exact h]; rfl
  rw [hi, k1, k2, k3, k4, k5, vf, c1, wrap64_in (n := l - lessN l (valW Y)) (by omega) (by omega)] at e
  have hf : fr l (lessN l (valW Y)) = l - lessN l (valW Y) := by unfold fr; rw [if_neg (by omega)]
  rw [hf] at e
  have hn : (bif !bif decide ((0 : Int) ≤ 0) then decide ((0 : Int) ≤ 1000) else false then true else !bif decide (0 ≤ d) then decide (d ≤ 1000) else false) = false := by
    rw [decide_eq_true hd.1, decide_eq_true (show d ≤ 1000 by omega)]; rfl
  have hv := T.path_eval e ⟨rfl, rfl, rfl, hn, rfl, rfl, rfl, rfl, rfl, rfl, Bool.cond_self _ _, trivial⟩
  rw [hv]
  simp
theorem breakerNone_walk (a : Int) (_ : (Lit.int .i64 a).wf = true) (b : Int) (_ : (Lit.int .i64 b).wf = true) (c : Int) (_ : (Lit.int .i64 c).wf = true) (w : World) :
    Calls Try.prog 6 #[.int .i64 a, .int .i64 b, .int .i64 c] w fun e w' => e = .returned (.bool true) ∧ Below w.heap.size w w' := by
  refine law_yes (args := [iv a, iv b, iv c]) (execS_loops (Λ := byReg nlist) B6_ok mixed Try.func6 (by kernel_rfl) (by kernel_rfl) nlps_ok) rfl ?_ w
  have e1 := none1 a b c
  have e2 := none2 a b c
  have h1 : 0 ≤ rD a ∧ rD a ≤ 20 := by
    have := modU_range a (m := 21) (by decide)
    unfold rD; rw [modU (n := a) (by decide) (by decide)]; omega
  have h2 : 0 ≤ rK b ∧ rK b ≤ 25 := by
    have := modU_range b (m := 26) (by decide)
    unfold rK; rw [modU (n := b) (by decide) (by decide)]; omega
  have h3 : 1 ≤ rL c ∧ rL c ≤ 30 := by
    have := modU_range c (m := 30) (by decide)
    unfold rL; rw [modU (n := c) (by decide) (by decide), wrap64_in (by omega) (by omega)]; omega
  generalize rD a = d at *
  generalize rK b = k at *
  generalize rL c = l at *
  have hi : invN ⟨d, k, l, 0, d⟩ ⟨0, 0, 0, 0⟩ = true := by
    have z : valW 0 = 0 := by have := valW_fI (n := 0) (by decide); exact this
    have z2 : isW 0 = true := isW_fI (n := 0) (by decide)
    have hm : (0 : Int) = mnI 0 d := by unfold mnI; split <;> omega
    simp only [invN, Bool.and_eq_true, decide_eq_true_eq, z, z2]
    exact ⟨⟨⟨⟨⟨⟨⟨⟨⟨⟨⟨trivial, trivial⟩, h1.1⟩, h1.2⟩, h2.2⟩, by omega⟩, h2.1⟩, trivial⟩, trivial⟩, trivial⟩, hm⟩, hm⟩
  have hE : isW (eN d k l).x = true ∧ isW (eN d k l).y = true ∧ valW (eN d k l).x = 0 ∧ valW (eN d k l).y = (eN d k l).c ∧ 0 ≤ (eN d k l).c ∧ (eN d k l).c ≤ 20 := by
    obtain ⟨q1, -, -⟩ := endW_says (stN ⟨d, k, l, 0, d⟩) hi
    unfold eN
    generalize endW (nxtN ⟨d, k, l, 0, d⟩) ⟨0, 0, 0, 0⟩ = E at *
    unfold invN at q1
    simp only [Bool.and_eq_true, decide_eq_true_eq] at q1
    obtain ⟨⟨⟨⟨⟨⟨⟨-, g6⟩, g7⟩, g8⟩, g9⟩, g10⟩, g11⟩, g12⟩ := q1
    have hm : 0 ≤ mnI E.i d ∧ mnI E.i d ≤ 20 := by unfold mnI; split <;> omega
    exact ⟨g8, g9, g10, by omega, by omega, by omega⟩
  obtain ⟨x1, y1, vx, vy, c0, c20⟩ := hE
  generalize eN d k l = E at *
  refine .inr ?_
  by_cases q : E.c = 0
  · exact none_end e1 h1 h3 hi x1 y1 vx vy ⟨c0, c20⟩ x1 y1 vx (by rw [if_pos q, vy, q]) (by rw [q]; rfl) (.inl ⟨q, rfl⟩)
  · exact none_end e2 h1 h3 hi x1 y1 vx vy ⟨c0, c20⟩ (isW_fW _) (isW_fW _) (by rw [valW_fW, vx]; rfl) (by rw [if_neg q, valW_fW, vy, wi_in (by omega) (by omega)]) (by rw [beq_eq_false_iff_ne]; exact q) (.inr ⟨q, rfl⟩)
end Go.Proofs.Ytacdadifjgppbaa.Brk
