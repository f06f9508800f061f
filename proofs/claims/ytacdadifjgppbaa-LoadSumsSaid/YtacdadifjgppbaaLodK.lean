/- Layer 2: LoadSums. -/
import Derived.Test.YtacdadifjgppbaaLodJ
import Derived.Test.YtacdadifjgppbaaLaw3
namespace Go.Proofs.Ytacdadifjgppbaa.Lod
open Go.Eng Go.RowKit Go.Flt
set_option linter.unusedVariables false
set_option linter.unusedSimpArgs false
def okLs (p : PLs) (a : ALs) : Prop := p.k = p.g.length ∧ p.k' = p.h.length ∧ a.j = a.a.length ∧ a.j' = a.b.length ∧ a.i = a.a.length ∧ a.i = a.b.length ∧ a.i ≤ 40 ∧ (∀ z ∈ a.a, okZ z) ∧ (∀ z ∈ a.b, okZ z) ∧ bS a.a = a.x ∧ wS a.a = a.y ∧ bS a.b = a.x ∧ wS a.b = a.y
def muL (p : PLs) (a : ALs) : Nat := (40 - a.i).toNat
theorem umod (a : Int) {m : Int} (hm : 0 < m) : 0 ≤ Int.tmod (IntKind.wrap .u64 a) m ∧ Int.tmod (IntKind.wrap .u64 a) m < m := by
  rw [wrapu64, Int.tmod_eq_emod_of_nonneg (Int.emod_nonneg _ (by decide))]
  exact modU_range a hm
theorem vfwB {t : Int} (h0 : 0 ≤ t) (h1 : t ≤ 1000000000) : valW (fW t) = t := by rw [valW_fW, wi_in h0 (by omega)]
theorem isW_fW' (n : Int) : isW (fW n) = true := by
  have h : 0 ≤ wi n ∧ wi n ≤ 1099511627776 := by unfold wi; split <;> split <;> omega
  unfold fW
  exact isW_fI (by omega)
theorem stepL (p : PLs) (a : ALs) (h : okLs p a) (hg : goL p a = true) : ∃ b, stepC okLs rdL FLs muL p a b := by
  obtain ⟨h1, h2, h3, h4, h5, h6, h7, h8, h9, h10, h11, h12, h13⟩ := id h
  have hg0 := hg
  unfold goL at hg
  rw [cond_and] at hg
  simp only [Bool.and_eq_true, decide_eq_true_eq] at hg
  have hw : IntKind.wrap .i64 (a.i + 1) = a.i + 1 := wrap64_in (by omega) (by omega)
  have hi : 0 ≤ a.i := by omega
  have n1 := umod (gI p.g a.i) (m := 1000000) (by decide)
  have n2 : nL p a = Int.tmod (IntKind.wrap .u64 (gI p.g a.i)) 1000000 := by unfold nL; exact wrap64_in (by omega) (by omega)
  have k1 : ∀ e, 0 ≤ kL p a e ∧ kL p a e < 1000000 := by
    intro e
    cases e
    · exact ⟨Int.le_refl 0, by show (0 : Int) < 1000000; decide⟩
    · have := umod (gI p.h a.i) (m := 1000000) (by decide)
      show 0 ≤ IntKind.wrap .i64 _ ∧ IntKind.wrap .i64 _ < 1000000
      rw [wrap64_in (by omega) (by omega)]; exact this
  have hz : ∀ e, okZ (zL p a e) ∧ valW (zL p a e).1 = nL p a ∧ valW (zL p a e).2 = kL p a e := by
    intro e
    have h1 := k1 e
    have v1 : valW (fW (nL p a)) = nL p a := vfwB (by omega) (by omega)
    have v2 : valW (fW (kL p a e)) = kL p a e := vfwB (by omega) (by omega)
    exact ⟨⟨isW_fW' _, isW_fW' _, by show 0 ≤ valW (fW (nL p a)); omega, by show valW (fW (nL p a)) ≤ _; omega, by show 0 ≤ valW (fW (kL p a e)); omega, by show valW (fW (kL p a e)) ≤ _; omega⟩, v1, v2⟩
  have sa := sums_in a.a h8
  have i1 : idN p.g p.k a.i = true ∧ ldN p.g a.i = true := by
    unfold idN ldN
    rw [decide_eq_true hi, decide_eq_true hg.1, decide_eq_true (show 0 + a.i.toNat < p.g.length by omega)]
    exact ⟨rfl, rfl⟩
  have t1 : a.a.take a.j = a.a := by rw [h3, List.take_length]
  have t2 : (a.b.drop 0).take a.j' = a.b := by rw [List.drop_zero, h4, List.take_length]
  have q1 : ∀ e, (true && (decide (a.j ≤ a.a.length) && decide (a.j + [zL p a e].length ≤ 1000000))) = true := fun e => by
    rw [decide_eq_true (show a.j ≤ a.a.length by omega), decide_eq_true (show a.j + [zL p a e].length ≤ 1000000 by simp; omega)]; rfl
  have q2 : (decide (0 + a.j' ≤ a.b.length) && decide (1 + (List.take a.j' (List.drop 0 a.b)).length ≤ 1000000)) = true := by
    rw [t2, decide_eq_true (show 0 + a.j' ≤ a.b.length by omega), decide_eq_true (show 1 + a.b.length ≤ 1000000 by omega)]; rfl
  have hc : allSay (csL p a (decide (a.i < (p.k' : Int)))) := by
    cases e : decide (a.i < (p.k' : Int))
    · exact ⟨hg0, e, i1.1, i1.2, rfl, q1 _, q2, trivial⟩
    · have e1 : a.i < (p.k' : Int) := of_decide_eq_true e
      have i2 : idN p.h p.k' a.i = true ∧ ldN p.h a.i = true := by
        unfold idN ldN
        rw [decide_eq_true hi, e, decide_eq_true (show 0 + a.i.toNat < p.h.length by omega)]
        exact ⟨rfl, rfl⟩
      exact ⟨hg0, e, i2.1, i2.2, rfl, i1.1, i1.2, rfl, q1 _, q2, trivial⟩
  generalize decide (a.i < (p.k' : Int)) = e at hc
  obtain ⟨z1, z2, z3⟩ := hz e
  have k2 := k1 e
  have wx : IntKind.wrap .i64 (a.x + nL p a) = a.x + nL p a := wrap64_in (by omega) (by omega)
  have wy : IntKind.wrap .i64 (a.y + kL p a e) = a.y + kL p a e := wrap64_in (by omega) (by omega)
  refine ⟨_, T.path_eval (wayL p a e) hc, ?_, ?_⟩
  · rw [t1, t2, hw, wx, wy]
    refine ⟨h1, h2, ?_, ?_, ?_, ?_, ?_, ?_, ?_, ?_, ?_, ?_, ?_⟩
    · show a.j + [zL p a e].length = (a.a ++ [zL p a e]).length; rw [h3]; simp
    · show 1 + a.b.length = ([zL p a e] ++ a.b).length; simp; omega
    · show a.i + 1 = ((a.a ++ [zL p a e]).length : Int); simp; omega
    · show a.i + 1 = (([zL p a e] ++ a.b).length : Int); simp; omega
    · show a.i + 1 ≤ 40; omega
    · intro z hz
      rcases List.mem_append.1 hz with q | q
      · exact h8 z q
      · rw [List.mem_singleton.1 q]; exact z1
    · intro z hz
      rcases List.mem_append.1 hz with q | q
      · rw [List.mem_singleton.1 q]; exact z1
      · exact h9 z q
    · show bS (a.a ++ [zL p a e]) = a.x + nL p a; rw [bS_append, h10]; simp [bS, z2]
    · show wS (a.a ++ [zL p a e]) = a.y + kL p a e; rw [wS_append, h11]; simp [wS, z3]
    · show bS ([zL p a e] ++ a.b) = a.x + nL p a; rw [bS_append, h12]; simp [bS, z2]; omega
    · show wS ([zL p a e] ++ a.b) = a.y + kL p a e; rw [wS_append, h13]; simp [wS, z3]; omega
  · show (40 - IntKind.wrap .i64 (a.i + 1)).toNat < (40 - a.i).toNat
    rw [hw]; omega
theorem exL (p : PLs) (a : ALs) (h : okLs p a) (hg : goL p a = false) : (rdL p a).eval = some (.exit 0, FLs p a) := T.path_eval (wayLx p a) ⟨hg, trivial⟩
def decL : List V → List Blk → Option (PLs × ALs)
  | [.sub 0 1 0 k, .sub 1 1 0 k', .sub 1000 1 0 j, .sub 1001 1 0 j', .s (.int .i64 x), .s (.int .i64 y), .s (.int .i64 i)], [.lst false t0 [.int .i64] g, .lst false t1 [.int .i64] h, .lst true t2 [.cx .f64] a, .lst true t3 [.cx .f64] b] =>
    if t0 = 3 then if t1 = 3 then if t2 = 23 then if t3 = 23 then some (⟨g, h, k, k'⟩, ⟨a, j, b, j', x, y, i⟩) else none else none else none else none
  | _, _ => none
theorem decL_ok (l : List V) (b : List Blk) (d : PLs × ALs) (h : decL l b = some d) : l = vsLs d.1 d.2 ∧ b = bsLs d.1 d.2 := by
  unfold decL at h
  split at h
  · split at h
    · rename_i ht0
      split at h
      · rename_i ht1
        split at h
        · rename_i ht2
          split at h
          · rename_i ht3
            subst ht0 ht1 ht2 ht3
            cases h
            exact ⟨rfl, rfl⟩
          · cases h
        · cases h
      · cases h
    · cases h
  · cases h
noncomputable def famL2 : LSpec := famC [0,1,5,6,7,8,9] SL 1000 1002 88 decL okLs goL rdL FLs muL (.exit 0)
theorem lpL_ok : LoopOk Q4 lls famL2 := famC_ok (vs := vsLs) (bs := bsLs) Q4_ok mixed (noLoops_ok _) decL_ok (by simp) (fun _ _ => rfl) (fun _ _ => rfl) stepL exL
noncomputable def llist : List (Nat × LSpec) := [(4, famL2)]
theorem lreg : firstReg lls = some 4 := by kernel_rfl
def pL (l m : List Int) : PLs := ⟨l, m, l.length, m.length⟩
noncomputable def eL (l m : List Int) : ALs := endW (nxtC okLs goL rdL FLs muL (pL l m)) ⟨[], 0, [], 0, 0, 0, 0⟩
noncomputable def AL (l m : List Int) : List (Nat × Nat) := List.take (eL l m).j (List.drop 0 (eL l m).a)
noncomputable def BL (l m : List Int) : List (Nat × Nat) := List.take (eL l m).j' (List.drop 0 (eL l m).b)
theorem sums_way (l m : List Int) : T.path [true, true, true, true, true, true, true, true, true, true] (execS Q4 (byReg llist) 5 [.orow 3 [.int .i64] l, .orow 3 [.int .i64] m]) = some ([(invC okLs (pL l m) { a := [], j := 0, b := [], j' := 0, x := 0, y := 0, i := 0 }, true), (decide (0 + (eL l m).j ≤ List.length ((eL l m).a)), true), (invC okSm (pSm (AL l m)) { x := 0, y := 0, i := 0 }, true), (decide (0 + (eL l m).j' ≤ List.length ((eL l m).b)), true), (invC okSm (pSm (BL l m)) { x := 0, y := 0, i := 0 }, true), (all4 (fW ((eSm (AL l m)).x)) (fW ((eSm (AL l m)).y)) (fW ((eSm (BL l m)).x)) (fW ((eSm (BL l m)).y)), true), (bif (decide (valW (fW ((eSm (AL l m)).x)) = valW (fW ((eSm (BL l m)).x))) && decide (valW (fW ((eSm (AL l m)).y)) = valW (fW ((eSm (BL l m)).y)))) == true && true then isW (fW ((eSm (AL l m)).x)) else true, true), (bif (bif decide (valW (fW ((eSm (AL l m)).x)) = valW (fW ((eSm (BL l m)).x))) && decide (valW (fW ((eSm (AL l m)).y)) = valW (fW ((eSm (BL l m)).y))) then valW (fW ((eSm (AL l m)).x)) == (eL l m).x else false) == true && true then isW (fW ((eSm (AL l m)).y)) else true, true), (bif (bif bif decide (valW (fW ((eSm (AL l m)).x)) = valW (fW ((eSm (BL l m)).x))) && decide (valW (fW ((eSm (AL l m)).y)) = valW (fW ((eSm (BL l m)).y))) then valW (fW ((eSm (AL l m)).x)) == (eL l m).x else false then valW (fW ((eSm (AL l m)).y)) == (eL l m).y else false) == true && true then isW (fW ((eSm (AL l m)).x)) && isW (fW ((eSm (AL l m)).y)) else true, true), (bif (bif bif decide (valW (fW ((eSm (AL l m)).x)) = valW (fW ((eSm (BL l m)).x))) && decide (valW (fW ((eSm (AL l m)).y)) = valW (fW ((eSm (BL l m)).y))) then valW (fW ((eSm (AL l m)).x)) == (eL l m).x else false then valW (fW ((eSm (AL l m)).y)) == (eL l m).y else false) == true && true then all4 (fW (valW (fW ((eSm (AL l m)).y)))) (fW (valW (fW ((eSm (AL l m)).x)))) (fW ((eL l m).y)) (fW ((eL l m).x)) else true, true)], V.s (S.bool (bif bif bif decide (valW (fW ((eSm (AL l m)).x)) = valW (fW ((eSm (BL l m)).x))) && decide (valW (fW ((eSm (AL l m)).y)) = valW (fW ((eSm (BL l m)).y))) then valW (fW ((eSm (AL l m)).x)) == (eL l m).x else false then valW (fW ((eSm (AL l m)).y)) == (eL l m).y else false then decide (valW (fW (valW (fW ((eSm (AL l m)).y)))) = valW (fW ((eL l m).y))) && decide (valW (fW (valW (fW ((eSm (AL l m)).x)))) = valW (fW ((eL l m).x))) else false))) := by kernel_rfl
theorem loadSums_walk (l : List Int) (_ : l.length ≤ maxLen) (_ : ∀ x ∈ l, (Lit.int .i64 x).wf = true) (xl : Value) (m : List Int) (_ : m.length ≤ maxLen) (_ : ∀ x ∈ m, (Lit.int .i64 x).wf = true) (xm : Value) (w : World)
    (hl : holdsP 0 w (.orow 3 [.int .i64] l) xl) (hm : holdsP 0 w (.orow 3 [.int .i64] m) xm) :
    Calls Try.prog 5 #[xl, xm] w fun e w' => e = .returned (.bool true) ∧ Below w.heap.size w w' := by
  refine Law.law_rows (args := [.orow 3 [.int .i64] l, .orow 3 [.int .i64] m]) (xs := [xl, xm]) (execS_loops (Λ := byReg llist) Q4_ok mixed Try.func5 (by kernel_rfl) (by kernel_rfl) (one_lp (c := lls) (by kernel_rfl) lreg lpL_ok)) rfl (.inr ?_) w ⟨hl, hm, trivial⟩
  have o1 : okLs (pL l m) ⟨[], 0, [], 0, 0, 0, 0⟩ := ⟨rfl, rfl, rfl, rfl, rfl, rfl, by show (0 : Int) ≤ 40; decide, (fun x hx => by cases hx), (fun x hx => by cases hx), rfl, rfl, rfl, rfl⟩
  have hw := sums_way l m
  have he : okLs (pL l m) (eL l m) ∧ _ := endC stepL o1
  obtain ⟨⟨-, -, e3, e4, e5, e6, e7, e8, e9, e10, e11, e12, e13⟩, -⟩ := he
  have hA : AL l m = (eL l m).a := by unfold AL; rw [List.drop_zero, e3, List.take_length]
  have hB : BL l m = (eL l m).b := by unfold BL; rw [List.drop_zero, e4, List.take_length]
  obtain ⟨a1, a2, a3⟩ := sum_is (l := (eL l m).a) (by omega) e8
  obtain ⟨b1, b2, b3⟩ := sum_is (l := (eL l m).b) (by omega) e9
  have hs := sums_in _ e8
  rw [hA, hB, a2, a3, b2, b3, e10, e11, e12, e13] at hw
  have v1 : valW (fW (eL l m).x) = (eL l m).x := vfwB (by omega) (by omega)
  have v2 : valW (fW (eL l m).y) = (eL l m).y := vfwB (by omega) (by omega)
  rw [v1, v2, v1, v2] at hw
  have al : ∀ p q r s : Int, all4 (fW p) (fW q) (fW r) (fW s) = true := fun p q r s => by unfold all4; rw [isW_fW', isW_fW', isW_fW', isW_fW']; rfl
  have t1 : ∀ c b : Bool, b = true → (bif c then b else true) = true := by intro c b e; subst e; cases c <;> rfl
  refine (T.path_eval hw ⟨invC_is o1, decide_eq_true (by omega), a1, decide_eq_true (by omega), b1, al _ _ _ _, t1 _ _ (isW_fW' _), t1 _ _ (isW_fW' _), t1 _ _ (by rw [isW_fW', isW_fW']; rfl), t1 _ _ (al _ _ _ _), trivial⟩).trans ?_
  simp
end Go.Proofs.Ytacdadifjgppbaa.Lod
