import Derived.Test.YtjjclmgiehnkbaaGZ
/- Layer 18: the document's order and subset; the same numbers: run by the machine. -/
namespace Go.Proofs.Ytjjclmgiehnkbaa.Sub
open Go.Eng Go.RowKit
set_option linter.unusedVariables false
set_option linter.unusedSimpArgs false
set_option maxRecDepth 100000
noncomputable def rsX : Eng.Spec := execS B0 noLoops 14
theorem rsX_ok : SpecOk Try.prog 14 rsX := execS_plain B0_ok mixed Try.func14 (by kernel_rfl) (by kernel_rfl)
theorem rs_run (i : Int) : (rsX [iv i]).eval = some (.s (.int .u32 (scI i))) := by
  rw [← T.eval_anon (t := rsX _)]; kernel_rfl
theorem rsS_ok : SpecOk Try.prog 14 scS := rsX_ok.of_den fun args v hfl h => by
  clear hfl
  unfold scS at h
  split at h
  · obtain rfl := Option.some.inj h
    exact ⟨_, rs_run _, ⟨rfl, rfl⟩, rfl⟩
  · cases h
noncomputable def C0 : Cfg := ⟨Try.prog, lookG [(14, .val scS)], [], 0⟩
theorem C0_ok : C0.Ok := Cfg.ok ⟨rsS_ok, trivial⟩ trivial
noncomputable def bfX : Eng.Spec := execS C0 noLoops 25
theorem bfX_ok : SpecOk Try.prog 25 bfX := execS_plain C0_ok mixed Try.func25 (by kernel_rfl) (by kernel_rfl)
noncomputable def lpIn : Code := loopAt Try.prog 15 0
structure PIn where (n : Nat) (m : Nat) (x : List Int) (y : List Int)
structure AIn where (i : Int)
abbrev SIn : List (Nat × Src) := [(0, .same), (1, .same)]
def vsIn (p : PIn) (a : AIn) : List V := [.sub 0 1 0 p.n, .sub 1 1 0 p.m, iv a.i]
def bsIn (p : PIn) (a : AIn) : List Blk := [.lst false 3 [.int .i64] p.x, .lst false 3 [.int .i64] p.y]
noncomputable def FIn (p : PIn) (a : AIn) : St := mkSt [0,1,5] (keysR SIn) 4000 26 (vsIn p a) (bsIn p a)
abbrev SInx : List (Nat × Src) := [(0, .same), (1, .same)]
noncomputable def rdIn (p : PIn) (a : AIn) : T (Ex × St) := T.anon (roundX B0 noLoops lpIn [0,1,5] SIn [0,1,4] SInx 4000 4000 (mkSt [0,1,5] (keysR SIn) 4000 26 (vsIn p a) (bsIn p a)))
def decIn_v0 : V → Option ((Nat))
  | .sub 0 1 0 n => some (n)
  | _ => none
theorem decIn_v0_ok (b : V) (x0 : (Nat)) (h : decIn_v0 b = some x0) : b = .sub 0 1 0 (x0) := by
  unfold decIn_v0 at h
  split at h
  · cases h
    rfl
  · cases h
def decIn_v1 : V → Option ((Nat))
  | .sub 1 1 0 m => some (m)
  | _ => none
theorem decIn_v1_ok (b : V) (x1 : (Nat)) (h : decIn_v1 b = some x1) : b = .sub 1 1 0 (x1) := by
  unfold decIn_v1 at h
  split at h
  · cases h
    rfl
  · cases h
def decIn_v2 : V → Option ((Int))
  | .s (.int .i64 i) => some (i)
  | _ => none
theorem decIn_v2_ok (b : V) (x2 : (Int)) (h : decIn_v2 b = some x2) : b = iv (x2) := by
  unfold decIn_v2 at h
  split at h
  · cases h
    rfl
  · cases h
def decIn_b0 : Blk → Option ((List Int))
  | .lst false tt0 [.int .i64] x => if tt0 = 3 then some (x) else none
  | _ => none
theorem decIn_b0_ok (b : Blk) (y0 : (List Int)) (h : decIn_b0 b = some y0) : b = .lst false 3 [.int .i64] (y0) := by
  unfold decIn_b0 at h
  split at h
  · obtain ⟨e0, h⟩ := ite_some0 h
    subst e0
    cases h
    rfl
  · cases h
def decIn_b1 : Blk → Option ((List Int))
  | .lst false tt0 [.int .i64] y => if tt0 = 3 then some (y) else none
  | _ => none
theorem decIn_b1_ok (b : Blk) (y1 : (List Int)) (h : decIn_b1 b = some y1) : b = .lst false 3 [.int .i64] (y1) := by
  unfold decIn_b1 at h
  split at h
  · obtain ⟨e0, h⟩ := ite_some0 h
    subst e0
    cases h
    rfl
  · cases h
def decIn : List V → List Blk → Option (PIn × AIn)
  | [v0, v1, v2], [b0, b1] => (decIn_v0 v0).bind fun x0 => (decIn_v1 v1).bind fun x1 => (decIn_v2 v2).bind fun x2 => (decIn_b0 b0).bind fun y0 => (decIn_b1 b1).bind fun y1 => some (⟨(x0), (x1), (y0), (y1)⟩, ⟨(x2)⟩)
  | _, _ => none
theorem decIn_ok (l : List V) (b : List Blk) (d : PIn × AIn) (h : decIn l b = some d) : l = vsIn d.1 d.2 ∧ b = bsIn d.1 d.2 := by
  unfold decIn at h
  split at h
  · obtain ⟨x0, hx0, h⟩ := Option.bind_eq_some_iff.1 h
    obtain ⟨x1, hx1, h⟩ := Option.bind_eq_some_iff.1 h
    obtain ⟨x2, hx2, h⟩ := Option.bind_eq_some_iff.1 h
    obtain ⟨y0, hy0, h⟩ := Option.bind_eq_some_iff.1 h
    obtain ⟨y1, hy1, h⟩ := Option.bind_eq_some_iff.1 h
    have ex0 := decIn_v0_ok _ _ hx0
    have ex1 := decIn_v1_ok _ _ hx1
    have ex2 := decIn_v2_ok _ _ hx2
    have ey0 := decIn_b0_ok _ _ hy0
    have ey1 := decIn_b1_ok _ _ hy1
    cases h
    subst ex0 ex1 ex2 ey0 ey1
    exact ⟨rfl, rfl⟩
  · cases h
noncomputable def rgIn : Nat := (firstReg lpIn).getD 0
theorem rgIn_is : firstReg lpIn = some rgIn := by kernel_rfl
end Go.Proofs.Ytjjclmgiehnkbaa.Sub

/- Layer 18: the document's order, the same numbers: contracts; the document's inner loop. -/
namespace Go.Proofs.Ytjjclmgiehnkbaa.Sub
open Go.Eng Go.RowKit
set_option linter.unusedVariables false
set_option linter.unusedSimpArgs false
set_option maxRecDepth 100000
def rvI (ids : List Int) (k : Int) : Rv := (scI (ids.getD (0 + k.toNat) 0), ids.getD (0 + k.toNat) 0, k)
def inK (ids : List Int) (k : Int) : Bool := decide (0 ≤ k) && (decide (k < (ids.length : Int)) && decide (0 + k.toNat < ids.length))
def ilK (ids : List Int) (k : Int) : Bool := decide (0 + k.toNat < ids.length)
def lsK (ids : List Int) (k i : Int) : Bool := decide ((rvI ids k).2.1 < (rvI ids i).2.1)
def orK (ids : List Int) (k i : Int) (b : Bool) : Bool := bif lsK ids k i == false && true then b else true
theorem bf_1 (ids : List Int) (k i : Int) : T.path [true, true, true, true, true] (T.anon (bfX [rI ids, iv k, iv i])) = some ([(inK ids k, true), (ilK ids k, true), (inK ids i, true), (ilK ids i, true), ((rvI ids k).1 != (rvI ids i).1, true)], .s (.bool (decide ((rvI ids k).1 < (rvI ids i).1)))) := by kernel_rfl
theorem bf_2 (ids : List Int) (k i : Int) : T.path [true, true, true, true, false, true, true, true, true, true, true, true, true] (T.anon (bfX [rI ids, iv k, iv i])) = some ([(inK ids k, true), (ilK ids k, true), (inK ids i, true), (ilK ids i, true), ((rvI ids k).1 != (rvI ids i).1, false), (inK ids k, true), (ilK ids k, true), (inK ids i, true), (ilK ids i, true), (orK ids k i (inK ids k), true), (orK ids k i (ilK ids k), true), (orK ids k i (inK ids i), true), (orK ids k i (ilK ids i), true)],
    .s (.bool (bif lsK ids k i then true else bif (rvI ids k).2.1 == (rvI ids i).2.1 then decide (k < i) else false))) := by kernel_rfl
theorem or_is {ids : List Int} {k i : Int} {b : Bool} (h : b = true) : orK ids k i b = true := by
  unfold orK
  rw [h]; cases lsK ids k i == false && true <;> rfl
theorem bf_run {ids : List Int} {k i : Int} (h0 : 0 ≤ k) (h1 : k < (ids.length : Int)) (h2 : 0 ≤ i) (h3 : i < (ids.length : Int)) : (bfX [rI ids, iv k, iv i]).eval = some (.s (.bool (lt3 (rvI ids k) (rvI ids i)))) := by
  rw [← T.eval_anon (t := bfX _)]
  have a1 : inK ids k = true := by
    unfold inK
    rw [decide_eq_true h0, decide_eq_true h1, decide_eq_true (show 0 + k.toNat < ids.length by omega)]; rfl
  have a2 : ilK ids k = true := decide_eq_true (by omega)
  have b1 : inK ids i = true := by
    unfold inK
    rw [decide_eq_true h2, decide_eq_true h3, decide_eq_true (show 0 + i.toNat < ids.length by omega)]; rfl
  have b2 : ilK ids i = true := decide_eq_true (by omega)
  cases q : (rvI ids k).1 != (rvI ids i).1 with
  | true =>
    have := T.path_eval (bf_1 ids k i) ⟨a1, a2, b1, b2, q, trivial⟩
    unfold lt3
    rw [q]; exact this
  | false =>
    have := T.path_eval (bf_2 ids k i) ⟨a1, a2, b1, b2, q, a1, a2, b1, b2, or_is a1, or_is a2, or_is b1, or_is b2, trivial⟩
    have e : (bif lsK ids k i then true else bif (rvI ids k).2.1 == (rvI ids i).2.1 then decide (k < i) else false) = lt3 (rvI ids k) (rvI ids i) := by
      unfold lt3 lsK
      rw [q, cond_false]
      by_cases h : (rvI ids k).2.1 = (rvI ids i).2.1
      · rw [bne_eq_false_iff_eq.2 h, beq_iff_eq.2 h, decide_eq_false (by omega)]; rfl
      · rw [bne_iff_ne.2 h, beq_eq_false_iff_ne.2 h]
        cases decide ((rvI ids k).2.1 < (rvI ids i).2.1) <;> rfl
    rw [e] at this
    exact this
def bfS : Eng.Spec
  | [.orow t [.int .i64] ids, .s (.int .i64 k), .s (.int .i64 i)] => if t = 3 then .ite none (decide (0 ≤ k) && (decide (k < (List.length ids : Int)) && (decide (0 ≤ i) && decide (i < (List.length ids : Int))))) (.ret (.s (.bool (lt3 (rvI ids k) (rvI ids i))))) .fail else .fail
  | _ => .fail
theorem bfS_ok : SpecOk Try.prog 25 bfS := bfX_ok.of_eval fun args v h => by
  unfold bfS at h
  split at h
  · rename_i t ids k i
    obtain ⟨q1, e1⟩ := ite_f h
    obtain ⟨hb, e2⟩ := ite_T' e1
    obtain rfl := Option.some.inj e2
    clear h e1 e2
    subst q1
    simp only [Bool.and_eq_true, decide_eq_true_eq] at hb
    exact bf_run hb.1 hb.2.1 hb.2.2.1 hb.2.2.2
  · cases h
/-! ### the same numbers -/
def idx (n : Nat) (l : List Int) (i : Int) : Bool := decide (0 ≤ i) && (decide (i < (n : Int)) && decide (0 + i.toNat < l.length))
def hIn (p : PIn) (a : AIn) (b : Bool) : List (Bool × Bool) := [(decide (a.i < (p.n : Int)), true), (idx p.n p.x a.i, true), (ilK p.x a.i, true), (idx p.m p.y a.i, true), (ilK p.y a.i, true), (p.x.getD (0 + a.i.toNat) 0 != p.y.getD (0 + a.i.toNat) 0, b)]
def stIn (p : PIn) (a : AIn) (v : V) : St := mkSt [0, 1, 4] (keysR SIn) 4000 26 [.sub 0 1 0 p.n, .sub 1 1 0 p.m, v] (bsIn p a)
theorem in_x (p : PIn) (a : AIn) : T.path [false] (rdIn p a) = some ([(decide (a.i < (p.n : Int)), false)], (.exit 0, stIn p a .junk)) := by kernel_rfl
theorem in_n (p : PIn) (a : AIn) : T.path [true, true, true, true, true, false] (rdIn p a) = some (hIn p a false, (.normal, FIn p ⟨IntKind.wrap .i64 (a.i + 1)⟩)) := by kernel_rfl
theorem in_r (p : PIn) (a : AIn) : T.path [true, true, true, true, true, true] (rdIn p a) = some (hIn p a true, (.ret, stIn p a (.s (.bool false)))) := by kernel_rfl
structure okIn (p : PIn) (a : AIn) : Prop where
  n : p.n = p.x.length
  m : p.m = p.y.length
  e : p.n = p.m
  n1 : p.n ≤ 1000000000
  i0 : 0 ≤ a.i
  i1 : a.i ≤ (p.n : Int)
  s : p.x.take a.i.toNat = p.y.take a.i.toNat
def difI (p : PIn) (a : AIn) : Bool := p.x.getD (0 + a.i.toNat) 0 != p.y.getD (0 + a.i.toNat) 0
def goIn (p : PIn) (a : AIn) : Bool := decide (a.i < (p.n : Int)) && !difI p a
def muIn (p : PIn) (a : AIn) : Nat := ((p.n : Int) - a.i).toNat
theorem hIn_say {p : PIn} {a : AIn} (h : okIn p a) (hi : a.i < (p.n : Int)) {b : Bool} (hb : difI p a = b) : allSay (hIn p a b) := by
  obtain ⟨h1, h2, h3, h4, h5, h6, h7⟩ := h
  have c : ∀ (n : Nat) (l : List Int), n = l.length → a.i < (n : Int) → idx n l a.i = true ∧ ilK l a.i = true := fun n l e hl => by
    unfold idx ilK
    rw [decide_eq_true h5, decide_eq_true hl, decide_eq_true (show 0 + a.i.toNat < l.length by omega)]
    exact ⟨rfl, rfl⟩
  obtain ⟨c1, c2⟩ := c p.n p.x h1 hi
  obtain ⟨d1, d2⟩ := c p.m p.y h2 (by omega)
  exact ⟨decide_eq_true hi, c1, c2, d1, d2, hb, trivial⟩
theorem getD_at {l : List Int} {i : Int} (hl : i.toNat < l.length) : l.getD (0 + i.toNat) 0 = l[i.toNat] := by
  rw [Nat.zero_add, List.getD_eq_getElem?_getD, List.getElem?_eq_getElem hl]; rfl
theorem stepIn (p : PIn) (a : AIn) (h : okIn p a) (hg : goIn p a = true) : ∃ b, stepC okIn rdIn FIn muIn p a b := by
  unfold goIn at hg
  rw [Bool.and_eq_true, decide_eq_true_eq, Bool.not_eq_true'] at hg
  obtain ⟨hi, hb⟩ := hg
  have hs := hIn_say h hi hb
  obtain ⟨h1, h2, h3, h4, h5, h6, h7⟩ := h
  have w : IntKind.wrap .i64 (a.i + 1) = a.i + 1 := wrap64_in (by omega) (by omega)
  have way := in_n p a
  rw [w] at way
  refine ⟨_, T.path_eval way hs, ⟨h1, h2, h3, h4, by show 0 ≤ a.i + 1; omega, by show a.i + 1 ≤ _; omega, ?_⟩, by show ((p.n : Int) - (a.i + 1)).toNat < ((p.n : Int) - a.i).toNat; omega⟩
  show p.x.take (a.i + 1).toNat = p.y.take (a.i + 1).toNat
  unfold difI at hb
  rw [getD_at (by omega), getD_at (by omega), bne_eq_false_iff_eq] at hb
  rw [show (a.i + 1).toNat = a.i.toNat + 1 by omega, List.take_add_one, List.take_add_one, h7, List.getElem?_eq_getElem (by omega), List.getElem?_eq_getElem (by omega), hb]
def outIn (p : PIn) (a : AIn) : T (Ex × St) := .ite none (decide (a.i < (p.n : Int))) (.ret (.ret, stIn p a (.s (.bool false)))) (.ret (.exit 0, stIn p a .junk))
theorem in_bad {p : PIn} {a : AIn} (hg : goIn p a = false) (hi : a.i < (p.n : Int)) : difI p a = true := by
  unfold goIn at hg
  rw [decide_eq_true hi, Bool.true_and, Bool.not_eq_false'] at hg
  exact hg
theorem exIn (p : PIn) (a : AIn) (h : okIn p a) (hg : goIn p a = false) (r : Ex × St) (hr : (outIn p a).eval = some r) : r.1 ≠ .normal ∧ (rdIn p a).eval = some r := by
  unfold outIn at hr
  by_cases hi : a.i < (p.n : Int)
  · rw [decide_eq_true hi] at hr
    obtain rfl := Option.some.inj hr
    exact ⟨by simp, T.path_eval (in_r p a) (hIn_say h hi (in_bad hg hi))⟩
  · rw [decide_eq_false hi] at hr
    obtain rfl := Option.some.inj hr
    exact ⟨by simp, T.path_eval (in_x p a) ⟨decide_eq_false hi, trivial⟩⟩
noncomputable def famIn : LSpec := famE [0,1,5] SIn SInx 4000 4000 26 decIn okIn goIn rdIn FIn muIn outIn
theorem lpIn_ok : LoopOk B0 lpIn famIn := famE_ok (vs := vsIn) (bs := bsIn) B0_ok mixed (noLoops_ok _) decIn_ok (fun _ _ => rfl) (fun _ _ => rfl) stepIn exIn
noncomputable def niX : Eng.Spec := execS B0 (byReg [(rgIn, famIn)]) 15
theorem niX_ok : SpecOk Try.prog 15 niX := execS_loops B0_ok mixed Try.func15 (by kernel_rfl) (by kernel_rfl) (one_lp (c := lpIn) (by kernel_rfl) rgIn_is lpIn_ok)
def pI (x y : List Int) : PIn := ⟨x.length, y.length, x, y⟩
noncomputable def eI (x y : List Int) : AIn := endW (nxtC okIn goIn rdIn FIn muIn (pI x y)) ⟨0⟩
def neL (x y : List Int) : Bool := (x.length : Int) != (y.length : Int)
theorem ni_1 (x y : List Int) : T.path [true] (T.anon (niX [rI x, rI y])) = some ([(neL x y, true)], .ff) := by kernel_rfl
theorem ni_2 (x y : List Int) : T.path [false, true, true] (T.anon (niX [rI x, rI y])) = some ([(neL x y, false), (invC okIn (pI x y) ⟨0⟩, true), (decide ((eI x y).i < (x.length : Int)), true)], .s (.bool false)) := by kernel_rfl
theorem ni_3 (x y : List Int) : T.path [false, true, false] (T.anon (niX [rI x, rI y])) = some ([(neL x y, false), (invC okIn (pI x y) ⟨0⟩, true), (decide ((eI x y).i < (x.length : Int)), false)], .tt) := by kernel_rfl
theorem ni_run {x y : List Int} (h : x.length ≤ 1000000000) : ∃ v, (niX [rI x, rI y]).eval = some v ∧ flat v = true ∧ v.den nu0 = .bool (decide (x = y)) := by
  rw [← T.eval_anon (t := niX _)]
  cases q : neL x y with
  | true =>
    rw [decide_eq_false (fun e => by rw [e] at q; unfold neL at q; simp at q)]
    exact ⟨_, T.path_eval (ni_1 x y) ⟨q, trivial⟩, rfl, rfl⟩
  | false =>
    have e : x.length = y.length := by unfold neL at q; rw [bne_eq_false_iff_eq] at q; omega
    have h0 : okIn (pI x y) ⟨0⟩ := ⟨rfl, rfl, e, h, Int.le_refl _, Int.natCast_nonneg _, rfl⟩
    obtain ⟨k1, k2⟩ := endC stepIn h0
    have k1 : okIn (pI x y) (eI x y) := k1
    have k2 : goIn (pI x y) (eI x y) = false := k2
    obtain ⟨-, -, -, -, i0, i1, s⟩ := k1
    have i1 : (eI x y).i ≤ (x.length : Int) := i1
    have s : x.take (eI x y).i.toNat = y.take (eI x y).i.toNat := s
    by_cases hi : (eI x y).i < (x.length : Int)
    · have hb := in_bad k2 hi
      unfold difI at hb
      have hb : (x.getD (0 + (eI x y).i.toNat) 0 != y.getD (0 + (eI x y).i.toNat) 0) = true := hb
      rw [decide_eq_false (fun q => by rw [q] at hb; simp at hb)]
      exact ⟨_, T.path_eval (ni_2 x y) ⟨q, invC_is h0, decide_eq_true hi, trivial⟩, rfl, rfl⟩
    · rw [List.take_of_length_le (by omega), List.take_of_length_le (by omega)] at s
      rw [decide_eq_true s]
      exact ⟨_, T.path_eval (ni_3 x y) ⟨q, invC_is h0, decide_eq_false hi, trivial⟩, rfl, rfl⟩
def sameI (x y : List Int) : Bool := decide (x = y)
def niS : Eng.Spec
  | [.orow t [.int .i64] x, .orow u [.int .i64] y] => if t = 3 then if u = 3 then .ite none (decide (List.length x ≤ 1000000000)) (.ret (.s (.bool (sameI x y)))) .fail else .fail else .fail
  | _ => .fail
theorem niS_ok : SpecOk Try.prog 15 niS := niX_ok.of_den fun args v hfl h => by
  clear hfl
  unfold niS at h
  split at h
  · rename_i t x u y
    obtain ⟨q1, e1⟩ := ite_f h
    obtain ⟨q2, e2⟩ := ite_f e1
    obtain ⟨hb, e3⟩ := ite_T' e2
    obtain rfl := Option.some.inj e3
    clear h e1 e2 e3
    subst q1 q2
    obtain ⟨v', r1, r2, r3⟩ := ni_run (x := x) (y := y) (of_decide_eq_true hb)
    exact ⟨v', r1, ⟨r2, rfl⟩, r3⟩
  · cases h
end Go.Proofs.Ytjjclmgiehnkbaa.Sub

/- Layer 18: the laws' first loops: ids in steps. -/
namespace Go.Proofs.Ytjjclmgiehnkbaa.Sub
open Go.Eng Go.RowKit
set_option linter.unusedVariables false
set_option linter.unusedSimpArgs false
set_option maxRecDepth 100000
noncomputable def D0 : Cfg := ⟨Try.prog, lookG [(13, .val tdS), (12, .val scS), (11, .val ofS), (15, .val niS)], [], 0⟩
theorem D0_ok : D0.Ok := Cfg.ok ⟨tdS_ok, scS_ok, ofS_ok, niS_ok, trivial⟩ trivial
noncomputable def lpOa : Code := loopAt Try.prog 4 0
structure POa where (f : Int) (k : Int)
structure AOa where (q : Nat) (i : Int) (o : List Int)
abbrev SOa : List (Nat × Src) := [(4000, .tmp 6)]
def vsOa (p : POa) (a : AOa) : List V := [iv p.f, iv p.k, .sub 4000 1 0 a.q, iv a.i]
def bsOa (p : POa) (a : AOa) : List Blk := [.lst true 3 [.int .i64] a.o]
noncomputable def FOa (p : POa) (a : AOa) : St := mkSt [1,5,6,7] (keysR SOa) 4001 66 (vsOa p a) (bsOa p a)
noncomputable def rdOa (p : POa) (a : AOa) : T (Ex × St) := T.anon (roundN D0 noLoops lpOa [1,5,6,7] SOa 4000 4001 (mkSt [1,5,6,7] (keysR SOa) 4001 66 (vsOa p a) (bsOa p a)))
def decOa_v0 : V → Option ((Int))
  | .s (.int .i64 f) => some (f)
  | _ => none
theorem decOa_v0_ok (b : V) (x0 : (Int)) (h : decOa_v0 b = some x0) : b = iv (x0) := by
  unfold decOa_v0 at h
  split at h
  · cases h
    rfl
  · cases h
def decOa_v1 : V → Option ((Int))
  | .s (.int .i64 k) => some (k)
  | _ => none
theorem decOa_v1_ok (b : V) (x1 : (Int)) (h : decOa_v1 b = some x1) : b = iv (x1) := by
  unfold decOa_v1 at h
  split at h
  · cases h
    rfl
  · cases h
def decOa_v2 : V → Option ((Nat))
  | .sub 4000 1 0 q => some (q)
  | _ => none
theorem decOa_v2_ok (b : V) (x2 : (Nat)) (h : decOa_v2 b = some x2) : b = .sub 4000 1 0 (x2) := by
  unfold decOa_v2 at h
  split at h
  · cases h
    rfl
  · cases h
def decOa_v3 : V → Option ((Int))
  | .s (.int .i64 i) => some (i)
  | _ => none
theorem decOa_v3_ok (b : V) (x3 : (Int)) (h : decOa_v3 b = some x3) : b = iv (x3) := by
  unfold decOa_v3 at h
  split at h
  · cases h
    rfl
  · cases h
def decOa_b0 : Blk → Option ((List Int))
  | .lst true tt0 [.int .i64] o => if tt0 = 3 then some (o) else none
  | _ => none
theorem decOa_b0_ok (b : Blk) (y0 : (List Int)) (h : decOa_b0 b = some y0) : b = .lst true 3 [.int .i64] (y0) := by
  unfold decOa_b0 at h
  split at h
  · obtain ⟨e0, h⟩ := ite_some0 h
    subst e0
    cases h
    rfl
  · cases h
def decOa : List V → List Blk → Option (POa × AOa)
  | [v0, v1, v2, v3], [b0] => (decOa_v0 v0).bind fun x0 => (decOa_v1 v1).bind fun x1 => (decOa_v2 v2).bind fun x2 => (decOa_v3 v3).bind fun x3 => (decOa_b0 b0).bind fun y0 => some (⟨(x0), (x1)⟩, ⟨(x2), (x3), (y0)⟩)
  | _, _ => none
theorem decOa_ok (l : List V) (b : List Blk) (d : POa × AOa) (h : decOa l b = some d) : l = vsOa d.1 d.2 ∧ b = bsOa d.1 d.2 := by
  unfold decOa at h
  split at h
  · obtain ⟨x0, hx0, h⟩ := Option.bind_eq_some_iff.1 h
    obtain ⟨x1, hx1, h⟩ := Option.bind_eq_some_iff.1 h
    obtain ⟨x2, hx2, h⟩ := Option.bind_eq_some_iff.1 h
    obtain ⟨x3, hx3, h⟩ := Option.bind_eq_some_iff.1 h
    obtain ⟨y0, hy0, h⟩ := Option.bind_eq_some_iff.1 h
    have ex0 := decOa_v0_ok _ _ hx0
    have ex1 := decOa_v1_ok _ _ hx1
    have ex2 := decOa_v2_ok _ _ hx2
    have ex3 := decOa_v3_ok _ _ hx3
    have ey0 := decOa_b0_ok _ _ hy0
    cases h
    subst ex0 ex1 ex2 ex3 ey0
    exact ⟨rfl, rfl⟩
  · cases h
noncomputable def rgOa : Nat := (firstReg lpOa).getD 0
theorem rgOa_is : firstReg lpOa = some rgOa := by kernel_rfl
noncomputable def lpPa : Code := loopAt Try.prog 7 0
structure PPa where (f : Int) (a : Int) (b : Int) (k : Int)
structure APa where (q : Nat) (i : Int) (o : List Int)
abbrev SPa : List (Nat × Src) := [(4000, .tmp 10)]
def vsPa (p : PPa) (a : APa) : List V := [iv p.f, iv p.a, iv p.b, iv p.k, .sub 4000 1 0 a.q, iv a.i]
def bsPa (p : PPa) (a : APa) : List Blk := [.lst true 3 [.int .i64] a.o]
noncomputable def FPa (p : PPa) (a : APa) : St := mkSt [1,2,3,9,10,11] (keysR SPa) 4001 124 (vsPa p a) (bsPa p a)
noncomputable def rdPa (p : PPa) (a : APa) : T (Ex × St) := T.anon (roundN D0 noLoops lpPa [1,2,3,9,10,11] SPa 4000 4001 (mkSt [1,2,3,9,10,11] (keysR SPa) 4001 124 (vsPa p a) (bsPa p a)))
def decPa_v0 : V → Option ((Int))
  | .s (.int .i64 f) => some (f)
  | _ => none
theorem decPa_v0_ok (b : V) (x0 : (Int)) (h : decPa_v0 b = some x0) : b = iv (x0) := by
  unfold decPa_v0 at h
  split at h
  · cases h
    rfl
  · cases h
def decPa_v1 : V → Option ((Int))
  | .s (.int .i64 a) => some (a)
  | _ => none
theorem decPa_v1_ok (b : V) (x1 : (Int)) (h : decPa_v1 b = some x1) : b = iv (x1) := by
  unfold decPa_v1 at h
  split at h
  · cases h
    rfl
  · cases h
def decPa_v2 : V → Option ((Int))
  | .s (.int .i64 b) => some (b)
  | _ => none
theorem decPa_v2_ok (b : V) (x2 : (Int)) (h : decPa_v2 b = some x2) : b = iv (x2) := by
  unfold decPa_v2 at h
  split at h
  · cases h
    rfl
  · cases h
def decPa_v3 : V → Option ((Int))
  | .s (.int .i64 k) => some (k)
  | _ => none
theorem decPa_v3_ok (b : V) (x3 : (Int)) (h : decPa_v3 b = some x3) : b = iv (x3) := by
  unfold decPa_v3 at h
  split at h
  · cases h
    rfl
  · cases h
def decPa_v4 : V → Option ((Nat))
  | .sub 4000 1 0 q => some (q)
  | _ => none
theorem decPa_v4_ok (b : V) (x4 : (Nat)) (h : decPa_v4 b = some x4) : b = .sub 4000 1 0 (x4) := by
  unfold decPa_v4 at h
  split at h
  · cases h
    rfl
  · cases h
def decPa_v5 : V → Option ((Int))
  | .s (.int .i64 i) => some (i)
  | _ => none
theorem decPa_v5_ok (b : V) (x5 : (Int)) (h : decPa_v5 b = some x5) : b = iv (x5) := by
  unfold decPa_v5 at h
  split at h
  · cases h
    rfl
  · cases h
def decPa_b0 : Blk → Option ((List Int))
  | .lst true tt0 [.int .i64] o => if tt0 = 3 then some (o) else none
  | _ => none
theorem decPa_b0_ok (b : Blk) (y0 : (List Int)) (h : decPa_b0 b = some y0) : b = .lst true 3 [.int .i64] (y0) := by
  unfold decPa_b0 at h
  split at h
  · obtain ⟨e0, h⟩ := ite_some0 h
    subst e0
    cases h
    rfl
  · cases h
def decPa : List V → List Blk → Option (PPa × APa)
  | [v0, v1, v2, v3, v4, v5], [b0] => (decPa_v0 v0).bind fun x0 => (decPa_v1 v1).bind fun x1 => (decPa_v2 v2).bind fun x2 => (decPa_v3 v3).bind fun x3 => (decPa_v4 v4).bind fun x4 => (decPa_v5 v5).bind fun x5 => (decPa_b0 b0).bind fun y0 => some (⟨(x0), (x1), (x2), (x3)⟩, ⟨(x4), (x5), (y0)⟩)
  | _, _ => none
theorem decPa_ok (l : List V) (b : List Blk) (d : PPa × APa) (h : decPa l b = some d) : l = vsPa d.1 d.2 ∧ b = bsPa d.1 d.2 := by
  unfold decPa at h
  split at h
  · obtain ⟨x0, hx0, h⟩ := Option.bind_eq_some_iff.1 h
    obtain ⟨x1, hx1, h⟩ := Option.bind_eq_some_iff.1 h
    obtain ⟨x2, hx2, h⟩ := Option.bind_eq_some_iff.1 h
    obtain ⟨x3, hx3, h⟩ := Option.bind_eq_some_iff.1 h
    obtain ⟨x4, hx4, h⟩ := Option.bind_eq_some_iff.1 h
    obtain ⟨x5, hx5, h⟩ := Option.bind_eq_some_iff.1 h
    obtain ⟨y0, hy0, h⟩ := Option.bind_eq_some_iff.1 h
    have ex0 := decPa_v0_ok _ _ hx0
    have ex1 := decPa_v1_ok _ _ hx1
    have ex2 := decPa_v2_ok _ _ hx2
    have ex3 := decPa_v3_ok _ _ hx3
    have ex4 := decPa_v4_ok _ _ hx4
    have ex5 := decPa_v5_ok _ _ hx5
    have ey0 := decPa_b0_ok _ _ hy0
    cases h
    subst ex0 ex1 ex2 ex3 ex4 ex5 ey0
    exact ⟨rfl, rfl⟩
  · cases h
noncomputable def rgPa : Nat := (firstReg lpPa).getD 0
theorem rgPa_is : firstReg lpPa = some rgPa := by kernel_rfl
noncomputable def lpSa : Code := loopAt Try.prog 6 0
structure PSa where (f : Int) (a : Int) (b : Int) (k : Int)
structure ASa where (q : Nat) (i : Int) (o : List Int)
abbrev SSa : List (Nat × Src) := [(4000, .tmp 10)]
def vsSa (p : PSa) (a : ASa) : List V := [iv p.f, iv p.a, iv p.b, iv p.k, .sub 4000 1 0 a.q, iv a.i]
def bsSa (p : PSa) (a : ASa) : List Blk := [.lst true 3 [.int .i64] a.o]
noncomputable def FSa (p : PSa) (a : ASa) : St := mkSt [1,2,3,9,10,11] (keysR SSa) 4001 125 (vsSa p a) (bsSa p a)
noncomputable def rdSa (p : PSa) (a : ASa) : T (Ex × St) := T.anon (roundN D0 noLoops lpSa [1,2,3,9,10,11] SSa 4000 4001 (mkSt [1,2,3,9,10,11] (keysR SSa) 4001 125 (vsSa p a) (bsSa p a)))
def decSa_v0 : V → Option ((Int))
  | .s (.int .i64 f) => some (f)
  | _ => none
theorem decSa_v0_ok (b : V) (x0 : (Int)) (h : decSa_v0 b = some x0) : b = iv (x0) := by
  unfold decSa_v0 at h
  split at h
  · cases h
    rfl
  · cases h
def decSa_v1 : V → Option ((Int))
  | .s (.int .i64 a) => some (a)
  | _ => none
theorem decSa_v1_ok (b : V) (x1 : (Int)) (h : decSa_v1 b = some x1) : b = iv (x1) := by
  unfold decSa_v1 at h
  split at h
  · cases h
    rfl
  · cases h
def decSa_v2 : V → Option ((Int))
  | .s (.int .i64 b) => some (b)
  | _ => none
theorem decSa_v2_ok (b : V) (x2 : (Int)) (h : decSa_v2 b = some x2) : b = iv (x2) := by
  unfold decSa_v2 at h
  split at h
  · cases h
    rfl
  · cases h
def decSa_v3 : V → Option ((Int))
  | .s (.int .i64 k) => some (k)
  | _ => none
theorem decSa_v3_ok (b : V) (x3 : (Int)) (h : decSa_v3 b = some x3) : b = iv (x3) := by
  unfold decSa_v3 at h
  split at h
  · cases h
    rfl
  · cases h
def decSa_v4 : V → Option ((Nat))
  | .sub 4000 1 0 q => some (q)
  | _ => none
theorem decSa_v4_ok (b : V) (x4 : (Nat)) (h : decSa_v4 b = some x4) : b = .sub 4000 1 0 (x4) := by
  unfold decSa_v4 at h
  split at h
  · cases h
    rfl
  · cases h
def decSa_v5 : V → Option ((Int))
  | .s (.int .i64 i) => some (i)
  | _ => none
theorem decSa_v5_ok (b : V) (x5 : (Int)) (h : decSa_v5 b = some x5) : b = iv (x5) := by
  unfold decSa_v5 at h
  split at h
  · cases h
    rfl
  · cases h
def decSa_b0 : Blk → Option ((List Int))
  | .lst true tt0 [.int .i64] o => if tt0 = 3 then some (o) else none
  | _ => none
theorem decSa_b0_ok (b : Blk) (y0 : (List Int)) (h : decSa_b0 b = some y0) : b = .lst true 3 [.int .i64] (y0) := by
  unfold decSa_b0 at h
  split at h
  · obtain ⟨e0, h⟩ := ite_some0 h
    subst e0
    cases h
    rfl
  · cases h
def decSa : List V → List Blk → Option (PSa × ASa)
  | [v0, v1, v2, v3, v4, v5], [b0] => (decSa_v0 v0).bind fun x0 => (decSa_v1 v1).bind fun x1 => (decSa_v2 v2).bind fun x2 => (decSa_v3 v3).bind fun x3 => (decSa_v4 v4).bind fun x4 => (decSa_v5 v5).bind fun x5 => (decSa_b0 b0).bind fun y0 => some (⟨(x0), (x1), (x2), (x3)⟩, ⟨(x4), (x5), (y0)⟩)
  | _, _ => none
theorem decSa_ok (l : List V) (b : List Blk) (d : PSa × ASa) (h : decSa l b = some d) : l = vsSa d.1 d.2 ∧ b = bsSa d.1 d.2 := by
  unfold decSa at h
  split at h
  · obtain ⟨x0, hx0, h⟩ := Option.bind_eq_some_iff.1 h
    obtain ⟨x1, hx1, h⟩ := Option.bind_eq_some_iff.1 h
    obtain ⟨x2, hx2, h⟩ := Option.bind_eq_some_iff.1 h
    obtain ⟨x3, hx3, h⟩ := Option.bind_eq_some_iff.1 h
    obtain ⟨x4, hx4, h⟩ := Option.bind_eq_some_iff.1 h
    obtain ⟨x5, hx5, h⟩ := Option.bind_eq_some_iff.1 h
    obtain ⟨y0, hy0, h⟩ := Option.bind_eq_some_iff.1 h
    have ex0 := decSa_v0_ok _ _ hx0
    have ex1 := decSa_v1_ok _ _ hx1
    have ex2 := decSa_v2_ok _ _ hx2
    have ex3 := decSa_v3_ok _ _ hx3
    have ex4 := decSa_v4_ok _ _ hx4
    have ex5 := decSa_v5_ok _ _ hx5
    have ey0 := decSa_b0_ok _ _ hy0
    cases h
    subst ex0 ex1 ex2 ex3 ex4 ex5 ey0
    exact ⟨rfl, rfl⟩
  · cases h
noncomputable def rgSa : Nat := (firstReg lpSa).getD 0
theorem rgSa_is : firstReg lpSa = some rgSa := by kernel_rfl
end Go.Proofs.Ytjjclmgiehnkbaa.Sub

/- Layer 18: the laws' first loops: they write ids in steps. -/
namespace Go.Proofs.Ytjjclmgiehnkbaa.Sub
open Go.Eng Go.RowKit
set_option linter.unusedVariables false
set_option linter.unusedSimpArgs false
set_option maxRecDepth 100000
def baI (M f : Int) : Int := f % 18446744073709551616 % M
theorem baI_is {M f : Int} (h0 : 0 < M) (h1 : M ≤ 1000000) : IntKind.wrap .i64 (Int.tmod (IntKind.wrap .u64 f) M) = baI M f ∧ 0 ≤ baI M f ∧ baI M f < M := by
  have e0 := Int.emod_nonneg f (show (18446744073709551616 : Int) ≠ 0 by decide)
  have e1 := Int.emod_nonneg (f % 18446744073709551616) (show M ≠ 0 by omega)
  have e2 := Int.emod_lt_of_pos (f % 18446744073709551616) h0
  refine ⟨?_, e1, e2⟩
  unfold baI
  rw [wrapu64, Int.tmod_eq_emod_of_nonneg e0]
  exact wrap64_in (by omega) (by omega)
/-- k ids, c apart -/
def idL (b c : Int) (k : Nat) : List Int := (List.range k).map fun j : Nat => b + c * (j : Int)
theorem idL_add (b c : Int) (k : Nat) : idL b c (k + 1) = idL b c k ++ [b + c * (k : Int)] := by
  unfold idL
  rw [List.range_succ, List.map_append]; rfl
theorem idL_len (b c : Int) (k : Nat) : (idL b c k).length = k := by unfold idL; simp
theorem idL_get {b c : Int} {k j : Nat} (h : j < k) : (idL b c k)[j]? = some (b + c * (j : Int)) := by
  unfold idL
  rw [List.getElem?_map, List.getElem?_range h]; rfl
def xOa (p : POa) (a : AOa) : Int := IntKind.wrap .i64 (IntKind.wrap .i64 (Int.tmod (IntKind.wrap .u64 p.f) 1000000) + IntKind.wrap .i64 (3 * a.i))
def apOa (a : AOa) (x : Int) : Bool := true && (decide (a.q ≤ a.o.length) && decide (a.q + [x].length ≤ 1000000))
theorem oa_n (p : POa) (a : AOa) : T.path [true, false, true] (rdOa p a) = some ([(decide (a.i < p.k), true), ((1000000 : Int) == 0, false), (apOa a (xOa p a), true)], (.normal, FOa p ⟨a.q + [xOa p a].length, IntKind.wrap .i64 (a.i + 1), a.o.take a.q ++ [xOa p a]⟩)) := by kernel_rfl
theorem oa_x (p : POa) (a : AOa) : T.path [false] (rdOa p a) = some ([(decide (a.i < p.k), false)], (.exit 0, FOa p a)) := by kernel_rfl
structure okOa (p : POa) (a : AOa) : Prop where
  k0 : 0 ≤ p.k
  k1 : p.k ≤ 50
  i0 : 0 ≤ a.i
  i1 : a.i ≤ p.k
  q : a.q = a.o.length
  o : a.o = idL (baI 1000000 p.f) 3 a.i.toNat
def goOa (p : POa) (a : AOa) : Bool := decide (a.i < p.k)
def muOa (p : POa) (a : AOa) : Nat := (p.k - a.i).toNat
theorem stepOa (p : POa) (a : AOa) (h : okOa p a) (hg : goOa p a = true) : ∃ b, stepC okOa rdOa FOa muOa p a b := by
  have hi : a.i < p.k := of_decide_eq_true hg
  obtain ⟨h1, h2, h3, h4, h5, h6⟩ := h
  obtain ⟨b1, b2, b3⟩ := baI_is (M := 1000000) (f := p.f) (by decide) (by decide)
  have w : IntKind.wrap .i64 (a.i + 1) = a.i + 1 := wrap64_in (by omega) (by omega)
  have ol : a.o.length = a.i.toNat := by rw [h6, idL_len]
  have ex : xOa p a = baI 1000000 p.f + 3 * ((a.i.toNat : Nat) : Int) := by
    unfold xOa
    rw [b1]
    rw [wrap64_in (n := 3 * a.i) (by omega) (by omega), wrap64_in (by omega) (by omega)]
    omega
  have c3 : apOa a (xOa p a) = true := by
    unfold apOa
    rw [decide_eq_true (show a.q ≤ a.o.length by omega), decide_eq_true (show a.q + [xOa p a].length ≤ 1000000 by simp only [List.length_singleton]; omega)]; rfl
  have way := oa_n p a
  rw [w, show a.o.take a.q = a.o from List.take_of_length_le (by omega)] at way
  refine ⟨_, T.path_eval way ⟨hg, rfl, c3, trivial⟩, ⟨h1, h2, by show 0 ≤ a.i + 1; omega, by show a.i + 1 ≤ p.k; omega, ?_, ?_⟩, by show (p.k - (a.i + 1)).toNat < (p.k - a.i).toNat; omega⟩
  · show a.q + [xOa p a].length = (a.o ++ [xOa p a]).length
    rw [List.length_append]; omega
  · show a.o ++ [xOa p a] = idL (baI 1000000 p.f) 3 (a.i + 1).toNat
    rw [show (a.i + 1).toNat = a.i.toNat + 1 by omega, idL_add, ← h6, ex]
theorem exOa (p : POa) (a : AOa) (h : okOa p a) (hg : goOa p a = false) : (rdOa p a).eval = some (.exit 0, FOa p a) := T.path_eval (oa_x p a) ⟨hg, trivial⟩
noncomputable def famOa : LSpec := famC [1,5,6,7] SOa 4000 4001 66 decOa okOa goOa rdOa FOa muOa (.exit 0)
theorem lpOa_ok : LoopOk D0 lpOa famOa := famC_ok (vs := vsOa) (bs := bsOa) D0_ok mixed (noLoops_ok _) decOa_ok (by simp) (fun _ _ => rfl) (fun _ _ => rfl) stepOa exOa
def xPa (p : PPa) (a : APa) : Int := IntKind.wrap .i64 (IntKind.wrap .i64 (Int.tmod (IntKind.wrap .u64 p.f) 100000) + a.i)
def apPa (a : APa) (x : Int) : Bool := true && (decide (a.q ≤ a.o.length) && decide (a.q + [x].length ≤ 1000000))
theorem pa_n (p : PPa) (a : APa) : T.path [true, false, true] (rdPa p a) = some ([(decide (a.i < p.k), true), ((100000 : Int) == 0, false), (apPa a (xPa p a), true)], (.normal, FPa p ⟨a.q + [xPa p a].length, IntKind.wrap .i64 (a.i + 1), a.o.take a.q ++ [xPa p a]⟩)) := by kernel_rfl
theorem pa_x (p : PPa) (a : APa) : T.path [false] (rdPa p a) = some ([(decide (a.i < p.k), false)], (.exit 0, FPa p a)) := by kernel_rfl
structure okPa (p : PPa) (a : APa) : Prop where
  k0 : 0 ≤ p.k
  k1 : p.k ≤ 50
  i0 : 0 ≤ a.i
  i1 : a.i ≤ p.k
  q : a.q = a.o.length
  o : a.o = idL (baI 100000 p.f) 1 a.i.toNat
def goPa (p : PPa) (a : APa) : Bool := decide (a.i < p.k)
def muPa (p : PPa) (a : APa) : Nat := (p.k - a.i).toNat
theorem stepPa (p : PPa) (a : APa) (h : okPa p a) (hg : goPa p a = true) : ∃ b, stepC okPa rdPa FPa muPa p a b := by
  have hi : a.i < p.k := of_decide_eq_true hg
  obtain ⟨h1, h2, h3, h4, h5, h6⟩ := h
  obtain ⟨b1, b2, b3⟩ := baI_is (M := 100000) (f := p.f) (by decide) (by decide)
  have w : IntKind.wrap .i64 (a.i + 1) = a.i + 1 := wrap64_in (by omega) (by omega)
  have ol : a.o.length = a.i.toNat := by rw [h6, idL_len]
  have ex : xPa p a = baI 100000 p.f + 1 * ((a.i.toNat : Nat) : Int) := by
    unfold xPa
    rw [b1]
    rw [wrap64_in (by omega) (by omega)]
    omega
  have c3 : apPa a (xPa p a) = true := by
    unfold apPa
    rw [decide_eq_true (show a.q ≤ a.o.length by omega), decide_eq_true (show a.q + [xPa p a].length ≤ 1000000 by simp only [List.length_singleton]; omega)]; rfl
  have way := pa_n p a
  rw [w, show a.o.take a.q = a.o from List.take_of_length_le (by omega)] at way
  refine ⟨_, T.path_eval way ⟨hg, rfl, c3, trivial⟩, ⟨h1, h2, by show 0 ≤ a.i + 1; omega, by show a.i + 1 ≤ p.k; omega, ?_, ?_⟩, by show (p.k - (a.i + 1)).toNat < (p.k - a.i).toNat; omega⟩
  · show a.q + [xPa p a].length = (a.o ++ [xPa p a]).length
    rw [List.length_append]; omega
  · show a.o ++ [xPa p a] = idL (baI 100000 p.f) 1 (a.i + 1).toNat
    rw [show (a.i + 1).toNat = a.i.toNat + 1 by omega, idL_add, ← h6, ex]
theorem exPa (p : PPa) (a : APa) (h : okPa p a) (hg : goPa p a = false) : (rdPa p a).eval = some (.exit 0, FPa p a) := T.path_eval (pa_x p a) ⟨hg, trivial⟩
noncomputable def famPa : LSpec := famC [1,2,3,9,10,11] SPa 4000 4001 124 decPa okPa goPa rdPa FPa muPa (.exit 0)
theorem lpPa_ok : LoopOk D0 lpPa famPa := famC_ok (vs := vsPa) (bs := bsPa) D0_ok mixed (noLoops_ok _) decPa_ok (by simp) (fun _ _ => rfl) (fun _ _ => rfl) stepPa exPa
def xSa (p : PSa) (a : ASa) : Int := IntKind.wrap .i64 (IntKind.wrap .i64 (Int.tmod (IntKind.wrap .u64 p.f) 100000) + IntKind.wrap .i64 (a.i * 7))
def apSa (a : ASa) (x : Int) : Bool := true && (decide (a.q ≤ a.o.length) && decide (a.q + [x].length ≤ 1000000))
theorem sa_n (p : PSa) (a : ASa) : T.path [true, false, true] (rdSa p a) = some ([(decide (a.i < p.k), true), ((100000 : Int) == 0, false), (apSa a (xSa p a), true)], (.normal, FSa p ⟨a.q + [xSa p a].length, IntKind.wrap .i64 (a.i + 1), a.o.take a.q ++ [xSa p a]⟩)) := by kernel_rfl
theorem sa_x (p : PSa) (a : ASa) : T.path [false] (rdSa p a) = some ([(decide (a.i < p.k), false)], (.exit 0, FSa p a)) := by kernel_rfl
structure okSa (p : PSa) (a : ASa) : Prop where
  k0 : 0 ≤ p.k
  k1 : p.k ≤ 50
  i0 : 0 ≤ a.i
  i1 : a.i ≤ p.k
  q : a.q = a.o.length
  o : a.o = idL (baI 100000 p.f) 7 a.i.toNat
def goSa (p : PSa) (a : ASa) : Bool := decide (a.i < p.k)
def muSa (p : PSa) (a : ASa) : Nat := (p.k - a.i).toNat
theorem stepSa (p : PSa) (a : ASa) (h : okSa p a) (hg : goSa p a = true) : ∃ b, stepC okSa rdSa FSa muSa p a b := by
  have hi : a.i < p.k := of_decide_eq_true hg
  obtain ⟨h1, h2, h3, h4, h5, h6⟩ := h
  obtain ⟨b1, b2, b3⟩ := baI_is (M := 100000) (f := p.f) (by decide) (by decide)
  have w : IntKind.wrap .i64 (a.i + 1) = a.i + 1 := wrap64_in (by omega) (by omega)
  have ol : a.o.length = a.i.toNat := by rw [h6, idL_len]
  have ex : xSa p a = baI 100000 p.f + 7 * ((a.i.toNat : Nat) : Int) := by
    unfold xSa
    rw [b1]
    rw [wrap64_in (n := a.i * 7) (by omega) (by omega), wrap64_in (by omega) (by omega)]
    omega
  have c3 : apSa a (xSa p a) = true := by
    unfold apSa
    rw [decide_eq_true (show a.q ≤ a.o.length by omega), decide_eq_true (show a.q + [xSa p a].length ≤ 1000000 by simp only [List.length_singleton]; omega)]; rfl
  have way := sa_n p a
  rw [w, show a.o.take a.q = a.o from List.take_of_length_le (by omega)] at way
  refine ⟨_, T.path_eval way ⟨hg, rfl, c3, trivial⟩, ⟨h1, h2, by show 0 ≤ a.i + 1; omega, by show a.i + 1 ≤ p.k; omega, ?_, ?_⟩, by show (p.k - (a.i + 1)).toNat < (p.k - a.i).toNat; omega⟩
  · show a.q + [xSa p a].length = (a.o ++ [xSa p a]).length
    rw [List.length_append]; omega
  · show a.o ++ [xSa p a] = idL (baI 100000 p.f) 7 (a.i + 1).toNat
    rw [show (a.i + 1).toNat = a.i.toNat + 1 by omega, idL_add, ← h6, ex]
theorem exSa (p : PSa) (a : ASa) (h : okSa p a) (hg : goSa p a = false) : (rdSa p a).eval = some (.exit 0, FSa p a) := T.path_eval (sa_x p a) ⟨hg, trivial⟩
noncomputable def famSa : LSpec := famC [1,2,3,9,10,11] SSa 4000 4001 125 decSa okSa goSa rdSa FSa muSa (.exit 0)
theorem lpSa_ok : LoopOk D0 lpSa famSa := famC_ok (vs := vsSa) (bs := bsSa) D0_ok mixed (noLoops_ok _) decSa_ok (by simp) (fun _ _ => rfl) (fun _ _ => rfl) stepSa exSa
end Go.Proofs.Ytjjclmgiehnkbaa.Sub

/- Layer 18: of ids that are unlike: plain facts. -/
namespace Go.Proofs.Ytjjclmgiehnkbaa.Sub
set_option linter.unusedVariables false
set_option linter.unusedSimpArgs false
theorem max_split : ∀ q : List Rv, q ≠ [] → ∃ (t : Rv) (f : List Rv), (f ++ [t]).Perm q ∧ ∀ a ∈ f, lt3 t a = false
  | [], h => absurd rfl h
  | [y], _ => ⟨y, [], List.Perm.refl _, fun a h => (by cases h)⟩
  | y :: z :: r, _ => by
    obtain ⟨t, f, h1, h2⟩ := max_split (z :: r) (by simp)
    cases hb : lt3 t y with
    | true =>
      refine ⟨y, f ++ [t], ?_, fun a ha => ?_⟩
      · exact List.perm_append_comm.trans (List.Perm.cons y h1)
      · have hn := lt3_asym hb
        rcases List.mem_append.1 ha with q | q
        · exact nlt_trans hn (h2 a q)
        · rw [List.mem_singleton.1 q]; exact hn
    | false =>
      refine ⟨t, y :: f, List.Perm.cons y h1, fun a ha => ?_⟩
      rcases List.mem_cons.1 ha with rfl | q
      · exact hb
      · exact h2 a q
theorem spl_exists (m : Nat) : ∀ (n : Nat) (L : List Rv), L.length = n → L.Nodup → ∃ f, Spl m f L
  | 0, L, hn, _ => by
    have : L = [] := List.eq_nil_of_length_eq_zero hn
    subst this
    exact ⟨[], Spl.nil m⟩
  | n + 1, L, hn, hd => by
    obtain ⟨L', x, rfl⟩ : ∃ L' x, L = L' ++ [x] := by
      have hne : L ≠ [] := fun e => by rw [e] at hn; cases hn
      exact ⟨L.dropLast, L.getLast hne, (List.dropLast_concat_getLast hne).symm⟩
    rw [List.length_append] at hn
    obtain ⟨f, hf⟩ := spl_exists m n L' (by simpa using hn) (List.nodup_append.1 hd).1
    by_cases q : f.length + 1 ≤ m
    · exact ⟨f ++ [x], hf.put q (List.Perm.refl _)⟩
    · have hm : f.length = m := by
        obtain ⟨g, _, _, e⟩ := hf
        omega
      obtain ⟨t, f', h1, h2⟩ := max_split (f ++ [x]) (by simp)
      exact ⟨f', hf.pop hm h1 hd h2⟩
def lt2 (x y : Int) : Bool := decide (scI x < scI y) || (decide (scI x = scI y) && decide (x < y))
def ofN (ids : List Int) (m : Nat) : List Int := ids.filter fun x => decide (ids.countP (fun y => lt2 y x) < m)
theorem rivals_ids : ∀ (ids : List Int) (k : Nat), (rivF k ids).map (fun x => x.2.1) = ids
  | [], _ => rfl
  | x :: r, k => by simp only [rivF, List.map_cons, rivals_ids r (k + 1)]
theorem rivF_is : ∀ (ids : List Int) (k : Nat), ∀ x ∈ rivF k ids, x.1 = scI x.2.1
  | [], _, x, h => by cases h
  | y :: r, k, x, h => by
    rcases List.mem_cons.1 h with rfl | h
    · rfl
    · exact rivF_is r (k + 1) x h
theorem rivF_one : ∀ (ids : List Int) (k : Nat), ids.Nodup → ∀ x ∈ rivF k ids, ∀ y ∈ rivF k ids, x.2.1 = y.2.1 → x = y
  | [], _, _, x, h => by cases h
  | z :: r, k, hn, x, hx => by
    intro y hy e
    have hmem : ∀ u ∈ rivF (k + 1) r, u.2.1 ∈ r := fun u hu => by
      rw [← rivals_ids r (k + 1)]
      exact List.mem_map_of_mem (f := fun x : Rv => x.2.1) hu
    obtain ⟨n1, n2⟩ := List.nodup_cons.1 hn
    rcases List.mem_cons.1 hx with rfl | hx
    · rcases List.mem_cons.1 hy with rfl | hy
      · rfl
      · have e : z = y.2.1 := e
        rw [e] at n1
        exact absurd (hmem y hy) n1
    · rcases List.mem_cons.1 hy with rfl | hy
      · have e : x.2.1 = z := e
        rw [← e] at n1
        exact absurd (hmem x hx) n1
      · exact rivF_one r (k + 1) n2 x hx y hy e
theorem lt3_lt2 {ids : List Int} (hn : ids.Nodup) {x y : Rv} (hx : x ∈ rivals ids) (hy : y ∈ rivals ids) : lt3 x y = lt2 x.2.1 y.2.1 := by
  have ex := rivF_is ids 0 x hx
  have ey := rivF_is ids 0 y hy
  by_cases e : x.2.1 = y.2.1
  · have := rivF_one ids 0 hn x hx y hy e
    rw [this, lt3_irr]
    unfold lt2
    simp
  · have : lt3 x y = true ↔ lt2 x.2.1 y.2.1 = true := by
      rw [lt3_iff, ex, ey]
      unfold lt2
      simp only [Bool.or_eq_true, Bool.and_eq_true, decide_eq_true_eq]
      omega
    cases h1 : lt3 x y <;> cases h2 : lt2 x.2.1 y.2.1 <;> simp_all
theorem firsts_ids {ids : List Int} (hn : ids.Nodup) (m : Nat) : (firsts (rivals ids) m).map (fun x => x.2.1) = ofN ids m := by
  have e := rivals_ids ids 0
  have hr : ∀ x ∈ rivals ids, rank (rivals ids) x = ids.countP (fun y => lt2 y x.2.1) := fun x hx => by
    conv => rhs; rw [← e]
    rw [List.countP_map]
    unfold rank
    exact List.countP_congr fun y hy => by rw [lt3_lt2 hn hy hx]; rfl
  unfold ofN
  conv => rhs; rw [show List.filter (fun x => decide (ids.countP (fun y => lt2 y x) < m)) ids = List.filter (fun x => decide (ids.countP (fun y => lt2 y x) < m)) ((rivals ids).map (fun x => x.2.1)) by rw [show (rivals ids).map (fun x => x.2.1) = ids from e]]
  rw [List.filter_map]
  unfold firsts
  congr 1
  exact List.filter_congr fun x hx => by rw [hr x hx]; rfl
theorem ofN_len {ids : List Int} (hn : ids.Nodup) (m : Nat) : (ofN ids m).length = min m ids.length := by
  rw [← firsts_ids hn, List.length_map]
  have hl : (rivals ids).length = ids.length := rivF_len _ _
  by_cases q : m ≤ ids.length
  · obtain ⟨f, hf⟩ := spl_exists m _ (rivals ids) rfl (rivals_nodup ids)
    rw [firsts_len hf (by omega)]; omega
  · have : firsts (rivals ids) m = rivals ids := by
      unfold firsts
      rw [List.filter_eq_self]
      intro x hx
      refine decide_eq_true ?_
      unfold rank
      exact Nat.lt_of_le_of_lt List.countP_le_length (by omega)
    rw [this]; omega
theorem ofV_is {ids : List Int} (hn : ids.Nodup) {m : Int} (hm : 1 ≤ m) : ofV ids m = ofN ids m.toNat := by
  unfold ofV
  by_cases q : (ids.length : Int) ≤ m
  · rw [if_pos (.inr q)]
    unfold ofN
    symm
    rw [List.filter_eq_self]
    intro x hx
    refine decide_eq_true ?_
    have h1 : ids.countP (fun y => lt2 y x) < ids.length := by
      rw [List.countP_eq_length_filter]
      exact List.length_filter_lt_length_iff_exists.2 ⟨x, hx, by unfold lt2; simp⟩
    omega
  · rw [if_neg (by omega), firsts_ids hn]
theorem ofV_0 (ids : List Int) : ofV ids 0 = ids := by
  unfold ofV
  rw [if_pos (.inl (by omega))]
theorem ofN_sub {ids : List Int} {m n : Nat} (h : m ≤ n) : (ofN ids m).Sublist (ofN ids n) := by
  have : ofN ids m = (ofN ids n).filter fun x => decide (ids.countP (fun y => lt2 y x) < m) := by
    unfold ofN
    rw [List.filter_filter]
    refine List.filter_congr fun x _ => ?_
    by_cases q : ids.countP (fun y => lt2 y x) < m
    · rw [decide_eq_true q, decide_eq_true (show ids.countP (fun y => lt2 y x) < n by omega)]; rfl
    · rw [decide_eq_false q]; rfl
  rw [this]
  exact List.filter_sublist
end Go.Proofs.Ytjjclmgiehnkbaa.Sub

/- Layer 18: SubsetOne: its second loop. -/
namespace Go.Proofs.Ytjjclmgiehnkbaa.Sub
open Go.Eng Go.RowKit
set_option linter.unusedVariables false
set_option linter.unusedSimpArgs false
set_option maxRecDepth 100000
noncomputable def lpOb : Code := loopAt Try.prog 4 1
structure POb where (k : Int) (q : Nat) (u : Nat) (ids : List Int) (l : List Int)
structure AOb where (b : Bool) (i : Int)
abbrev SOb : List (Nat × Src) := [(4000, .same), (4001, .same)]
def vsOb (p : POb) (a : AOb) : List V := [iv p.k, .sub 4000 1 0 p.q, .sub 4001 1 0 p.u, bv a.b, iv a.i]
def bsOb (p : POb) (a : AOb) : List Blk := [.lst true 3 [.int .i64] p.ids, .lst true 3 [.int .i64] p.l]
noncomputable def FOb (p : POb) (a : AOb) : St := mkSt [5,6,8,9,10] (keysR SOb) 5000 66 (vsOb p a) (bsOb p a)
abbrev SObx : List (Nat × Src) := [(4000, .same), (4001, .same)]
noncomputable def rdOb (p : POb) (a : AOb) : T (Ex × St) := T.anon (roundX D0 noLoops lpOb [5,6,8,9,10] SOb [4,9] SObx 5000 5000 (mkSt [5,6,8,9,10] (keysR SOb) 5000 66 (vsOb p a) (bsOb p a)))
def decOb_v0 : V → Option ((Int))
  | .s (.int .i64 k) => some (k)
  | _ => none
theorem decOb_v0_ok (b : V) (x0 : (Int)) (h : decOb_v0 b = some x0) : b = iv (x0) := by
  unfold decOb_v0 at h
  split at h
  · cases h
    rfl
  · cases h
def decOb_v1 : V → Option ((Nat))
  | .sub 4000 1 0 q => some (q)
  | _ => none
theorem decOb_v1_ok (b : V) (x1 : (Nat)) (h : decOb_v1 b = some x1) : b = .sub 4000 1 0 (x1) := by
  unfold decOb_v1 at h
  split at h
  · cases h
    rfl
  · cases h
def decOb_v2 : V → Option ((Nat))
  | .sub 4001 1 0 u => some (u)
  | _ => none
theorem decOb_v2_ok (b : V) (x2 : (Nat)) (h : decOb_v2 b = some x2) : b = .sub 4001 1 0 (x2) := by
  unfold decOb_v2 at h
  split at h
  · cases h
    rfl
  · cases h
def decOb_v3 : V → Option ((Bool))
  | .s (.bool b) => some (b)
  | _ => none
theorem decOb_v3_ok (b : V) (x3 : (Bool)) (h : decOb_v3 b = some x3) : b = bv (x3) := by
  unfold decOb_v3 at h
  split at h
  · cases h
    rfl
  · cases h
def decOb_v4 : V → Option ((Int))
  | .s (.int .i64 i) => some (i)
  | _ => none
theorem decOb_v4_ok (b : V) (x4 : (Int)) (h : decOb_v4 b = some x4) : b = iv (x4) := by
  unfold decOb_v4 at h
  split at h
  · cases h
    rfl
  · cases h
def decOb_b0 : Blk → Option ((List Int))
  | .lst true tt0 [.int .i64] ids => if tt0 = 3 then some (ids) else none
  | _ => none
theorem decOb_b0_ok (b : Blk) (y0 : (List Int)) (h : decOb_b0 b = some y0) : b = .lst true 3 [.int .i64] (y0) := by
  unfold decOb_b0 at h
  split at h
  · obtain ⟨e0, h⟩ := ite_some0 h
    subst e0
    cases h
    rfl
  · cases h
def decOb_b1 : Blk → Option ((List Int))
  | .lst true tt0 [.int .i64] l => if tt0 = 3 then some (l) else none
  | _ => none
theorem decOb_b1_ok (b : Blk) (y1 : (List Int)) (h : decOb_b1 b = some y1) : b = .lst true 3 [.int .i64] (y1) := by
  unfold decOb_b1 at h
  split at h
  · obtain ⟨e0, h⟩ := ite_some0 h
    subst e0
    cases h
    rfl
  · cases h
def decOb : List V → List Blk → Option (POb × AOb)
  | [v0, v1, v2, v3, v4], [b0, b1] => (decOb_v0 v0).bind fun x0 => (decOb_v1 v1).bind fun x1 => (decOb_v2 v2).bind fun x2 => (decOb_v3 v3).bind fun x3 => (decOb_v4 v4).bind fun x4 => (decOb_b0 b0).bind fun y0 => (decOb_b1 b1).bind fun y1 => some (⟨(x0), (x1), (x2), (y0), (y1)⟩, ⟨(x3), (x4)⟩)
  | _, _ => none
theorem decOb_ok (l : List V) (b : List Blk) (d : POb × AOb) (h : decOb l b = some d) : l = vsOb d.1 d.2 ∧ b = bsOb d.1 d.2 := by
  unfold decOb at h
  split at h
  · obtain ⟨x0, hx0, h⟩ := Option.bind_eq_some_iff.1 h
    obtain ⟨x1, hx1, h⟩ := Option.bind_eq_some_iff.1 h
    obtain ⟨x2, hx2, h⟩ := Option.bind_eq_some_iff.1 h
    obtain ⟨x3, hx3, h⟩ := Option.bind_eq_some_iff.1 h
    obtain ⟨x4, hx4, h⟩ := Option.bind_eq_some_iff.1 h
    obtain ⟨y0, hy0, h⟩ := Option.bind_eq_some_iff.1 h
    obtain ⟨y1, hy1, h⟩ := Option.bind_eq_some_iff.1 h
    have ex0 := decOb_v0_ok _ _ hx0
    have ex1 := decOb_v1_ok _ _ hx1
    have ex2 := decOb_v2_ok _ _ hx2
    have ex3 := decOb_v3_ok _ _ hx3
    have ex4 := decOb_v4_ok _ _ hx4
    have ey0 := decOb_b0_ok _ _ hy0
    have ey1 := decOb_b1_ok _ _ hy1
    cases h
    subst ex0 ex1 ex2 ex3 ex4 ey0 ey1
    exact ⟨rfl, rfl⟩
  · cases h
noncomputable def rgOb : Nat := (firstReg lpOb).getD 0
theorem rgOb_is : firstReg lpOb = some rgOb := by kernel_rfl
def c3B (p : POb) : Bool := decide ((0 : Int) ≤ 0) && (decide ((0 : Int) < (p.u : Int)) && decide (0 + Int.toNat 0 < p.l.length))
def c4B (p : POb) : Bool := decide (0 + Int.toNat 0 < p.l.length)
def c5B (p : POb) (i : Int) : Bool := decide (scI (p.ids.getD (0 + i.toNat) 0) < scI (p.l.getD (0 + Int.toNat 0) 0))
def eqB (p : POb) (i : Int) : Bool := p.ids.getD (0 + i.toNat) 0 == p.l.getD (0 + Int.toNat 0) 0
def h0B (p : POb) (i : Int) : List (Bool × Bool) := [(decide (i < p.k), true), (idx p.q p.ids i, true), (ilK p.ids i, true), (c3B p, true), (c4B p, true), (c5B p i, false)]
theorem ob_t (p : POb) (i : Int) : T.path [true, true, true, true, true, false, false, false, false, false, false, false, false, false, true] (rdOb p ⟨true, i⟩) = some (h0B p i ++ [(false, false), (false, false), (false, false), (false, false), (false, false), (false, false), (false, false), (false, false), (true, true)], (.normal, FOb p ⟨true, IntKind.wrap .i64 (i + 1)⟩)) := by kernel_rfl
theorem ob_f (p : POb) (i : Int) : T.path [true, true, true, true, true, false, true, true, true, true, true, true, true, true, true, true, true, true, false] (rdOb p ⟨false, i⟩) = some (h0B p i ++ [(true, true), (true, true), (true, true), (idx p.q p.ids i, true), (true, true), (ilK p.ids i, true), (true, true), (true, true), (c3B p, true), (true, true), (c4B p, true), (true, true), (false, false)], (.normal, FOb p ⟨eqB p i, IntKind.wrap .i64 (i + 1)⟩)) := by kernel_rfl
def stOb (p : POb) (a : AOb) : St := mkSt [4, 9] (keysR SObx) 5000 66 [.junk, bv a.b] (bsOb p a)
theorem ob_x (p : POb) (a : AOb) : T.path [false] (rdOb p a) = some ([(decide (a.i < p.k), false)], (.exit 2, stOb p a)) := by kernel_rfl
structure okOb (p : POb) (a : AOb) : Prop where
  k : p.k = (p.ids.length : Int)
  q : p.q = p.ids.length
  k1 : p.k ≤ 50
  u : p.u = p.l.length
  l : p.l.length = 1
  m : ∀ y ∈ p.ids, ¬ scI y < scI (p.l.getD 0 0)
  i0 : 0 ≤ a.i
  i1 : a.i ≤ p.k
  b : a.b = (p.ids.take a.i.toNat).any (fun y => y == p.l.getD 0 0)
def goOb (p : POb) (a : AOb) : Bool := decide (a.i < p.k)
def muOb (p : POb) (a : AOb) : Nat := (p.k - a.i).toNat
theorem stepOb (p : POb) (a : AOb) (h : okOb p a) (hg : goOb p a = true) : ∃ b, stepC okOb rdOb FOb muOb p a b := by
  have hi : a.i < p.k := of_decide_eq_true hg
  obtain ⟨b, i⟩ := a
  obtain ⟨h1, h2, h3, h4, h5, h6, h7, h8, h9⟩ := h
  have hi : i < p.k := hi
  have h7 : 0 ≤ i := h7
  have h9 : b = (p.ids.take i.toNat).any (fun y => y == p.l.getD 0 0) := h9
  have hl : i.toNat < p.ids.length := by omega
  have w : IntKind.wrap .i64 (i + 1) = i + 1 := wrap64_in (by omega) (by omega)
  have c1 : idx p.q p.ids i = true := by
    unfold idx
    rw [decide_eq_true h7, decide_eq_true (show i < (p.q : Int) by omega), decide_eq_true (show 0 + i.toNat < p.ids.length by omega)]; rfl
  have c2 : ilK p.ids i = true := decide_eq_true (by omega)
  have c3 : c3B p = true := by
    unfold c3B
    rw [decide_eq_true (show (0 : Int) < (p.u : Int) by omega), decide_eq_true (show 0 + Int.toNat 0 < p.l.length by rw [h5]; decide)]; rfl
  have c4 : c4B p = true := decide_eq_true (by rw [h5]; decide)
  have c5 : c5B p i = false := decide_eq_false (by rw [getD_at hl]; exact h6 _ (List.getElem_mem hl))
  have et : p.ids.take (i + 1).toNat = p.ids.take i.toNat ++ [p.ids[i.toNat]] := by
    rw [show (i + 1).toNat = i.toNat + 1 by omega, List.take_add_one, List.getElem?_eq_getElem hl]; rfl
  have mu : ∀ b, muOb p ⟨b, i + 1⟩ < muOb p ⟨b, i⟩ := fun b => by show (p.k - (i + 1)).toNat < (p.k - i).toNat; omega
  have hb : allSay (h0B p i) := ⟨hg, c1, c2, c3, c4, c5, trivial⟩
  have new : ∀ b' : Bool, b' = (b || eqB p i) → okOb p ⟨b', i + 1⟩ := fun b' e => ⟨h1, h2, h3, h4, h5, h6, by show 0 ≤ i + 1; omega, by show i + 1 ≤ p.k; omega, by
    show b' = (p.ids.take (i + 1).toNat).any _
    rw [et, List.any_append, ← h9, e]
    unfold eqB
    rw [getD_at hl]
    simp⟩
  cases b with
  | true =>
    have way := ob_t p i
    rw [w] at way
    exact ⟨_, T.path_eval way (allSay_append hb ⟨rfl, rfl, rfl, rfl, rfl, rfl, rfl, rfl, rfl, trivial⟩), new true rfl, mu _⟩
  | false =>
    have way := ob_f p i
    rw [w] at way
    exact ⟨_, T.path_eval way (allSay_append hb ⟨rfl, rfl, rfl, c1, rfl, c2, rfl, rfl, c3, rfl, c4, rfl, rfl, trivial⟩), new (eqB p i) rfl, mu _⟩
def outOb (p : POb) (a : AOb) : T (Ex × St) := .ret (.exit 2, stOb p a)
theorem exOb (p : POb) (a : AOb) (h : okOb p a) (hg : goOb p a = false) (r : Ex × St) (hr : (outOb p a).eval = some r) : r.1 ≠ .normal ∧ (rdOb p a).eval = some r := by
  obtain rfl := Option.some.inj hr
  exact ⟨by simp, T.path_eval (ob_x p a) ⟨hg, trivial⟩⟩
noncomputable def famOb : LSpec := famE [5,6,8,9,10] SOb SObx 5000 5000 66 decOb okOb goOb rdOb FOb muOb outOb
theorem lpOb_ok : LoopOk D0 lpOb famOb := famE_ok (vs := vsOb) (bs := bsOb) D0_ok mixed (noLoops_ok _) decOb_ok (fun _ _ => rfl) (fun _ _ => rfl) stepOb exOb
noncomputable def onX : Eng.Spec := execS D0 (byReg [(rgOa, famOa), (rgOb, famOb)]) 4
theorem onX_ok : SpecOk Try.prog 4 onX := execS_loops D0_ok mixed Try.func4 (by kernel_rfl) (by kernel_rfl) (two_lp (c := lpOa) (c' := lpOb) (by kernel_rfl) rgOa_is rgOb_is (by kernel_rfl) lpOa_ok lpOb_ok)
def kO (n : Int) : Int := IntKind.wrap .i64 (1 + IntKind.wrap .i64 (Int.tmod (IntKind.wrap .u64 n) 40))
def pOa (n f : Int) : POa := ⟨f, kO n⟩
def aOa : AOa := ⟨0, 0, []⟩
noncomputable def eOa (n f : Int) : AOa := endW (nxtC okOa goOa rdOa FOa muOa (pOa n f)) aOa
noncomputable def idsO (n f : Int) : List Int := List.take (eOa n f).q (List.drop 0 (eOa n f).o)
noncomputable def lO (n f : Int) : List Int := ofV (idsO n f) 1
noncomputable def pOb (n f : Int) : POb := ⟨kO n, (eOa n f).q, (lO n f).length, (eOa n f).o, lO n f⟩
def aOb : AOb := ⟨false, 0⟩
noncomputable def eOb (n f : Int) : AOb := endW (nxtC okOb goOb rdOb FOb muOb (pOb n f)) aOb
end Go.Proofs.Ytjjclmgiehnkbaa.Sub

/- Layer 18: SubsetOne: the law run. -/
namespace Go.Proofs.Ytjjclmgiehnkbaa.Sub
open Go.Eng Go.RowKit
set_option linter.unusedVariables false
set_option linter.unusedSimpArgs false
set_option maxRecDepth 100000
theorem one_way (n f : Int) : T.path [false, true, true, true, false, true] (T.anon (onX [iv n, iv f])) = some ([((40 : Int) == 0, false), (invC okOa (pOa n f) aOa, true), (decide (0 + (eOa n f).q ≤ (eOa n f).o.length), true), (decide ((idsO n f).length ≤ 1000000), true), (((lO n f).length : Int) != 1, false), (invC okOb (pOb n f) aOb, true)], .s (.bool (eOb n f).b)) := by kernel_rfl
theorem idL_nodup (b : Int) {c : Int} (hc : 0 < c) (k : Nat) : (idL b c k).Nodup := by
  unfold idL List.Nodup
  rw [List.pairwise_map]
  refine List.nodup_range.imp fun {i j} h e => h ?_
  have e1 : c * (i : Int) = c * (j : Int) := by omega
  have := Int.eq_of_mul_eq_mul_left (show c ≠ 0 by omega) e1
  omega
theorem ofN_mem {ids : List Int} {m : Nat} {x : Int} (h : x ∈ ofN ids m) : x ∈ ids ∧ ids.countP (fun y => lt2 y x) < m := by
  unfold ofN at h
  obtain ⟨h1, h2⟩ := List.mem_filter.1 h
  exact ⟨h1, of_decide_eq_true h2⟩
theorem one_least {ids : List Int} {x : Int} (h : x ∈ ofN ids 1) : ∀ y ∈ ids, ¬ scI y < scI x := by
  intro y hy hlt
  have h0 : ids.countP (fun y => lt2 y x) = 0 := by have := (ofN_mem h).2; omega
  have := List.countP_eq_zero.1 h0 y hy
  unfold lt2 at this
  rw [decide_eq_true hlt] at this
  simp at this
theorem kO_is (n : Int) : 1 ≤ kO n ∧ kO n ≤ 40 := by
  obtain ⟨e1, e2, e3⟩ := baI_is (M := 40) (f := n) (by decide) (by decide)
  unfold kO
  rw [e1, wrap64_in (by omega) (by omega)]
  omega
theorem one_run (n f : Int) : (onX [iv n, iv f]).yes := by
  unfold T.yes
  rw [← T.eval_anon (t := onX _)]
  refine .inr ?_
  obtain ⟨kn1, kn2⟩ := kO_is n
  have h0 : okOa (pOa n f) aOa := ⟨by show 0 ≤ kO n; omega, by show kO n ≤ 50; omega, Int.le_refl _, by show 0 ≤ kO n; omega, rfl, rfl⟩
  obtain ⟨k1, k2⟩ := endC stepOa h0
  have k1 : okOa (pOa n f) (eOa n f) := k1
  have k2 : goOa (pOa n f) (eOa n f) = false := k2
  obtain ⟨-, -, i0, i1, q, o⟩ := k1
  have hi : ¬ (eOa n f).i < kO n := of_decide_eq_false k2
  have i1 : (eOa n f).i ≤ kO n := i1
  have o : (eOa n f).o = idL (baI 1000000 f) 3 (eOa n f).i.toNat := o
  rw [show (eOa n f).i.toNat = (kO n).toNat by omega] at o
  have ol : (eOa n f).o.length = (kO n).toNat := by rw [o, idL_len]
  have ei : idsO n f = (eOa n f).o := by unfold idsO; rw [List.drop_zero, q, List.take_length]
  have nd : (eOa n f).o.Nodup := by rw [o]; exact idL_nodup _ (by decide) _
  have el : lO n f = ofN (eOa n f).o 1 := by unfold lO; rw [ei, ofV_is nd (by decide)]; rfl
  have ell : (lO n f).length = 1 := by rw [el, ofN_len nd]; omega
  have hx : (lO n f).getD 0 0 ∈ ofN (eOa n f).o 1 := by
    rw [← el, List.getD_eq_getElem?_getD, List.getElem?_eq_getElem (by omega)]
    exact List.getElem_mem _
  have g0 : okOb (pOb n f) aOb := by
    refine ⟨?_, q, by show kO n ≤ 50; omega, rfl, ell, one_least hx, Int.le_refl _, by show 0 ≤ kO n; omega, rfl⟩
    show kO n = ((eOa n f).o.length : Int)
    omega
  obtain ⟨j1, j2⟩ := endC stepOb g0
  have j1 : okOb (pOb n f) (eOb n f) := j1
  have j2 : goOb (pOb n f) (eOb n f) = false := j2
  have hj : ¬ (eOb n f).i < kO n := of_decide_eq_false j2
  have hb : (eOb n f).b = true := by
    rw [j1.b]
    show (List.take (eOb n f).i.toNat (eOa n f).o).any (fun y => y == (lO n f).getD 0 0) = true
    rw [List.take_of_length_le (by omega), List.any_eq_true]
    exact ⟨_, (ofN_mem hx).1, beq_self_eq_true _⟩
  have way := one_way n f
  rw [hb] at way
  exact T.path_eval way ⟨rfl, invC_is h0, decide_eq_true (by omega), decide_eq_true (by rw [ei]; omega), by rw [ell]; rfl, invC_is g0, trivial⟩
theorem one_walk (a0 : Int) (w0 : (Lit.int .i64 a0).wf = true) (a1 : Int) (w1 : (Lit.int .i64 a1).wf = true) (w : World) :
    Calls Try.prog 4 #[.int .i64 a0, .int .i64 a1] w fun e w' => e = .returned (.bool true) ∧ Below w.heap.size w w' :=
  Law.law_rows (args := [iv a0, iv a1]) (xs := [.int .i64 a0, .int .i64 a1]) onX_ok rfl (one_run a0 a1) w ⟨rfl, rfl, trivial⟩
end Go.Proofs.Ytjjclmgiehnkbaa.Sub

/- Layer 18: SubsetStays: its inner loop. -/
namespace Go.Proofs.Ytjjclmgiehnkbaa.Sub
open Go.Eng Go.RowKit
set_option linter.unusedVariables false
set_option linter.unusedSimpArgs false
set_option maxRecDepth 100000
noncomputable def lpSb0 : Code := loopAt Try.prog 6 1
noncomputable def lpSc0 : Code := (loopsIn lpSb0).getD 0 .skip
noncomputable def lpSc : Code := lpSc0
structure PSc where (d : Nat) (w : Int) (u : Nat) (v : Nat) (x : Int) (i : Int) (ids : List Int) (p : List Int) (q : List Int)
structure ASc where (b : Bool) (j : Int)
abbrev SSc : List (Nat × Src) := [(4000, .same), (4001, .same), (4097, .same)]
def vsSc (p : PSc) (a : ASc) : List V := [.sub 4000 1 0 p.d, iv p.w, .sub 4001 1 0 p.u, .sub 4097 1 0 p.v, iv p.x, iv p.i, bv a.b, iv a.j]
def bsSc (p : PSc) (a : ASc) : List Blk := [.lst true 3 [.int .i64] p.ids, .lst true 3 [.int .i64] p.p, .lst true 3 [.int .i64] p.q]
noncomputable def FSc (p : PSc) (a : ASc) : St := mkSt [10,13,14,16,17,18,19,20] (keysR SSc) 5000 125 (vsSc p a) (bsSc p a)
noncomputable def rdSc (p : PSc) (a : ASc) : T (Ex × St) := T.anon (roundN D0 noLoops lpSc [10,13,14,16,17,18,19,20] SSc 5000 5000 (mkSt [10,13,14,16,17,18,19,20] (keysR SSc) 5000 125 (vsSc p a) (bsSc p a)))
def decSc_v0 : V → Option ((Nat))
  | .sub 4000 1 0 d => some (d)
  | _ => none
theorem decSc_v0_ok (b : V) (x0 : (Nat)) (h : decSc_v0 b = some x0) : b = .sub 4000 1 0 (x0) := by
  unfold decSc_v0 at h
  split at h
  · cases h
    rfl
  · cases h
def decSc_v1 : V → Option ((Int))
  | .s (.int .i64 w) => some (w)
  | _ => none
theorem decSc_v1_ok (b : V) (x1 : (Int)) (h : decSc_v1 b = some x1) : b = iv (x1) := by
  unfold decSc_v1 at h
  split at h
  · cases h
    rfl
  · cases h
def decSc_v2 : V → Option ((Nat))
  | .sub 4001 1 0 u => some (u)
  | _ => none
theorem decSc_v2_ok (b : V) (x2 : (Nat)) (h : decSc_v2 b = some x2) : b = .sub 4001 1 0 (x2) := by
  unfold decSc_v2 at h
  split at h
  · cases h
    rfl
  · cases h
def decSc_v3 : V → Option ((Nat))
  | .sub 4097 1 0 v => some (v)
  | _ => none
theorem decSc_v3_ok (b : V) (x3 : (Nat)) (h : decSc_v3 b = some x3) : b = .sub 4097 1 0 (x3) := by
  unfold decSc_v3 at h
  split at h
  · cases h
    rfl
  · cases h
def decSc_v4 : V → Option ((Int))
  | .s (.int .i64 x) => some (x)
  | _ => none
theorem decSc_v4_ok (b : V) (x4 : (Int)) (h : decSc_v4 b = some x4) : b = iv (x4) := by
  unfold decSc_v4 at h
  split at h
  · cases h
    rfl
  · cases h
def decSc_v5 : V → Option ((Int))
  | .s (.int .i64 i) => some (i)
  | _ => none
theorem decSc_v5_ok (b : V) (x5 : (Int)) (h : decSc_v5 b = some x5) : b = iv (x5) := by
  unfold decSc_v5 at h
  split at h
  · cases h
    rfl
  · cases h
def decSc_v6 : V → Option ((Bool))
  | .s (.bool b) => some (b)
  | _ => none
theorem decSc_v6_ok (b : V) (x6 : (Bool)) (h : decSc_v6 b = some x6) : b = bv (x6) := by
  unfold decSc_v6 at h
  split at h
  · cases h
    rfl
  · cases h
def decSc_v7 : V → Option ((Int))
  | .s (.int .i64 j) => some (j)
  | _ => none
theorem decSc_v7_ok (b : V) (x7 : (Int)) (h : decSc_v7 b = some x7) : b = iv (x7) := by
  unfold decSc_v7 at h
  split at h
  · cases h
    rfl
  · cases h
def decSc_b0 : Blk → Option ((List Int))
  | .lst true tt0 [.int .i64] ids => if tt0 = 3 then some (ids) else none
  | _ => none
theorem decSc_b0_ok (b : Blk) (y0 : (List Int)) (h : decSc_b0 b = some y0) : b = .lst true 3 [.int .i64] (y0) := by
  unfold decSc_b0 at h
  split at h
  · obtain ⟨e0, h⟩ := ite_some0 h
    subst e0
    cases h
    rfl
  · cases h
def decSc_b1 : Blk → Option ((List Int))
  | .lst true tt0 [.int .i64] p => if tt0 = 3 then some (p) else none
  | _ => none
theorem decSc_b1_ok (b : Blk) (y1 : (List Int)) (h : decSc_b1 b = some y1) : b = .lst true 3 [.int .i64] (y1) := by
  unfold decSc_b1 at h
  split at h
  · obtain ⟨e0, h⟩ := ite_some0 h
    subst e0
    cases h
    rfl
  · cases h
def decSc_b2 : Blk → Option ((List Int))
  | .lst true tt0 [.int .i64] q => if tt0 = 3 then some (q) else none
  | _ => none
theorem decSc_b2_ok (b : Blk) (y2 : (List Int)) (h : decSc_b2 b = some y2) : b = .lst true 3 [.int .i64] (y2) := by
  unfold decSc_b2 at h
  split at h
  · obtain ⟨e0, h⟩ := ite_some0 h
    subst e0
    cases h
    rfl
  · cases h
def decSc : List V → List Blk → Option (PSc × ASc)
  | [v0, v1, v2, v3, v4, v5, v6, v7], [b0, b1, b2] => (decSc_v0 v0).bind fun x0 => (decSc_v1 v1).bind fun x1 => (decSc_v2 v2).bind fun x2 => (decSc_v3 v3).bind fun x3 => (decSc_v4 v4).bind fun x4 => (decSc_v5 v5).bind fun x5 => (decSc_v6 v6).bind fun x6 => (decSc_v7 v7).bind fun x7 => (decSc_b0 b0).bind fun y0 => (decSc_b1 b1).bind fun y1 => (decSc_b2 b2).bind fun y2 => some (⟨(x0), (x1), (x2), (x3), (x4), (x5), (y0), (y1), (y2)⟩, ⟨(x6), (x7)⟩)
  | _, _ => none
theorem decSc_ok (l : List V) (b : List Blk) (d : PSc × ASc) (h : decSc l b = some d) : l = vsSc d.1 d.2 ∧ b = bsSc d.1 d.2 := by
  unfold decSc at h
  split at h
  · obtain ⟨x0, hx0, h⟩ := Option.bind_eq_some_iff.1 h
    obtain ⟨x1, hx1, h⟩ := Option.bind_eq_some_iff.1 h
    obtain ⟨x2, hx2, h⟩ := Option.bind_eq_some_iff.1 h
    obtain ⟨x3, hx3, h⟩ := Option.bind_eq_some_iff.1 h
    obtain ⟨x4, hx4, h⟩ := Option.bind_eq_some_iff.1 h
    obtain ⟨x5, hx5, h⟩ := Option.bind_eq_some_iff.1 h
    obtain ⟨x6, hx6, h⟩ := Option.bind_eq_some_iff.1 h
    obtain ⟨x7, hx7, h⟩ := Option.bind_eq_some_iff.1 h
    obtain ⟨y0, hy0, h⟩ := Option.bind_eq_some_iff.1 h
    obtain ⟨y1, hy1, h⟩ := Option.bind_eq_some_iff.1 h
    obtain ⟨y2, hy2, h⟩ := Option.bind_eq_some_iff.1 h
    have ex0 := decSc_v0_ok _ _ hx0
    have ex1 := decSc_v1_ok _ _ hx1
    have ex2 := decSc_v2_ok _ _ hx2
    have ex3 := decSc_v3_ok _ _ hx3
    have ex4 := decSc_v4_ok _ _ hx4
    have ex5 := decSc_v5_ok _ _ hx5
    have ex6 := decSc_v6_ok _ _ hx6
    have ex7 := decSc_v7_ok _ _ hx7
    have ey0 := decSc_b0_ok _ _ hy0
    have ey1 := decSc_b1_ok _ _ hy1
    have ey2 := decSc_b2_ok _ _ hy2
    cases h
    subst ex0 ex1 ex2 ex3 ex4 ex5 ex6 ex7 ey0 ey1 ey2
    exact ⟨rfl, rfl⟩
  · cases h
noncomputable def rgSc : Nat := (firstReg lpSc).getD 0
theorem rgSc_is : firstReg lpSc = some rgSc := by kernel_rfl
def e2 (p : PSc) (j : Int) : Bool := p.p.getD (0 + p.i.toNat) 0 == p.q.getD (0 + j.toNat) 0
theorem sc_t (p : PSc) (j : Int) : T.path [true, false, false, false, false, false, false, false, false, false, true] (rdSc p ⟨true, j⟩) = some ([(decide (j < (p.v : Int)), true), (false, false), (false, false), (false, false), (false, false), (false, false), (false, false), (false, false), (false, false), (false, false), (true, true)], (.normal, FSc p ⟨true, IntKind.wrap .i64 (j + 1)⟩)) := by kernel_rfl
theorem sc_f (p : PSc) (j : Int) : T.path [true, true, true, true, true, true, true, true, true, true, true, true, true, true, false] (rdSc p ⟨false, j⟩) = some ([(decide (j < (p.v : Int)), true), (true, true), (true, true), (true, true), (idx p.u p.p p.i, true), (true, true), (ilK p.p p.i, true), (true, true), (true, true), (true, true), (idx p.v p.q j, true), (true, true), (ilK p.q j, true), (true, true), (false, false)], (.normal, FSc p ⟨e2 p j, IntKind.wrap .i64 (j + 1)⟩)) := by kernel_rfl
theorem sc_x (p : PSc) (a : ASc) : T.path [false] (rdSc p a) = some ([(decide (a.j < (p.v : Int)), false)], (.exit 4, FSc p a)) := by kernel_rfl
structure okSc (p : PSc) (a : ASc) : Prop where
  u : p.u = p.p.length
  v : p.v = p.q.length
  v1 : p.v ≤ 100
  i0 : 0 ≤ p.i
  i1 : p.i < (p.u : Int)
  j0 : 0 ≤ a.j
  j1 : a.j ≤ (p.v : Int)
  b : a.b = (p.q.take a.j.toNat).any (fun y => p.p.getD (0 + p.i.toNat) 0 == y)
def goSc (p : PSc) (a : ASc) : Bool := decide (a.j < (p.v : Int))
def muSc (p : PSc) (a : ASc) : Nat := ((p.v : Int) - a.j).toNat
theorem stepSc (p : PSc) (a : ASc) (h : okSc p a) (hg : goSc p a = true) : ∃ b, stepC okSc rdSc FSc muSc p a b := by
  have hj : a.j < (p.v : Int) := of_decide_eq_true hg
  obtain ⟨b, j⟩ := a
  obtain ⟨h1, h2, h3, h4, h5, h6, h7, h8⟩ := h
  have hj : j < (p.v : Int) := hj
  have h6 : 0 ≤ j := h6
  have h8 : b = (p.q.take j.toNat).any (fun y => p.p.getD (0 + p.i.toNat) 0 == y) := h8
  have hl : j.toNat < p.q.length := by omega
  have w : IntKind.wrap .i64 (j + 1) = j + 1 := wrap64_in (by omega) (by omega)
  have c : ∀ {n : Nat} {l : List Int} {i : Int}, n = l.length → 0 ≤ i → i < (n : Int) → idx n l i = true ∧ ilK l i = true := fun e h0 h1 => by
    unfold idx ilK
    rw [decide_eq_true h0, decide_eq_true h1, decide_eq_true (by omega)]
    exact ⟨rfl, rfl⟩
  obtain ⟨c1, c2⟩ := c h1 h4 h5
  obtain ⟨d1, d2⟩ := c h2 h6 hj
  have et : p.q.take (j + 1).toNat = p.q.take j.toNat ++ [p.q[j.toNat]] := by
    rw [show (j + 1).toNat = j.toNat + 1 by omega, List.take_add_one, List.getElem?_eq_getElem hl]; rfl
  have mu : ∀ b, muSc p ⟨b, j + 1⟩ < muSc p ⟨b, j⟩ := fun b => by show ((p.v : Int) - (j + 1)).toNat < ((p.v : Int) - j).toNat; omega
  have new : ∀ b' : Bool, b' = (b || e2 p j) → okSc p ⟨b', j + 1⟩ := fun b' e => ⟨h1, h2, h3, h4, h5, by show 0 ≤ j + 1; omega, by show j + 1 ≤ _; omega, by
    show b' = (p.q.take (j + 1).toNat).any _
    rw [et, List.any_append, ← h8, e]
    unfold e2
    rw [getD_at (l := p.q) hl]
    simp⟩
  cases b with
  | true =>
    have way := sc_t p j
    rw [w] at way
    exact ⟨_, T.path_eval way ⟨hg, rfl, rfl, rfl, rfl, rfl, rfl, rfl, rfl, rfl, rfl, trivial⟩, new true rfl, mu _⟩
  | false =>
    have way := sc_f p j
    rw [w] at way
    exact ⟨_, T.path_eval way ⟨hg, rfl, rfl, rfl, c1, rfl, c2, rfl, rfl, rfl, d1, rfl, d2, rfl, rfl, trivial⟩, new (e2 p j) rfl, mu _⟩
theorem exSc (p : PSc) (a : ASc) (h : okSc p a) (hg : goSc p a = false) : (rdSc p a).eval = some (.exit 4, FSc p a) := T.path_eval (sc_x p a) ⟨hg, trivial⟩
noncomputable def famSc : LSpec := famC [10,13,14,16,17,18,19,20] SSc 5000 5000 125 decSc okSc goSc rdSc FSc muSc (.exit 4)
theorem lpSc_ok : LoopOk D0 lpSc famSc := famC_ok (vs := vsSc) (bs := bsSc) D0_ok mixed (noLoops_ok _) decSc_ok (by simp) (fun _ _ => rfl) (fun _ _ => rfl) stepSc exSc
theorem sb_in : LoopsOkS D0 (byReg [(rgSc, famSc)]) lpSb0 := lps_in (by kernel_rfl) rgSc_is lpSc_ok
end Go.Proofs.Ytjjclmgiehnkbaa.Sub

/- Layer 18: SubsetStays: its outer loop. -/
namespace Go.Proofs.Ytjjclmgiehnkbaa.Sub
open Go.Eng Go.RowKit
set_option linter.unusedVariables false
set_option linter.unusedSimpArgs false
set_option maxRecDepth 100000
noncomputable def lpSb : Code := lpSb0
structure PSb where (d : Nat) (w : Int) (u : Nat) (v : Nat) (ids : List Int) (p : List Int) (q : List Int)
structure ASb where (x : Int) (i : Int)
abbrev SSb : List (Nat × Src) := [(4000, .same), (4001, .same), (4097, .same)]
def vsSb (p : PSb) (a : ASb) : List V := [.sub 4000 1 0 p.d, iv p.w, .sub 4001 1 0 p.u, .sub 4097 1 0 p.v, iv a.x, iv a.i]
def bsSb (p : PSb) (a : ASb) : List Blk := [.lst true 3 [.int .i64] p.ids, .lst true 3 [.int .i64] p.p, .lst true 3 [.int .i64] p.q]
noncomputable def FSb (p : PSb) (a : ASb) : St := mkSt [10,13,14,16,17,18] (keysR SSb) 4200 125 (vsSb p a) (bsSb p a)
abbrev SSbx : List (Nat × Src) := [(4000, .same), (4001, .same), (4097, .same)]
noncomputable def rdSb (p : PSb) (a : ASb) : T (Ex × St) := T.anon (roundX D0 (byReg [(rgSc, famSc)]) lpSb [10,13,14,16,17,18] SSb [8,17] SSbx 4200 4200 (mkSt [10,13,14,16,17,18] (keysR SSb) 4200 125 (vsSb p a) (bsSb p a)))
def decSb_v0 : V → Option ((Nat))
  | .sub 4000 1 0 d => some (d)
  | _ => none
theorem decSb_v0_ok (b : V) (x0 : (Nat)) (h : decSb_v0 b = some x0) : b = .sub 4000 1 0 (x0) := by
  unfold decSb_v0 at h
  split at h
  · cases h
    rfl
  · cases h
def decSb_v1 : V → Option ((Int))
  | .s (.int .i64 w) => some (w)
  | _ => none
theorem decSb_v1_ok (b : V) (x1 : (Int)) (h : decSb_v1 b = some x1) : b = iv (x1) := by
  unfold decSb_v1 at h
  split at h
  · cases h
    rfl
  · cases h
def decSb_v2 : V → Option ((Nat))
  | .sub 4001 1 0 u => some (u)
  | _ => none
theorem decSb_v2_ok (b : V) (x2 : (Nat)) (h : decSb_v2 b = some x2) : b = .sub 4001 1 0 (x2) := by
  unfold decSb_v2 at h
  split at h
  · cases h
    rfl
  · cases h
def decSb_v3 : V → Option ((Nat))
  | .sub 4097 1 0 v => some (v)
  | _ => none
theorem decSb_v3_ok (b : V) (x3 : (Nat)) (h : decSb_v3 b = some x3) : b = .sub 4097 1 0 (x3) := by
  unfold decSb_v3 at h
  split at h
  · cases h
    rfl
  · cases h
def decSb_v4 : V → Option ((Int))
  | .s (.int .i64 x) => some (x)
  | _ => none
theorem decSb_v4_ok (b : V) (x4 : (Int)) (h : decSb_v4 b = some x4) : b = iv (x4) := by
  unfold decSb_v4 at h
  split at h
  · cases h
    rfl
  · cases h
def decSb_v5 : V → Option ((Int))
  | .s (.int .i64 i) => some (i)
  | _ => none
theorem decSb_v5_ok (b : V) (x5 : (Int)) (h : decSb_v5 b = some x5) : b = iv (x5) := by
  unfold decSb_v5 at h
  split at h
  · cases h
    rfl
  · cases h
def decSb_b0 : Blk → Option ((List Int))
  | .lst true tt0 [.int .i64] ids => if tt0 = 3 then some (ids) else none
  | _ => none
theorem decSb_b0_ok (b : Blk) (y0 : (List Int)) (h : decSb_b0 b = some y0) : b = .lst true 3 [.int .i64] (y0) := by
  unfold decSb_b0 at h
  split at h
  · obtain ⟨e0, h⟩ := ite_some0 h
    subst e0
    cases h
    rfl
  · cases h
def decSb_b1 : Blk → Option ((List Int))
  | .lst true tt0 [.int .i64] p => if tt0 = 3 then some (p) else none
  | _ => none
theorem decSb_b1_ok (b : Blk) (y1 : (List Int)) (h : decSb_b1 b = some y1) : b = .lst true 3 [.int .i64] (y1) := by
  unfold decSb_b1 at h
  split at h
  · obtain ⟨e0, h⟩ := ite_some0 h
    subst e0
    cases h
    rfl
  · cases h
def decSb_b2 : Blk → Option ((List Int))
  | .lst true tt0 [.int .i64] q => if tt0 = 3 then some (q) else none
  | _ => none
theorem decSb_b2_ok (b : Blk) (y2 : (List Int)) (h : decSb_b2 b = some y2) : b = .lst true 3 [.int .i64] (y2) := by
  unfold decSb_b2 at h
  split at h
  · obtain ⟨e0, h⟩ := ite_some0 h
    subst e0
    cases h
    rfl
  · cases h
def decSb : List V → List Blk → Option (PSb × ASb)
  | [v0, v1, v2, v3, v4, v5], [b0, b1, b2] => (decSb_v0 v0).bind fun x0 => (decSb_v1 v1).bind fun x1 => (decSb_v2 v2).bind fun x2 => (decSb_v3 v3).bind fun x3 => (decSb_v4 v4).bind fun x4 => (decSb_v5 v5).bind fun x5 => (decSb_b0 b0).bind fun y0 => (decSb_b1 b1).bind fun y1 => (decSb_b2 b2).bind fun y2 => some (⟨(x0), (x1), (x2), (x3), (y0), (y1), (y2)⟩, ⟨(x4), (x5)⟩)
  | _, _ => none
theorem decSb_ok (l : List V) (b : List Blk) (d : PSb × ASb) (h : decSb l b = some d) : l = vsSb d.1 d.2 ∧ b = bsSb d.1 d.2 := by
  unfold decSb at h
  split at h
  · obtain ⟨x0, hx0, h⟩ := Option.bind_eq_some_iff.1 h
    obtain ⟨x1, hx1, h⟩ := Option.bind_eq_some_iff.1 h
    obtain ⟨x2, hx2, h⟩ := Option.bind_eq_some_iff.1 h
    obtain ⟨x3, hx3, h⟩ := Option.bind_eq_some_iff.1 h
    obtain ⟨x4, hx4, h⟩ := Option.bind_eq_some_iff.1 h
    obtain ⟨x5, hx5, h⟩ := Option.bind_eq_some_iff.1 h
    obtain ⟨y0, hy0, h⟩ := Option.bind_eq_some_iff.1 h
    obtain ⟨y1, hy1, h⟩ := Option.bind_eq_some_iff.1 h
    obtain ⟨y2, hy2, h⟩ := Option.bind_eq_some_iff.1 h
    have ex0 := decSb_v0_ok _ _ hx0
    have ex1 := decSb_v1_ok _ _ hx1
    have ex2 := decSb_v2_ok _ _ hx2
    have ex3 := decSb_v3_ok _ _ hx3
    have ex4 := decSb_v4_ok _ _ hx4
    have ex5 := decSb_v5_ok _ _ hx5
    have ey0 := decSb_b0_ok _ _ hy0
    have ey1 := decSb_b1_ok _ _ hy1
    have ey2 := decSb_b2_ok _ _ hy2
    cases h
    subst ex0 ex1 ex2 ex3 ex4 ex5 ey0 ey1 ey2
    exact ⟨rfl, rfl⟩
  · cases h
noncomputable def rgSb : Nat := (firstReg lpSb).getD 0
theorem rgSb_is : firstReg lpSb = some rgSb := by kernel_rfl
def pSc (p : PSb) (a : ASb) : PSc := ⟨p.d, p.w, p.u, p.v, a.x, a.i, p.ids, p.p, p.q⟩
noncomputable def eSc (p : PSb) (a : ASb) : ASc := endW (nxtC okSc goSc rdSc FSc muSc (pSc p a)) ⟨false, 0⟩
def neB (p : PSb) (a : ASb) : Bool := p.p.getD (0 + a.i.toNat) 0 != p.ids.getD (0 + p.w.toNat) 0
def stSb (p : PSb) (a : ASb) : St := mkSt [8, 17] (keysR SSbx) 4200 125 [.junk, iv a.x] (bsSb p a)
theorem sb_x (p : PSb) (a : ASb) : T.path [false] (rdSb p a) = some ([(decide (a.i < (p.u : Int)), false)], (.exit 2, stSb p a)) := by kernel_rfl
theorem sb_y (p : PSb) (a : ASb) : T.path [true, true, false] (rdSb p a) = some ([(decide (a.i < (p.u : Int)), true), (invC okSc (pSc p a) ⟨false, 0⟩, true), (!(eSc p a).b, false)], (.normal, FSb p ⟨a.x, IntKind.wrap .i64 (a.i + 1)⟩)) := by kernel_rfl
theorem sb_n (p : PSb) (a : ASb) : T.path [true, true, true, true, true, true, true, false] (rdSb p a) = some ([(decide (a.i < (p.u : Int)), true), (invC okSc (pSc p a) ⟨false, 0⟩, true), (!(eSc p a).b, true), (idx p.u p.p a.i, true), (ilK p.p a.i, true), (idx p.d p.ids p.w, true), (ilK p.ids p.w, true), (neB p a, false)], (.normal, FSb p ⟨IntKind.wrap .i64 (a.x + 1), IntKind.wrap .i64 (a.i + 1)⟩)) := by kernel_rfl
/-- is it not there? -/
def outQ (q : List Int) (x : Int) : Bool := !q.any (fun y => x == y)
structure okSb (p : PSb) (a : ASb) : Prop where
  d : p.d = p.ids.length
  u : p.u = p.p.length
  v : p.v = p.q.length
  u1 : p.u ≤ 100
  v1 : p.v ≤ 100
  w0 : 0 ≤ p.w
  w1 : p.w < (p.d : Int)
  one : ∀ x ∈ p.p, outQ p.q x = true → x = p.ids.getD (0 + p.w.toNat) 0
  i0 : 0 ≤ a.i
  i1 : a.i ≤ (p.u : Int)
  x : a.x = (((p.p.take a.i.toNat).countP (outQ p.q) : Nat) : Int)
def goSb (p : PSb) (a : ASb) : Bool := decide (a.i < (p.u : Int))
def muSb (p : PSb) (a : ASb) : Nat := ((p.u : Int) - a.i).toNat
theorem idx_at {n : Nat} {l : List Int} {i : Int} (e : n = l.length) (h0 : 0 ≤ i) (h1 : i < (n : Int)) : idx n l i = true ∧ ilK l i = true := by
  unfold idx ilK
  rw [decide_eq_true h0, decide_eq_true h1, decide_eq_true (show 0 + i.toNat < l.length by omega)]
  exact ⟨rfl, rfl⟩
theorem stepSb (p : PSb) (a : ASb) (h : okSb p a) (hg : goSb p a = true) : ∃ b, stepC okSb rdSb FSb muSb p a b := by
  have hi : a.i < (p.u : Int) := of_decide_eq_true hg
  obtain ⟨h1, h2, h3, h4, h5, h6, h7, h8, h9, h10, h11⟩ := h
  have hl : a.i.toNat < p.p.length := by omega
  have w : IntKind.wrap .i64 (a.i + 1) = a.i + 1 := wrap64_in (by omega) (by omega)
  have g0 : okSc (pSc p a) ⟨false, 0⟩ := ⟨h2, h3, h5, h9, hi, Int.le_refl _, Int.natCast_nonneg _, rfl⟩
  obtain ⟨k1, k2⟩ := endC stepSc g0
  have k1 : okSc (pSc p a) (eSc p a) := k1
  have k2 : goSc (pSc p a) (eSc p a) = false := k2
  have hj : ¬ (eSc p a).j < (p.v : Int) := of_decide_eq_false k2
  have hb : (eSc p a).b = p.q.any (fun y => p.p[a.i.toNat] == y) := by
    rw [k1.b]
    show (List.take (eSc p a).j.toNat p.q).any (fun y => p.p.getD (0 + a.i.toNat) 0 == y) = _
    rw [List.take_of_length_le (by omega), getD_at hl]
  have et : p.p.take (a.i + 1).toNat = p.p.take a.i.toNat ++ [p.p[a.i.toNat]] := by
    rw [show (a.i + 1).toNat = a.i.toNat + 1 by omega, List.take_add_one, List.getElem?_eq_getElem hl]; rfl
  have hc : ((p.p.take (a.i + 1).toNat).countP (outQ p.q)) = (p.p.take a.i.toNat).countP (outQ p.q) + if outQ p.q (p.p[a.i.toNat]) = true then 1 else 0 := by
    rw [et, List.countP_append, List.countP_singleton]
  have hle : (p.p.take a.i.toNat).countP (outQ p.q) ≤ 100 := Nat.le_trans List.countP_le_length (by rw [List.length_take]; omega)
  have mu : ∀ x, muSb p ⟨x, a.i + 1⟩ < muSb p a := fun x => by show ((p.u : Int) - (a.i + 1)).toNat < ((p.u : Int) - a.i).toNat; omega
  cases q : (eSc p a).b with
  | true =>
    have way := sb_y p a
    rw [w] at way
    have ho : outQ p.q (p.p[a.i.toNat]) = false := by unfold outQ; rw [← hb, q]; rfl
    refine ⟨_, T.path_eval way ⟨hg, invC_is g0, by rw [q]; rfl, trivial⟩, ⟨h1, h2, h3, h4, h5, h6, h7, h8, by show 0 ≤ a.i + 1; omega, by show a.i + 1 ≤ _; omega, ?_⟩, mu _⟩
    show a.x = _
    rw [hc, ho]; simpa using h11
  | false =>
    have way := sb_n p a
    have w2 : IntKind.wrap .i64 (a.x + 1) = a.x + 1 := wrap64_in (by omega) (by omega)
    rw [w, w2] at way
    have ho : outQ p.q (p.p[a.i.toNat]) = true := by unfold outQ; rw [← hb, q]; rfl
    obtain ⟨c1, c2⟩ := idx_at h2 h9 hi
    obtain ⟨d1, d2⟩ := idx_at h1 h6 h7
    have c3 : neB p a = false := by
      unfold neB
      rw [getD_at (l := p.p) hl, bne_eq_false_iff_eq]
      exact h8 _ (List.getElem_mem hl) ho
    refine ⟨_, T.path_eval way ⟨hg, invC_is g0, by rw [q]; rfl, c1, c2, d1, d2, c3, trivial⟩, ⟨h1, h2, h3, h4, h5, h6, h7, h8, by show 0 ≤ a.i + 1; omega, by show a.i + 1 ≤ _; omega, ?_⟩, mu _⟩
    show a.x + 1 = _
    rw [hc, if_pos ho]; omega
def outSb (p : PSb) (a : ASb) : T (Ex × St) := .ret (.exit 2, stSb p a)
theorem exSb (p : PSb) (a : ASb) (h : okSb p a) (hg : goSb p a = false) (r : Ex × St) (hr : (outSb p a).eval = some r) : r.1 ≠ .normal ∧ (rdSb p a).eval = some r := by
  obtain rfl := Option.some.inj hr
  exact ⟨by simp, T.path_eval (sb_x p a) ⟨hg, trivial⟩⟩
noncomputable def famSb : LSpec := famE [10,13,14,16,17,18] SSb SSbx 4200 4200 125 decSb okSb goSb rdSb FSb muSb outSb
theorem lpSb_ok : LoopOk D0 lpSb famSb := famE_ok (vs := vsSb) (bs := bsSb) D0_ok mixed sb_in.ok decSb_ok (fun _ _ => rfl) (fun _ _ => rfl) stepSb exSb
noncomputable def rgSb0 : Nat := (firstReg lpSb0).getD 0
noncomputable def syX : Eng.Spec := execS D0 (byReg [(rgSa, famSa), (rgSb, famSb)]) 6
theorem syX_ok : SpecOk Try.prog 6 syX := execS_loops D0_ok mixed Try.func6 (by kernel_rfl) (by kernel_rfl) (two_lp (c := lpSa) (c' := lpSb) (by kernel_rfl) rgSa_is rgSb_is (by kernel_rfl) lpSa_ok lpSb_ok)
end Go.Proofs.Ytjjclmgiehnkbaa.Sub

/- Layer 18: SubsetStays: the law run. -/
namespace Go.Proofs.Ytjjclmgiehnkbaa.Sub
open Go.Eng Go.RowKit
set_option linter.unusedVariables false
set_option linter.unusedSimpArgs false
set_option maxRecDepth 100000
def kS (n : Int) : Int := IntKind.wrap .i64 (2 + IntKind.wrap .i64 (Int.tmod (IntKind.wrap .u64 n) 39))
def wS (n b : Int) : Int := IntKind.wrap .i64 (Int.tmod (IntKind.wrap .u64 b) (IntKind.wrap .u64 (kS n)))
def mS (n a : Int) : Int := IntKind.wrap .i64 (1 + IntKind.wrap .i64 (Int.tmod (IntKind.wrap .u64 a) (IntKind.wrap .u64 (kS n))))
def vS (n b : Int) : Int := IntKind.wrap .i64 (wS n b + 1)
def pSa (n f a b : Int) : PSa := ⟨f, a, b, kS n⟩
def aSa : ASa := ⟨0, 0, []⟩
noncomputable def eSa (n f a b : Int) : ASa := endW (nxtC okSa goSa rdSa FSa muSa (pSa n f a b)) aSa
noncomputable def idsS (n f a b : Int) : List Int := List.take (eSa n f a b).q (List.drop 0 (eSa n f a b).o)
def t1S (o : List Int) (w : Int) : List Int := (o.drop (Int.toNat 0)).take (w.toNat - Int.toNat 0)
def t2S (o : List Int) (q : Nat) (v : Int) : List Int := (o.drop v.toNat).take ((q : Int).toNat - v.toNat)
def rS (o : List Int) (q : Nat) (w v : Int) : List Int := (([] : List Int).take 0 ++ t1S o w).take (0 + (t1S o w).length) ++ t2S o q v
def leS (o : List Int) (q : Nat) (w v : Int) : List Int := ((rS o q w v).drop 0).take (0 + (t1S o w).length + (t2S o q v).length)
noncomputable def lessS (n f a b : Int) : List Int := leS (eSa n f a b).o (eSa n f a b).q (wS n b) (vS n b)
def d6 (o : List Int) (q : Nat) (w : Int) : Bool := decide ((0 : Int) ≤ 0) && (decide (0 ≤ w) && (decide (w ≤ (q : Int)) && decide (q ≤ o.length)))
def d7 (o : List Int) (w : Int) : Bool := decide (Int.toNat 0 + (w.toNat - Int.toNat 0) ≤ o.length) && (decide (0 ≤ ([] : List Int).length) && decide (0 + (t1S o w).length ≤ 1000000))
def d8 (o : List Int) (q : Nat) (v : Int) : Bool := decide (0 ≤ v) && (decide (v ≤ (q : Int)) && (decide ((q : Int) ≤ (q : Int)) && decide (q ≤ o.length)))
def d9 (o : List Int) (q : Nat) (w v : Int) : Bool := decide (v.toNat + ((q : Int).toNat - v.toNat) ≤ o.length) && (decide (0 + (t1S o w).length ≤ (([] : List Int).take 0 ++ t1S o w).length) && decide (0 + (t1S o w).length + (t2S o q v).length ≤ 1000000))
def d10 (o : List Int) (q : Nat) (w v : Int) : Bool := decide (0 + (0 + (t1S o w).length + (t2S o q v).length) ≤ (rS o q w v).length)
def mn2 (k x : Int) : Int := if IntKind.wrap .i64 (k - 1) < x then IntKind.wrap .i64 (k - 1) else x
noncomputable def d12 (n f a b : Int) : Bool := bif ((ofV (idsS n f a b) (mS n a)).length : Int) != mS n a then true else ((ofV (lessS n f a b) (mS n a)).length : Int) != mn2 (kS n) (mS n a)
noncomputable def pSb (n f a b : Int) : PSb := ⟨(eSa n f a b).q, wS n b, (ofV (idsS n f a b) (mS n a)).length, (ofV (lessS n f a b) (mS n a)).length, (eSa n f a b).o, ofV (idsS n f a b) (mS n a), ofV (lessS n f a b) (mS n a)⟩
noncomputable def eSb (n f a b : Int) : ASb := endW (nxtC okSb goSb rdSb FSb muSb (pSb n f a b)) ⟨0, 0⟩
theorem stays_way (n f a b : Int) : T.path [false, true, false, false, true, true, true, true, true, true, true, true, false, true] (T.anon (syX [iv n, iv f, iv a, iv b])) = some ([((39 : Int) == 0, false), (invC okSa (pSa n f a b) aSa, true), (IntKind.wrap .u64 (kS n) == 0, false), (IntKind.wrap .u64 (kS n) == 0, false), (decide (0 + (eSa n f a b).q ≤ (eSa n f a b).o.length), true), (decide ((idsS n f a b).length ≤ 1000000), true),
    (d6 (eSa n f a b).o (eSa n f a b).q (wS n b), true), (d7 (eSa n f a b).o (wS n b), true), (d8 (eSa n f a b).o (eSa n f a b).q (vS n b), true), (d9 (eSa n f a b).o (eSa n f a b).q (wS n b) (vS n b), true), (d10 (eSa n f a b).o (eSa n f a b).q (wS n b) (vS n b), true), (decide ((lessS n f a b).length ≤ 1000000), true), (d12 n f a b, false), (invC okSb (pSb n f a b) ⟨0, 0⟩, true)], .s (.bool (decide ((eSb n f a b).x ≤ 1)))) := by kernel_rfl
theorem kS_is (n : Int) : 2 ≤ kS n ∧ kS n ≤ 40 := by
  obtain ⟨e1, e2, e3⟩ := baI_is (M := 39) (f := n) (by decide) (by decide)
  unfold kS
  rw [e1, wrap64_in (by omega) (by omega)]
  omega
theorem ku_is (n : Int) : IntKind.wrap .u64 (kS n) = kS n := by
  have := kS_is n
  rw [wrapu64]
  exact Int.emod_eq_of_lt (by omega) (by omega)
theorem wS_is (n b : Int) : 0 ≤ wS n b ∧ wS n b < kS n := by
  have := kS_is n
  obtain ⟨e1, e2, e3⟩ := baI_is (M := kS n) (f := b) (by omega) (by omega)
  unfold wS
  rw [ku_is, e1]
  exact ⟨e2, e3⟩
theorem mS_is (n a : Int) : 1 ≤ mS n a ∧ mS n a ≤ kS n := by
  have := kS_is n
  obtain ⟨e1, e2, e3⟩ := baI_is (M := kS n) (f := a) (by omega) (by omega)
  unfold mS
  rw [ku_is, e1, wrap64_in (by omega) (by omega)]
  omega
theorem less_is {o : List Int} {w v : Int} (h0 : 0 ≤ w) (h1 : w < (o.length : Int)) (hv : v = w + 1) : t1S o w = o.take w.toNat ∧ t2S o o.length v = o.drop (w.toNat + 1) ∧ rS o o.length w v = o.take w.toNat ++ o.drop (w.toNat + 1) ∧ leS o o.length w v = o.take w.toNat ++ o.drop (w.toNat + 1) := by
  have e1 : t1S o w = o.take w.toNat := by
    unfold t1S
    rw [show w.toNat - Int.toNat 0 = w.toNat by omega]; rfl
  have e2 : t2S o o.length v = o.drop (w.toNat + 1) := by
    unfold t2S
    rw [show v.toNat = w.toNat + 1 by omega]
    exact List.take_of_length_le (by rw [List.length_drop]; omega)
  have e3 : rS o o.length w v = o.take w.toNat ++ o.drop (w.toNat + 1) := by
    unfold rS
    rw [e1, e2, List.take_zero, List.nil_append, Nat.zero_add, List.take_length]
  refine ⟨e1, e2, e3, ?_⟩
  unfold leS
  rw [e3, e1, e2, List.drop_zero]
  exact List.take_of_length_le (by rw [List.length_append]; omega)
/-- who is in it stays in it when another one goes -/
theorem ofN_stays {o l : List Int} {m : Nat} {x : Int} (h : x ∈ ofN o m) (hs : l.Sublist o) (hx : x ∈ l) : x ∈ ofN l m := by
  obtain ⟨h1, h2⟩ := ofN_mem h
  unfold ofN
  exact List.mem_filter.2 ⟨hx, decide_eq_true (Nat.lt_of_le_of_lt hs.countP_le h2)⟩
theorem stays_run (n f a b : Int) : (syX [iv n, iv f, iv a, iv b]).yes := by
  unfold T.yes
  rw [← T.eval_anon (t := syX _)]
  refine .inr ?_
  obtain ⟨kn1, kn2⟩ := kS_is n
  obtain ⟨w1, w2⟩ := wS_is n b
  obtain ⟨m1, m2⟩ := mS_is n a
  have hv : vS n b = wS n b + 1 := wrap64_in (by omega) (by omega)
  have h0 : okSa (pSa n f a b) aSa := ⟨by show 0 ≤ kS n; omega, by show kS n ≤ 50; omega, Int.le_refl _, by show 0 ≤ kS n; omega, rfl, rfl⟩
  obtain ⟨k1, k2⟩ := endC stepSa h0
  have k1 : okSa (pSa n f a b) (eSa n f a b) := k1
  have k2 : goSa (pSa n f a b) (eSa n f a b) = false := k2
  obtain ⟨-, -, i0, i1, q, o⟩ := k1
  have hi : ¬ (eSa n f a b).i < kS n := of_decide_eq_false k2
  have i1 : (eSa n f a b).i ≤ kS n := i1
  have o : (eSa n f a b).o = idL (baI 100000 f) 7 (eSa n f a b).i.toNat := o
  rw [show (eSa n f a b).i.toNat = (kS n).toNat by omega] at o
  have ol : (eSa n f a b).o.length = (kS n).toNat := by rw [o, idL_len]
  have ei : idsS n f a b = (eSa n f a b).o := by unfold idsS; rw [List.drop_zero, q, List.take_length]
  have nd : (eSa n f a b).o.Nodup := by rw [o]; exact idL_nodup _ (by decide) _
  obtain ⟨l1, l2, l3, l4⟩ := less_is (o := (eSa n f a b).o) w1 (by omega) hv
  have el : lessS n f a b = (eSa n f a b).o.take (wS n b).toNat ++ (eSa n f a b).o.drop ((wS n b).toNat + 1) := by unfold lessS; rw [q]; exact l4
  have hsub : (lessS n f a b).Sublist (eSa n f a b).o := by
    rw [el, ← List.eraseIdx_eq_take_drop_succ]
    exact List.eraseIdx_sublist _ _
  have hll : (lessS n f a b).length = (kS n).toNat - 1 := by
    rw [el, List.length_append, List.length_take, List.length_drop]; omega
  have ndl : (lessS n f a b).Nodup := nd.sublist hsub
  have eP : ofV (idsS n f a b) (mS n a) = ofN (eSa n f a b).o (mS n a).toNat := by rw [ei]; exact ofV_is nd m1
  have eQ : ofV (lessS n f a b) (mS n a) = ofN (lessS n f a b) (mS n a).toNat := ofV_is ndl m1
  have lP := ofN_len nd (mS n a).toNat
  have lQ := ofN_len ndl (mS n a).toNat
  have c12 : d12 n f a b = false := by
    unfold d12 mn2
    rw [eP, eQ, lP, lQ, wrap64_in (n := kS n - 1) (by omega) (by omega), ol, hll, show ((min (mS n a).toNat (kS n).toNat : Nat) : Int) = mS n a by omega]
    rw [show ((min (mS n a).toNat ((kS n).toNat - 1) : Nat) : Int) = (if kS n - 1 < mS n a then kS n - 1 else mS n a) by split <;> omega]
    simp
  have hw : (wS n b).toNat < (eSa n f a b).o.length := by omega
  have g0 : okSb (pSb n f a b) ⟨0, 0⟩ := by
    refine ⟨q, rfl, rfl, ?_, ?_, w1, ?_, ?_, Int.le_refl _, Int.natCast_nonneg _, rfl⟩
    · show (ofV (idsS n f a b) (mS n a)).length ≤ 100
      rw [eP, lP]; omega
    · show (ofV (lessS n f a b) (mS n a)).length ≤ 100
      rw [eQ, lQ]; omega
    · show wS n b < ((eSa n f a b).q : Int)
      omega
    · show ∀ x ∈ ofV (idsS n f a b) (mS n a), outQ (ofV (lessS n f a b) (mS n a)) x = true → x = (eSa n f a b).o.getD (0 + (wS n b).toNat) 0
      rw [eP, eQ, getD_at hw]
      intro x hx hout
      apply Classical.byContradiction
      intro hne
      have hxl : x ∈ lessS n f a b := by
        have hxo := (ofN_mem hx).1
        rw [el]
        have e : (eSa n f a b).o = (eSa n f a b).o.take (wS n b).toNat ++ (eSa n f a b).o[(wS n b).toNat] :: (eSa n f a b).o.drop ((wS n b).toNat + 1) := by
          rw [← List.drop_eq_getElem_cons hw, List.take_append_drop]
        rw [e] at hxo
        rcases List.mem_append.1 hxo with h | h
        · exact List.mem_append_left _ h
        · rcases List.mem_cons.1 h with h | h
          · exact absurd h hne
          · exact List.mem_append_right _ h
      have := ofN_stays hx hsub hxl
      unfold outQ at hout
      rw [Bool.not_eq_true', List.any_eq_false] at hout
      exact hout x this (beq_self_eq_true _)
  obtain ⟨j1, j2⟩ := endC stepSb g0
  have j1 : okSb (pSb n f a b) (eSb n f a b) := j1
  have j2 : goSb (pSb n f a b) (eSb n f a b) = false := j2
  have hj : ¬ (eSb n f a b).i < ((ofV (idsS n f a b) (mS n a)).length : Int) := of_decide_eq_false j2
  have hx : (eSb n f a b).x ≤ 1 := by
    have e := j1.x
    have e : (eSb n f a b).x = (((List.take (eSb n f a b).i.toNat (ofV (idsS n f a b) (mS n a))).countP (outQ (ofV (lessS n f a b) (mS n a))) : Nat) : Int) := e
    rw [List.take_of_length_le (by omega)] at e
    have hone := j1.one
    have hnp : (ofV (idsS n f a b) (mS n a)).Nodup := by
      rw [eP]; exact nd.sublist List.filter_sublist
    have hcnt : (ofV (idsS n f a b) (mS n a)).countP (outQ (ofV (lessS n f a b) (mS n a))) ≤ (ofV (idsS n f a b) (mS n a)).countP (fun x => x == (eSa n f a b).o.getD (0 + (wS n b).toNat) 0) :=
      List.countP_mono_left fun x hx ho => beq_iff_eq.2 (hone x hx ho)
    have h1 := List.nodup_iff_count.1 hnp ((eSa n f a b).o.getD (0 + (wS n b).toNat) 0)
    unfold List.count at h1
    omega
  have way := stays_way n f a b
  rw [decide_eq_true hx, ku_is] at way
  have tl1 : (t1S (eSa n f a b).o (wS n b)).length ≤ 50 := by rw [l1, List.length_take]; omega
  have tl2 : (t2S (eSa n f a b).o (eSa n f a b).o.length (vS n b)).length ≤ 50 := by rw [l2, List.length_drop]; omega
  have tl3 : (t1S (eSa n f a b).o (wS n b)).length + (t2S (eSa n f a b).o (eSa n f a b).o.length (vS n b)).length = (rS (eSa n f a b).o (eSa n f a b).o.length (wS n b) (vS n b)).length := by
    rw [l1, l2, l3, List.length_append]
  refine T.path_eval way ⟨rfl, invC_is h0, beq_false_of_ne (by omega), beq_false_of_ne (by omega), decide_eq_true (by omega), decide_eq_true (by rw [ei]; omega), ?_, ?_, ?_, ?_, ?_, decide_eq_true (by omega), c12, invC_is g0, trivial⟩
  · unfold d6
    rw [decide_eq_true w1, decide_eq_true (show wS n b ≤ ((eSa n f a b).q : Int) by omega), decide_eq_true (show (eSa n f a b).q ≤ (eSa n f a b).o.length by omega)]; rfl
  · unfold d7
    rw [decide_eq_true (show Int.toNat 0 + ((wS n b).toNat - Int.toNat 0) ≤ (eSa n f a b).o.length by omega), decide_eq_true (show 0 + (t1S (eSa n f a b).o (wS n b)).length ≤ 1000000 by omega)]; rfl
  · unfold d8
    rw [decide_eq_true (show 0 ≤ vS n b by omega), decide_eq_true (show vS n b ≤ ((eSa n f a b).q : Int) by omega), decide_eq_true (Int.le_refl ((eSa n f a b).q : Int)), decide_eq_true (show (eSa n f a b).q ≤ (eSa n f a b).o.length by omega)]; rfl
  · unfold d9
    rw [q, decide_eq_true (show (vS n b).toNat + (((eSa n f a b).o.length : Int).toNat - (vS n b).toNat) ≤ (eSa n f a b).o.length by omega), List.take_zero, List.nil_append, Nat.zero_add, decide_eq_true (Nat.le_refl _), decide_eq_true (show (t1S (eSa n f a b).o (wS n b)).length + (t2S (eSa n f a b).o (eSa n f a b).o.length (vS n b)).length ≤ 1000000 by omega)]; rfl
  · unfold d10
    rw [q]
    exact decide_eq_true (by omega)
theorem stays_walk (a0 : Int) (w0 : (Lit.int .i64 a0).wf = true) (a1 : Int) (w1 : (Lit.int .i64 a1).wf = true) (a2 : Int) (w2 : (Lit.int .i64 a2).wf = true) (a3 : Int) (w3 : (Lit.int .i64 a3).wf = true) (w : World) :
    Calls Try.prog 6 #[.int .i64 a0, .int .i64 a1, .int .i64 a2, .int .i64 a3] w fun e w' => e = .returned (.bool true) ∧ Below w.heap.size w w' :=
  Law.law_rows (args := [iv a0, iv a1, iv a2, iv a3]) (xs := [.int .i64 a0, .int .i64 a1, .int .i64 a2, .int .i64 a3]) syX_ok rfl (stays_run a0 a1 a2 a3) w ⟨rfl, rfl, rfl, rfl, trivial⟩
end Go.Proofs.Ytjjclmgiehnkbaa.Sub

