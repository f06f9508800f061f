import Derived.Test.YtjjclmgiehnkbaaGZ
/- Layer 18: the document's order and subset; the same numbers: run by the machine. -/
namespace Go.Proofs.Ytjjclmgiehnkbaa.Sub
open Go.Eng Go.RowKit
set_option linter.unusedVariables false
set_option linter.unusedSimpArgs false
set_option maxRecDepth 100000
noncomputable def rsX : Eng.Spec := execS B0 noLoops 14
theorem rsX_ok : SpecOk Try.prog 14 rsX := execS_plain B0_ok mixed Try.func14 (by kernel_rfl) (by kernel_rfl)
theorem rs_run (i : Int) : (rsX [iv i]).eval = some (.s (.int .u32 (scI i))) := by
  rw [← T.eval_anon (t := rsX _)]; kernel_rfl
theorem rsS_ok : SpecOk Try.prog 14 scS := rsX_ok.of_den fun args v hfl h => by
  clear hfl
  unfold scS at h
  split at h
  · obtain rfl := Option.some.inj h
    exact ⟨_, rs_run _, ⟨rfl, rfl⟩, rfl⟩
  · cases h
noncomputable def C0 : Cfg := ⟨Try.prog, lookG [(14, .val scS)], [], 0⟩
theorem C0_ok : C0.Ok := Cfg.ok ⟨rsS_ok, trivial⟩ trivial
noncomputable def bfX : Eng.Spec := execS C0 noLoops 25
theorem bfX_ok : SpecOk Try.prog 25 bfX := execS_plain C0_ok mixed Try.func25 (by kernel_rfl) (by kernel_rfl)
noncomputable def lpIn : Code := loopAt Try.prog 15 0
structure PIn where (n : Nat) (m : Nat) (x : List Int) (y : List Int)
structure AIn where (i : Int)
abbrev SIn : List (Nat × Src) := [(0, .same), (1, .same)]
def vsIn (p : PIn) (a : AIn) : List V := [.sub 0 1 0 p.n, .sub 1 1 0 p.m, iv a.i]
def bsIn (p : PIn) (a : AIn) : List Blk := [.lst false 3 [.int .i64] p.x, .lst false 3 [.int .i64] p.y]
noncomputable def FIn (p : PIn) (a : AIn) : St := mkSt [0,1,5] (keysR SIn) 4000 26 (vsIn p a) (bsIn p a)
abbrev SInx : List (Nat × Src) := [(0, .same), (1, .same)]
noncomputable def rdIn (p : PIn) (a : AIn) : T (Ex × St) := T.anon (roundX B0 noLoops lpIn [0,1,5] SIn [0,1,4] SInx 4000 4000 (mkSt [0,1,5] (keysR SIn) 4000 26 (vsIn p a) (bsIn p a)))
def decIn_v0 : V → Option ((Nat))
  | .sub 0 1 0 n => some (n)
  | _ => none
theorem decIn_v0_ok (b : V) (x0 : (Nat)) (h : decIn_v0 b = some x0) : b = .sub 0 1 0 (x0) := by
  unfold decIn_v0 at h
  split at h
  · cases h
    rfl
  · cases h
def decIn_v1 : V → Option ((Nat))
  | .sub 1 1 0 m => some (m)
  | _ => none
theorem decIn_v1_ok (b : V) (x1 : (Nat)) (h : decIn_v1 b = some x1) : b = .sub 1 1 0 (x1) := by
  unfold decIn_v1 at h
  split at h
  · cases h
    rfl
  · cases h
def decIn_v2 : V → Option ((Int))
  | .s (.int .i64 i) => some (i)
  | _ => none
theorem decIn_v2_ok (b : V) (x2 : (Int)) (h : decIn_v2 b = some x2) : b = iv (x2) := by
  unfold decIn_v2 at h
  split at h
  · cases h
    rfl
  · cases h
def decIn_b0 : Blk → Option ((List Int))
  | .lst false tt0 [.int .i64] x => if tt0 = 3 then some (x) else none
  | _ => none
theorem decIn_b0_ok (b : Blk) (y0 : (List Int)) (h : decIn_b0 b = some y0) : b = .lst false 3 [.int .i64] (y0) := by
  unfold decIn_b0 at h
  split at h
  · obtain ⟨e0, h⟩ := ite_some0 h
    subst e0
    cases h
    rfl
  · cases h
def decIn_b1 : Blk → Option ((List Int))
  | .lst false tt0 [.int .i64] y => if tt0 = 3 then some (y) else none
  | _ => none
theorem decIn_b1_ok (b : Blk) (y1 : (List Int)) (h : decIn_b1 b = some y1) : b = .lst false 3 [.int .i64] (y1) := by
  unfold decIn_b1 at h
  split at h
  · obtain ⟨e0, h⟩ := ite_some0 h
    subst e0
    cases h
    rfl
  · cases h
def decIn : List V → List Blk → Option (PIn × AIn)
  | [v0, v1, v2], [b0, b1] => (decIn_v0 v0).bind fun x0 => (decIn_v1 v1).bind fun x1 => (decIn_v2 v2).bind fun x2 => (decIn_b0 b0).bind fun y0 => (decIn_b1 b1).bind fun y1 => some (⟨(x0), (x1), (y0), (y1)⟩, ⟨(x2)⟩)
  | _, _ => none
theorem decIn_ok (l : List V) (b : List Blk) (d : PIn × AIn) (h : decIn l b = some d) : l = vsIn d.1 d.2 ∧ b = bsIn d.1 d.2 := by
  unfold decIn at h
  split at h
  · obtain ⟨x0, hx0, h⟩ := Option.bind_eq_some_iff.1 h
    obtain ⟨x1, hx1, h⟩ := Option.bind_eq_some_iff.1 h
    obtain ⟨x2, hx2, h⟩ := Option.bind_eq_some_iff.1 h
    obtain ⟨y0, hy0, h⟩ := Option.bind_eq_some_iff.1 h
    obtain ⟨y1, hy1, h⟩ := Option.bind_eq_some_iff.1 h
    have ex0 := decIn_v0_ok _ _ hx0
    have ex1 := decIn_v1_ok _ _ hx1
    have ex2 := decIn_v2_ok _ _ hx2
    have ey0 := decIn_b0_ok _ _ hy0
    have ey1 := decIn_b1_ok _ _ hy1
    cases h
    subst ex0 ex1 ex2 ey0 ey1
    exact ⟨rfl, rfl⟩
  · cases h
noncomputable def rgIn : Nat := (firstReg lpIn).getD 0
theorem rgIn_is : firstReg lpIn = some rgIn := by kernel_rfl
end Go.Proofs.Ytjjclmgiehnkbaa.Sub

/- Layer 18: the document's order, the same numbers: contracts; the document's inner loop. -/
namespace Go.Proofs.Ytjjclmgiehnkbaa.Sub
open Go.Eng Go.RowKit
set_option linter.unusedVariables false
set_option linter.unusedSimpArgs false
set_option maxRecDepth 100000
def rvI (ids : List Int) (k : Int) : Rv := (scI (ids.getD (0 + k.toNat) 0), ids.getD (0 + k.toNat) 0, k)
def inK (ids : List Int) (k : Int) : Bool := decide (0 ≤ k) && (decide (k < (ids.length : Int)) && decide (0 + k.toNat < ids.length))
def ilK (ids : List Int) (k : Int) : Bool := decide (0 + k.toNat < ids.length)
def lsK (ids : List Int) (k i : Int) : Bool := decide ((rvI ids k).2.1 < (rvI ids i).2.1)
def orK (ids : List Int) (k i : Int) (b : Bool) : Bool := bif lsK ids k i == false && true then b else true
theorem bf_1 (ids : List Int) (k i : Int) : T.path [true, true, true, true, true] (T.anon (bfX [rI ids, iv k, iv i])) = some ([(inK ids k, true), (ilK ids k, true), (inK ids i, true), (ilK ids i, true), ((rvI ids k).1 != (rvI ids i).1, true)], .s (.bool (decide ((rvI ids k).1 < (rvI ids i).1)))) := by kernel_rfl
theorem bf_2 (ids : List Int) (k i : Int) : T.path [true, true, true, true, false, true, true, true, true, true, true, true, true] (T.anon (bfX [rI ids, iv k, iv i])) = some ([(inK ids k, true), (ilK ids k, true), (inK ids i, true), (ilK ids i, true), ((rvI ids k).1 != (rvI ids i).1, false), (inK ids k, true), (ilK ids k, true), (inK ids i, true), (ilK ids i, true), (orK ids k i (inK ids k), true), (orK ids k i (ilK ids k), true), (orK ids k i (inK ids i), true), (orK ids k i (ilK ids i), true)],
    .s (.bool (bif lsK ids k i then true else bif (rvI ids k).2.1 == (rvI ids i).2.1 then decide (k < i) else false))) := by kernel_rfl
theorem or_is {ids : List Int} {k i : Int} {b : Bool} (h : b = true) : orK ids k i b = true := by
  unfold orK
  rw [h]; cases lsK ids k i == false && true <;> rfl
theorem bf_run {ids : List Int} {k i : Int} (h0 : 0 ≤ k) (h1 : k < (ids.length : Int)) (h2 : 0 ≤ i) (h3 : i < (ids.length : Int)) : (bfX [rI ids, iv k, iv i]).eval = some (.s (.bool (lt3 (rvI ids k) (rvI ids i)))) := by
  rw [← T.eval_anon (t := bfX _)]
  have a1 : inK ids k = true := by
    unfold inK
    rw [decide_eq_true h0, decide_eq_true h1, decide_eq_true (show 0 + k.toNat < ids.length by omega)]; rfl
  have a2 : ilK ids k = true := decide_eq_true (by omega)
  have b1 : inK ids i = true := by
    unfold inK
    rw [decide_eq_true h2, decide_eq_true h3, decide_eq_true (show 0 + i.toNat < ids.length by omega)]; rfl
  have b2 : ilK ids i = true := decide_eq_true (by omega)
  cases q : (rvI ids k).1 != (rvI ids i).1 with
  | true =>
    have := T.path_eval (bf_1 ids k i) ⟨a1, a2, b1, b2, q, trivial⟩
    unfold lt3
    rw [q]; exact this
  | false =>
    have := T.path_eval (bf_2 ids k i) ⟨a1, a2, b1, b2, q, a1, a2, b1, b2, or_is a1, or_is a2, or_is b1, or_is b2, trivial⟩
    have e : (bif lsK ids k i then true else bif (rvI ids k).2.1 == (rvI ids i).2.1 then decide (k < i) else false) = lt3 (rvI ids k) (rvI ids i) := by
      unfold lt3 lsK
      rw [q, cond_false]
      by_cases h : (rvI ids k).2.1 = (rvI ids i).2.1
      · rw [bne_eq_false_iff_eq.2 h, beq_iff_eq.2 h, decide_eq_false (by omega)]; rfl
      · rw [bne_iff_ne.2 h, beq_eq_false_iff_ne.2 h]
        cases decide ((rvI ids k).2.1 < (rvI ids i).2.1) <;> rfl
    rw [e] at this
    exact this
def bfS : Eng.Spec
  | [.orow t [.int .i64] ids, .s (.int .i64 k), .s (.int .i64 i)] => if t = 3 then .ite none (decide (0 ≤ k) && (decide (k < (List.length ids : Int)) && (decide (0 ≤ i) && decide (i < (List.length ids : Int))))) (.ret (.s (.bool (lt3 (rvI ids k) (rvI ids i))))) .fail else .fail
  | _ => .fail
theorem bfS_ok : SpecOk Try.prog 25 bfS := bfX_ok.of_eval fun args v h => by
  unfold bfS at h
  split at h
  · rename_i t ids k i
    obtain ⟨q1, e1⟩ := ite_f h
    obtain ⟨hb, e2⟩ := ite_T' e1
    obtain rfl := Option.some.inj e2
    clear h e1 e2
    subst q1
    simp only [Bool.and_eq_true, decide_eq_true_eq] at hb
    exact bf_run hb.1 hb.2.1 hb.2.2.1 hb.2.2.2
  · cases h
/-! ### the same numbers -/
def idx (n : Nat) (l : List Int) (i : Int) : Bool := decide (0 ≤ i) && (decide (i < (n : Int)) && decide (0 + i.toNat < l.length))
def hIn (p : PIn) (a : AIn) (b : Bool) : List (Bool × Bool) := [(decide (a.i < (p.n : Int)), true), (idx p.n p.x a.i, true), (ilK p.x a.i, true), (idx p.m p.y a.i, true), (ilK p.y a.i, true), (p.x.getD (0 + a.i.toNat) 0 != p.y.getD (0 + a.i.toNat) 0, b)]
def stIn (p : PIn) (a : AIn) (v : V) : St := mkSt [0, 1, 4] (keysR SIn) 4000 26 [.sub 0 1 0 p.n, .sub 1 1 0 p.m, v] (bsIn p a)
theorem in_x (p : PIn) (a : AIn) : T.path [false] (rdIn p a) = some ([(decide (a.i < (p.n : Int)), false)], (.exit 0, stIn p a .junk)) := by kernel_rfl
theorem in_n (p : PIn) (a : AIn) : T.path [true, true, true, true, true, false] (rdIn p a) = some (hIn p a false, (.normal, FIn p ⟨IntKind.wrap .i64 (a.i + 1)⟩)) := by kernel_rfl
theorem in_r (p : PIn) (a : AIn) : T.path [true, true, true, true, true, true] (rdIn p a) = some (hIn p a true, (.ret, stIn p a (.s (.bool false)))) := by kernel_rfl
structure okIn (p : PIn) (a : AIn) : Prop where
  n : p.n = p.x.length
  m : p.m = p.y.length
  e : p.n = p.m
  n1 : p.n ≤ 1000000000
  i0 : 0 ≤ a.i
  i1 : a.i ≤ (p.n : Int)
  s : p.x.take a.i.toNat = p.y.take a.i.toNat
def difI (p : PIn) (a : AIn) : Bool := p.x.getD (0 + a.i.toNat) 0 != p.y.getD (0 + a.i.toNat) 0
def goIn (p : PIn) (a : AIn) : Bool := decide (a.i < (p.n : Int)) && !difI p a
def muIn (p : PIn) (a : AIn) : Nat := ((p.n : Int) - a.i).toNat
theorem hIn_say {p : PIn} {a : AIn} (h : okIn p a) (hi : a.i < (p.n : Int)) {b : Bool} (hb : difI p a = b) : allSay (hIn p a b) := by
  obtain ⟨h1, h2, h3, h4, h5, h6, h7⟩ := h
  have c : ∀ (n : Nat) (l : List Int), n = l.length → a.i < (n : Int) → idx n l a.i = true ∧ ilK l a.i = true := fun n l e hl => by
    unfold idx ilK
    rw [decide_eq_true h5, decide_eq_true hl, decide_eq_true (show 0 + a.i.toNat < l.length by omega)]
    exact ⟨rfl, rfl⟩
  obtain ⟨c1, c2⟩ := c p.n p.x h1 hi
  obtain ⟨d1, d2⟩ := c p.m p.y h2 (by omega)
  exact ⟨decide_eq_true hi, c1, c2, d1, d2, hb, trivial⟩
theorem getD_at {l : List Int} {i : Int} (hl : i.toNat < l.length) : l.getD (0 + i.toNat) 0 = l[i.toNat] := by
  rw [Nat.zero_add, List.getD_eq_getElem?_getD, List.getElem?_eq_getElem hl]; rfl
theorem stepIn (p : PIn) (a : AIn) (h : okIn p a) (hg : goIn p a = true) : ∃ b, stepC okIn rdIn FIn muIn p a b := by
  unfold goIn at hg
  rw [Bool.and_eq_true, decide_eq_true_eq, Bool.not_eq_true'] at hg
  obtain ⟨hi, hb⟩ := hg
  have hs := hIn_say h hi hb
  obtain ⟨h1, h2, h3, h4, h5, h6, h7⟩ := h
  have w : IntKind.wrap .i64 (a.i + 1) = a.i + 1 := wrap64_in (by omega) (by omega)
  have way := in_n p a
  rw [w] at way
  refine ⟨_, T.path_eval way hs, ⟨h1, h2, h3, h4, by show 0 ≤ a.i + 1; omega, by show a.i + 1 ≤ _; omega, ?_⟩, by show ((p.n : Int) - (a.i + 1)).toNat < ((p.n : Int) - a.i).toNat; omega⟩
  show p.x.take (a.i + 1).toNat = p.y.take (a.i + 1).toNat
  unfold difI at hb
  rw [getD_at (by omega), getD_at (by omega), bne_eq_false_iff_eq] at hb
  rw [show (a.i + 1).toNat = a.i.toNat + 1 by omega, List.take_add_one, List.take_add_one, h7, List.getElem?_eq_getElem (by omega), List.getElem?_eq_getElem (by omega), hb]
def outIn (p : PIn) (a : AIn) : T (Ex × St) := .ite none (decide (a.i < (p.n : Int))) (.ret (.ret, stIn p a (.s (.bool false)))) (.ret (.exit 0, stIn p a .junk))
theorem in_bad {p : PIn} {a : AIn} (hg : goIn p a = false) (hi : a.i < (p.n : Int)) : difI p a = true := by
  unfold goIn at hg
  rw [decide_eq_true hi, Bool.true_and, Bool.not_eq_false'] at hg
  exact hg
theorem exIn (p : PIn) (a : AIn) (h : okIn p a) (hg : goIn p a = false) (r : Ex × St) (hr : (outIn p a).eval = some r) : r.1 ≠ .normal ∧ (rdIn p a).eval = some r := by
  unfold outIn at hr
  by_cases hi : a.i < (p.n : Int)
  · rw [decide_eq_true hi] at hr
    obtain rfl := Option.some.inj hr
    exact ⟨by simp, T.path_eval (in_r p a) (hIn_say h hi (in_bad hg hi))⟩
  · rw [decide_eq_false hi] at hr
    obtain rfl := Option.some.inj hr
    exact ⟨by simp, T.path_eval (in_x p a) ⟨decide_eq_false hi, trivial⟩⟩
noncomputable def famIn : LSpec := famE [0,1,5] SIn SInx 4000 4000 26 decIn okIn goIn rdIn FIn muIn outIn
theorem lpIn_ok : LoopOk B0 lpIn famIn := famE_ok (vs := vsIn) (bs := bsIn) B0_ok mixed (noLoops_ok _) decIn_ok (fun _ _ => rfl) (fun _ _ => rfl) stepIn exIn
noncomputable def niX : Eng.Spec := execS B0 (byReg [(rgIn, famIn)]) 15
theorem niX_ok : SpecOk Try.prog 15 niX := execS_loops B0_ok mixed Try.func15 (by kernel_rfl) (by kernel_rfl) (one_lp (c := lpIn) (by kernel_rfl) rgIn_is lpIn_ok)
def pI (x y : List Int) : PIn := ⟨x.length, y.length, x, y⟩
noncomputable def eI (x y : List Int) : AIn := endW (nxtC okIn goIn rdIn FIn muIn (pI x y)) ⟨0⟩
def neL (x y : List Int) : Bool := (x.length : Int) != (y.length : Int)
theorem ni_1 (x y : List Int) : T.path [true] (T.anon (niX [rI x, rI y])) = some ([(neL x y, true)], .ff) := by kernel_rfl
theorem ni_2 (x y : List Int) : T.path [false, true, true] (T.anon (niX [rI x, rI y])) = some ([(neL x y, false), (invC okIn (pI x y) ⟨0⟩, true), (decide ((eI x y).i < (x.length : Int)), true)], .s (.bool false)) := by kernel_rfl
theorem ni_3 (x y : List Int) : T.path [false, true, false] (T.anon (niX [rI x, rI y])) = some ([(neL x y, false), (invC okIn (pI x y) ⟨0⟩, true), (decide ((eI x y).i < (x.length : Int)), false)], .tt) := by kernel_rfl
theorem ni_run {x y : List Int} (h : x.length ≤ 1000000000) : ∃ v, (niX [rI x, rI y]).eval = some v ∧ flat v = true ∧ v.den nu0 = .bool (decide (x = y)) := by
  rw [← T.eval_anon (t := niX _)]
  cases q : neL x y with
  | true =>
    rw [decide_eq_false (fun e => by rw [e] at q; unfold neL at q; simp at q)]
    exact ⟨_, T.path_eval (ni_1 x y) ⟨q, trivial⟩, rfl, rfl⟩
  | false =>
    have e : x.length = y.length := by unfold neL at q; rw [bne_eq_false_iff_eq] at q; omega
    have h0 : okIn (pI x y) ⟨0⟩ := ⟨rfl, rfl, e, h, Int.le_refl _, Int.natCast_nonneg _, rfl⟩
    obtain ⟨k1, k2⟩ := endC stepIn h0
    have k1 : okIn (pI x y) (eI x y) := k1
    have k2 : goIn (pI x y) (eI x y) = false := k2
    obtain ⟨-, -, -, -, i0, i1, s⟩ := k1
    have i1 : (eI x y).i ≤ (x.length : Int) := i1
    have s : x.take (eI x y).i.toNat = y.take (eI x y).i.toNat := s
    by_cases hi : (eI x y).i < (x.length : Int)
    · have hb := in_bad k2 hi
      unfold difI at hb
      have hb : (x.getD (0 + (eI x y).i.toNat) 0 != y.getD (0 + (eI x y).i.toNat) 0) = true := hb
      rw [decide_eq_false (fun q => by rw [q] at hb; simp at hb)]
      exact ⟨_, T.path_eval (ni_2 x y) ⟨q, invC_is h0, decide_eq_true hi, trivial⟩, rfl, rfl⟩
    · rw [List.take_of_length_le (by omega), List.take_of_length_le (by omega)] at s
      rw [decide_eq_true s]
      exact ⟨_, T.path_eval (ni_3 x y) ⟨q, invC_is h0, decide_eq_false hi, trivial⟩, rfl, rfl⟩
def sameI (x y : List Int) : Bool := decide (x = y)
def niS : Eng.Spec
  | [.orow t [.int .i64] x, .orow u [.int .i64] y] => if t = 3 then if u = 3 then .ite none (decide (List.length x ≤ 1000000000)) (.ret (.s (.bool (sameI x y)))) .fail else .fail else .fail
  | _ => .fail
theorem niS_ok : SpecOk Try.prog 15 niS := niX_ok.of_den fun args v hfl h => by
  clear hfl
  unfold niS at h
  split at h
  · rename_i t x u y
    obtain ⟨q1, e1⟩ := ite_f h
    obtain ⟨q2, e2⟩ := ite_f e1
    obtain ⟨hb, e3⟩ := ite_T' e2
    obtain rfl := Option.some.inj e3
    clear h e1 e2 e3
    subst q1 q2
    obtain ⟨v', r1, r2, r3⟩ := ni_run (x := x) (y := y) (of_decide_eq_true hb)
    exact ⟨v', r1, ⟨r2, rfl⟩, r3⟩
  · cases h
end Go.Proofs.Ytjjclmgiehnkbaa.Sub

/- Layer 18: the document's Subset: its inner loop. -/
namespace Go.Proofs.Ytjjclmgiehnkbaa.Sub
open Go.Eng Go.RowKit
set_option linter.unusedVariables false
set_option linter.unusedSimpArgs false
set_option maxRecDepth 100000
noncomputable def C1 : Cfg := ⟨Try.prog, lookG [(25, .val bfS)], [], 0⟩
theorem C1_ok : C1.Ok := Cfg.ok ⟨bfS_ok, trivial⟩ trivial
noncomputable def lpOs0 : Code := loopAt Try.prog 16 0
noncomputable def lpIs0 : Code := (loopsIn lpOs0).getD 0 .skip
noncomputable def lpIs : Code := lpIs0
structure PIs where (d : Nat) (mo : Int) (q : Nat) (i : Int) (ids : List Int) (o : List Int)
structure AIs where (n : Int) (k : Int)
abbrev SIs : List (Nat × Src) := [(0, .same), (4000, .same)]
def vsIs (p : PIs) (a : AIs) : List V := [.sub 0 1 0 p.d, iv p.mo, .sub 4000 1 0 p.q, iv p.i, iv a.n, iv a.k]
def bsIs (p : PIs) (a : AIs) : List Blk := [.lst false 3 [.int .i64] p.ids, .lst true 3 [.int .i64] p.o]
noncomputable def FIs (p : PIs) (a : AIs) : St := mkSt [0,1,5,6,7,8] (keysR SIs) 5000 49 (vsIs p a) (bsIs p a)
noncomputable def rdIs (p : PIs) (a : AIs) : T (Ex × St) := T.anon (roundN C1 noLoops lpIs [0,1,5,6,7,8] SIs 5000 5000 (mkSt [0,1,5,6,7,8] (keysR SIs) 5000 49 (vsIs p a) (bsIs p a)))
def decIs_v0 : V → Option ((Nat))
  | .sub 0 1 0 d => some (d)
  | _ => none
theorem decIs_v0_ok (b : V) (x0 : (Nat)) (h : decIs_v0 b = some x0) : b = .sub 0 1 0 (x0) := by
  unfold decIs_v0 at h
  split at h
  · cases h
    rfl
  · cases h
def decIs_v1 : V → Option ((Int))
  | .s (.int .i64 mo) => some (mo)
  | _ => none
theorem decIs_v1_ok (b : V) (x1 : (Int)) (h : decIs_v1 b = some x1) : b = iv (x1) := by
  unfold decIs_v1 at h
  split at h
  · cases h
    rfl
  · cases h
def decIs_v2 : V → Option ((Nat))
  | .sub 4000 1 0 q => some (q)
  | _ => none
theorem decIs_v2_ok (b : V) (x2 : (Nat)) (h : decIs_v2 b = some x2) : b = .sub 4000 1 0 (x2) := by
  unfold decIs_v2 at h
  split at h
  · cases h
    rfl
  · cases h
def decIs_v3 : V → Option ((Int))
  | .s (.int .i64 i) => some (i)
  | _ => none
theorem decIs_v3_ok (b : V) (x3 : (Int)) (h : decIs_v3 b = some x3) : b = iv (x3) := by
  unfold decIs_v3 at h
  split at h
  · cases h
    rfl
  · cases h
def decIs_v4 : V → Option ((Int))
  | .s (.int .i64 n) => some (n)
  | _ => none
theorem decIs_v4_ok (b : V) (x4 : (Int)) (h : decIs_v4 b = some x4) : b = iv (x4) := by
  unfold decIs_v4 at h
  split at h
  · cases h
    rfl
  · cases h
def decIs_v5 : V → Option ((Int))
  | .s (.int .i64 k) => some (k)
  | _ => none
theorem decIs_v5_ok (b : V) (x5 : (Int)) (h : decIs_v5 b = some x5) : b = iv (x5) := by
  unfold decIs_v5 at h
  split at h
  · cases h
    rfl
  · cases h
def decIs_b0 : Blk → Option ((List Int))
  | .lst false tt0 [.int .i64] ids => if tt0 = 3 then some (ids) else none
  | _ => none
theorem decIs_b0_ok (b : Blk) (y0 : (List Int)) (h : decIs_b0 b = some y0) : b = .lst false 3 [.int .i64] (y0) := by
  unfold decIs_b0 at h
  split at h
  · obtain ⟨e0, h⟩ := ite_some0 h
    subst e0
    cases h
    rfl
  · cases h
def decIs_b1 : Blk → Option ((List Int))
  | .lst true tt0 [.int .i64] o => if tt0 = 3 then some (o) else none
  | _ => none
theorem decIs_b1_ok (b : Blk) (y1 : (List Int)) (h : decIs_b1 b = some y1) : b = .lst true 3 [.int .i64] (y1) := by
  unfold decIs_b1 at h
  split at h
  · obtain ⟨e0, h⟩ := ite_some0 h
    subst e0
    cases h
    rfl
  · cases h
def decIs : List V → List Blk → Option (PIs × AIs)
  | [v0, v1, v2, v3, v4, v5], [b0, b1] => (decIs_v0 v0).bind fun x0 => (decIs_v1 v1).bind fun x1 => (decIs_v2 v2).bind fun x2 => (decIs_v3 v3).bind fun x3 => (decIs_v4 v4).bind fun x4 => (decIs_v5 v5).bind fun x5 => (decIs_b0 b0).bind fun y0 => (decIs_b1 b1).bind fun y1 => some (⟨(x0), (x1), (x2), (x3), (y0), (y1)⟩, ⟨(x4), (x5)⟩)
  | _, _ => none
theorem decIs_ok (l : List V) (b : List Blk) (d : PIs × AIs) (h : decIs l b = some d) : l = vsIs d.1 d.2 ∧ b = bsIs d.1 d.2 := by
  unfold decIs at h
  split at h
  · obtain ⟨x0, hx0, h⟩ := Option.bind_eq_some_iff.1 h
    obtain ⟨x1, hx1, h⟩ := Option.bind_eq_some_iff.1 h
    obtain ⟨x2, hx2, h⟩ := Option.bind_eq_some_iff.1 h
    obtain ⟨x3, hx3, h⟩ := Option.bind_eq_some_iff.1 h
    obtain ⟨x4, hx4, h⟩ := Option.bind_eq_some_iff.1 h
    obtain ⟨x5, hx5, h⟩ := Option.bind_eq_some_iff.1 h
    obtain ⟨y0, hy0, h⟩ := Option.bind_eq_some_iff.1 h
    obtain ⟨y1, hy1, h⟩ := Option.bind_eq_some_iff.1 h
    have ex0 := decIs_v0_ok _ _ hx0
    have ex1 := decIs_v1_ok _ _ hx1
    have ex2 := decIs_v2_ok _ _ hx2
    have ex3 := decIs_v3_ok _ _ hx3
    have ex4 := decIs_v4_ok _ _ hx4
    have ex5 := decIs_v5_ok _ _ hx5
    have ey0 := decIs_b0_ok _ _ hy0
    have ey1 := decIs_b1_ok _ _ hy1
    cases h
    subst ex0 ex1 ex2 ex3 ex4 ex5 ey0 ey1
    exact ⟨rfl, rfl⟩
  · cases h
noncomputable def rgIs : Nat := (firstReg lpIs).getD 0
theorem rgIs_is : firstReg lpIs = some rgIs := by kernel_rfl
def tkI (p : PIs) : List Int := (p.ids.drop 0).take p.d
def gdI (p : PIs) (k : Int) : Bool := decide (0 ≤ k) && (decide (k < ((tkI p).length : Int)) && (decide (0 ≤ p.i) && decide (p.i < ((tkI p).length : Int))))
def hIs (p : PIs) (a : AIs) (b : Bool) : List (Bool × Bool) := [(decide (a.k < (p.d : Int)), true), (decide (0 + p.d ≤ p.ids.length), true), (gdI p a.k, true), (lt3 (rvI (tkI p) a.k) (rvI (tkI p) p.i), b)]
theorem is_y (p : PIs) (a : AIs) : T.path [true, true, true, true] (rdIs p a) = some (hIs p a true, (.normal, FIs p ⟨IntKind.wrap .i64 (a.n + 1), IntKind.wrap .i64 (a.k + 1)⟩)) := by kernel_rfl
theorem is_n (p : PIs) (a : AIs) : T.path [true, true, true, false] (rdIs p a) = some (hIs p a false, (.normal, FIs p ⟨a.n, IntKind.wrap .i64 (a.k + 1)⟩)) := by kernel_rfl
theorem is_x (p : PIs) (a : AIs) : T.path [false] (rdIs p a) = some ([(decide (a.k < (p.d : Int)), false)], (.exit 2, FIs p a)) := by kernel_rfl
def cntR (ids : List Int) (i : Int) (k : Nat) : Nat := ((rivals ids).take k).countP fun y => lt3 y (rvI ids i)
structure okIs (p : PIs) (a : AIs) : Prop where
  d : p.d = p.ids.length
  d1 : p.d ≤ 1000000
  i0 : 0 ≤ p.i
  i1 : p.i < (p.d : Int)
  k0 : 0 ≤ a.k
  k1 : a.k ≤ (p.d : Int)
  n : a.n = (cntR p.ids p.i a.k.toNat : Int)
def goIs (p : PIs) (a : AIs) : Bool := decide (a.k < (p.d : Int))
def muIs (p : PIs) (a : AIs) : Nat := ((p.d : Int) - a.k).toNat
theorem rivals_at {ids : List Int} {k : Int} (h0 : 0 ≤ k) (h1 : k < (ids.length : Int)) : (rivals ids)[k.toNat]? = some (rvI ids k) := by
  have hl : k.toNat < ids.length := by omega
  unfold rivals rvI
  rw [rivF_get, Nat.zero_add, List.getD_eq_getElem?_getD, List.getElem?_eq_getElem hl]
  simp only [Option.map_some, Option.getD_some]
  have : ((k.toNat : Nat) : Int) = k := by omega
  rw [this]
theorem cntR_add {ids : List Int} {i k : Int} (h0 : 0 ≤ k) (h1 : k < (ids.length : Int)) : cntR ids i (k + 1).toNat = cntR ids i k.toNat + if lt3 (rvI ids k) (rvI ids i) = true then 1 else 0 := by
  unfold cntR
  rw [show (k + 1).toNat = k.toNat + 1 by omega, List.take_add_one, rivals_at h0 h1, List.countP_append]
  show _ + List.countP _ [rvI ids k] = _
  rw [List.countP_singleton]
theorem cntR_le (ids : List Int) (i : Int) (k : Nat) : cntR ids i k ≤ ids.length := by
  refine Nat.le_trans List.countP_le_length ?_
  rw [List.length_take, show (rivals ids).length = ids.length from rivF_len _ _]
  exact Nat.min_le_right _ _
theorem stepIs (p : PIs) (a : AIs) (h : okIs p a) (hg : goIs p a = true) : ∃ b, stepC okIs rdIs FIs muIs p a b := by
  have hk : a.k < (p.d : Int) := of_decide_eq_true hg
  obtain ⟨h1, h2, h3, h4, h5, h6, h7⟩ := h
  have et : tkI p = p.ids := by unfold tkI; rw [List.drop_zero, h1, List.take_length]
  have w : IntKind.wrap .i64 (a.k + 1) = a.k + 1 := wrap64_in (by omega) (by omega)
  have c1 : decide (0 + p.d ≤ p.ids.length) = true := decide_eq_true (by omega)
  have c2 : gdI p a.k = true := by
    unfold gdI
    rw [et, decide_eq_true h5, decide_eq_true (show a.k < (p.ids.length : Int) by omega), decide_eq_true h3, decide_eq_true (show p.i < (p.ids.length : Int) by omega)]; rfl
  have hl := cntR_le p.ids p.i a.k.toNat
  have add := cntR_add (ids := p.ids) (i := p.i) (k := a.k) h5 (by omega)
  have mu : ∀ n, muIs p ⟨n, a.k + 1⟩ < muIs p a := fun n => by show ((p.d : Int) - (a.k + 1)).toNat < ((p.d : Int) - a.k).toNat; omega
  cases hb : lt3 (rvI (tkI p) a.k) (rvI (tkI p) p.i) with
  | true =>
    have way := is_y p a
    have w2 : IntKind.wrap .i64 (a.n + 1) = a.n + 1 := wrap64_in (by omega) (by omega)
    rw [w, w2] at way
    refine ⟨_, T.path_eval way ⟨hg, c1, c2, hb, trivial⟩, ⟨h1, h2, h3, h4, by show 0 ≤ a.k + 1; omega, by show a.k + 1 ≤ _; omega, ?_⟩, mu _⟩
    show a.n + 1 = (cntR p.ids p.i (a.k + 1).toNat : Int)
    rw [et] at hb
    rw [add, if_pos hb]; omega
  | false =>
    have way := is_n p a
    rw [w] at way
    refine ⟨_, T.path_eval way ⟨hg, c1, c2, hb, trivial⟩, ⟨h1, h2, h3, h4, by show 0 ≤ a.k + 1; omega, by show a.k + 1 ≤ _; omega, ?_⟩, mu _⟩
    show a.n = (cntR p.ids p.i (a.k + 1).toNat : Int)
    rw [et] at hb
    rw [add, hb]; simpa using h7
theorem exIs (p : PIs) (a : AIs) (h : okIs p a) (hg : goIs p a = false) : (rdIs p a).eval = some (.exit 2, FIs p a) := T.path_eval (is_x p a) ⟨hg, trivial⟩
noncomputable def famIs : LSpec := famC [0,1,5,6,7,8] SIs 5000 5000 49 decIs okIs goIs rdIs FIs muIs (.exit 2)
theorem lpIs_ok : LoopOk C1 lpIs famIs := famC_ok (vs := vsIs) (bs := bsIs) C1_ok mixed (noLoops_ok _) decIs_ok (by simp) (fun _ _ => rfl) (fun _ _ => rfl) stepIs exIs
theorem is_in : LoopsOkS C1 (byReg [(rgIs, famIs)]) lpOs0 := lps_in (by kernel_rfl) rgIs_is lpIs_ok
noncomputable def lpOs : Code := lpOs0
structure POs where (d : Nat) (mo : Int) (ids : List Int)
structure AOs where (q : Nat) (i : Int) (o : List Int)
abbrev SOs : List (Nat × Src) := [(0, .same), (4000, .tmp 5)]
def vsOs (p : POs) (a : AOs) : List V := [.sub 0 1 0 p.d, iv p.mo, .sub 4000 1 0 a.q, iv a.i]
def bsOs (p : POs) (a : AOs) : List Blk := [.lst false 3 [.int .i64] p.ids, .lst true 3 [.int .i64] a.o]
noncomputable def FOs (p : POs) (a : AOs) : St := mkSt [0,1,5,6] (keysR SOs) 4001 49 (vsOs p a) (bsOs p a)
noncomputable def rdOs (p : POs) (a : AOs) : T (Ex × St) := T.anon (roundN C1 (byReg [(rgIs, famIs)]) lpOs [0,1,5,6] SOs 4000 4001 (mkSt [0,1,5,6] (keysR SOs) 4001 49 (vsOs p a) (bsOs p a)))
def decOs_v0 : V → Option ((Nat))
  | .sub 0 1 0 d => some (d)
  | _ => none
theorem decOs_v0_ok (b : V) (x0 : (Nat)) (h : decOs_v0 b = some x0) : b = .sub 0 1 0 (x0) := by
  unfold decOs_v0 at h
  split at h
  · cases h
    rfl
  · cases h
def decOs_v1 : V → Option ((Int))
  | .s (.int .i64 mo) => some (mo)
  | _ => none
theorem decOs_v1_ok (b : V) (x1 : (Int)) (h : decOs_v1 b = some x1) : b = iv (x1) := by
  unfold decOs_v1 at h
  split at h
  · cases h
    rfl
  · cases h
def decOs_v2 : V → Option ((Nat))
  | .sub 4000 1 0 q => some (q)
  | _ => none
theorem decOs_v2_ok (b : V) (x2 : (Nat)) (h : decOs_v2 b = some x2) : b = .sub 4000 1 0 (x2) := by
  unfold decOs_v2 at h
  split at h
  · cases h
    rfl
  · cases h
def decOs_v3 : V → Option ((Int))
  | .s (.int .i64 i) => some (i)
  | _ => none
theorem decOs_v3_ok (b : V) (x3 : (Int)) (h : decOs_v3 b = some x3) : b = iv (x3) := by
  unfold decOs_v3 at h
  split at h
  · cases h
    rfl
  · cases h
def decOs_b0 : Blk → Option ((List Int))
  | .lst false tt0 [.int .i64] ids => if tt0 = 3 then some (ids) else none
  | _ => none
theorem decOs_b0_ok (b : Blk) (y0 : (List Int)) (h : decOs_b0 b = some y0) : b = .lst false 3 [.int .i64] (y0) := by
  unfold decOs_b0 at h
  split at h
  · obtain ⟨e0, h⟩ := ite_some0 h
    subst e0
    cases h
    rfl
  · cases h
def decOs_b1 : Blk → Option ((List Int))
  | .lst true tt0 [.int .i64] o => if tt0 = 3 then some (o) else none
  | _ => none
theorem decOs_b1_ok (b : Blk) (y1 : (List Int)) (h : decOs_b1 b = some y1) : b = .lst true 3 [.int .i64] (y1) := by
  unfold decOs_b1 at h
  split at h
  · obtain ⟨e0, h⟩ := ite_some0 h
    subst e0
    cases h
    rfl
  · cases h
def decOs : List V → List Blk → Option (POs × AOs)
  | [v0, v1, v2, v3], [b0, b1] => (decOs_v0 v0).bind fun x0 => (decOs_v1 v1).bind fun x1 => (decOs_v2 v2).bind fun x2 => (decOs_v3 v3).bind fun x3 => (decOs_b0 b0).bind fun y0 => (decOs_b1 b1).bind fun y1 => some (⟨(x0), (x1), (y0)⟩, ⟨(x2), (x3), (y1)⟩)
  | _, _ => none
theorem decOs_ok (l : List V) (b : List Blk) (d : POs × AOs) (h : decOs l b = some d) : l = vsOs d.1 d.2 ∧ b = bsOs d.1 d.2 := by
  unfold decOs at h
  split at h
  · obtain ⟨x0, hx0, h⟩ := Option.bind_eq_some_iff.1 h
    obtain ⟨x1, hx1, h⟩ := Option.bind_eq_some_iff.1 h
    obtain ⟨x2, hx2, h⟩ := Option.bind_eq_some_iff.1 h
    obtain ⟨x3, hx3, h⟩ := Option.bind_eq_some_iff.1 h
    obtain ⟨y0, hy0, h⟩ := Option.bind_eq_some_iff.1 h
    obtain ⟨y1, hy1, h⟩ := Option.bind_eq_some_iff.1 h
    have ex0 := decOs_v0_ok _ _ hx0
    have ex1 := decOs_v1_ok _ _ hx1
    have ex2 := decOs_v2_ok _ _ hx2
    have ex3 := decOs_v3_ok _ _ hx3
    have ey0 := decOs_b0_ok _ _ hy0
    have ey1 := decOs_b1_ok _ _ hy1
    cases h
    subst ex0 ex1 ex2 ex3 ey0 ey1
    exact ⟨rfl, rfl⟩
  · cases h
noncomputable def rgOs : Nat := (firstReg lpOs).getD 0
theorem rgOs_is : firstReg lpOs = some rgOs := by kernel_rfl
end Go.Proofs.Ytjjclmgiehnkbaa.Sub

/- Layer 18: the document's Subset: its contract. -/
namespace Go.Proofs.Ytjjclmgiehnkbaa.Sub
open Go.Eng Go.RowKit
set_option linter.unusedVariables false
set_option linter.unusedSimpArgs false
set_option maxRecDepth 100000
def pIs (p : POs) (a : AOs) : PIs := ⟨p.d, p.mo, a.q, a.i, p.ids, a.o⟩
noncomputable def eIs (p : POs) (a : AOs) : AIs := endW (nxtC okIs goIs rdIs FIs muIs (pIs p a)) ⟨0, 0⟩
noncomputable def ltO (p : POs) (a : AOs) : Bool := decide ((eIs p a).n < p.mo)
def xO (p : POs) (a : AOs) : Int := p.ids.getD (0 + a.i.toNat) 0
def apO (a : AOs) (x : Int) : Bool := true && (decide (a.q ≤ a.o.length) && decide (a.q + [x].length ≤ 1000000))
theorem os_x (p : POs) (a : AOs) : T.path [false] (rdOs p a) = some ([(decide (a.i < (p.d : Int)), false)], (.exit 0, FOs p a)) := by kernel_rfl
theorem os_y (p : POs) (a : AOs) : T.path [true, true, true, true, true, true] (rdOs p a) = some ([(decide (a.i < (p.d : Int)), true), (invC okIs (pIs p a) ⟨0, 0⟩, true), (ltO p a, true), (idx p.d p.ids a.i, true), (ilK p.ids a.i, true), (apO a (xO p a), true)], (.normal, FOs p ⟨a.q + [xO p a].length, IntKind.wrap .i64 (a.i + 1), a.o.take a.q ++ [xO p a]⟩)) := by kernel_rfl
theorem os_n (p : POs) (a : AOs) : T.path [true, true, false] (rdOs p a) = some ([(decide (a.i < (p.d : Int)), true), (invC okIs (pIs p a) ⟨0, 0⟩, true), (ltO p a, false)], (.normal, FOs p ⟨a.q, IntKind.wrap .i64 (a.i + 1), a.o⟩)) := by kernel_rfl
def selO (ids : List Int) (m : Nat) (i : Nat) : List Int := (((rivals ids).take i).filter fun x => decide (rank (rivals ids) x < m)).map fun x => x.2.1
structure okOs (p : POs) (a : AOs) : Prop where
  d : p.d = p.ids.length
  d1 : p.d ≤ 1000000
  mo : 1 ≤ p.mo
  i0 : 0 ≤ a.i
  i1 : a.i ≤ (p.d : Int)
  q : a.q = a.o.length
  o : a.o = selO p.ids p.mo.toNat a.i.toNat
def goOs (p : POs) (a : AOs) : Bool := decide (a.i < (p.d : Int))
def muOs (p : POs) (a : AOs) : Nat := ((p.d : Int) - a.i).toNat
theorem selO_add {ids : List Int} {m : Nat} {i : Int} (h0 : 0 ≤ i) (h1 : i < (ids.length : Int)) : selO ids m (i + 1).toNat = selO ids m i.toNat ++ (if rank (rivals ids) (rvI ids i) < m then [(rvI ids i).2.1] else []) := by
  unfold selO
  rw [show (i + 1).toNat = i.toNat + 1 by omega, List.take_add_one, rivals_at h0 h1, List.filter_append, List.map_append]
  congr 1
  show List.map _ (List.filter _ [rvI ids i]) = _
  by_cases q : rank (rivals ids) (rvI ids i) < m
  · rw [if_pos q, List.filter_cons_of_pos (by simpa using q)]; rfl
  · rw [if_neg q, List.filter_cons_of_neg (by simpa using q)]; rfl
theorem selO_le (ids : List Int) (m i : Nat) : (selO ids m i).length ≤ i := by
  unfold selO
  rw [List.length_map]
  refine Nat.le_trans (List.length_filter_le _ _) ?_
  rw [List.length_take]; exact Nat.min_le_left _ _
theorem eIs_is {p : POs} {a : AOs} (h : okOs p a) (hi : a.i < (p.d : Int)) : okIs (pIs p a) ⟨0, 0⟩ ∧ (eIs p a).n = (rank (rivals p.ids) (rvI p.ids a.i) : Int) := by
  obtain ⟨h1, h2, h3, h4, h5, h6, h7⟩ := h
  have h0 : okIs (pIs p a) ⟨0, 0⟩ := ⟨h1, h2, h4, hi, Int.le_refl _, Int.natCast_nonneg _, rfl⟩
  obtain ⟨k1, k2⟩ := endC stepIs h0
  have k1 : okIs (pIs p a) (eIs p a) := k1
  have k2 : goIs (pIs p a) (eIs p a) = false := k2
  refine ⟨h0, ?_⟩
  obtain ⟨-, -, -, -, k0, kk, n⟩ := k1
  have hk : ¬ (eIs p a).k < (p.d : Int) := of_decide_eq_false k2
  rw [n]
  show ((cntR p.ids a.i (eIs p a).k.toNat : Nat) : Int) = _
  unfold cntR rank
  rw [List.take_of_length_le (by rw [show (rivals p.ids).length = p.ids.length from rivF_len _ _]; omega)]
theorem stepOs (p : POs) (a : AOs) (h : okOs p a) (hg : goOs p a = true) : ∃ b, stepC okOs rdOs FOs muOs p a b := by
  have hi : a.i < (p.d : Int) := of_decide_eq_true hg
  obtain ⟨g0, gn⟩ := eIs_is h hi
  obtain ⟨h1, h2, h3, h4, h5, h6, h7⟩ := h
  have w : IntKind.wrap .i64 (a.i + 1) = a.i + 1 := wrap64_in (by omega) (by omega)
  have mu : ∀ q o, muOs p ⟨q, a.i + 1, o⟩ < muOs p a := fun q o => by show ((p.d : Int) - (a.i + 1)).toNat < ((p.d : Int) - a.i).toNat; omega
  have add := selO_add (ids := p.ids) (m := p.mo.toNat) (i := a.i) h4 (by omega)
  have hle := selO_le p.ids p.mo.toNat a.i.toNat
  by_cases q : rank (rivals p.ids) (rvI p.ids a.i) < p.mo.toNat
  · rw [if_pos q, ← h7] at add
    have way := os_y p a
    rw [w, show a.o.take a.q = a.o from List.take_of_length_le (by omega)] at way
    have c1 : idx p.d p.ids a.i = true := by
      unfold idx
      rw [decide_eq_true h4, decide_eq_true hi, decide_eq_true (show 0 + a.i.toNat < p.ids.length by omega)]; rfl
    have c2 : apO a (xO p a) = true := by
      unfold apO
      rw [h7] at h6
      rw [decide_eq_true (show a.q ≤ a.o.length by rw [h7]; omega), decide_eq_true (show a.q + [xO p a].length ≤ 1000000 by simp only [List.length_singleton]; omega)]; rfl
    refine ⟨_, T.path_eval way ⟨hg, invC_is g0, decide_eq_true (by omega), c1, decide_eq_true (by omega), c2, trivial⟩, ⟨h1, h2, h3, by show 0 ≤ a.i + 1; omega, by show a.i + 1 ≤ _; omega, ?_, add.symm⟩, mu _ _⟩
    show a.q + [xO p a].length = (a.o ++ [xO p a]).length
    rw [List.length_append]; omega
  · rw [if_neg q, List.append_nil, ← h7] at add
    have way := os_n p a
    rw [w] at way
    exact ⟨_, T.path_eval way ⟨hg, invC_is g0, decide_eq_false (by omega), trivial⟩, ⟨h1, h2, h3, by show 0 ≤ a.i + 1; omega, by show a.i + 1 ≤ _; omega, h6, add.symm⟩, mu _ _⟩
theorem exOs (p : POs) (a : AOs) (h : okOs p a) (hg : goOs p a = false) : (rdOs p a).eval = some (.exit 0, FOs p a) := T.path_eval (os_x p a) ⟨hg, trivial⟩
noncomputable def famOs : LSpec := famC [0,1,5,6] SOs 4000 4001 49 decOs okOs goOs rdOs FOs muOs (.exit 0)
theorem lpOs_gen {c : Code} (hl : LoopsOkS C1 (byReg [(rgIs, famIs)]) c) (hrun : ∀ p a, T.anon (roundN C1 (byReg [(rgIs, famIs)]) c [0,1,5,6] SOs 4000 4001 (mkSt [0,1,5,6] (keysR SOs) 4001 49 (vsOs p a) (bsOs p a))) = rdOs p a) : LoopOk C1 c famOs := famC_ok (vs := vsOs) (bs := bsOs) C1_ok mixed hl.ok decOs_ok (by simp) (fun _ _ => rfl) hrun stepOs exOs
theorem lpOs_ok : LoopOk C1 lpOs famOs := lpOs_gen is_in (fun _ _ => rfl)
noncomputable def suX : Eng.Spec := execS C1 (byReg [(rgOs, famOs)]) 16
theorem suX_ok : SpecOk Try.prog 16 suX := execS_loops C1_ok mixed Try.func16 (by kernel_rfl) (by kernel_rfl) (one_lp (c := lpOs) (by kernel_rfl) rgOs_is lpOs_ok)
end Go.Proofs.Ytjjclmgiehnkbaa.Sub

/- Layer 18: the document's Subset; SubsetAsks as a tree. -/
namespace Go.Proofs.Ytjjclmgiehnkbaa.Sub
open Go.Eng Go.RowKit
set_option linter.unusedVariables false
set_option linter.unusedSimpArgs false
set_option maxRecDepth 100000
def pO (ids : List Int) (m : Int) : POs := ⟨ids.length, m, ids⟩
def aO : AOs := ⟨0, 0, []⟩
noncomputable def eO (ids : List Int) (m : Int) : AOs := endW (nxtC okOs goOs rdOs FOs muOs (pO ids m)) aO
def cl2 (l : List Int) : Bool := decide (0 + l.length ≤ l.length) && (decide (0 ≤ ([] : List Int).length) && decide (0 + ((l.drop 0).take l.length).length ≤ 1000000))
def cl3 (l : List Int) : Bool := decide (0 + ((l.drop 0).take l.length).length = (([] : List Int).take 0 ++ (l.drop 0).take l.length).length)
theorem su_c (ids : List Int) (m : Int) : T.path [true, true, true] (T.anon (suX [rI ids, iv m])) = some ([(cO ids m, true), (cl2 ids, true), (cl3 ids, true)], rI (tI ids)) := by kernel_rfl
theorem su_f (ids : List Int) (m : Int) : T.path [false, true, true] (T.anon (suX [rI ids, iv m])) = some ([(cO ids m, false), (invC okOs (pO ids m) aO, true), (decide ((eO ids m).q = (eO ids m).o.length), true)], rI (eO ids m).o) := by kernel_rfl
theorem su_run {ids : List Int} (h : ids.length ≤ 1000000) (m : Int) : (suX [rI ids, iv m]).eval = some (rI (ofV ids m)) := by
  rw [← T.eval_anon (t := suX _)]
  have ht : tI ids = ids := by unfold tI; rw [List.drop_zero, List.take_length]
  unfold ofV
  by_cases hc : m < 1 ∨ (ids.length : Int) ≤ m
  · rw [if_pos hc]
    have way := su_c ids m
    rw [ht] at way
    refine T.path_eval way ⟨?_, ?_, ?_, trivial⟩
    · unfold cO
      by_cases q : m < 1
      · rw [decide_eq_true q]; rfl
      · rw [decide_eq_false q, decide_eq_true (show (ids.length : Int) ≤ m by omega)]; rfl
    · unfold cl2
      rw [show (ids.drop 0).take ids.length = ids from ht, decide_eq_true (show 0 + ids.length ≤ ids.length by omega), decide_eq_true (show 0 + ids.length ≤ 1000000 by omega)]; rfl
    · unfold cl3
      rw [show (ids.drop 0).take ids.length = ids from ht]
      exact decide_eq_true (by rw [List.take_zero, List.nil_append]; omega)
  · rw [if_neg hc]
    have h0 : okOs (pO ids m) aO := ⟨rfl, h, by show 1 ≤ m; omega, Int.le_refl _, Int.natCast_nonneg _, rfl, rfl⟩
    obtain ⟨k1, k2⟩ := endC stepOs h0
    have k1 : okOs (pO ids m) (eO ids m) := k1
    have k2 : goOs (pO ids m) (eO ids m) = false := k2
    obtain ⟨-, -, -, i0, i1, q, o⟩ := k1
    have hi : ¬ (eO ids m).i < (ids.length : Int) := of_decide_eq_false k2
    have eo : (eO ids m).o = (firsts (rivals ids) m.toNat).map (fun x => x.2.1) := by
      rw [o]
      unfold selO firsts
      show List.map _ (List.filter _ (List.take _ (rivals ids))) = _
      rw [List.take_of_length_le (by rw [show (rivals ids).length = ids.length from rivF_len _ _]; omega)]; rfl
    have way := su_f ids m
    rw [eo] at way
    refine T.path_eval way ⟨?_, invC_is h0, ?_, trivial⟩
    · unfold cO
      rw [decide_eq_false (show ¬ m < 1 by omega), decide_eq_false (show ¬ (ids.length : Int) ≤ m by omega)]; rfl
    · rw [← eo]; exact decide_eq_true q
def suS : Eng.Spec
  | [.orow t [.int .i64] ids, .s (.int .i64 m)] => if t = 3 then .ite none (decide (List.length ids ≤ 1000000)) (.ret (.orow 3 [.int .i64] (ofV ids m))) .fail else .fail
  | _ => .fail
theorem suS_ok : SpecOk Try.prog 16 suS := suX_ok.of_eval fun args v h => by
  unfold suS at h
  split at h
  · rename_i t ids m
    obtain ⟨q1, e1⟩ := ite_f h
    obtain ⟨hb, e2⟩ := ite_T' e1
    obtain rfl := Option.some.inj e2
    clear h e1 e2
    subst q1
    exact su_run (of_decide_eq_true hb) m
  · cases h
noncomputable def C2 : Cfg := ⟨Try.prog, lookG [(13, .val tdS), (12, .val scS), (14, .val scS), (11, .val ofS), (16, .val suS), (15, .val niS)], [], 0⟩
theorem C2_ok : C2.Ok := Cfg.ok ⟨tdS_ok, scS_ok, rsS_ok, ofS_ok, suS_ok, niS_ok, trivial⟩ trivial
noncomputable def asX : Eng.Spec := execS C2 noLoops 5
theorem asX_ok : SpecOk Try.prog 5 asX := execS_plain C2_ok mixed Try.func5 (by kernel_rfl) (by kernel_rfl)
end Go.Proofs.Ytjjclmgiehnkbaa.Sub

/- Layer 18: SubsetAsks: the law run. -/
namespace Go.Proofs.Ytjjclmgiehnkbaa.Sub
open Go.Eng Go.RowKit
set_option linter.unusedVariables false
set_option linter.unusedSimpArgs false
set_option maxRecDepth 100000
theorem as_t (ids : List Int) (m i : Int) : T.path [true] (T.anon (asX [rI ids, iv m, iv i])) = some ([(decide (60 < (ids.length : Int)), true)], .s (.bool true)) := by kernel_rfl
def b2 (l : List Int) : Bool := decide (0 + l.length ≤ l.length)
def b3 (l : List Int) : Bool := decide (l.length ≤ 1000000)
def b7 (l : List Int) : Bool := decide (l.length ≤ 1000000000)
theorem as_f (ids : List Int) (m i : Int) : T.path [false, true, true, true, true, true, true, true] (T.anon (asX [rI ids, iv m, iv i])) = some ([(decide (60 < (ids.length : Int)), false), (scI i == scI i, true), (b2 ids, true), (b3 (tI ids), true), (b2 ids, true), (b3 (tI ids), true), (b2 (ofV (tI ids) m) && b2 (ofV (tI ids) m), true), (b7 (tI (ofV (tI ids) m)), true)],
    .s (.bool (bif scI i == scI i then sameI (tI (ofV (tI ids) m)) (tI (ofV (tI ids) m)) else false))) := by kernel_rfl
theorem ofV_len (ids : List Int) (m : Int) : (ofV ids m).length ≤ ids.length := by
  unfold ofV
  split
  · exact Nat.le_refl _
  · rw [List.length_map]
    unfold firsts
    refine Nat.le_trans (List.length_filter_le _ _) (Nat.le_of_eq (rivF_len _ _))
theorem as_run (ids : List Int) (m i : Int) : (asX [rI ids, iv m, iv i]).yes := by
  unfold T.yes
  rw [← T.eval_anon (t := asX _)]
  refine .inr ?_
  by_cases h : 60 < (ids.length : Int)
  · exact T.path_eval (as_t ids m i) ⟨decide_eq_true h, trivial⟩
  · have way := as_f ids m i
    have ht : ∀ l : List Int, tI l = l := fun l => by unfold tI; rw [List.drop_zero, List.take_length]
    rw [ht, ht, beq_self_eq_true] at way
    have e : sameI (ofV ids m) (ofV ids m) = true := decide_eq_true rfl
    rw [e] at way
    have hl := ofV_len ids m
    have c2 : ∀ l : List Int, b2 l = true := fun l => decide_eq_true (by omega)
    exact T.path_eval way ⟨decide_eq_false h, rfl, c2 _, decide_eq_true (by omega), c2 _, decide_eq_true (by omega), by rw [c2]; rfl, decide_eq_true (by omega), trivial⟩
theorem asks_walk (a0 : List Int) (z0 : a0.length ≤ maxLen) (w0 : ∀ x ∈ a0, (Lit.int .i64 x).wf = true) (x0 : Value) (a1 : Int) (w1 : (Lit.int .i64 a1).wf = true) (a2 : Int) (w2 : (Lit.int .i64 a2).wf = true) (w : World) (hx0 : holdsP 0 w (.orow 3 [.int .i64] a0) x0) :
    Calls Try.prog 5 #[x0, .int .i64 a1, .int .i64 a2] w fun e w' => e = .returned (.bool true) ∧ Below w.heap.size w w' :=
  Law.law_rows (args := [rI a0, iv a1, iv a2]) (xs := [x0, .int .i64 a1, .int .i64 a2]) asX_ok rfl (as_run a0 a1 a2) w ⟨hx0, rfl, rfl, trivial⟩
end Go.Proofs.Ytjjclmgiehnkbaa.Sub

