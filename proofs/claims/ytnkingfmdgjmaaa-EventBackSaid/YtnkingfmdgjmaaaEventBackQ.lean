import Derived.Test.YtnkingfmdgjmaaaGY
/- Layer 23: EventRaw. -/
namespace Go.Proofs.Ytnkingfmdgjmaaa.Evt
open Go.Eng Go.RowKit
set_option linter.unusedVariables false
set_option linter.unusedSimpArgs false
set_option maxRecDepth 100000
def yesT : Eng.Spec
  | [] => .ret .tt
  | _ => .fail
theorem tldT_ok : SpecOk Try.prog 12 yesT := tldX_ok.of_den fun args v hfl h => by
  clear hfl
  unfold yesT at h
  split at h
  · obtain rfl := Option.some.inj h
    exact ⟨_, tld_run, ⟨rfl, rfl⟩, rfl⟩
  · cases h
noncomputable def ER : Cfg := ⟨Try.prog, lookG [(17, .obj allS), (11, .obj putS), (13, .val mayS), (12, .val yesT), (19, .val eqS), (14, .val fewS)], [], 0⟩
theorem ER_ok : ER.Ok := Cfg.ok ⟨allS_ok, putS_ok, may_ok, tldT_ok, eq_ok, few_ok, trivial⟩ trivial
noncomputable def lpRw : Code := loopAt Try.prog 7 0
structure PRw where (n : Nat) (k : Nat) (z : Nat) (e : Int) (x : Int) (b : List Int) (l : List Ev) (c : List Int)
structure ARw where (i : Int)
abbrev SRw : List (Nat × Src) := [(0, .same), (9, .same), (17, .same)]
def vsRw (p : PRw) (a : ARw) : List V := [.sub 0 1 0 p.n, .sub 9 3 0 p.k, iv p.e, iv p.x, .sub 17 1 0 p.z, iv a.i]
def bsRw (p : PRw) (a : ARw) : List Blk := [.lst false 5 [.int .u8] p.b, .lst true 34 [.int .i64, .int .i64, .str] p.l, .lst true 5 [.int .u8] p.c]
noncomputable def FRw (p : PRw) (a : ARw) : St := mkSt [0,3,4,5,6,8] (keysR SRw) 4000 87 (vsRw p a) (bsRw p a)
noncomputable def rdRw (p : PRw) (a : ARw) : T (Ex × St) := T.anon (roundN ER noLoops lpRw [0,3,4,5,6,8] SRw 4000 4000 (mkSt [0,3,4,5,6,8] (keysR SRw) 4000 87 (vsRw p a) (bsRw p a)))
def decRw_v0 : V → Option ((Nat))
  | .sub 0 1 0 n => some (n)
  | _ => none
theorem decRw_v0_ok (b : V) (x0 : (Nat)) (h : decRw_v0 b = some x0) : b = .sub 0 1 0 (x0) := by
  unfold decRw_v0 at h
  split at h
  · cases h
    rfl
  · cases h
def decRw_v1 : V → Option ((Nat))
  | .sub 9 3 0 k => some (k)
  | _ => none
theorem decRw_v1_ok (b : V) (x1 : (Nat)) (h : decRw_v1 b = some x1) : b = .sub 9 3 0 (x1) := by
  unfold decRw_v1 at h
  split at h
  · cases h
    rfl
  · cases h
def decRw_v2 : V → Option ((Int))
  | .s (.int .i64 e) => some (e)
  | _ => none
theorem decRw_v2_ok (b : V) (x2 : (Int)) (h : decRw_v2 b = some x2) : b = iv (x2) := by
  unfold decRw_v2 at h
  split at h
  · cases h
    rfl
  · cases h
def decRw_v3 : V → Option ((Int))
  | .s (.int .i64 x) => some (x)
  | _ => none
theorem decRw_v3_ok (b : V) (x3 : (Int)) (h : decRw_v3 b = some x3) : b = iv (x3) := by
  unfold decRw_v3 at h
  split at h
  · cases h
    rfl
  · cases h
def decRw_v4 : V → Option ((Nat))
  | .sub 17 1 0 z => some (z)
  | _ => none
theorem decRw_v4_ok (b : V) (x4 : (Nat)) (h : decRw_v4 b = some x4) : b = .sub 17 1 0 (x4) := by
  unfold decRw_v4 at h
  split at h
  · cases h
    rfl
  · cases h
def decRw_v5 : V → Option ((Int))
  | .s (.int .i64 i) => some (i)
  | _ => none
theorem decRw_v5_ok (b : V) (x5 : (Int)) (h : decRw_v5 b = some x5) : b = iv (x5) := by
  unfold decRw_v5 at h
  split at h
  · cases h
    rfl
  · cases h
def decRw_b0 : Blk → Option ((List Int))
  | .lst false tt0 [.int .u8] b => if tt0 = 5 then some (b) else none
  | _ => none
theorem decRw_b0_ok (b : Blk) (y0 : (List Int)) (h : decRw_b0 b = some y0) : b = .lst false 5 [.int .u8] (y0) := by
  unfold decRw_b0 at h
  split at h
  · obtain ⟨e0, h⟩ := ite_some0 h
    subst e0
    cases h
    rfl
  · cases h
def decRw_b1 : Blk → Option ((List Ev))
  | .lst true tt0 [.int .i64, .int .i64, .str] l => if tt0 = 34 then some (l) else none
  | _ => none
theorem decRw_b1_ok (b : Blk) (y1 : (List Ev)) (h : decRw_b1 b = some y1) : b = .lst true 34 [.int .i64, .int .i64, .str] (y1) := by
  unfold decRw_b1 at h
  split at h
  · obtain ⟨e0, h⟩ := ite_some0 h
    subst e0
    cases h
    rfl
  · cases h
def decRw_b2 : Blk → Option ((List Int))
  | .lst true tt0 [.int .u8] c => if tt0 = 5 then some (c) else none
  | _ => none
theorem decRw_b2_ok (b : Blk) (y2 : (List Int)) (h : decRw_b2 b = some y2) : b = .lst true 5 [.int .u8] (y2) := by
  unfold decRw_b2 at h
  split at h
  · obtain ⟨e0, h⟩ := ite_some0 h
    subst e0
    cases h
    rfl
  · cases h
def decRw : List V → List Blk → Option (PRw × ARw)
  | [v0, v1, v2, v3, v4, v5], [b0, b1, b2] => (decRw_v0 v0).bind fun x0 => (decRw_v1 v1).bind fun x1 => (decRw_v2 v2).bind fun x2 => (decRw_v3 v3).bind fun x3 => (decRw_v4 v4).bind fun x4 => (decRw_v5 v5).bind fun x5 => (decRw_b0 b0).bind fun y0 => (decRw_b1 b1).bind fun y1 => (decRw_b2 b2).bind fun y2 => some (⟨(x0), (x1), (x4), (x2), (x3), (y0), (y1), (y2)⟩, ⟨(x5)⟩)
  | _, _ => none
theorem decRw_ok (l : List V) (b : List Blk) (d : PRw × ARw) (h : decRw l b = some d) : l = vsRw d.1 d.2 ∧ b = bsRw d.1 d.2 := by
  unfold decRw at h
  split at h
  · obtain ⟨x0, hx0, h⟩ := Option.bind_eq_some_iff.1 h
    obtain ⟨x1, hx1, h⟩ := Option.bind_eq_some_iff.1 h
    obtain ⟨x2, hx2, h⟩ := Option.bind_eq_some_iff.1 h
    obtain ⟨x3, hx3, h⟩ := Option.bind_eq_some_iff.1 h
    obtain ⟨x4, hx4, h⟩ := Option.bind_eq_some_iff.1 h
    obtain ⟨x5, hx5, h⟩ := Option.bind_eq_some_iff.1 h
    obtain ⟨y0, hy0, h⟩ := Option.bind_eq_some_iff.1 h
    obtain ⟨y1, hy1, h⟩ := Option.bind_eq_some_iff.1 h
    obtain ⟨y2, hy2, h⟩ := Option.bind_eq_some_iff.1 h
    have ex0 := decRw_v0_ok _ _ hx0
    have ex1 := decRw_v1_ok _ _ hx1
    have ex2 := decRw_v2_ok _ _ hx2
    have ex3 := decRw_v3_ok _ _ hx3
    have ex4 := decRw_v4_ok _ _ hx4
    have ex5 := decRw_v5_ok _ _ hx5
    have ey0 := decRw_b0_ok _ _ hy0
    have ey1 := decRw_b1_ok _ _ hy1
    have ey2 := decRw_b2_ok _ _ hy2
    cases h
    subst ex0 ex1 ex2 ex3 ex4 ex5 ey0 ey1 ey2
    exact ⟨rfl, rfl⟩
  · cases h
noncomputable def rgRw : Nat := (firstReg lpRw).getD 0
theorem rgRw_is : firstReg lpRw = some rgRw := by kernel_rfl
def xR (p : PRw) (a : ARw) : Ev := p.l.getD (0 + a.i.toNat) e0
theorem rw_n (p : PRw) (a : ARw) : T.path [true, true, true, false] (rdRw p a) = some ([(decide (a.i < (p.k : Int)), true), (idR p.l p.k a.i, true), (ldR p.l a.i, true), (!mE (xR p a), false)], (.normal, FRw p ⟨IntKind.wrap .i64 (a.i + 1)⟩)) := by kernel_rfl
theorem rw_x (p : PRw) (a : ARw) : T.path [false] (rdRw p a) = some ([(decide (a.i < (p.k : Int)), false)], (.exit 0, FRw p a)) := by kernel_rfl
structure okRw (p : PRw) (a : ARw) : Prop where
  k : p.k = p.l.length
  k1 : p.k ≤ 1000000
  g : p.l.all mE = true
  i0 : 0 ≤ a.i
  i1 : a.i ≤ (p.k : Int)
def goRw (p : PRw) (a : ARw) : Bool := decide (a.i < (p.k : Int))
def muRw (p : PRw) (a : ARw) : Nat := (p.k - a.i).toNat
theorem stepRw (p : PRw) (a : ARw) (h : okRw p a) (hg : goRw p a = true) : ∃ b, stepC okRw rdRw FRw muRw p a b := by
  have hi : a.i < (p.k : Int) := of_decide_eq_true hg
  obtain ⟨h1, h2, h3, h4, h5⟩ := h
  have hl : a.i.toNat < p.l.length := by omega
  obtain ⟨y1, y2⟩ := idR_is (g := p.l) (k := p.k) (i := a.i) h1 h4 hi
  have hm : mE (xR p a) = true := by
    rw [show xR p a = p.l[a.i.toNat] from getD0 rfl hl]
    exact List.all_eq_true.1 h3 _ (List.getElem_mem hl)
  have way := rw_n p a
  rw [wrap64 (n := a.i + 1) (by omega) (by omega)] at way
  exact ⟨_, T.path_eval way ⟨hg, y1, y2, by rw [hm]; rfl, trivial⟩, ⟨h1, h2, h3, by show 0 ≤ a.i + 1; omega, by show a.i + 1 ≤ (p.k : Int); omega⟩, by show (p.k - (a.i + 1)).toNat < (p.k - a.i).toNat; omega⟩
theorem exRw (p : PRw) (a : ARw) (h : okRw p a) (hg : goRw p a = false) : (rdRw p a).eval = some (.exit 0, FRw p a) := T.path_eval (rw_x p a) ⟨hg, trivial⟩
noncomputable def famRw : LSpec := famC [0,3,4,5,6,8] SRw 4000 4000 87 decRw okRw goRw rdRw FRw muRw (.exit 0)
theorem lpRw_ok : LoopOk ER lpRw famRw := famC_ok (vs := vsRw) (bs := bsRw) ER_ok mixed (noLoops_ok _) decRw_ok (by simp) (fun _ _ => rfl) (fun _ _ => rfl) stepRw exRw
noncomputable def rawX : Eng.Spec := execS ER (byReg [(rgRw, famRw)]) 7
theorem rawX_ok : SpecOk Try.prog 7 rawX := execS_loops ER_ok mixed Try.func7 (by kernel_rfl) (by kernel_rfl) (one_lp (by kernel_rfl) rgRw_is lpRw_ok)
def aR (b : List Int) : List Ev × Option Int := allR (List.take b.length b)
def lR (b : List Int) : List Ev := (aR b).1
def LR (b : List Int) : List Ev := List.take (lR b).length (lR b)
def zR (b : List Int) : Nat := (encs (LR b)).length
def gR (b : List Int) : Bool := bif ((0 : Int) != 0) then true else decide ((b.length : Int) < (zR b : Int))
def pR (s : Bool) (b : List Int) : PRw := ⟨b.length, (lR b).length, zR b, bif s then 4 else 0, bif s then (aR b).2.getD 0 else 0, b, lR b, encs (LR b)⟩
def finR (e x z n : Int) : Bool := bif bif bif e == 0 then x == 0 else false then z == n else false then true else bif bif e == 4 then x == z else false then decide (x < n) else false
theorem raw_w (s : Bool) (b : List Int) : T.path [false, true, s, true, true, true, true, true, false, true] (T.anon (rawX [rowB b])) = some ([(decide ((200 : Int) < (b.length : Int)), false), (gdA b.length b, true), ((aR b).2.isSome, s), (gdP (lR b).length (lR b), true), ((LR b).all mE, true), (bif gR b == false && true then decide (0 + zR b ≤ (encs (LR b)).length) else true, true), (bif gR b == false && true then decide ((0 : Int) ≤ 0) && (decide ((0 : Int) ≤ (zR b : Int)) && (decide ((zR b : Int) ≤ (b.length : Int)) && decide (b.length ≤ b.length))) else true, true), (bif gR b == false && true then decide (Int.toNat 0 + ((zR b : Int).toNat - Int.toNat 0) ≤ b.length) else true, true), (bif gR b then true else !((rowStr (List.take (zR b) (List.drop 0 (encs (LR b))))).toList == (rowStr (List.take ((zR b : Int).toNat - Int.toNat 0) (List.drop (Int.toNat 0) b))).toList), false), (invC okRw (pR s b) ⟨0⟩, true)], .s (.bool (finR (pR s b).e (pR s b).x ((pR s b).z : Int) ((pR s b).n : Int)))) := by cases s <;> kernel_rfl
theorem raw_t (b : List Int) : T.path [true] (T.anon (rawX [rowB b])) = some ([(decide ((200 : Int) < (b.length : Int)), true)], .tt) := by kernel_rfl
theorem allG_len : ∀ (f : Nat) (b : List Int) (x : Int) (l : List Ev), (allG f b x l).1.length ≤ f + l.length
  | 0, b, x, l => by show l.length ≤ _; omega
  | f + 1, b, x, l => by
    unfold allG
    split
    · show l.length ≤ _; omega
    · split
      · show l.length ≤ _; omega
      · rename_i e _
        have := allG_len f (b.drop e.2.toNat) (x + e.2) (l ++ [e.1])
        rw [List.length_append, List.length_singleton] at this
        omega
theorem raw_run {b : List Int} (h : byB b = true) : (rawX [rowB b]).yes := by
  unfold T.yes
  rw [← T.eval_anon (t := rawX _)]
  by_cases hl : (200 : Int) < (b.length : Int)
  · exact .inl (T.path_eval (raw_t b) ⟨decide_eq_true hl, trivial⟩)
  refine .inr ?_
  have ea : aR b = allR b := by unfold aR; rw [List.take_length]
  have hL : LR b = lR b := by unfold LR; rw [List.take_length]
  have hn : (lR b).length ≤ 1000 := by
    have := allG_len (b.length + 1) b 0 []
    unfold lR; rw [ea]; unfold allR
    simp only [List.length_nil] at this
    omega
  obtain ⟨m1, m2⟩ := allR_ok h
  have hm : (lR b).all mE = true := by unfold lR; rw [ea]; exact m1
  have tn : ∀ n : Nat, ((n : Int)).toNat - Int.toNat 0 = n := fun n => by have : Int.toNat 0 = 0 := rfl; omega
  have fin : ∀ (s : Bool), (aR b).2.isSome = s → zR b ≤ b.length → encs (lR b) = b.take (zR b) → finR (bif s then 4 else 0) (bif s then (aR b).2.getD 0 else 0) (zR b : Int) (b.length : Int) = true → (T.anon (rawX [rowB b])).eval = some (.s (.bool true)) := by
    intro s hs hz he hf
    have g0 : gR b = false := by unfold gR; rw [decide_eq_false (show ¬ (b.length : Int) < (zR b : Int) by omega)]; rfl
    have e := T.path_eval (raw_w s b) ⟨decide_eq_false hl, ?_, hs, ?_, by rw [hL]; exact hm, ?_, ?_, ?_, ?_, invC_is ⟨rfl, by show (lR b).length ≤ 1000000; omega, hm, Int.le_refl _, by show (0 : Int) ≤ ((lR b).length : Int); omega⟩, trivial⟩
    · rw [e]
      have : finR (pR s b).e (pR s b).x ((pR s b).z : Int) ((pR s b).n : Int) = true := hf
      rw [this]
    · unfold gdA
      rw [decide_eq_true (Nat.le_refl _), decide_eq_true (show b.length ≤ 100000 by omega), List.take_length, h]; rfl
    · unfold gdP
      rw [decide_eq_true (Nat.le_refl _), decide_eq_true hn]; rfl
    · rw [g0, decide_eq_true (show 0 + zR b ≤ (encs (LR b)).length by unfold zR; omega)]; rfl
    · rw [g0, decide_eq_true (show (0 : Int) ≤ (zR b : Int) by omega), decide_eq_true (show (zR b : Int) ≤ (b.length : Int) by omega), decide_eq_true (Nat.le_refl _)]; rfl
    · rw [g0, tn, decide_eq_true (show Int.toNat 0 + zR b ≤ b.length by have : Int.toNat 0 = 0 := rfl; omega)]; rfl
    · rw [g0, tn, List.drop_zero, show Int.toNat 0 = 0 from rfl, List.drop_zero, hL, he, List.take_take, Nat.min_self]
      show (!_) = false
      rw [beq_self_eq_true]; rfl
  have hzl : zR b = (encs (lR b)).length := by unfold zR; rw [hL]
  cases hr : (allR b).2 with
  | none =>
    rw [hr] at m2
    have m2 : encs (lR b) = b := by unfold lR; rw [ea]; exact m2
    have ez : zR b = b.length := by rw [hzl, m2]
    refine fin false (by rw [ea, hr]; rfl) (by omega) (by rw [m2, ez, List.take_length]) ?_
    rw [ez]
    unfold finR
    show (bif bif true then ((b.length : Int) == (b.length : Int)) else false then true else _) = true
    rw [beq_self_eq_true]; rfl
  | some y =>
    rw [hr] at m2
    obtain ⟨y0, y1, y2, -⟩ := m2
    have y2 : encs (lR b) = b.take y.toNat := by unfold lR; rw [ea]; exact y2
    have ez : zR b = y.toNat := by rw [hzl, y2, List.length_take]; omega
    refine fin true (by rw [ea, hr]; rfl) (by omega) (by rw [ez]; exact y2) ?_
    rw [ea, hr, ez]
    unfold finR
    show (bif bif false then _ else false then true else bif (y == ((y.toNat : Nat) : Int)) then decide (y < (b.length : Int)) else false) = true
    rw [show (y == ((y.toNat : Nat) : Int)) = true by rw [beq_iff_eq]; omega, decide_eq_true (show y < (b.length : Int) by omega)]; rfl
theorem byB_of_wf {l : List Int} (h : ∀ x ∈ l, (Lit.int .u8 x).wf = true) : byB l = true := by
  refine List.all_eq_true.2 fun x hx => ?_
  have := h x hx
  have w : (decide (IntKind.min .u8 ≤ x) && decide (x ≤ IntKind.max .u8)) = true := this
  rw [Bool.and_eq_true, decide_eq_true_iff, decide_eq_true_iff] at w
  have e0 : IntKind.min .u8 = 0 := by decide
  have e1 : IntKind.max .u8 = 255 := by decide
  rw [e0, e1] at w
  rw [decide_eq_true (show 0 ≤ x by omega), decide_eq_true (show x < 256 by omega)]; rfl
theorem raw_walk (a0 : List Int) (z0 : a0.length ≤ maxLen) (w0 : ∀ x ∈ a0, Law.Tx.GoodRow [.int .u8] x) (x0 : Value) (w : World) (hx0 : holdsP 0 w (.orow 5 [.int .u8] a0) x0) :
    Calls Try.prog 7 #[x0] w fun e w' => e = .returned (.bool true) ∧ Below w.heap.size w w' :=
  Law.law_rows (args := [rowB a0]) (xs := [x0]) rawX_ok rfl (raw_run (byB_of_wf fun x hx => w0 x hx _ List.mem_cons_self)) w ⟨hx0, trivial⟩
end Go.Proofs.Ytnkingfmdgjmaaa.Evt

/- Layer 23: EventBack. -/
namespace Go.Proofs.Ytnkingfmdgjmaaa.Evt
open Go.Eng Go.RowKit
set_option linter.unusedVariables false
set_option linter.unusedSimpArgs false
set_option maxRecDepth 100000
noncomputable def lpBw : Code := loopAt Try.prog 6 0
structure PBw where (n : Nat) (l : List Ev) (c : Int)
structure ABw where (k : Nat) (m : List Ev) (i : Int)
abbrev SBw : List (Nat × Src) := [(0, .same), (4000, .tmp 5)]
def vsBw (p : PBw) (a : ABw) : List V := [.sub 0 3 0 p.n, iv p.c, .sub 4000 3 0 a.k, iv a.i]
def bsBw (p : PBw) (a : ABw) : List Blk := [.lst false 34 [.int .i64, .int .i64, .str] p.l, .lst true 34 [.int .i64, .int .i64, .str] a.m]
noncomputable def FBw (p : PBw) (a : ABw) : St := mkSt [0,1,5,6] (keysR SBw) 4001 136 (vsBw p a) (bsBw p a)
noncomputable def rdBw (p : PBw) (a : ABw) : T (Ex × St) := T.anon (roundN ER noLoops lpBw [0,1,5,6] SBw 4000 4001 (mkSt [0,1,5,6] (keysR SBw) 4001 136 (vsBw p a) (bsBw p a)))
def decBw_v0 : V → Option ((Nat))
  | .sub 0 3 0 n => some (n)
  | _ => none
theorem decBw_v0_ok (b : V) (x0 : (Nat)) (h : decBw_v0 b = some x0) : b = .sub 0 3 0 (x0) := by
  unfold decBw_v0 at h
  split at h
  · cases h
    rfl
  · cases h
def decBw_v1 : V → Option ((Int))
  | .s (.int .i64 c) => some (c)
  | _ => none
theorem decBw_v1_ok (b : V) (x1 : (Int)) (h : decBw_v1 b = some x1) : b = iv (x1) := by
  unfold decBw_v1 at h
  split at h
  · cases h
    rfl
  · cases h
def decBw_v2 : V → Option ((Nat))
  | .sub 4000 3 0 k => some (k)
  | _ => none
theorem decBw_v2_ok (b : V) (x2 : (Nat)) (h : decBw_v2 b = some x2) : b = .sub 4000 3 0 (x2) := by
  unfold decBw_v2 at h
  split at h
  · cases h
    rfl
  · cases h
def decBw_v3 : V → Option ((Int))
  | .s (.int .i64 i) => some (i)
  | _ => none
theorem decBw_v3_ok (b : V) (x3 : (Int)) (h : decBw_v3 b = some x3) : b = iv (x3) := by
  unfold decBw_v3 at h
  split at h
  · cases h
    rfl
  · cases h
def decBw_b0 : Blk → Option ((List Ev))
  | .lst false tt0 [.int .i64, .int .i64, .str] l => if tt0 = 34 then some (l) else none
  | _ => none
theorem decBw_b0_ok (b : Blk) (y0 : (List Ev)) (h : decBw_b0 b = some y0) : b = .lst false 34 [.int .i64, .int .i64, .str] (y0) := by
  unfold decBw_b0 at h
  split at h
  · obtain ⟨e0, h⟩ := ite_some0 h
    subst e0
    cases h
    rfl
  · cases h
def decBw_b1 : Blk → Option ((List Ev))
  | .lst true tt0 [.int .i64, .int .i64, .str] m => if tt0 = 34 then some (m) else none
  | _ => none
theorem decBw_b1_ok (b : Blk) (y1 : (List Ev)) (h : decBw_b1 b = some y1) : b = .lst true 34 [.int .i64, .int .i64, .str] (y1) := by
  unfold decBw_b1 at h
  split at h
  · obtain ⟨e0, h⟩ := ite_some0 h
    subst e0
    cases h
    rfl
  · cases h
def decBw : List V → List Blk → Option (PBw × ABw)
  | [v0, v1, v2, v3], [b0, b1] => (decBw_v0 v0).bind fun x0 => (decBw_v1 v1).bind fun x1 => (decBw_v2 v2).bind fun x2 => (decBw_v3 v3).bind fun x3 => (decBw_b0 b0).bind fun y0 => (decBw_b1 b1).bind fun y1 => some (⟨(x0), (y0), (x1)⟩, ⟨(x2), (y1), (x3)⟩)
  | _, _ => none
theorem decBw_ok (l : List V) (b : List Blk) (d : PBw × ABw) (h : decBw l b = some d) : l = vsBw d.1 d.2 ∧ b = bsBw d.1 d.2 := by
  unfold decBw at h
  split at h
  · obtain ⟨x0, hx0, h⟩ := Option.bind_eq_some_iff.1 h
    obtain ⟨x1, hx1, h⟩ := Option.bind_eq_some_iff.1 h
    obtain ⟨x2, hx2, h⟩ := Option.bind_eq_some_iff.1 h
    obtain ⟨x3, hx3, h⟩ := Option.bind_eq_some_iff.1 h
    obtain ⟨y0, hy0, h⟩ := Option.bind_eq_some_iff.1 h
    obtain ⟨y1, hy1, h⟩ := Option.bind_eq_some_iff.1 h
    have ex0 := decBw_v0_ok _ _ hx0
    have ex1 := decBw_v1_ok _ _ hx1
    have ex2 := decBw_v2_ok _ _ hx2
    have ex3 := decBw_v3_ok _ _ hx3
    have ey0 := decBw_b0_ok _ _ hy0
    have ey1 := decBw_b1_ok _ _ hy1
    cases h
    subst ex0 ex1 ex2 ex3 ey0 ey1
    exact ⟨rfl, rfl⟩
  · cases h
noncomputable def rgBw : Nat := (firstReg lpBw).getD 0
theorem rgBw_is : firstReg lpBw = some rgBw := by kernel_rfl
def xBw (p : PBw) (a : ABw) : Ev := p.l.getD (0 + a.i.toNat) e0
def hdBw (p : PBw) (a : ABw) (c : Bool) : List (Bool × Bool) := [(decide (a.i < (p.n : Int)), true), (idR p.l p.n a.i, true), (ldR p.l a.i, true), (mE (xBw p a), c)]
theorem bw_n (p : PBw) (a : ABw) : T.path [true, true, true, true, true, true, true] (rdBw p a) = some (hdBw p a true ++ [(idR p.l p.n a.i, true), (ldR p.l a.i, true), (apC a.k a.m (xBw p a), true)], (.normal, FBw p ⟨a.k + [xBw p a].length, a.m.take a.k ++ [xBw p a], IntKind.wrap .i64 (a.i + 1)⟩)) := by kernel_rfl
theorem bw_m (p : PBw) (a : ABw) : T.path [true, true, true, false] (rdBw p a) = some (hdBw p a false, (.normal, FBw p ⟨a.k, a.m, IntKind.wrap .i64 (a.i + 1)⟩)) := by kernel_rfl
theorem bw_x (p : PBw) (a : ABw) : T.path [false] (rdBw p a) = some ([(decide (a.i < (p.n : Int)), false)], (.exit 0, FBw p a)) := by kernel_rfl
structure okBw (p : PBw) (a : ABw) : Prop where
  n : p.n = p.l.length
  n1 : p.n ≤ 1000
  i0 : 0 ≤ a.i
  i1 : a.i ≤ (p.n : Int)
  k : a.k = a.m.length
  g : a.m = (p.l.take a.i.toNat).filter mE
def goBw (p : PBw) (a : ABw) : Bool := decide (a.i < (p.n : Int))
def muBw (p : PBw) (a : ABw) : Nat := (p.n - a.i).toNat
theorem stepBw (p : PBw) (a : ABw) (h : okBw p a) (hg : goBw p a = true) : ∃ b, stepC okBw rdBw FBw muBw p a b := by
  have hi : a.i < (p.n : Int) := of_decide_eq_true hg
  obtain ⟨h1, h2, h3, h4, h5, h6⟩ := h
  have hl : a.i.toNat < p.l.length := by omega
  have ex : xBw p a = p.l[a.i.toNat] := getD0 rfl hl
  obtain ⟨y1, y2⟩ := idR_is (g := p.l) (k := p.n) (i := a.i) h1 h3 hi
  have hm : a.m.length ≤ 1000 := by
    rw [h6]
    have := List.length_filter_le mE (p.l.take a.i.toNat)
    rw [List.length_take] at this
    omega
  have nx : (p.l.take (a.i + 1).toNat).filter mE = a.m ++ (if mE (xBw p a) = true then [xBw p a] else []) := by
    rw [take_next h3 hl, List.filter_append, ← h6, ex, List.filter_cons, List.filter_nil]
  cases hc : mE (xBw p a) with
  | true =>
    have way := bw_n p a
    rw [wrap64 (n := a.i + 1) (by omega) (by omega), show a.m.take a.k = a.m by rw [h5, List.take_length]] at way
    rw [if_pos hc] at nx
    refine ⟨_, T.path_eval way (allSay_append ⟨hg, y1, y2, hc, trivial⟩ ⟨y1, y2, apC_is _ h5 (by omega), trivial⟩), ⟨h1, h2, by show 0 ≤ a.i + 1; omega, by show a.i + 1 ≤ (p.n : Int); omega, ?_, nx.symm⟩, by show (p.n - (a.i + 1)).toNat < (p.n - a.i).toNat; omega⟩
    show a.k + 1 = (a.m ++ [xBw p a]).length
    rw [List.length_append, h5]; rfl
  | false =>
    have way := bw_m p a
    rw [wrap64 (n := a.i + 1) (by omega) (by omega)] at way
    rw [if_neg (by rw [hc]; simp), List.append_nil] at nx
    exact ⟨_, T.path_eval way ⟨hg, y1, y2, hc, trivial⟩, ⟨h1, h2, by show 0 ≤ a.i + 1; omega, by show a.i + 1 ≤ (p.n : Int); omega, h5, nx.symm⟩, by show (p.n - (a.i + 1)).toNat < (p.n - a.i).toNat; omega⟩
theorem exBw (p : PBw) (a : ABw) (h : okBw p a) (hg : goBw p a = false) : (rdBw p a).eval = some (.exit 0, FBw p a) := T.path_eval (bw_x p a) ⟨hg, trivial⟩
noncomputable def famBw : LSpec := famC [0,1,5,6] SBw 4000 4001 136 decBw okBw goBw rdBw FBw muBw (.exit 0)
theorem lpBw_ok : LoopOk ER lpBw famBw := famC_ok (vs := vsBw) (bs := bsBw) ER_ok mixed (noLoops_ok _) decBw_ok (by simp) (fun _ _ => rfl) (fun _ _ => rfl) stepBw exBw
noncomputable def bckX : Eng.Spec := execS ER (byReg [(rgBw, famBw)]) 6
theorem bckX_ok : SpecOk Try.prog 6 bckX := execS_loops ER_ok mixed Try.func6 (by kernel_rfl) (by kernel_rfl) (one_lp (by kernel_rfl) rgBw_is lpBw_ok)
noncomputable def eBw (l : List Ev) (c : Int) : ABw := endW (nxtC okBw goBw rdBw FBw muBw ⟨l.length, l, c⟩) ⟨0, [], 0⟩
noncomputable def bB (l : List Ev) (c : Int) : List Int := encs ((eBw l c).m.take (eBw l c).k)
noncomputable def xxB (l : List Ev) (c : Int) : List Ev × Option Int := allR ((bB l c).take (bB l c).length)
noncomputable def cutB (l : List Ev) (c : Int) : Int := IntKind.wrap .i64 (Int.tmod (IntKind.wrap .u64 c) (IntKind.wrap .u64 (IntKind.wrap .i64 (((bB l c).length : Int) + 1))))
noncomputable def cnB (l : List Ev) (c : Int) : Nat := (cutB l c).toNat - Int.toNat 0
noncomputable def yyB (l : List Ev) (c : Int) : List Ev × Option Int := allR ((bB l c).take (cnB l c))
noncomputable def zB (l : List Ev) (c : Int) : Nat := (encs ((yyB l c).1.take (yyB l c).1.length)).length
def finB (g to z k : Int) : Bool := bif (0 : Int) == 0 then bif (bif (bif g == 0 then z == k else false) then to == 0 else false) then true else bif (bif g == 4 then z == to else false) then decide (to < k) else false else false
noncomputable def pB (l : List Ev) (c : Int) : Bool → Int × Int × Int × Int
  | true => (4, (yyB l c).2.getD 0, zB l c, cutB l c)
  | false => (0, 0, zB l c, cutB l c)
def fin4 (p : Int × Int × Int × Int) : Bool := finB p.1 p.2.1 p.2.2.1 p.2.2.2
theorem bck_t (l : List Ev) (c : Int) : T.path [true, true, true] (T.anon (bckX [rowE l, iv c])) = some ([(decide (0 + l.length ≤ l.length), true), (decide ((List.take l.length (List.drop 0 l)).length ≤ 9223372036854775807), true), (!few (List.take l.length (List.drop 0 l)) 30, true)], .tt) := by kernel_rfl
def wdB : Bool → List Bool := fun s => [true, true, false, true, true, true, true, false, false, true, true, false, false, true, true, s, true, false, true, true, false, true, true]
noncomputable def cdB (l : List Ev) (c : Int) (s : Bool) : List (Bool × Bool) := [
  (decide (0 + l.length ≤ l.length), true), (decide ((List.take l.length (List.drop 0 l)).length ≤ 9223372036854775807), true), (!few (List.take l.length (List.drop 0 l)) 30, false),
  (invC okBw ⟨l.length, l, c⟩ ⟨0, [], 0⟩, true),
  (gdP (eBw l c).k (eBw l c).m, true),
  (((eBw l c).m.take (eBw l c).k).all mE, true),
  (gdA (bB l c).length (bB l c), true),
  ((xxB l c).2.isSome, false),
  (bif bif (0 : Int) != 0 then true else (0 : Int) != 0 then true else (0 : Int) != 0, false),
  (decide (0 + (xxB l c).1.length ≤ (xxB l c).1.length) && decide (0 + (eBw l c).k ≤ (eBw l c).m.length), true),
  (decide ((List.take (xxB l c).1.length (List.drop 0 (xxB l c).1)).length ≤ 1000000), true),
  (bif bif bif (0 : Int) != 0 then true else (0 : Int) != 0 then true else (0 : Int) != 0 then true else !eqL (List.take (xxB l c).1.length (List.drop 0 (xxB l c).1)) (List.take (eBw l c).k (List.drop 0 (eBw l c).m)), false),
  (IntKind.wrap .u64 (IntKind.wrap .i64 (((bB l c).length : Int) + 1)) == 0, false),
  (decide ((0 : Int) ≤ 0) && (decide (0 ≤ cutB l c) && (decide (cutB l c ≤ ((bB l c).length : Int)) && decide ((bB l c).length ≤ (bB l c).length))), true),
  (gdA (cnB l c) (bB l c), true),
  ((yyB l c).2.isSome, s),
  (bif decide (((eBw l c).k : Int) < ((yyB l c).1.length : Int)) == false && true then decide ((0 : Int) ≤ 0) && (decide ((0 : Int) ≤ ((yyB l c).1.length : Int)) && (decide (((yyB l c).1.length : Int) ≤ ((eBw l c).k : Int)) && decide ((eBw l c).k ≤ (eBw l c).m.length))) else true, true),
  (decide (((eBw l c).k : Int) < ((yyB l c).1.length : Int)), false),
  (decide (0 + (yyB l c).1.length ≤ (yyB l c).1.length) && decide (Int.toNat 0 + (Int.toNat ((yyB l c).1.length : Int) - Int.toNat 0) ≤ (eBw l c).m.length), true),
  (decide ((List.take (yyB l c).1.length (List.drop 0 (yyB l c).1)).length ≤ 1000000), true),
  (bif decide (((eBw l c).k : Int) < ((yyB l c).1.length : Int)) then true else !eqL (List.take (yyB l c).1.length (List.drop 0 (yyB l c).1)) (List.take (Int.toNat ((yyB l c).1.length : Int) - Int.toNat 0) (List.drop (Int.toNat 0) (eBw l c).m)), false),
  (gdP (yyB l c).1.length (yyB l c).1, true),
  (((yyB l c).1.take (yyB l c).1.length).all mE, true)]
theorem bck_w (s : Bool) (l : List Ev) (c : Int) : T.path (wdB s) (T.anon (bckX [rowE l, iv c])) = some (cdB l c s, .s (.bool (fin4 (pB l c s)))) := by cases s <;> kernel_rfl
theorem encE_short {e : Ev} (h : mE e = true) : (encE e).length ≤ 202 := by
  obtain ⟨k, n, t⟩ := e
  unfold encE
  unfold mE mayE at h
  simp only at h ⊢
  split
  · rename_i q
    rw [if_pos q, Bool.and_eq_true, decide_eq_true_eq] at h
    rw [List.length_cons, List.length_cons, strRow_length]
    have := h.2
    omega
  · simp
theorem encs_short : ∀ {m : List Ev}, m.all mE = true → (encs m).length ≤ 202 * m.length
  | [], _ => by simp [encs]
  | e :: m, h => by
    rw [List.all_cons, Bool.and_eq_true] at h
    have h1 := encE_short h.1
    have h2 := encs_short h.2
    have : encs (e :: m) = encE e ++ encs m := rfl
    rw [this, List.length_append, List.length_cons]
    omega
theorem cut_is (c : Int) {n : Nat} (h : n ≤ 1000000) : 0 ≤ IntKind.wrap .i64 (Int.tmod (IntKind.wrap .u64 c) (IntKind.wrap .u64 (IntKind.wrap .i64 ((n : Int) + 1)))) ∧ IntKind.wrap .i64 (Int.tmod (IntKind.wrap .u64 c) (IntKind.wrap .u64 (IntKind.wrap .i64 ((n : Int) + 1)))) ≤ (n : Int) ∧ IntKind.wrap .u64 (IntKind.wrap .i64 ((n : Int) + 1)) = (n : Int) + 1 := by
  rw [wrap64 (n := (n : Int) + 1) (by omega) (by omega), show IntKind.wrap .u64 ((n : Int) + 1) = (n : Int) + 1 by rw [wrapu64]; omega]
  have a0 : 0 ≤ IntKind.wrap .u64 c := by rw [wrapu64]; omega
  have b0 := Int.tmod_nonneg ((n : Int) + 1) a0
  have b1 := Int.tmod_lt_of_pos (IntKind.wrap .u64 c) (show (0 : Int) < (n : Int) + 1 by omega)
  rw [wrap64 (by omega) (by omega)]
  exact ⟨b0, by omega, rfl⟩
theorem bck_run (l : List Ev) (hz : l.length ≤ 9223372036854775807) (c : Int) : (bckX [rowE l, iv c]).yes := by
  unfold T.yes
  rw [← T.eval_anon (t := bckX _)]
  have d0 : ∀ {α : Type} (x : List α), List.take x.length (List.drop 0 x) = x := fun x => by rw [List.drop_zero, List.take_length]
  have c0 : decide (0 + l.length ≤ l.length) = true := decide_eq_true (by omega)
  have c1 : decide ((List.take l.length (List.drop 0 l)).length ≤ 9223372036854775807) = true := by rw [d0]; exact decide_eq_true hz
  cases hf : few l 30 with
  | false => exact .inl (T.path_eval (bck_t l c) ⟨c0, c1, by rw [d0, hf]; rfl, trivial⟩)
  | true =>
  refine .inr ?_
  have hl : l.length ≤ 30 := by
    unfold few at hf
    rw [Bool.and_eq_true, decide_eq_true_eq] at hf
    omega
  have h0 : okBw ⟨l.length, l, c⟩ ⟨0, [], 0⟩ := ⟨rfl, by show l.length ≤ 1000; omega, Int.le_refl _, by show (0 : Int) ≤ (l.length : Int); omega, rfl, by show [] = (l.take 0).filter mE; simp⟩
  obtain ⟨k1, k2⟩ := endC stepBw h0
  have k1 : okBw ⟨l.length, l, c⟩ (eBw l c) := k1
  have k2 : goBw ⟨l.length, l, c⟩ (eBw l c) = false := k2
  obtain ⟨-, -, i0, i1, hk, hm⟩ := k1
  have i1 : (eBw l c).i ≤ (l.length : Int) := i1
  have hi : ¬ (eBw l c).i < (l.length : Int) := of_decide_eq_false k2
  have hm : (eBw l c).m = (l.take (eBw l c).i.toNat).filter mE := hm
  rw [show (eBw l c).i.toNat = l.length by omega, List.take_length] at hm
  have am : (eBw l c).m.all mE = true := by
    rw [hm]; exact List.all_eq_true.2 fun x hx => (List.mem_filter.1 hx).2
  have lm : (eBw l c).m.length ≤ 30 := by
    rw [hm]; have := List.length_filter_le mE l; omega
  have et : (eBw l c).m.take (eBw l c).k = (eBw l c).m := by rw [hk, List.take_length]
  have eb : bB l c = encs (eBw l c).m := by unfold bB; rw [et]
  have lb : (bB l c).length ≤ 6060 := by
    rw [eb]; have := encs_short am; omega
  have bb' : byB (bB l c) = true := by rw [eb]; exact byB_encs am
  have ex : xxB l c = ((eBw l c).m, none) := by
    unfold xxB; rw [List.take_length, eb]; exact allR_encs am
  obtain ⟨q0, q1, q2⟩ := cut_is c (n := (bB l c).length) (by omega)
  have q0 : 0 ≤ cutB l c := q0
  have q1 : cutB l c ≤ ((bB l c).length : Int) := q1
  have en : cnB l c = (cutB l c).toNat := by unfold cnB; have : Int.toNat 0 = 0 := rfl; omega
  have by1 : byB ((bB l c).take (cnB l c)) = true := by
    unfold byB at *
    rw [List.all_eq_true] at *
    exact fun x hx => bb' x (List.mem_of_mem_take hx)
  have lt : ((bB l c).take (cnB l c)).length = cnB l c := by rw [List.length_take]; omega
  obtain ⟨m1, m2⟩ := allR_ok by1
  have m1 : (yyB l c).1.all mE = true := m1
  have pre : ∃ t, encs (eBw l c).m = encs (yyB l c).1 ++ t := by
    cases hr : (yyB l c).2 with
    | none =>
      rw [show (allR ((bB l c).take (cnB l c))).2 = none from hr] at m2
      have m2 : encs (yyB l c).1 = (bB l c).take (cnB l c) := m2
      exact ⟨(bB l c).drop (cnB l c), by rw [m2, List.take_append_drop, eb]⟩
    | some y =>
      rw [show (allR ((bB l c).take (cnB l c))).2 = some y from hr] at m2
      obtain ⟨-, -, m2, -⟩ := m2
      have m2 : encs (yyB l c).1 = ((bB l c).take (cnB l c)).take y.toNat := m2
      rw [List.take_take] at m2
      exact ⟨(bB l c).drop (min y.toNat (cnB l c)), by rw [m2, List.take_append_drop, eb]⟩
  obtain ⟨p1, p2⟩ := encs_pre m1 am pre
  have nk : decide (((eBw l c).k : Int) < ((yyB l c).1.length : Int)) = false := decide_eq_false (by rw [hk]; omega)
  have yz : (yyB l c).1.take (yyB l c).1.length = (yyB l c).1 := List.take_length
  have hz' : zB l c = (encs (yyB l c).1).length := by unfold zB; rw [yz]
  have tn : Int.toNat ((yyB l c).1.length : Int) - Int.toNat 0 = (yyB l c).1.length := by have : Int.toNat 0 = 0 := rfl; omega
  have t0 : Int.toNat 0 = 0 := rfl
  have all : ∀ s : Bool, (yyB l c).2.isSome = s → allSay (cdB l c s) := fun s hs => by
    refine ⟨c0, c1, by rw [d0, hf]; rfl, invC_is h0, ?_, ?_, ?_, ?_, rfl, ?_, ?_, ?_, ?_, ?_, ?_, hs, ?_, nk, ?_, ?_, ?_, ?_, ?_, trivial⟩
    · unfold gdP; rw [decide_eq_true (show (eBw l c).k ≤ (eBw l c).m.length by omega), decide_eq_true (show (eBw l c).k ≤ 1000 by omega)]; rfl
    · rw [et]; exact am
    · unfold gdA; rw [List.take_length, bb', decide_eq_true (Nat.le_refl _), decide_eq_true (show (bB l c).length ≤ 100000 by omega)]; rfl
    · rw [ex]; rfl
    · rw [decide_eq_true (show 0 + (xxB l c).1.length ≤ (xxB l c).1.length by omega), decide_eq_true (show 0 + (eBw l c).k ≤ (eBw l c).m.length by omega)]; rfl
    · rw [d0, ex]; exact decide_eq_true (by show (eBw l c).m.length ≤ 1000000; omega)
    · rw [d0, ex, List.drop_zero, et]
      show (!eqL (eBw l c).m (eBw l c).m) = false
      unfold eqL; rw [decide_eq_true rfl]; rfl
    · rw [q2, beq_eq_false_iff_ne]; omega
    · rw [decide_eq_true q0, decide_eq_true q1, decide_eq_true (Nat.le_refl _)]; rfl
    · unfold gdA; rw [by1, decide_eq_true (show cnB l c ≤ (bB l c).length by omega), decide_eq_true (show cnB l c ≤ 100000 by omega)]; rfl
    · rw [nk, decide_eq_true (show ((yyB l c).1.length : Int) ≤ ((eBw l c).k : Int) by omega), decide_eq_true (show (0 : Int) ≤ ((yyB l c).1.length : Int) by omega), decide_eq_true (show (eBw l c).k ≤ (eBw l c).m.length by omega)]; rfl
    · rw [tn, t0, decide_eq_true (show 0 + (yyB l c).1.length ≤ (yyB l c).1.length by omega), decide_eq_true (show 0 + (yyB l c).1.length ≤ (eBw l c).m.length by omega)]; rfl
    · rw [d0]; exact decide_eq_true (by omega)
    · rw [nk, tn, t0, d0, List.drop_zero, p2]
      show (!eqL (yyB l c).1 (yyB l c).1) = false
      unfold eqL; rw [decide_eq_true rfl]; rfl
    · unfold gdP; rw [decide_eq_true (Nat.le_refl _), decide_eq_true (show (yyB l c).1.length ≤ 1000 by omega)]; rfl
    · rw [yz]; exact m1
  cases hr : (yyB l c).2 with
  | none =>
    rw [T.path_eval (bck_w false l c) (all false (by rw [hr]; rfl))]
    rw [show (allR ((bB l c).take (cnB l c))).2 = none from hr] at m2
    have m2 : encs (yyB l c).1 = (bB l c).take (cnB l c) := m2
    have ez : (zB l c : Int) = cutB l c := by rw [hz', m2, lt, en]; omega
    have : fin4 (pB l c false) = true := by
      show (bif bif (zB l c : Int) == cutB l c then true else false then true else _) = true
      rw [ez, beq_self_eq_true]; rfl
    rw [this]
  | some y =>
    rw [T.path_eval (bck_w true l c) (all true (by rw [hr]; rfl))]
    rw [show (allR ((bB l c).take (cnB l c))).2 = some y from hr] at m2
    obtain ⟨y0, y1, m2, -⟩ := m2
    have m2 : encs (yyB l c).1 = ((bB l c).take (cnB l c)).take y.toNat := m2
    have ez : (zB l c : Int) = y := by rw [hz', m2, List.length_take]; omega
    have : fin4 (pB l c true) = true := by
      show (bif ((zB l c : Int) == (yyB l c).2.getD 0) then decide ((yyB l c).2.getD 0 < cutB l c) else false) = true
      rw [hr]
      show (bif ((zB l c : Int) == y) then decide (y < cutB l c) else false) = true
      rw [ez, beq_self_eq_true, decide_eq_true (show y < cutB l c by omega)]; rfl
    rw [this]
theorem bck_walk (a0 : List (Int × Int × ByteArray)) (z0 : a0.length ≤ maxLen) (w0 : ∀ x ∈ a0, Law.Tx.GoodRow [.int .i64, .int .i64, .str] x) (x0 : Value) (a1 : Int) (w1 : (Lit.int .i64 a1).wf = true) (w : World) (hx0 : holdsP 0 w (.orow 34 [.int .i64, .int .i64, .str] a0) x0) :
    Calls Try.prog 6 #[x0, .int .i64 a1] w fun e w' => e = .returned (.bool true) ∧ Below w.heap.size w w' :=
  Law.law_rows (args := [rowE a0, iv a1]) (xs := [x0, .int .i64 a1]) bckX_ok rfl (bck_run a0 z0 a1) w ⟨hx0, rfl, trivial⟩
end Go.Proofs.Ytnkingfmdgjmaaa.Evt

