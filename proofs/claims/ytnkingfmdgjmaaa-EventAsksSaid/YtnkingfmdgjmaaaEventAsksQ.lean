import Derived.Test.YtnkingfmdgjmaaaGY
/- Layer 23: EventRaw. -/
namespace Go.Proofs.Ytnkingfmdgjmaaa.Evt
open Go.Eng Go.RowKit
set_option linter.unusedVariables false
set_option linter.unusedSimpArgs false
set_option maxRecDepth 100000
def yesT : Eng.Spec
  | [] => .ret .tt
  | _ => .fail
theorem tldT_ok : SpecOk Try.prog 12 yesT := tldX_ok.of_den fun args v hfl h => by
  clear hfl
  unfold yesT at h
  split at h
  · obtain rfl := Option.some.inj h
    exact ⟨_, tld_run, ⟨rfl, rfl⟩, rfl⟩
  · cases h
noncomputable def ER : Cfg := ⟨Try.prog, lookG [(17, .obj allS), (11, .obj putS), (13, .val mayS), (12, .val yesT), (19, .val eqS), (14, .val fewS)], [], 0⟩
theorem ER_ok : ER.Ok := Cfg.ok ⟨allS_ok, putS_ok, may_ok, tldT_ok, eq_ok, few_ok, trivial⟩ trivial
noncomputable def lpRw : Code := loopAt Try.prog 7 0
structure PRw where (n : Nat) (k : Nat) (z : Nat) (e : Int) (x : Int) (b : List Int) (l : List Ev) (c : List Int)
structure ARw where (i : Int)
abbrev SRw : List (Nat × Src) := [(0, .same), (9, .same), (17, .same)]
def vsRw (p : PRw) (a : ARw) : List V := [.sub 0 1 0 p.n, .sub 9 3 0 p.k, iv p.e, iv p.x, .sub 17 1 0 p.z, iv a.i]
def bsRw (p : PRw) (a : ARw) : List Blk := [.lst false 5 [.int .u8] p.b, .lst true 34 [.int .i64, .int .i64, .str] p.l, .lst true 5 [.int .u8] p.c]
noncomputable def FRw (p : PRw) (a : ARw) : St := mkSt [0,3,4,5,6,8] (keysR SRw) 4000 87 (vsRw p a) (bsRw p a)
noncomputable def rdRw (p : PRw) (a : ARw) : T (Ex × St) := T.anon (roundN ER noLoops lpRw [0,3,4,5,6,8] SRw 4000 4000 (mkSt [0,3,4,5,6,8] (keysR SRw) 4000 87 (vsRw p a) (bsRw p a)))
def decRw_v0 : V → Option ((Nat))
  | .sub 0 1 0 n => some (n)
  | _ => none
theorem decRw_v0_ok (b : V) (x0 : (Nat)) (h : decRw_v0 b = some x0) : b = .sub 0 1 0 (x0) := by
  unfold decRw_v0 at h
  split at h
  · cases h
    rfl
  · cases h
def decRw_v1 : V → Option ((Nat))
  | .sub 9 3 0 k => some (k)
  | _ => none
theorem decRw_v1_ok (b : V) (x1 : (Nat)) (h : decRw_v1 b = some x1) : b = .sub 9 3 0 (x1) := by
  unfold decRw_v1 at h
  split at h
  · cases h
    rfl
  · cases h
def decRw_v2 : V → Option ((Int))
  | .s (.int .i64 e) => some (e)
  | _ => none
theorem decRw_v2_ok (b : V) (x2 : (Int)) (h : decRw_v2 b = some x2) : b = iv (x2) := by
  unfold decRw_v2 at h
  split at h
  · cases h
    rfl
  · cases h
def decRw_v3 : V → Option ((Int))
  | .s (.int .i64 x) => some (x)
  | _ => none
theorem decRw_v3_ok (b : V) (x3 : (Int)) (h : decRw_v3 b = some x3) : b = iv (x3) := by
  unfold decRw_v3 at h
  split at h
  · cases h
    rfl
  · cases h
def decRw_v4 : V → Option ((Nat))
  | .sub 17 1 0 z => some (z)
  | _ => none
theorem decRw_v4_ok (b : V) (x4 : (Nat)) (h : decRw_v4 b = some x4) : b = .sub 17 1 0 (x4) := by
  unfold decRw_v4 at h
  split at h
  · cases h
    rfl
  · cases h
def decRw_v5 : V → Option ((Int))
  | .s (.int .i64 i) => some (i)
  | _ => none
theorem decRw_v5_ok (b : V) (x5 : (Int)) (h : decRw_v5 b = some x5) : b = iv (x5) := by
  unfold decRw_v5 at h
  split at h
  · cases h
    rfl
  · cases h
def decRw_b0 : Blk → Option ((List Int))
  | .lst false tt0 [.int .u8] b => if tt0 = 5 then some (b) else none
  | _ => none
theorem decRw_b0_ok (b : Blk) (y0 : (List Int)) (h : decRw_b0 b = some y0) : b = .lst false 5 [.int .u8] (y0) := by
  unfold decRw_b0 at h
  split at h
  · obtain ⟨e0, h⟩ := ite_some0 h
    subst e0
    cases h
    rfl
  · cases h
def decRw_b1 : Blk → Option ((List Ev))
  | .lst true tt0 [.int .i64, .int .i64, .str] l => if tt0 = 34 then some (l) else none
  | _ => none
theorem decRw_b1_ok (b : Blk) (y1 : (List Ev)) (h : decRw_b1 b = some y1) : b = .lst true 34 [.int .i64, .int .i64, .str] (y1) := by
  unfold decRw_b1 at h
  split at h
  · obtain ⟨e0, h⟩ := ite_some0 h
    subst e0
    cases h
    rfl
  · cases h
def decRw_b2 : Blk → Option ((List Int))
  | .lst true tt0 [.int .u8] c => if tt0 = 5 then some (c) else none
  | _ => none
theorem decRw_b2_ok (b : Blk) (y2 : (List Int)) (h : decRw_b2 b = some y2) : b = .lst true 5 [.int .u8] (y2) := by
  unfold decRw_b2 at h
  split at h
  · obtain ⟨e0, h⟩ := ite_some0 h
    subst e0
    cases h
    rfl
  · cases h
def decRw : List V → List Blk → Option (PRw × ARw)
  | [v0, v1, v2, v3, v4, v5], [b0, b1, b2] => (decRw_v0 v0).bind fun x0 => (decRw_v1 v1).bind fun x1 => (decRw_v2 v2).bind fun x2 => (decRw_v3 v3).bind fun x3 => (decRw_v4 v4).bind fun x4 => (decRw_v5 v5).bind fun x5 => (decRw_b0 b0).bind fun y0 => (decRw_b1 b1).bind fun y1 => (decRw_b2 b2).bind fun y2 => some (⟨(x0), (x1), (x4), (x2), (x3), (y0), (y1), (y2)⟩, ⟨(x5)⟩)
  | _, _ => none
theorem decRw_ok (l : List V) (b : List Blk) (d : PRw × ARw) (h : decRw l b = some d) : l = vsRw d.1 d.2 ∧ b = bsRw d.1 d.2 := by
  unfold decRw at h
  split at h
  · obtain ⟨x0, hx0, h⟩ := Option.bind_eq_some_iff.1 h
    obtain ⟨x1, hx1, h⟩ := Option.bind_eq_some_iff.1 h
    obtain ⟨x2, hx2, h⟩ := Option.bind_eq_some_iff.1 h
    obtain ⟨x3, hx3, h⟩ := Option.bind_eq_some_iff.1 h
    obtain ⟨x4, hx4, h⟩ := Option.bind_eq_some_iff.1 h
    obtain ⟨x5, hx5, h⟩ := Option.bind_eq_some_iff.1 h
    obtain ⟨y0, hy0, h⟩ := Option.bind_eq_some_iff.1 h
    obtain ⟨y1, hy1, h⟩ := Option.bind_eq_some_iff.1 h
    obtain ⟨y2, hy2, h⟩ := Option.bind_eq_some_iff.1 h
    have ex0 := decRw_v0_ok _ _ hx0
    have ex1 := decRw_v1_ok _ _ hx1
    have ex2 := decRw_v2_ok _ _ hx2
    have ex3 := decRw_v3_ok _ _ hx3
    have ex4 := decRw_v4_ok _ _ hx4
    have ex5 := decRw_v5_ok _ _ hx5
    have ey0 := decRw_b0_ok _ _ hy0
    have ey1 := decRw_b1_ok _ _ hy1
    have ey2 := decRw_b2_ok _ _ hy2
    cases h
    subst ex0 ex1 ex2 ex3 ex4 ex5 ey0 ey1 ey2
    exact ⟨rfl, rfl⟩
  · cases h
noncomputable def rgRw : Nat := (firstReg lpRw).getD 0
theorem rgRw_is : firstReg lpRw = some rgRw := by kernel_rfl
def xR (p : PRw) (a : ARw) : Ev := p.l.getD (0 + a.i.toNat) e0
theorem rw_n (p : PRw) (a : ARw) : T.path [true, true, true, false] (rdRw p a) = some ([(decide (a.i < (p.k : Int)), true), (idR p.l p.k a.i, true), (ldR p.l a.i, true), (!mE (xR p a), false)], (.normal, FRw p ⟨IntKind.wrap .i64 (a.i + 1)⟩)) := by kernel_rfl
theorem rw_x (p : PRw) (a : ARw) : T.path [false] (rdRw p a) = some ([(decide (a.i < (p.k : Int)), false)], (.exit 0, FRw p a)) := by kernel_rfl
structure okRw (p : PRw) (a : ARw) : Prop where
  k : p.k = p.l.length
  k1 : p.k ≤ 1000000
  g : p.l.all mE = true
  i0 : 0 ≤ a.i
  i1 : a.i ≤ (p.k : Int)
def goRw (p : PRw) (a : ARw) : Bool := decide (a.i < (p.k : Int))
def muRw (p : PRw) (a : ARw) : Nat := (p.k - a.i).toNat
theorem stepRw (p : PRw) (a : ARw) (h : okRw p a) (hg : goRw p a = true) : ∃ b, stepC okRw rdRw FRw muRw p a b := by
  have hi : a.i < (p.k : Int) := of_decide_eq_true hg
  obtain ⟨h1, h2, h3, h4, h5⟩ := h
  have hl : a.i.toNat < p.l.length := by omega
  obtain ⟨y1, y2⟩ := idR_is (g := p.l) (k := p.k) (i := a.i) h1 h4 hi
  have hm : mE (xR p a) = true := by
    rw [show xR p a = p.l[a.i.toNat] from getD0 rfl hl]
    exact List.all_eq_true.1 h3 _ (List.getElem_mem hl)
  have way := rw_n p a
  rw [wrap64 (n := a.i + 1) (by omega) (by omega)] at way
  exact ⟨_, T.path_eval way ⟨hg, y1, y2, by rw [hm]; rfl, trivial⟩, ⟨h1, h2, h3, by show 0 ≤ a.i + 1; omega, by show a.i + 1 ≤ (p.k : Int); omega⟩, by show (p.k - (a.i + 1)).toNat < (p.k - a.i).toNat; omega⟩
theorem exRw (p : PRw) (a : ARw) (h : okRw p a) (hg : goRw p a = false) : (rdRw p a).eval = some (.exit 0, FRw p a) := T.path_eval (rw_x p a) ⟨hg, trivial⟩
noncomputable def famRw : LSpec := famC [0,3,4,5,6,8] SRw 4000 4000 87 decRw okRw goRw rdRw FRw muRw (.exit 0)
theorem lpRw_ok : LoopOk ER lpRw famRw := famC_ok (vs := vsRw) (bs := bsRw) ER_ok mixed (noLoops_ok _) decRw_ok (by simp) (fun _ _ => rfl) (fun _ _ => rfl) stepRw exRw
noncomputable def rawX : Eng.Spec := execS ER (byReg [(rgRw, famRw)]) 7
theorem rawX_ok : SpecOk Try.prog 7 rawX := execS_loops ER_ok mixed Try.func7 (by kernel_rfl) (by kernel_rfl) (one_lp (by kernel_rfl) rgRw_is lpRw_ok)
def aR (b : List Int) : List Ev × Option Int := allR (List.take b.length b)
def lR (b : List Int) : List Ev := (aR b).1
def LR (b : List Int) : List Ev := List.take (lR b).length (lR b)
def zR (b : List Int) : Nat := (encs (LR b)).length
def gR (b : List Int) : Bool := bif ((0 : Int) != 0) then true else decide ((b.length : Int) < (zR b : Int))
def pR (s : Bool) (b : List Int) : PRw := ⟨b.length, (lR b).length, zR b, bif s then 4 else 0, bif s then (aR b).2.getD 0 else 0, b, lR b, encs (LR b)⟩
def finR (e x z n : Int) : Bool := bif bif bif e == 0 then x == 0 else false then z == n else false then true else bif bif e == 4 then x == z else false then decide (x < n) else false
theorem raw_w (s : Bool) (b : List Int) : T.path [false, true, s, true, true, true, true, true, false, true] (T.anon (rawX [rowB b])) = some ([(decide ((200 : Int) < (b.length : Int)), false), (gdA b.length b, true), ((aR b).2.isSome, s), (gdP (lR b).length (lR b), true), ((LR b).all mE, true), (bif gR b == false && true then decide (0 + zR b ≤ (encs (LR b)).length) else true, true), (bif gR b == false && true then decide ((0 : Int) ≤ 0) && (decide ((0 : Int) ≤ (zR b : Int)) && (decide ((zR b : Int) ≤ (b.length : Int)) && decide (b.length ≤ b.length))) else true, true), (bif gR b == false && true then decide (Int.toNat 0 + ((zR b : Int).toNat - Int.toNat 0) ≤ b.length) else true, true), (bif gR b then true else !((rowStr (List.take (zR b) (List.drop 0 (encs (LR b))))).toList == (rowStr (List.take ((zR b : Int).toNat - Int.toNat 0) (List.drop (Int.toNat 0) b))).toList), false), (invC okRw (pR s b) ⟨0⟩, true)], .s (.bool (finR (pR s b).e (pR s b).x ((pR s b).z : Int) ((pR s b).n : Int)))) := by cases s <;> kernel_rfl
theorem raw_t (b : List Int) : T.path [true] (T.anon (rawX [rowB b])) = some ([(decide ((200 : Int) < (b.length : Int)), true)], .tt) := by kernel_rfl
theorem allG_len : ∀ (f : Nat) (b : List Int) (x : Int) (l : List Ev), (allG f b x l).1.length ≤ f + l.length
  | 0, b, x, l => by show l.length ≤ _; omega
  | f + 1, b, x, l => by
    unfold allG
    split
    · show l.length ≤ _; omega
    · split
      · show l.length ≤ _; omega
      · rename_i e _
        have := allG_len f (b.drop e.2.toNat) (x + e.2) (l ++ [e.1])
        rw [List.length_append, List.length_singleton] at this
        omega
theorem raw_run {b : List Int} (h : byB b = true) : (rawX [rowB b]).yes := by
  unfold T.yes
  rw [← T.eval_anon (t := rawX _)]
  by_cases hl : (200 : Int) < (b.length : Int)
  · exact .inl (T.path_eval (raw_t b) ⟨decide_eq_true hl, trivial⟩)
  refine .inr ?_
  have ea : aR b = allR b := by unfold aR; rw [List.take_length]
  have hL : LR b = lR b := by unfold LR; rw [List.take_length]
  have hn : (lR b).length ≤ 1000 := by
    have := allG_len (b.length + 1) b 0 []
    unfold lR; rw [ea]; unfold allR
    simp only [List.length_nil] at this
    omega
  obtain ⟨m1, m2⟩ := allR_ok h
  have hm : (lR b).all mE = true := by unfold lR; rw [ea]; exact m1
  have tn : ∀ n : Nat, ((n : Int)).toNat - Int.toNat 0 = n := fun n => by have : Int.toNat 0 = 0 := rfl; omega
  have fin : ∀ (s : Bool), (aR b).2.isSome = s → zR b ≤ b.length → encs (lR b) = b.take (zR b) → finR (bif s then 4 else 0) (bif s then (aR b).2.getD 0 else 0) (zR b : Int) (b.length : Int) = true → (T.anon (rawX [rowB b])).eval = some (.s (.bool true)) := by
    intro s hs hz he hf
    have g0 : gR b = false := by unfold gR; rw [decide_eq_false (show ¬ (b.length : Int) < (zR b : Int) by omega)]; rfl
    have e := T.path_eval (raw_w s b) ⟨decide_eq_false hl, ?_, hs, ?_, by rw [hL]; exact hm, ?_, ?_, ?_, ?_, invC_is ⟨rfl, by show (lR b).length ≤ 1000000; omega, hm, Int.le_refl _, by show (0 : Int) ≤ ((lR b).length : Int); omega⟩, trivial⟩
    · rw [e]
      have : finR (pR s b).e (pR s b).x ((pR s b).z : Int) ((pR s b).n : Int) = true := hf
      rw [this]
    · unfold gdA
      rw [decide_eq_true (Nat.le_refl _), decide_eq_true (show b.length ≤ 100000 by omega), List.take_length, h]; rfl
    · unfold gdP
      rw [decide_eq_true (Nat.le_refl _), decide_eq_true hn]; rfl
    · rw [g0, decide_eq_true (show 0 + zR b ≤ (encs (LR b)).length by unfold zR; omega)]; rfl
    · rw [g0, decide_eq_true (show (0 : Int) ≤ (zR b : Int) by omega), decide_eq_true (show (zR b : Int) ≤ (b.length : Int) by omega), decide_eq_true (Nat.le_refl _)]; rfl
    · rw [g0, tn, decide_eq_true (show Int.toNat 0 + zR b ≤ b.length by have : Int.toNat 0 = 0 := rfl; omega)]; rfl
    · rw [g0, tn, List.drop_zero, show Int.toNat 0 = 0 from rfl, List.drop_zero, hL, he, List.take_take, Nat.min_self]
      show (!_) = false
      rw [beq_self_eq_true]; rfl
  have hzl : zR b = (encs (lR b)).length := by unfold zR; rw [hL]
  cases hr : (allR b).2 with
  | none =>
    rw [hr] at m2
    have m2 : encs (lR b) = b := by unfold lR; rw [ea]; exact m2
    have ez : zR b = b.length := by rw [hzl, m2]
    refine fin false (by rw [ea, hr]; rfl) (by omega) (by rw [m2, ez, List.take_length]) ?_
    rw [ez]
    unfold finR
    show (bif bif true then ((b.length : Int) == (b.length : Int)) else false then true else _) = true
    rw [beq_self_eq_true]; rfl
  | some y =>
    rw [hr] at m2
    obtain ⟨y0, y1, y2, -⟩ := m2
    have y2 : encs (lR b) = b.take y.toNat := by unfold lR; rw [ea]; exact y2
    have ez : zR b = y.toNat := by rw [hzl, y2, List.length_take]; omega
    refine fin true (by rw [ea, hr]; rfl) (by omega) (by rw [ez]; exact y2) ?_
    rw [ea, hr, ez]
    unfold finR
    show (bif bif false then _ else false then true else bif (y == ((y.toNat : Nat) : Int)) then decide (y < (b.length : Int)) else false) = true
    rw [show (y == ((y.toNat : Nat) : Int)) = true by rw [beq_iff_eq]; omega, decide_eq_true (show y < (b.length : Int) by omega)]; rfl
theorem byB_of_wf {l : List Int} (h : ∀ x ∈ l, (Lit.int .u8 x).wf = true) : byB l = true := by
  refine List.all_eq_true.2 fun x hx => ?_
  have := h x hx
  have w : (decide (IntKind.min .u8 ≤ x) && decide (x ≤ IntKind.max .u8)) = true := this
  rw [Bool.and_eq_true, decide_eq_true_iff, decide_eq_true_iff] at w
  have e0 : IntKind.min .u8 = 0 := by decide
  have e1 : IntKind.max .u8 = 255 := by decide
  rw [e0, e1] at w
  rw [decide_eq_true (show 0 ≤ x by omega), decide_eq_true (show x < 256 by omega)]; rfl
theorem raw_walk (a0 : List Int) (z0 : a0.length ≤ maxLen) (w0 : ∀ x ∈ a0, Law.Tx.GoodRow [.int .u8] x) (x0 : Value) (w : World) (hx0 : holdsP 0 w (.orow 5 [.int .u8] a0) x0) :
    Calls Try.prog 7 #[x0] w fun e w' => e = .returned (.bool true) ∧ Below w.heap.size w w' :=
  Law.law_rows (args := [rowB a0]) (xs := [x0]) rawX_ok rfl (raw_run (byB_of_wf fun x hx => w0 x hx _ List.mem_cons_self)) w ⟨hx0, trivial⟩
end Go.Proofs.Ytnkingfmdgjmaaa.Evt

/- Layer 23: the document's events of a text: loop and contract. -/
namespace Go.Proofs.Ytnkingfmdgjmaaa.Evt
open Go.Eng Go.RowKit
set_option linter.unusedVariables false
set_option linter.unusedSimpArgs false
set_option maxRecDepth 100000
theorem byteAt_in (s : ByteArray) (n : Int) : 0 ≤ byteAt s n ∧ byteAt s n < 256 := by
  unfold byteAt
  have := UInt8.toNat_lt (s.data.getD n.toNat 0)
  omega
theorem strRow_get (s : ByteArray) (i : Nat) : (strRow s).getD i 0 = byteAt s (i : Int) := by
  unfold strRow byteAt
  rw [List.getD_eq_getElem?_getD, List.getElem?_map, Int.toNat_natCast, Array.getElem?_toList, Array.getD_eq_getD_getElem?]
  cases s.data[i]? <;> rfl
theorem strRow_drop (s : ByteArray) (x : Int) (i : Nat) (h : 0 ≤ x) : ((strRow s).drop x.toNat).getD i 0 = byteAt s (x + i) := by
  rw [List.getD_eq_getElem?_getD, List.getElem?_drop, ← List.getD_eq_getElem?_getD, strRow_get]
  congr 1
  omega
theorem rowStr_cut (s : ByteArray) {i j : Nat} (h : i ≤ j) : rowStr (((strRow s).drop i).take (j - i)) = s.extract i j := by
  have e : ((strRow s).drop i).take (j - i) = strRow (s.extract i j) := by
    unfold strRow
    rw [← List.map_drop, ← List.map_take]
    congr 1
    rw [ByteArray.data_extract, Array.toList_extract, List.extract_eq_take_drop]
  rw [e, rowStr_strRow]
def b0R (p : PRa) (a : ARa) : Int := IntKind.wrap .i64 (byteAt p.s a.x)
def x1R (p : PRa) (a : ARa) : Int := IntKind.wrap .i64 (a.x + 1)
def x2R (p : PRa) (a : ARa) : Int := IntKind.wrap .i64 (a.x + 2)
def x3R (p : PRa) (a : ARa) : Int := IntKind.wrap .i64 (a.x + 3)
def b1R (p : PRa) (a : ARa) : Int := IntKind.wrap .i64 (byteAt p.s (x1R p a))
def b2R (p : PRa) (a : ARa) : Int := IntKind.wrap .i64 (byteAt p.s (x2R p a))
def nR (p : PRa) (a : ARa) : Int := IntKind.wrap .i64 (a.x + IntKind.wrap .i64 (2 + b1R p a))
def sz (p : PRa) : Int := (p.s.size : Int)
def tR (p : PRa) (a : ARa) : ByteArray := p.s.extract (x2R p a).toNat (nR p a).toNat
def NR (p : PRa) (a : ARa) : Int := bits .or .i64 (IntKind.wrap .i64 (b1R p a * 2 ^ min (Int.toNat 8) (IntKind.bits .i64))) (b2R p a)
def fRa (p : PRa) (a : ARa) : St := mkSt [2, 3, 4, 5] [4000] 4001 77 [.sub 4000 3 0 a.k, iv 4, iv a.x, .sub 4000 3 0 a.k] (bsRa p a)
def oRa (p : PRa) (a : ARa) : St := mkSt [2, 3, 4, 5] [4000] 4001 77 [.junk, .junk, .junk, .sub 4000 3 0 a.k] (bsRa p a)
def hdRa (p : PRa) (a : ARa) (c : Bool) : List (Bool × Bool) := [(decide (a.x < sz p), true), (decide (0 ≤ a.x) && decide (a.x < sz p), true), (b0R p a == 5, c)]
def hA (p : PRa) (a : ARa) (c : Bool) : List (Bool × Bool) := hdRa p a true ++ [(decide (x1R p a < sz p), true), (decide (0 ≤ x1R p a) && decide (x1R p a < sz p), true), (decide (sz p < nR p a), c)]
def hA2 (p : PRa) (a : ARa) (c : Bool) : List (Bool × Bool) := hA p a false ++ [(b0R p a == 5, true), (decide (0 ≤ x2R p a) && (decide (x2R p a ≤ nR p a) && decide (nR p a ≤ sz p)), true), (!mayE (b0R p a) 0 (tR p a), c)]
def hC2 (p : PRa) (a : ARa) (c : Bool) : List (Bool × Bool) := hdRa p a false ++ [(decide (sz p < x3R p a), false), (b0R p a == 5, false), (decide (0 ≤ x1R p a) && decide (x1R p a < sz p), true), (decide ((8 : Int) < 0), false), (decide (0 ≤ x2R p a) && decide (x2R p a < sz p), true), (!mayE (b0R p a) (NR p a) { data := #[] }, c)]
def nxA (p : PRa) (a : ARa) : Ev := (b0R p a, 0, tR p a)
def nxC (p : PRa) (a : ARa) : Ev := (b0R p a, NR p a, { data := #[] })
theorem ra_A (p : PRa) (a : ARa) : T.path [true, true, true, true, true, false, true, true, false, true] (rdRa p a) = some (hA2 p a false ++ [(apC a.k a.l (nxA p a), true)], (.normal, FRa p ⟨nR p a, a.k + [nxA p a].length, a.l.take a.k ++ [nxA p a]⟩)) := by kernel_rfl
theorem ra_Am (p : PRa) (a : ARa) : T.path [true, true, true, true, true, false, true, true, true] (rdRa p a) = some (hA2 p a true, (.ret, fRa p a)) := by kernel_rfl
theorem ra_As (p : PRa) (a : ARa) : T.path [true, true, true, true, true, true] (rdRa p a) = some (hA p a true, (.ret, fRa p a)) := by kernel_rfl
theorem ra_B (p : PRa) (a : ARa) : T.path [true, true, true, false, true] (rdRa p a) = some (hdRa p a true ++ [(decide (x1R p a < sz p), false), (decide (sz p < x2R p a), true)], (.ret, fRa p a)) := by kernel_rfl
theorem ra_C (p : PRa) (a : ARa) : T.path [true, true, false, false, false, true, false, true, false, true] (rdRa p a) = some (hC2 p a false ++ [(apC a.k a.l (nxC p a), true)], (.normal, FRa p ⟨x3R p a, a.k + [nxC p a].length, a.l.take a.k ++ [nxC p a]⟩)) := by kernel_rfl
theorem ra_Cm (p : PRa) (a : ARa) : T.path [true, true, false, false, false, true, false, true, true] (rdRa p a) = some (hC2 p a true, (.ret, fRa p a)) := by kernel_rfl
theorem ra_Cs (p : PRa) (a : ARa) : T.path [true, true, false, true] (rdRa p a) = some (hdRa p a false ++ [(decide (sz p < x3R p a), true)], (.ret, fRa p a)) := by kernel_rfl
theorem ra_x (p : PRa) (a : ARa) : T.path [false] (rdRa p a) = some ([(decide (a.x < sz p), false)], (.exit 0, oRa p a)) := by kernel_rfl
/-- what stands at a place -/
def RR (p : PRa) (a : ARa) : List Int := (strRow p.s).drop a.x.toNat
theorem RR_len (p : PRa) (a : ARa) : (RR p a).length = p.s.size - a.x.toNat := by unfold RR; rw [List.length_drop, strRow_length]
structure inR (p : PRa) (a : ARa) : Prop where
  z : p.s.size ≤ 100000
  x0 : 0 ≤ a.x
  x1 : a.x < (p.s.size : Int)
theorem inR.b0 {p : PRa} {a : ARa} (h : inR p a) : b0R p a = (RR p a).getD 0 0 ∧ 0 ≤ b0R p a ∧ b0R p a < 256 := by
  obtain ⟨u, v⟩ := byteAt_in p.s a.x
  unfold b0R RR
  rw [wrap64 (by omega) (by omega), strRow_drop _ _ _ h.x0]
  exact ⟨by congr 1; omega, u, v⟩
theorem inR.x {p : PRa} {a : ARa} (h : inR p a) : x1R p a = a.x + 1 ∧ x2R p a = a.x + 2 ∧ x3R p a = a.x + 3 := by
  have := h.z; have := h.x0; have := h.x1
  unfold x1R x2R x3R
  rw [wrap64 (by omega) (by omega), wrap64 (by omega) (by omega), wrap64 (by omega) (by omega)]
  exact ⟨rfl, rfl, rfl⟩
theorem inR.b1 {p : PRa} {a : ARa} (h : inR p a) : b1R p a = (RR p a).getD 1 0 ∧ 0 ≤ b1R p a ∧ b1R p a < 256 := by
  obtain ⟨u, v⟩ := byteAt_in p.s (a.x + 1)
  unfold b1R RR
  rw [h.x.1, wrap64 (by omega) (by omega), strRow_drop _ _ _ h.x0]
  exact ⟨rfl, u, v⟩
theorem inR.b2 {p : PRa} {a : ARa} (h : inR p a) : b2R p a = (RR p a).getD 2 0 ∧ 0 ≤ b2R p a ∧ b2R p a < 256 := by
  obtain ⟨u, v⟩ := byteAt_in p.s (a.x + 2)
  unfold b2R RR
  rw [h.x.2.1, wrap64 (by omega) (by omega), strRow_drop _ _ _ h.x0]
  exact ⟨rfl, u, v⟩
theorem inR.n {p : PRa} {a : ARa} (h : inR p a) : nR p a = a.x + (2 + b1R p a) := by
  have := h.z; have := h.x0; have := h.x1
  obtain ⟨-, u, v⟩ := h.b1
  unfold nR
  rw [wrap64 (n := 2 + b1R p a) (by omega) (by omega), wrap64 (by omega) (by omega)]
theorem inR.N {p : PRa} {a : ARa} (h : inR p a) : NR p a = (RR p a).getD 1 0 * 256 + (RR p a).getD 2 0 := by
  obtain ⟨e1, u1, v1⟩ := h.b1
  obtain ⟨e2, u2, v2⟩ := h.b2
  unfold NR
  have e : b1R p a * 2 ^ min (Int.toNat 8) (IntKind.bits .i64) = b1R p a * 256 := by
    have : (2 : Int) ^ min (Int.toNat 8) (IntKind.bits .i64) = 256 := by decide
    rw [this]
  rw [e, wrap64 (n := b1R p a * 256) (by omega) (by omega), or_bytes u1 v1 u2 v2, e1, e2]
theorem inR.hd {p : PRa} {a : ARa} (h : inR p a) {c : Bool} (hc : (b0R p a == 5) = c) : allSay (hdRa p a c) :=
  ⟨decide_eq_true h.x1, by rw [decide_eq_true h.x0, decide_eq_true (show a.x < sz p from h.x1)]; rfl, hc, trivial⟩
noncomputable def onR (p : PRa) (a : ARa) : Ex × St := match red (RR p a) with
  | some e => (.normal, FRa p ⟨a.x + e.2, a.k + [e.1].length, a.l ++ [e.1]⟩)
  | none => (.ret, fRa p a)
theorem ra_on {p : PRa} {a : ARa} (h : inR p a) (hk : a.k = a.l.length) (hl : a.l.length ≤ 100000) : (rdRa p a).eval = some (onR p a) := by
  obtain ⟨e0, u0, v0⟩ := h.b0
  obtain ⟨e1, u1, v1⟩ := h.b1
  obtain ⟨x1, x2, x3⟩ := h.x
  have en := h.n
  have hz := h.z; have h0 := h.x0; have h1 := h.x1
  have rl := RR_len p a
  have tk : a.l.take a.k = a.l := by rw [hk, List.take_length]
  unfold onR red
  rw [← e0]
  by_cases q : b0R p a = 5
  · have k5 : (b0R p a == 5) = true := by rw [q]; rfl
    rw [if_pos q]
    by_cases hx : a.x + 1 < (p.s.size : Int)
    · have cA : ∀ c : Bool, decide (sz p < nR p a) = c → allSay (hA p a c) := fun c hc => allSay_append (h.hd k5) ⟨by rw [x1]; exact decide_eq_true hx, by rw [x1, decide_eq_true (show 0 ≤ a.x + 1 by omega), decide_eq_true (show a.x + 1 < sz p from hx)]; rfl, hc, trivial⟩
      by_cases hn : sz p < nR p a
      · have : txt (RR p a) = none := by
          unfold txt
          rw [if_neg]
          rintro ⟨-, g⟩
          unfold sz at hn
          omega
        rw [this]
        exact T.path_eval (ra_As p a) (cA true (decide_eq_true hn))
      · have hn' : nR p a ≤ sz p := by omega
        unfold sz at hn'
        have g : 2 ≤ (RR p a).length ∧ 2 + (RR p a).getD 1 0 ≤ ((RR p a).length : Int) := by rw [← e1]; omega
        have et : txt (RR p a) = some (nxA p a, 2 + b1R p a) := by
          unfold txt
          rw [if_pos g, ← e1]
          congr 2
          unfold nxA tR
          rw [q]
          congr 2
          rw [x2, en, show (a.x + 2).toNat = a.x.toNat + 2 by omega, show (a.x + (2 + b1R p a)).toNat = a.x.toNat + 2 + (b1R p a).toNat by omega, ← rowStr_cut p.s (by omega)]
          unfold RR
          rw [List.drop_drop, show a.x.toNat + 2 + (b1R p a).toNat - (a.x.toNat + 2) = (b1R p a).toNat by omega]
        have c2 : ∀ c : Bool, (!mayE (b0R p a) 0 (tR p a)) = c → allSay (hA2 p a c) := fun c hc => allSay_append (cA false (decide_eq_false hn)) ⟨k5, by
          rw [decide_eq_true (show 0 ≤ x2R p a by omega), decide_eq_true (show x2R p a ≤ nR p a by omega), decide_eq_true (show nR p a ≤ sz p from hn')]; rfl, hc, trivial⟩
        rw [et]
        cases hm : mayE (b0R p a) 0 (tR p a) with
        | false =>
          have : Option.filter (fun p : Ev × Int => mayE p.1.1 p.1.2.1 p.1.2.2) (some (nxA p a, 2 + b1R p a)) = none := by
            rw [Option.filter_some]
            show (if mayE (b0R p a) 0 (tR p a) = true then _ else _) = _
            rw [hm]; rfl
          rw [this]
          exact T.path_eval (ra_Am p a) (c2 true (by rw [hm]; rfl))
        | true =>
          have : Option.filter (fun p : Ev × Int => mayE p.1.1 p.1.2.1 p.1.2.2) (some (nxA p a, 2 + b1R p a)) = some (nxA p a, 2 + b1R p a) := by
            rw [Option.filter_some]
            show (if mayE (b0R p a) 0 (tR p a) = true then _ else _) = _
            rw [hm]; rfl
          rw [this]
          have way := ra_A p a
          rw [tk, en] at way
          exact T.path_eval way (allSay_append (c2 false (by rw [hm]; rfl)) ⟨apC_is _ hk hl, trivial⟩)
    · have : txt (RR p a) = none := by
        unfold txt
        rw [if_neg]
        rintro ⟨g, -⟩
        omega
      rw [this]
      exact T.path_eval (ra_B p a) (allSay_append (h.hd k5) ⟨by rw [x1]; exact decide_eq_false hx, by rw [x2]; exact decide_eq_true (by unfold sz; omega), trivial⟩)
  · have k5 : (b0R p a == 5) = false := by simpa using q
    rw [if_neg q]
    by_cases hx : sz p < x3R p a
    · have : num (RR p a) = none := by
        unfold num
        rw [if_neg]
        unfold sz at hx
        omega
      rw [this]
      exact T.path_eval (ra_Cs p a) (allSay_append (h.hd k5) ⟨decide_eq_true hx, trivial⟩)
    · have hx' : x3R p a ≤ sz p := by omega
      unfold sz at hx'
      have et : num (RR p a) = some (nxC p a) := by
        unfold num
        rw [if_pos (by omega), ← h.N, ← e0]; rfl
      have c2 : ∀ c : Bool, (!mayE (b0R p a) (NR p a) { data := #[] }) = c → allSay (hC2 p a c) := fun c hc => allSay_append (h.hd k5) ⟨decide_eq_false hx, k5, by
          rw [x1, decide_eq_true (show 0 ≤ a.x + 1 by omega), decide_eq_true (show a.x + 1 < sz p by unfold sz; omega)]; rfl, rfl, by
          rw [x2, decide_eq_true (show 0 ≤ a.x + 2 by omega), decide_eq_true (show a.x + 2 < sz p by unfold sz; omega)]; rfl, hc, trivial⟩
      rw [et]
      cases hm : mayE (b0R p a) (NR p a) { data := #[] } with
      | false =>
        have : Option.filter (fun e : Ev => mayE e.1 e.2.1 e.2.2) (some (nxC p a)) = none := by
          rw [Option.filter_some]
          show (if mayE (b0R p a) (NR p a) { data := #[] } = true then _ else _) = _
          rw [hm]; rfl
        rw [this]
        exact T.path_eval (ra_Cm p a) (c2 true (by rw [hm]; rfl))
      | true =>
        have : Option.filter (fun e : Ev => mayE e.1 e.2.1 e.2.2) (some (nxC p a)) = some (nxC p a) := by
          rw [Option.filter_some]
          show (if mayE (b0R p a) (NR p a) { data := #[] } = true then _ else _) = _
          rw [hm]; rfl
        rw [this]
        have way := ra_C p a
        rw [tk, x3] at way
        exact T.path_eval way (allSay_append (c2 false (by rw [hm]; rfl)) ⟨apC_is _ hk hl, trivial⟩)
structure okRa (p : PRa) (a : ARa) : Prop where
  z : p.s.size ≤ 100000
  x0 : 0 ≤ a.x
  x1 : a.x ≤ (p.s.size : Int)
  k : a.k = a.l.length
  k1 : a.l.length ≤ a.x.toNat
  g : ∃ f : Nat, p.s.size - a.x.toNat < f ∧ allG (p.s.size + 1) (strRow p.s) 0 [] = allG f (RR p a) a.x a.l
def goRa (p : PRa) (a : ARa) : Bool := decide (a.x < sz p) && (red (RR p a)).isSome
def muRa (p : PRa) (a : ARa) : Nat := (sz p - a.x).toNat
theorem stepRa (p : PRa) (a : ARa) (h : okRa p a) (hg : goRa p a = true) : ∃ b, stepC okRa rdRa FRa muRa p a b := by
  unfold goRa at hg
  rw [Bool.and_eq_true, decide_eq_true_eq] at hg
  obtain ⟨hx, hs⟩ := hg
  obtain ⟨h1, h2, h3, h4, h5, f, h6, h7⟩ := h
  have hx : a.x < (p.s.size : Int) := hx
  have r := ra_on (p := p) (a := a) ⟨h1, h2, hx⟩ h4 (by omega)
  obtain ⟨y, hy⟩ := Option.isSome_iff_exists.1 hs
  unfold onR at r
  rw [hy] at r
  have hz := red_size (by unfold RR; exact byB_drop (byB_strRow p.s) _) hy
  rw [RR_len] at hz
  refine ⟨_, r, ⟨h1, by show 0 ≤ a.x + y.2; omega, by show a.x + y.2 ≤ (p.s.size : Int); omega, ?_, ?_, ?_⟩, ?_⟩
  · show a.k + 1 = (a.l ++ [y.1]).length; rw [List.length_append, h4]; rfl
  · show (a.l ++ [y.1]).length ≤ (a.x + y.2).toNat
    rw [List.length_append, List.length_singleton]; omega
  · show ∃ f : Nat, p.s.size - (a.x + y.2).toNat < f ∧ _ = allG f ((strRow p.s).drop (a.x + y.2).toNat) (a.x + y.2) (a.l ++ [y.1])
    cases f with
    | zero => omega
    | succ f =>
      refine ⟨f, by omega, ?_⟩
      rw [h7]
      have hne : RR p a ≠ [] := fun q => by
        have := congrArg List.length q
        rw [RR_len] at this
        simp at this
        omega
      show (if RR p a = [] then _ else _) = _
      rw [if_neg hne, hy]
      show allG f ((RR p a).drop y.2.toNat) (a.x + y.2) (a.l ++ [y.1]) = _
      unfold RR
      rw [List.drop_drop, show a.x.toNat + y.2.toNat = (a.x + y.2).toNat by omega]
  · show (sz p - (a.x + y.2)).toNat < (sz p - a.x).toNat
    unfold sz; omega
noncomputable def outRa (p : PRa) (a : ARa) : T (Ex × St) := .ite none (decide (a.x < sz p)) (.ret (.ret, fRa p a)) (.ret (.exit 0, oRa p a))
theorem exRa (p : PRa) (a : ARa) (h : okRa p a) (hg : goRa p a = false) (r : Ex × St) (hr : (outRa p a).eval = some r) : r.1 ≠ .normal ∧ (rdRa p a).eval = some r := by
  unfold outRa at hr
  by_cases hx : a.x < sz p
  · have hs : (red (RR p a)).isSome = false := by
      unfold goRa at hg
      rw [decide_eq_true hx, Bool.true_and] at hg
      exact hg
    rw [decide_eq_true hx] at hr
    obtain rfl := Option.some.inj hr
    obtain ⟨h1, h2, h3, h4, h5, -⟩ := h
    have r := ra_on (p := p) (a := a) ⟨h1, h2, hx⟩ h4 (by omega)
    unfold onR at r
    rw [show red (RR p a) = none from Option.isNone_iff_eq_none.1 (by rw [← Option.not_isSome, hs]; rfl)] at r
    exact ⟨by simp, r⟩
  · rw [decide_eq_false hx] at hr
    obtain rfl := Option.some.inj hr
    exact ⟨by simp, T.path_eval (ra_x p a) ⟨decide_eq_false hx, trivial⟩⟩
noncomputable def famRa : LSpec := famE [0,5,6] SRa SRax 4000 4001 77 decRa okRa goRa rdRa FRa muRa outRa
theorem lpRa_ok : LoopOk E7 lpRa famRa := famE_ok (vs := vsRa) (bs := bsRa) E7_ok mixed (noLoops_ok _) decRa_ok (fun _ _ => rfl) (fun _ _ => rfl) stepRa exRa
noncomputable def raL : Eng.Obj := execO E7 (byReg [(rgRa, famRa)]) 18
theorem raL_ok : ObjOk Try.prog 18 raL := execO_loops E7_ok mixed Try.func18 (by kernel_rfl) (by kernel_rfl) (one_lp (by kernel_rfl) rgRa_is lpRa_ok)
noncomputable def eRa (s : ByteArray) : ARa := endW (nxtC okRa goRa rdRa FRa muRa ⟨s⟩) ⟨0, 0, []⟩
theorem ra_f (s : ByteArray) : T.path [true, true] (T.anon (raL [.s (.str s)] [])) = some ([(invC okRa ⟨s⟩ ⟨0, 0, []⟩, true), (decide ((eRa s).x < (s.size : Int)), true)], (.tup [.sub 4000 3 0 (eRa s).k, iv 4, iv (eRa s).x], [(4000, evBk (eRa s).l)])) := by kernel_rfl
theorem ra_n (s : ByteArray) : T.path [true, false] (T.anon (raL [.s (.str s)] [])) = some ([(invC okRa ⟨s⟩ ⟨0, 0, []⟩, true), (decide ((eRa s).x < (s.size : Int)), false)], (.tup [.sub 4000 3 0 (eRa s).k, iv 0, iv 0], [(4000, evBk (eRa s).l)])) := by kernel_rfl
theorem ra_end {s : ByteArray} (h : s.size ≤ 100000) : invC okRa ⟨s⟩ ⟨0, 0, []⟩ = true ∧ (eRa s).k = (eRa s).l.length ∧ (eRa s).l = (allR (strRow s)).1 ∧ (allR (strRow s)).2 = (if (eRa s).x < (s.size : Int) then some (eRa s).x else none) := by
  have h0 : okRa ⟨s⟩ ⟨0, 0, []⟩ := ⟨h, Int.le_refl _, by show (0 : Int) ≤ (s.size : Int); omega, rfl, Nat.le_refl _, s.size + 1, by show s.size - 0 < s.size + 1; omega, rfl⟩
  obtain ⟨k1, k2⟩ := endC stepRa h0
  have k1 : okRa ⟨s⟩ (eRa s) := k1
  have k2 : goRa ⟨s⟩ (eRa s) = false := k2
  have hl : (strRow s).length = s.size := strRow_length s
  refine ⟨invC_is h0, k1.k, ?_⟩
  obtain ⟨-, x0, x1, -, -, f, q1, q2⟩ := k1
  have q2 : allG (s.size + 1) (strRow s) 0 [] = allG f (RR ⟨s⟩ (eRa s)) (eRa s).x (eRa s).l := q2
  have x1 : (eRa s).x ≤ (s.size : Int) := x1
  have rl : (RR ⟨s⟩ (eRa s)).length = s.size - (eRa s).x.toNat := RR_len _ _
  unfold allR
  rw [hl, q2]
  cases f with
  | zero => omega
  | succ f =>
    by_cases hx : (eRa s).x < (s.size : Int)
    · have hne : RR ⟨s⟩ (eRa s) ≠ [] := fun q => by
        have := congrArg List.length q
        rw [rl] at this
        simp at this
        omega
      have hr : red (RR ⟨s⟩ (eRa s)) = none := by
        unfold goRa at k2
        rw [decide_eq_true (show (eRa s).x < sz ⟨s⟩ from hx), Bool.true_and] at k2
        exact Option.isNone_iff_eq_none.1 (by rw [← Option.not_isSome, k2]; rfl)
      unfold allG
      rw [if_neg hne, hr, if_pos hx]
      exact ⟨rfl, rfl⟩
    · have hnil : RR ⟨s⟩ (eRa s) = [] := List.eq_nil_of_length_eq_zero (by rw [rl]; omega)
      unfold allG
      rw [if_pos hnil, if_neg hx]
      exact ⟨rfl, rfl⟩
def raS : Eng.Obj
  | [.s (.str s)], [] => .ite none (decide (s.size ≤ 100000)) (.ite none (allR (strRow s)).2.isSome (.ret (.tup [.sub 4000 3 0 (allR (strRow s)).1.length, iv 4, iv ((allR (strRow s)).2.getD 0)], [(4000, evBk (allR (strRow s)).1)])) (.ret (.tup [.sub 4000 3 0 (allR (strRow s)).1.length, iv 0, iv 0], [(4000, evBk (allR (strRow s)).1)]))) .fail
  | _, _ => .fail
theorem raS_ok : ObjOk Try.prog 18 raS := raL_ok.of_eval fun args h x hv => by
  unfold raS at hv
  split at hv
  · rename_i s
    rw [← T.eval_anon (t := raL _ _)]
    obtain ⟨hg, hv⟩ := ite_T' hv
    obtain ⟨a1, a2, a3, a4⟩ := ra_end (of_decide_eq_true hg)
    rw [a4, ← a3] at hv
    by_cases hx : (eRa s).x < (s.size : Int)
    · rw [if_pos hx] at hv
      obtain rfl := Option.some.inj hv
      rw [T.path_eval (ra_f s) ⟨a1, decide_eq_true hx, trivial⟩, a2]
      rfl
    · rw [if_neg hx] at hv
      obtain rfl := Option.some.inj hv
      rw [T.path_eval (ra_n s) ⟨a1, decide_eq_false hx, trivial⟩, a2]
  · cases hv
/-! ### the document's bytes -/
theorem rowStr_append (a b : List Int) : rowStr (a ++ b) = rowStr a ++ rowStr b := by
  unfold rowStr
  apply ByteArray.ext
  rw [ByteArray.data_append]
  apply Array.ext'
  simp
theorem rowStr_size (a : List Int) : (rowStr a).size = a.length := by
  unfold rowStr
  show Array.size _ = _
  simp
def xP (p : PRp) (a : ARp) : Ev := p.l.getD (0 + a.i.toNat) e0
def hdP (p : PRp) (a : ARp) (c : Bool) : List (Bool × Bool) := [(decide (a.i < (p.n : Int)), true), (idR p.l p.n a.i, true), (ldR p.l a.i, true), (!mE (xP p a), c)]
def over (n : Nat) : Bool := decide ((n : Int) > IntKind.max .i64)
def r5 (e : Ev) : ByteArray := rowStr [w8 e.1, w8 (e.2.2.size : Int)]
def rn (e : Ev) : ByteArray := rowStr [w8 e.1, w8 (Int.fdiv e.2.1 (2 ^ min (Int.toNat 8) (IntKind.bits .i64))), w8 e.2.1]
theorem rp_5 (p : PRp) (a : ARp) : T.path [true, true, true, false, true, true, false, false] (rdRp p a) = some (hdP p a false ++ [((xP p a).1 == 5, true), (true, true), (over (a.s.size + (r5 (xP p a)).size), false), (over ((a.s ++ r5 (xP p a)).size + (xP p a).2.2.size), false)], (.normal, FRp p ⟨a.s ++ r5 (xP p a) ++ (xP p a).2.2, IntKind.wrap .i64 (a.i + 1)⟩)) := by kernel_rfl
theorem rp_n (p : PRp) (a : ARp) : T.path [true, true, true, false, false, false, true, false] (rdRp p a) = some (hdP p a false ++ [((xP p a).1 == 5, false), (decide ((8 : Int) < 0), false), (true, true), (over (a.s.size + (rn (xP p a)).size), false)], (.normal, FRp p ⟨a.s ++ rn (xP p a), IntKind.wrap .i64 (a.i + 1)⟩)) := by kernel_rfl
def fRp (p : PRp) (a : ARp) : St := mkSt [2, 3, 4] [0] 3000 52 [.s (.str ⟨#[]⟩), iv 1, .s (.str a.s)] (bsRp p a)
def oRp (p : PRp) (a : ARp) : St := mkSt [2, 3, 4] [0] 3000 52 [.junk, .junk, .s (.str a.s)] (bsRp p a)
theorem rp_f (p : PRp) (a : ARp) : T.path [true, true, true, true] (rdRp p a) = some (hdP p a true, (.ret, fRp p a)) := by kernel_rfl
theorem rp_x (p : PRp) (a : ARp) : T.path [false] (rdRp p a) = some ([(decide (a.i < (p.n : Int)), false)], (.exit 0, oRp p a)) := by kernel_rfl
structure okRp (p : PRp) (a : ARp) : Prop where
  n : p.n = p.l.length
  n1 : p.n ≤ 1000
  i0 : 0 ≤ a.i
  i1 : a.i ≤ (p.n : Int)
  m : ∀ e ∈ p.l.take a.i.toNat, mE e = true
  g : a.s = rowStr (encs (p.l.take a.i.toNat))
def goRp (p : PRp) (a : ARp) : Bool := decide (a.i < (p.n : Int)) && mE (xP p a)
def muRp (p : PRp) (a : ARp) : Nat := (p.n - a.i).toNat
theorem over_no {n : Nat} (h : n ≤ 9000000000) : over n = false := by
  have : IntKind.max .i64 = 9223372036854775807 := by decide
  unfold over; rw [this]; exact decide_eq_false (by omega)
theorem stepRp (p : PRp) (a : ARp) (h : okRp p a) (hg : goRp p a = true) : ∃ b, stepC okRp rdRp FRp muRp p a b := by
  unfold goRp at hg
  rw [Bool.and_eq_true, decide_eq_true_eq] at hg
  obtain ⟨hi, hm⟩ := hg
  obtain ⟨h1, h2, h3, h4, h5, h6⟩ := h
  have hl : a.i.toNat < p.l.length := by omega
  have ex : xP p a = p.l[a.i.toNat] := getD0 rfl hl
  obtain ⟨y1, y2⟩ := idR_is (g := p.l) (k := p.n) (i := a.i) h1 h3 hi
  have hd : allSay (hdP p a false) := ⟨decide_eq_true hi, y1, y2, by rw [hm]; rfl, trivial⟩
  have sz0 : a.s.size ≤ 202 * 1000 := by
    rw [h6, rowStr_size]
    have := encs_len h5
    rw [List.length_take] at this
    omega
  have nm : ∀ e ∈ p.l.take (a.i + 1).toNat, mE e = true := by
    rw [take_next h3 hl]
    intro e he
    rcases List.mem_append.1 he with q | q
    · exact h5 e q
    · rw [List.mem_singleton.1 q, ← ex]; exact hm
  have ns : rowStr (encs (p.l.take (a.i + 1).toNat)) = a.s ++ rowStr (encE (xP p a)) := by
    rw [take_next h3 hl, h6, ← rowStr_append]
    unfold encs
    rw [List.flatMap_append, ex]
    simp
  have mu : (p.n - (a.i + 1)).toNat < (p.n - a.i).toNat := by omega
  by_cases q : (xP p a).1 = 5
  · obtain ⟨_, z2⟩ := mE_5 hm q
    have e5 : a.s ++ r5 (xP p a) ++ (xP p a).2.2 = a.s ++ rowStr (encE (xP p a)) := by
      rw [← encW_is hm]
      unfold encW r5
      rw [if_pos q, rowStr_append, rowStr_strRow, ByteArray.append_assoc]
    have way := rp_5 p a
    rw [wrap64 (n := a.i + 1) (by omega) (by omega), e5] at way
    have z5 : (r5 (xP p a)).size = 2 := by unfold r5; rw [rowStr_size]; rfl
    refine ⟨_, T.path_eval way (allSay_append hd ⟨by rw [q]; rfl, rfl, over_no (by omega), over_no (by rw [ByteArray.size_append]; omega), trivial⟩), ⟨h1, h2, by show 0 ≤ a.i + 1; omega, by show a.i + 1 ≤ (p.n : Int); omega, nm, ns.symm⟩, mu⟩
  · have e5 : rn (xP p a) = rowStr (encE (xP p a)) := by
      rw [← encW_is hm]
      unfold encW rn
      rw [if_neg q]
      have : (2 : Int) ^ min (Int.toNat 8) (IntKind.bits .i64) = 256 := by decide
      rw [this]
    have way := rp_n p a
    rw [wrap64 (n := a.i + 1) (by omega) (by omega), e5] at way
    have z5 : (rowStr (encE (xP p a))).size ≤ 202 := by rw [rowStr_size]; exact encE_len hm
    refine ⟨_, T.path_eval way (allSay_append hd ⟨by simpa using q, rfl, rfl, over_no (by omega), trivial⟩), ⟨h1, h2, by show 0 ≤ a.i + 1; omega, by show a.i + 1 ≤ (p.n : Int); omega, nm, ns.symm⟩, mu⟩
noncomputable def outRp (p : PRp) (a : ARp) : T (Ex × St) := .ite none (decide (a.i < (p.n : Int))) (.ret (.ret, fRp p a)) (.ret (.exit 0, oRp p a))
theorem exRp (p : PRp) (a : ARp) (h : okRp p a) (hg : goRp p a = false) (r : Ex × St) (hr : (outRp p a).eval = some r) : r.1 ≠ .normal ∧ (rdRp p a).eval = some r := by
  unfold outRp at hr
  by_cases hi : a.i < (p.n : Int)
  · have hm : mE (xP p a) = false := by
      unfold goRp at hg
      rw [decide_eq_true hi, Bool.true_and] at hg
      exact hg
    rw [decide_eq_true hi] at hr
    obtain rfl := Option.some.inj hr
    obtain ⟨y1, y2⟩ := idR_is (g := p.l) (k := p.n) (i := a.i) h.n h.i0 hi
    exact ⟨by simp, T.path_eval (rp_f p a) ⟨decide_eq_true hi, y1, y2, by rw [hm]; rfl, trivial⟩⟩
  · rw [decide_eq_false hi] at hr
    obtain rfl := Option.some.inj hr
    exact ⟨by simp, T.path_eval (rp_x p a) ⟨decide_eq_false hi, trivial⟩⟩
noncomputable def famRp : LSpec := famE [0,4,5] SRp SRpx 3000 3000 52 decRp okRp goRp rdRp FRp muRp outRp
theorem lpRp_ok : LoopOk E7 lpRp famRp := famE_ok (vs := vsRp) (bs := bsRp) E7_ok mixed (noLoops_ok _) decRp_ok (fun _ _ => rfl) (fun _ _ => rfl) stepRp exRp
noncomputable def rpX : Eng.Spec := execS E7 (byReg [(rgRp, famRp)]) 16
theorem rpX_ok : SpecOk Try.prog 16 rpX := execS_loops E7_ok mixed Try.func16 (by kernel_rfl) (by kernel_rfl) (one_lp (by kernel_rfl) rgRp_is lpRp_ok)
noncomputable def eRp (l : List Ev) : ARp := endW (nxtC okRp goRp rdRp FRp muRp ⟨l.length, l⟩) ⟨⟨#[]⟩, 0⟩
theorem rpx_f (l : List Ev) : T.path [true, true] (T.anon (rpX [rowE l])) = some ([(invC okRp ⟨l.length, l⟩ ⟨⟨#[]⟩, 0⟩, true), (decide ((eRp l).i < (l.length : Int)), true)], .tup [.s (.str ⟨#[]⟩), iv 1]) := by kernel_rfl
theorem rpx_n (l : List Ev) : T.path [true, false] (T.anon (rpX [rowE l])) = some ([(invC okRp ⟨l.length, l⟩ ⟨⟨#[]⟩, 0⟩, true), (decide ((eRp l).i < (l.length : Int)), false)], .tup [.s (.str (eRp l).s), iv 0]) := by kernel_rfl
def rpV (l : List Ev) : V := .tup [.s (.str (if l.all mE then rowStr (encs l) else ⟨#[]⟩)), iv (if l.all mE then 0 else 1)]
theorem rp_run {l : List Ev} (h : l.length ≤ 1000) : (rpX [rowE l]).eval = some (rpV l) := by
  rw [← T.eval_anon (t := rpX _)]
  have h0 : okRp ⟨l.length, l⟩ ⟨⟨#[]⟩, 0⟩ := ⟨rfl, h, Int.le_refl _, by show (0 : Int) ≤ (l.length : Int); omega, fun e he => by
    have he : e ∈ l.take 0 := he
    simp at he, by show _ = rowStr (encs (l.take 0)); simp [encs, rowStr]⟩
  obtain ⟨k1, k2⟩ := endC stepRp h0
  have k1 : okRp ⟨l.length, l⟩ (eRp l) := k1
  have k2 : goRp ⟨l.length, l⟩ (eRp l) = false := k2
  obtain ⟨-, -, i0, i1, hm, hs⟩ := k1
  have i1 : (eRp l).i ≤ (l.length : Int) := i1
  have hm : ∀ e ∈ l.take (eRp l).i.toNat, mE e = true := hm
  have hs : (eRp l).s = rowStr (encs (l.take (eRp l).i.toNat)) := hs
  unfold rpV
  by_cases hi : (eRp l).i < (l.length : Int)
  · have hx : mE (xP ⟨l.length, l⟩ (eRp l)) = false := by
      unfold goRp at k2
      rw [decide_eq_true (show (eRp l).i < ((PRp.n ⟨l.length, l⟩ : Nat) : Int) from hi), Bool.true_and] at k2
      exact k2
    have hl : (eRp l).i.toNat < l.length := by omega
    have ex : xP ⟨l.length, l⟩ (eRp l) = l[(eRp l).i.toNat] := getD0 rfl hl
    have : l.all mE = false := by
      rw [List.all_eq_false]
      exact ⟨_, List.getElem_mem hl, by rw [← ex, hx]; simp⟩
    rw [T.path_eval (rpx_f l) ⟨invC_is h0, decide_eq_true hi, trivial⟩, this]
    rfl
  · rw [show (eRp l).i.toNat = l.length by omega, List.take_length] at hm hs
    have : l.all mE = true := List.all_eq_true.2 hm
    rw [T.path_eval (rpx_n l) ⟨invC_is h0, decide_eq_false hi, trivial⟩, this, hs]
    rfl
def rpS : Eng.Spec
  | [.orow t [.int .i64, .int .i64, .str] l] => if t = 34 then .ite none (decide (List.length l ≤ 1000)) (.ret (rpV l)) .fail else .fail
  | _ => .fail
theorem rpS_ok : SpecOk Try.prog 16 rpS := rpX_ok.of_den fun args v hfl h => by
  clear hfl
  unfold rpS at h
  split at h
  · rename_i t l
    split at h
    · rename_i ht
      subst ht
      obtain ⟨hb, h⟩ := ite_T' h
      obtain rfl := Option.some.inj h
      exact ⟨_, rp_run (of_decide_eq_true hb), ⟨rfl, rfl⟩, rfl⟩
    · cases h
  · cases h
end Go.Proofs.Ytnkingfmdgjmaaa.Evt

/- Layer 23: EventAsks. -/
namespace Go.Proofs.Ytnkingfmdgjmaaa.Evt
open Go.Eng Go.RowKit
set_option linter.unusedVariables false
set_option linter.unusedSimpArgs false
set_option maxRecDepth 100000
noncomputable def EK : Cfg := ⟨Try.prog, lookG [(17, .obj allS), (11, .obj putS), (13, .val mayS), (15, .val mayS), (16, .val rpS), (18, .obj raS), (12, .val yesT), (19, .val eqS), (14, .val fewS)], [], 0⟩
theorem EK_ok : EK.Ok := Cfg.ok ⟨allS_ok, putS_ok, may_ok, refmay_ok, rpS_ok, raS_ok, tldT_ok, eq_ok, few_ok, trivial⟩ trivial
noncomputable def lpKw : Code := loopAt Try.prog 5 0
structure PKw where (n : Nat) (k : Nat) (l : List Ev) (b : List Int)
structure AKw where (i : Int)
abbrev SKw : List (Nat × Src) := [(0, .same), (1, .same)]
def vsKw (p : PKw) (a : AKw) : List V := [.sub 0 3 0 p.n, .sub 1 1 0 p.k, iv a.i]
def bsKw (p : PKw) (a : AKw) : List Blk := [.lst false 34 [.int .i64, .int .i64, .str] p.l, .lst false 5 [.int .u8] p.b]
noncomputable def FKw (p : PKw) (a : AKw) : St := mkSt [0,1,5] (keysR SKw) 4000 92 (vsKw p a) (bsKw p a)
noncomputable def rdKw (p : PKw) (a : AKw) : T (Ex × St) := T.anon (roundN EK noLoops lpKw [0,1,5] SKw 4000 4000 (mkSt [0,1,5] (keysR SKw) 4000 92 (vsKw p a) (bsKw p a)))
def decKw_v0 : V → Option ((Nat))
  | .sub 0 3 0 n => some (n)
  | _ => none
theorem decKw_v0_ok (b : V) (x0 : (Nat)) (h : decKw_v0 b = some x0) : b = .sub 0 3 0 (x0) := by
  unfold decKw_v0 at h
  split at h
  · cases h
    rfl
  · cases h
def decKw_v1 : V → Option ((Nat))
  | .sub 1 1 0 k => some (k)
  | _ => none
theorem decKw_v1_ok (b : V) (x1 : (Nat)) (h : decKw_v1 b = some x1) : b = .sub 1 1 0 (x1) := by
  unfold decKw_v1 at h
  split at h
  · cases h
    rfl
  · cases h
def decKw_v2 : V → Option ((Int))
  | .s (.int .i64 i) => some (i)
  | _ => none
theorem decKw_v2_ok (b : V) (x2 : (Int)) (h : decKw_v2 b = some x2) : b = iv (x2) := by
  unfold decKw_v2 at h
  split at h
  · cases h
    rfl
  · cases h
def decKw_b0 : Blk → Option ((List Ev))
  | .lst false tt0 [.int .i64, .int .i64, .str] l => if tt0 = 34 then some (l) else none
  | _ => none
theorem decKw_b0_ok (b : Blk) (y0 : (List Ev)) (h : decKw_b0 b = some y0) : b = .lst false 34 [.int .i64, .int .i64, .str] (y0) := by
  unfold decKw_b0 at h
  split at h
  · obtain ⟨e0, h⟩ := ite_some0 h
    subst e0
    cases h
    rfl
  · cases h
def decKw_b1 : Blk → Option ((List Int))
  | .lst false tt0 [.int .u8] b => if tt0 = 5 then some (b) else none
  | _ => none
theorem decKw_b1_ok (b : Blk) (y1 : (List Int)) (h : decKw_b1 b = some y1) : b = .lst false 5 [.int .u8] (y1) := by
  unfold decKw_b1 at h
  split at h
  · obtain ⟨e0, h⟩ := ite_some0 h
    subst e0
    cases h
    rfl
  · cases h
def decKw : List V → List Blk → Option (PKw × AKw)
  | [v0, v1, v2], [b0, b1] => (decKw_v0 v0).bind fun x0 => (decKw_v1 v1).bind fun x1 => (decKw_v2 v2).bind fun x2 => (decKw_b0 b0).bind fun y0 => (decKw_b1 b1).bind fun y1 => some (⟨(x0), (x1), (y0), (y1)⟩, ⟨(x2)⟩)
  | _, _ => none
theorem decKw_ok (l : List V) (b : List Blk) (d : PKw × AKw) (h : decKw l b = some d) : l = vsKw d.1 d.2 ∧ b = bsKw d.1 d.2 := by
  unfold decKw at h
  split at h
  · obtain ⟨x0, hx0, h⟩ := Option.bind_eq_some_iff.1 h
    obtain ⟨x1, hx1, h⟩ := Option.bind_eq_some_iff.1 h
    obtain ⟨x2, hx2, h⟩ := Option.bind_eq_some_iff.1 h
    obtain ⟨y0, hy0, h⟩ := Option.bind_eq_some_iff.1 h
    obtain ⟨y1, hy1, h⟩ := Option.bind_eq_some_iff.1 h
    have ex0 := decKw_v0_ok _ _ hx0
    have ex1 := decKw_v1_ok _ _ hx1
    have ex2 := decKw_v2_ok _ _ hx2
    have ey0 := decKw_b0_ok _ _ hy0
    have ey1 := decKw_b1_ok _ _ hy1
    cases h
    subst ex0 ex1 ex2 ey0 ey1
    exact ⟨rfl, rfl⟩
  · cases h
noncomputable def rgKw : Nat := (firstReg lpKw).getD 0
theorem rgKw_is : firstReg lpKw = some rgKw := by kernel_rfl
def xK (p : PKw) (a : AKw) : Ev := p.l.getD (0 + a.i.toNat) e0
theorem kw_n (p : PKw) (a : AKw) : T.path [true, true, true, true, true, false] (rdKw p a) = some ([(decide (a.i < (p.n : Int)), true), (idR p.l p.n a.i, true), (ldR p.l a.i, true), (idR p.l p.n a.i, true), (ldR p.l a.i, true), (!(mE (xK p a) == mE (xK p a)), false)], (.normal, FKw p ⟨IntKind.wrap .i64 (a.i + 1)⟩)) := by kernel_rfl
theorem kw_x (p : PKw) (a : AKw) : T.path [false] (rdKw p a) = some ([(decide (a.i < (p.n : Int)), false)], (.exit 0, FKw p a)) := by kernel_rfl
structure okKw (p : PKw) (a : AKw) : Prop where
  n : p.n = p.l.length
  n1 : p.n ≤ 1000000
  i0 : 0 ≤ a.i
  i1 : a.i ≤ (p.n : Int)
def goKw (p : PKw) (a : AKw) : Bool := decide (a.i < (p.n : Int))
def muKw (p : PKw) (a : AKw) : Nat := (p.n - a.i).toNat
theorem stepKw (p : PKw) (a : AKw) (h : okKw p a) (hg : goKw p a = true) : ∃ b, stepC okKw rdKw FKw muKw p a b := by
  have hi : a.i < (p.n : Int) := of_decide_eq_true hg
  obtain ⟨h1, h2, h3, h4⟩ := h
  obtain ⟨y1, y2⟩ := idR_is (g := p.l) (k := p.n) (i := a.i) h1 h3 hi
  have way := kw_n p a
  rw [wrap64 (n := a.i + 1) (by omega) (by omega)] at way
  exact ⟨_, T.path_eval way ⟨hg, y1, y2, y1, y2, by rw [beq_self_eq_true]; rfl, trivial⟩, ⟨h1, h2, by show 0 ≤ a.i + 1; omega, by show a.i + 1 ≤ (p.n : Int); omega⟩, by show (p.n - (a.i + 1)).toNat < (p.n - a.i).toNat; omega⟩
theorem exKw (p : PKw) (a : AKw) (h : okKw p a) (hg : goKw p a = false) : (rdKw p a).eval = some (.exit 0, FKw p a) := T.path_eval (kw_x p a) ⟨hg, trivial⟩
noncomputable def famKw : LSpec := famC [0,1,5] SKw 4000 4000 92 decKw okKw goKw rdKw FKw muKw (.exit 0)
theorem lpKw_ok : LoopOk EK lpKw famKw := famC_ok (vs := vsKw) (bs := bsKw) EK_ok mixed (noLoops_ok _) decKw_ok (by simp) (fun _ _ => rfl) (fun _ _ => rfl) stepKw exKw
noncomputable def askX : Eng.Spec := execS EK (byReg [(rgKw, famKw)]) 5
theorem askX_ok : SpecOk Try.prog 5 askX := execS_loops EK_ok mixed Try.func5 (by kernel_rfl) (by kernel_rfl) (one_lp (by kernel_rfl) rgKw_is lpKw_ok)
def tK {α : Type} (l : List α) : List α := List.take l.length l
def dK {α : Type} (l : List α) : List α := List.take l.length (List.drop 0 l)
theorem tK_is {α : Type} (l : List α) : tK l = l := List.take_length
theorem dK_is {α : Type} (l : List α) : dK l = l := by unfold dK; rw [List.drop_zero, List.take_length]
def eI (m : Bool) : Int := bif m then 0 else 1
def cK (l : List Ev) : Int := if (dK l).all mE then 0 else 1
def yK (l : List Ev) : ByteArray := if (dK l).all mE then rowStr (encs (dK l)) else ⟨#[]⟩
def zK (l : List Ev) (m : Bool) : List Int := bif m then encs (tK l) else []
def rAK (b : List Int) : List Ev × Option Int := allR (tK b)
def rBK (b : List Int) : List Ev × Option Int := allR (strRow (rowStr (dK b)))
def eS (s : Bool) : Int := bif s then 4 else 0
def xS (s : Bool) (r : List Ev × Option Int) : Int := bif s then r.2.getD 0 else 0
def allK (l : List Ev) (b : List Int) (m s : Bool) : Bool := bif bif bif eI m == cK l then (rowStr (dK (zK l m))).toList == (yK l).toList else false then eS s == eS s else false then xS s (rAK b) == xS s (rBK b) else false
def wdK (m s : Bool) : List Bool := [true, true, false, true, true, m, true, true, true, s, true, true, s, true, true, true, true]
noncomputable def cdK (l : List Ev) (b : List Int) (m s : Bool) : List (Bool × Bool) := [
  (decide (0 + l.length ≤ l.length), true), (decide ((dK l).length ≤ 9223372036854775807), true), (bif !few (dK l) 30 then true else decide ((300 : Int) < (b.length : Int)), false),
  (invC okKw ⟨l.length, b.length, l, b⟩ ⟨0⟩, true),
  (gdP l.length l, true), ((tK l).all mE, m),
  (decide (0 + l.length ≤ l.length), true), (decide ((dK l).length ≤ 1000), true),
  (gdA b.length b, true), ((rAK b).2.isSome, s),
  (decide (0 + b.length ≤ b.length), true), (decide ((rowStr (dK b)).size ≤ 100000), true), ((rBK b).2.isSome, s),
  (bif (eI m == cK l) == true && true then decide (0 + (zK l m).length ≤ (zK l m).length) else true, true),
  (allK l b m s, true),
  (decide (0 + (rAK b).1.length ≤ (rAK b).1.length) && decide (0 + (rBK b).1.length ≤ (rBK b).1.length), true),
  (decide ((dK (rAK b).1).length ≤ 1000000), true)]
theorem ask_w (m s : Bool) (l : List Ev) (b : List Int) : T.path (wdK m s) (T.anon (askX [rowE l, rowB b])) = some (cdK l b m s, .s (.bool (bif allK l b m s then eqL (dK (rAK b).1) (dK (rBK b).1) else false))) := by cases m <;> cases s <;> kernel_rfl
theorem ask_t (l : List Ev) (b : List Int) : T.path [true, true, true] (T.anon (askX [rowE l, rowB b])) = some ([(decide (0 + l.length ≤ l.length), true), (decide ((dK l).length ≤ 9223372036854775807), true), (bif !few (dK l) 30 then true else decide ((300 : Int) < (b.length : Int)), true)], .tt) := by kernel_rfl
theorem ask_run (l : List Ev) (hz : l.length ≤ 9223372036854775807) {b : List Int} (hb : byB b = true) : (askX [rowE l, rowB b]).yes := by
  unfold T.yes
  rw [← T.eval_anon (t := askX _)]
  have c0 : decide (0 + l.length ≤ l.length) = true := decide_eq_true (by omega)
  have c1 : decide ((dK l).length ≤ 9223372036854775807) = true := by rw [dK_is]; exact decide_eq_true hz
  have fin : ∀ c : Bool, (bif !few (dK l) 30 then true else decide ((300 : Int) < (b.length : Int))) = c → ((T.anon (askX [rowE l, rowB b])).eval = some .tt ∨ (T.anon (askX [rowE l, rowB b])).eval = some (.s (.bool true))) := by
    intro c hc
    cases c with
    | true => exact .inl (T.path_eval (ask_t l b) ⟨c0, c1, hc, trivial⟩)
    | false =>
      refine .inr ?_
      have hc' := hc
      rw [dK_is] at hc'
      have hf : few l 30 = true := by
        cases hq : few l 30 with
        | true => rfl
        | false => rw [hq] at hc'; cases hc'
      rw [hf] at hc'
      have hn : ¬ (300 : Int) < (b.length : Int) := of_decide_eq_false hc'
      have hl : l.length ≤ 30 := by
        unfold few at hf
        rw [Bool.and_eq_true, decide_eq_true_eq] at hf
        omega
      have ea : rAK b = allR b := by unfold rAK; rw [tK_is]
      have eb : rBK b = allR b := by unfold rBK; rw [dK_is, strRow_rowStr hb]
      have h0 : okKw ⟨l.length, b.length, l, b⟩ ⟨0⟩ := ⟨rfl, by show l.length ≤ 1000000; omega, Int.le_refl _, by show (0 : Int) ≤ (l.length : Int); omega⟩
      have lr : (allR b).1.length ≤ 1000 := by
        have := allG_len (b.length + 1) b 0 []
        unfold allR
        simp only [List.length_nil] at this
        omega
      have yes : allK l b (l.all mE) (allR b).2.isSome = true := by
        unfold allK
        rw [ea, eb, beq_self_eq_true, beq_self_eq_true]
        have e1 : eI (l.all mE) = cK l := by unfold eI cK; rw [dK_is]; cases l.all mE <;> rfl
        have e2 : rowStr (dK (zK l (l.all mE))) = yK l := by
          unfold zK yK; rw [dK_is, dK_is, tK_is]
          cases l.all mE <;> rfl
        rw [e1, e2, beq_self_eq_true, beq_self_eq_true]; rfl
      rw [T.path_eval (ask_w (l.all mE) (allR b).2.isSome l b) ⟨c0, c1, hc, invC_is h0, ?_, by rw [tK_is], c0, ?_, ?_, by rw [ea], decide_eq_true (by omega), ?_, by rw [eb], ?_, yes, ?_, ?_, trivial⟩, yes]
      · rw [ea, eb]
        show some (V.s (.bool (eqL (dK (allR b).1) (dK (allR b).1)))) = _
        unfold eqL; rw [decide_eq_true rfl]
      · unfold gdP; rw [decide_eq_true (Nat.le_refl _), decide_eq_true (show l.length ≤ 1000 by omega)]; rfl
      · rw [dK_is]; exact decide_eq_true (by omega)
      · unfold gdA; rw [List.take_length, hb, decide_eq_true (Nat.le_refl _), decide_eq_true (show b.length ≤ 100000 by omega)]; rfl
      · rw [dK_is, rowStr_size]; exact decide_eq_true (by omega)
      · rw [decide_eq_true (show 0 + (zK l (l.all mE)).length ≤ (zK l (l.all mE)).length by omega)]
        cases (eI (l.all mE) == cK l) == true && true <;> rfl
      · rw [decide_eq_true (show 0 + (rAK b).1.length ≤ (rAK b).1.length by omega), decide_eq_true (show 0 + (rBK b).1.length ≤ (rBK b).1.length by omega)]; rfl
      · rw [dK_is, ea]; exact decide_eq_true (by omega)
  exact fin _ rfl
theorem ask_walk (a0 : List (Int × Int × ByteArray)) (z0 : a0.length ≤ maxLen) (w0 : ∀ x ∈ a0, Law.Tx.GoodRow [.int .i64, .int .i64, .str] x) (x0 : Value) (a1 : List Int) (z1 : a1.length ≤ maxLen) (w1 : ∀ x ∈ a1, Law.Tx.GoodRow [.int .u8] x) (x1 : Value) (w : World) (hx0 : holdsP 0 w (.orow 34 [.int .i64, .int .i64, .str] a0) x0) (hx1 : holdsP 0 w (.orow 5 [.int .u8] a1) x1) :
    Calls Try.prog 5 #[x0, x1] w fun e w' => e = .returned (.bool true) ∧ Below w.heap.size w w' :=
  Law.law_rows (args := [rowE a0, rowB a1]) (xs := [x0, x1]) askX_ok rfl (ask_run a0 z0 (byB_of_wf fun x hx => w1 x hx _ List.mem_cons_self)) w ⟨hx0, hx1, trivial⟩
end Go.Proofs.Ytnkingfmdgjmaaa.Evt

