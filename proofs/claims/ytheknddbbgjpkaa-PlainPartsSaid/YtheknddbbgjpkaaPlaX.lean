/- Layer 6: PlainParts. -/
import Derived.Test.YtheknddbbgjpkaaPlaU
namespace Go.Proofs.Ytheknddbbgjpkaa.Pla
open Go.Eng Go.RowKit Mil Rin
set_option linter.unusedVariables false
set_option linter.unusedSimpArgs false
noncomputable def P6 : Cfg := ⟨Try.prog, lookG [(57, .val sumC6), (61, .val newC), (58, .val yesR)], [], 0⟩
theorem P6_ok : P6.Ok := Cfg.ok ⟨sumC6_ok, newC_ok, told6_ok, trivial⟩ trivial
noncomputable def lpPa : Code := loopAt Try.prog 20 0
structure PPa where (q : Nat) (o : List (Int × Int)) (t : Int)
structure APa where (m : Nat) (la : List (Int × Int)) (k : Nat) (lb : List (Int × Int)) (i : Int)
abbrev SPa : List (Nat × Src) := [(0, .same), (1000, .tmp 5), (1001, .tmp 6)]
def vsPa (p : PPa) (a : APa) : List V := [.sub 0 2 0 p.q, iv p.t, .sub 1000 2 0 a.m, .sub 1001 2 0 a.k, iv a.i]
def bsPa (p : PPa) (a : APa) : List Blk := [.lst false 86 [.int .i64, .int .i64] p.o, .lst true 86 [.int .i64, .int .i64] a.la, .lst true 86 [.int .i64, .int .i64] a.lb]
noncomputable def FPa (p : PPa) (a : APa) : St := mkSt [0,1,5,6,7] (keysR SPa) 1002 139 (vsPa p a) (bsPa p a)
noncomputable def rdPa (p : PPa) (a : APa) : T (Ex × St) := T.anon (roundN P6 noLoops lpPa [0,1,5,6,7] SPa 1000 1002 (mkSt [0,1,5,6,7] (keysR SPa) 1002 139 (vsPa p a) (bsPa p a)))
def decPa : List V → List Blk → Option (PPa × APa)
  | [.sub 0 2 0 q, .s (.int .i64 t), .sub 1000 2 0 m, .sub 1001 2 0 k, .s (.int .i64 i)], [.lst false tt0 [.int .i64, .int .i64] o, .lst true tt1 [.int .i64, .int .i64] la, .lst true tt2 [.int .i64, .int .i64] lb] =>
    if tt0 = 86 then if tt1 = 86 then if tt2 = 86 then some (⟨q, o, t⟩, ⟨m, la, k, lb, i⟩) else none else none else none
  | _, _ => none
theorem decPa_ok (l : List V) (b : List Blk) (d : PPa × APa) (h : decPa l b = some d) : l = vsPa d.1 d.2 ∧ b = bsPa d.1 d.2 := by
  unfold decPa at h
  split at h
  · obtain ⟨e0, h⟩ := ite_some0 h
    obtain ⟨e1, h⟩ := ite_some0 h
    obtain ⟨e2, h⟩ := ite_some0 h
    subst e0 e1 e2
    cases h
    exact ⟨rfl, rfl⟩
  · cases h
noncomputable def rgPa : Nat := (firstReg lpPa).getD 0
theorem rgPa_is : firstReg lpPa = some rgPa := by kernel_rfl
noncomputable def lpPb : Code := loopAt Try.prog 20 1
structure PPb where (m : Nat) (la : List (Int × Int)) (k : Nat) (lb : List (Int × Int)) (t : Int) (s : Int) (n : Int) (u : Int) (j : Int) (nw : Int)
structure APb where (c : Int) (i : Int)
abbrev SPb : List (Nat × Src) := [(1000, .same), (1001, .same)]
def vsPb (p : PPb) (a : APb) : List V := [.sub 1000 2 0 p.m, .sub 1001 2 0 p.k, iv p.t, iv p.s, iv p.n, iv p.u, iv p.j, iv p.nw, iv a.c, iv a.i]
def bsPb (p : PPb) (a : APb) : List Blk := [.lst true 86 [.int .i64, .int .i64] p.la, .lst true 86 [.int .i64, .int .i64] p.lb]
noncomputable def FPb (p : PPb) (a : APb) : St := mkSt [5,6,9,10,11,12,13,14,15,16] (keysR SPb) 3000 139 (vsPb p a) (bsPb p a)
noncomputable def rdPb (p : PPb) (a : APb) : T (Ex × St) := T.anon (roundN P6 noLoops lpPb [5,6,9,10,11,12,13,14,15,16] SPb 3000 3000 (mkSt [5,6,9,10,11,12,13,14,15,16] (keysR SPb) 3000 139 (vsPb p a) (bsPb p a)))
def decPb : List V → List Blk → Option (PPb × APb)
  | [.sub 1000 2 0 m, .sub 1001 2 0 k, .s (.int .i64 t), .s (.int .i64 s), .s (.int .i64 n), .s (.int .i64 u), .s (.int .i64 j), .s (.int .i64 nw), .s (.int .i64 c), .s (.int .i64 i)], [.lst true tt0 [.int .i64, .int .i64] la, .lst true tt1 [.int .i64, .int .i64] lb] =>
    if tt0 = 86 then if tt1 = 86 then some (⟨m, la, k, lb, t, s, n, u, j, nw⟩, ⟨c, i⟩) else none else none
  | _, _ => none
theorem decPb_ok (l : List V) (b : List Blk) (d : PPb × APb) (h : decPb l b = some d) : l = vsPb d.1 d.2 ∧ b = bsPb d.1 d.2 := by
  unfold decPb at h
  split at h
  · obtain ⟨e0, h⟩ := ite_some0 h
    obtain ⟨e1, h⟩ := ite_some0 h
    subst e0 e1
    cases h
    exact ⟨rfl, rfl⟩
  · cases h
noncomputable def rgPb : Nat := (firstReg lpPb).getD 0
theorem rgPb_is : firstReg lpPb = some rgPb := by kernel_rfl
def xP (x : TV) : TV := (wI (Int.tmod (wU x.1) 50), wI (Int.tmod (wU x.2) 1000))
theorem xP_bd (x : TV) : (0 ≤ (xP x).1 ∧ (xP x).1 < 50) ∧ (0 ≤ (xP x).2 ∧ (xP x).2 < 1000) := ⟨modI x.1 (by omega) (by omega), modI x.2 (by omega) (by omega)⟩
def e4 (x : TV) : List TV := [x, (-1, 5), (3, -5), (1099511627777, 5)]
def ap4 (k : Nat) (l : List TV) (x : TV) : Bool := true && (decide (k ≤ l.length) && decide (k + (e4 x).length ≤ 1000000))
theorem wayPa (p : PPa) (a : APa) : T.path [true, true, true, false, true, true, false, true, true] (rdPa p a) = some ([(decide (a.i < (p.q : Int)), true), (idR p.o p.q a.i, true), (ldR p.o a.i, true), ((50 : Int) == 0, false), (idR p.o p.q a.i, true), (ldR p.o a.i, true), ((1000 : Int) == 0, false), (apC a.m a.la (xP (xF p.o a.i)), true), (ap4 a.k a.lb (xP (xF p.o a.i)), true)],
  (.normal, FPa p ⟨a.m + [xP (xF p.o a.i)].length, List.take a.m a.la ++ [xP (xF p.o a.i)], a.k + (e4 (xP (xF p.o a.i))).length, List.take a.k a.lb ++ e4 (xP (xF p.o a.i)), wI (a.i + 1)⟩)) := by kernel_rfl
theorem wayPax (p : PPa) (a : APa) : T.path [false] (rdPa p a) = some ([(decide (a.i < (p.q : Int)), false)], (.exit 0, FPa p a)) := by kernel_rfl
def gd (x : TV) : Bool := !badA x.1 x.2
structure okPa (p : PPa) (a : APa) : Prop where
  q : p.q = p.o.length
  q1 : p.q ≤ 30
  i0 : 0 ≤ a.i
  i1 : a.i ≤ p.q
  m : a.m = a.la.length
  k : a.k = a.lb.length
  la : (a.la.length : Int) = a.i
  lb : (a.lb.length : Int) = 4 * a.i
  el : ∀ x ∈ a.la, (0 ≤ x.1 ∧ x.1 < 50) ∧ (0 ≤ x.2 ∧ x.2 < 1000)
  eb : ∀ x ∈ a.lb, x.2 < 1000
  gd : a.lb.filter Pla.gd = a.la
def goPa (p : PPa) (a : APa) : Bool := decide (a.i < (p.q : Int))
def muPa (p : PPa) (a : APa) : Nat := (p.q - a.i).toNat
theorem gd_in {x : TV} (h : (0 ≤ x.1 ∧ x.1 < 50) ∧ (0 ≤ x.2 ∧ x.2 < 1000)) : gd x = true := by
  unfold gd; rw [show badA x.1 x.2 = false from badA_false.2 ⟨by omega, by omega, by omega⟩]; rfl
theorem bad1 : gd (-1, 5) = false := by kernel_rfl
theorem bad2 : gd (3, -5) = false := by kernel_rfl
theorem bad3 : gd (1099511627777, 5) = false := by kernel_rfl
theorem fil3 {x y z w : TV} (h : gd x = true) (h1 : gd y = false) (h2 : gd z = false) (h3 : gd w = false) : [x, y, z, w].filter gd = [x] := by
  simp [List.filter_cons, h, h1, h2, h3]
theorem e4_gd {x : TV} (h : (0 ≤ x.1 ∧ x.1 < 50) ∧ (0 ≤ x.2 ∧ x.2 < 1000)) : (e4 x).filter gd = [x] := fil3 (gd_in h) bad1 bad2 bad3
theorem stepPa (p : PPa) (a : APa) (h : okPa p a) (hg : goPa p a = true) : ∃ b, stepC okPa rdPa FPa muPa p a b := by
  obtain ⟨hq, q1, i0, i1, hm, hk, hla, hlb, el, eb, hgd⟩ := h
  have hi : a.i < (p.q : Int) := of_decide_eq_true hg
  have hw : wI (a.i + 1) = a.i + 1 := wrap64_in (by omega) (by omega)
  obtain ⟨x1, x2⟩ := idR_is (g := p.o) (k := p.q) (i := a.i) hq i0 hi
  have way := wayPa p a
  have hb := xP_bd (xF p.o a.i)
  revert way hb
  generalize xP (xF p.o a.i) = x
  intro way hb
  have h4 : ap4 a.k a.lb x = true := by
    unfold ap4 e4
    rw [decide_eq_true (show a.k ≤ a.lb.length by omega), decide_eq_true (by show a.k + 4 ≤ 1000000; omega)]; rfl
  have ta : List.take a.m a.la = a.la := by rw [hm]; exact List.take_length
  have tb : List.take a.k a.lb = a.lb := by rw [hk]; exact List.take_length
  rw [ta, tb] at way
  refine ⟨_, T.path_eval way ⟨hg, x1, x2, by kernel_rfl, x1, x2, by kernel_rfl, apC_is _ hm (by omega), h4, trivial⟩, ⟨hq, q1, ?_, ?_, ?_, ?_, ?_, ?_, ?_, ?_, ?_⟩, ?_⟩
  · show 0 ≤ wI (a.i + 1); rw [hw]; omega
  · show wI (a.i + 1) ≤ p.q; rw [hw]; omega
  · show a.m + 1 = (a.la ++ [x]).length; rw [List.length_append, hm]; rfl
  · show a.k + 4 = (a.lb ++ e4 x).length; rw [List.length_append, hk]; rfl
  · show ((a.la ++ [x]).length : Int) = wI (a.i + 1); rw [hw, List.length_append]; simp; omega
  · show ((a.lb ++ e4 x).length : Int) = 4 * wI (a.i + 1); rw [hw, List.length_append, show (e4 x).length = 4 from rfl]; omega
  · intro y hy
    rcases List.mem_append.1 (show y ∈ a.la ++ [x] from hy) with hy | hy
    · exact el y hy
    · rw [List.mem_singleton] at hy; rw [hy]; exact hb
  · intro y hy
    rcases List.mem_append.1 (show y ∈ a.lb ++ e4 x from hy) with hy | hy
    · exact eb y hy
    · simp only [e4, List.mem_cons, List.not_mem_nil, or_false] at hy
      rcases hy with rfl | rfl | rfl | rfl
      · omega
      · show (5 : Int) < 1000; omega
      · show (-5 : Int) < 1000; omega
      · show (5 : Int) < 1000; omega
  · show (a.lb ++ e4 x).filter Pla.gd = a.la ++ [x]
    rw [List.filter_append, hgd, e4_gd hb]
  · show (p.q - wI (a.i + 1)).toNat < (p.q - a.i).toNat; rw [hw]; omega
theorem exPa (p : PPa) (a : APa) (h : okPa p a) (hg : goPa p a = false) : (rdPa p a).eval = some (.exit 0, FPa p a) := T.path_eval (wayPax p a) ⟨hg, trivial⟩
noncomputable def famPa : LSpec := famC [0,1,5,6,7] SPa 1000 1002 139 decPa okPa goPa rdPa FPa muPa (.exit 0)
theorem lpPa_ok : LoopOk P6 lpPa famPa := famC_ok (vs := vsPa) (bs := bsPa) P6_ok mixed (noLoops_ok _) decPa_ok (by simp) (fun _ _ => rfl) (fun _ _ => rfl) stepPa exPa
theorem new_gd : ∀ (l : List TV) (n : Int), l.foldl nxV n = (l.filter gd).foldl nxV n
  | [], _ => rfl
  | x :: r, n => by
    rw [List.foldl_cons, new_gd r, List.filter_cons]
    unfold gd nxV
    cases h : badA x.1 x.2 with
    | true => rfl
    | false =>
      simp only [Bool.not_false, ite_true, List.foldl_cons, h, cond_false]
theorem newV_gd (l : List TV) : newV l = newV (l.filter gd) := new_gd l (-1)
theorem pl_gd (w g t : Int) (l : List TV) : plV w g t l = plV w g t (l.filter gd) := by
  unfold plV
  rw [← newV_gd, List.filter_filter]
  apply List.filter_congr
  intro x _
  unfold pw gd
  cases badA x.1 x.2
  · simp
  · simp
/-! ### the count -/
def d1P (p : PPb) (a : APb) : Bool := decide ((xF p.la a.i).1 ≤ p.t)
def d2P (p : PPb) (a : APb) : Bool := bif d1P p a then decide (wI (p.t - 10) < (xF p.la a.i).1) else false
def d3P (p : PPb) (a : APb) : Bool := bif d2P p a then decide (wI (p.nw - 10) < (xF p.la a.i).1) else false
def gdP6 (d c : Bool) : Bool := bif d == true && true then c else true
theorem wayPb (p : PPb) (a : APb) (e : Bool) : T.path [true, true, true, true, true, true, true, e] (rdPb p a) = some ([(decide (a.i < (p.m : Int)), true), (idR p.la p.m a.i, true), (ldR p.la a.i, true), (gdP6 (d1P p a) (idR p.la p.m a.i), true), (gdP6 (d1P p a) (ldR p.la a.i), true), (gdP6 (d2P p a) (idR p.la p.m a.i), true), (gdP6 (d2P p a) (ldR p.la a.i), true), (d3P p a, e)],
  (.normal, FPb p ⟨bif e then wI (a.c + 1) else a.c, wI (a.i + 1)⟩)) := by cases e <;> kernel_rfl
theorem wayPbx (p : PPb) (a : APb) : T.path [false] (rdPb p a) = some ([(decide (a.i < (p.m : Int)), false)], (.exit 2, FPb p a)) := by kernel_rfl
structure okPb (p : PPb) (a : APb) : Prop where
  m : p.m = p.la.length
  m1 : p.m ≤ 30
  t0 : 0 ≤ p.t
  t1 : p.t ≤ 60
  n0 : -1 ≤ p.nw
  n1 : p.nw ≤ 1099511627776
  el : ∀ x ∈ p.la, (0 ≤ x.1 ∧ x.1 < 50) ∧ (0 ≤ x.2 ∧ x.2 < 1000)
  i0 : 0 ≤ a.i
  i1 : a.i ≤ p.m
  c : a.c = (((p.la.take a.i.toNat).filter (pw 1 10 p.t p.nw)).length : Int)
def goPb (p : PPb) (a : APb) : Bool := decide (a.i < (p.m : Int))
def muPb (p : PPb) (a : APb) : Nat := (p.m - a.i).toNat
theorem gdP6_t {d c : Bool} (h : c = true) : gdP6 d c = true := by unfold gdP6; rw [h]; cases d <;> rfl
theorem stepPb (p : PPb) (a : APb) (h : okPb p a) (hg : goPb p a = true) : ∃ b, stepC okPb rdPb FPb muPb p a b := by
  obtain ⟨hm, m1, t0, t1, n0, n1, el, i0, i1, hc⟩ := h
  have hi : a.i < (p.m : Int) := of_decide_eq_true hg
  have hw : wI (a.i + 1) = a.i + 1 := wrap64_in (by omega) (by omega)
  obtain ⟨x1, x2⟩ := idR_is (g := p.la) (k := p.m) (i := a.i) hm i0 hi
  have hlt : a.i.toNat < p.la.length := by omega
  have hx := xF_at i0 hlt
  have tk := take_next i0 hlt
  have hb := el _ (List.getElem_mem hlt)
  have hp : d3P p a = pw 1 10 p.t p.nw p.la[a.i.toNat] := by
    unfold d3P d2P d1P pw
    rw [hx, show wI (p.t - 10) = p.t - 10 from wrap64_in (by omega) (by omega), show wI (p.nw - 10) = p.nw - 10 from wrap64_in (by omega) (by omega), show badA p.la[a.i.toNat].1 p.la[a.i.toNat].2 = false from badA_false.2 ⟨by omega, by omega, by omega⟩, Int.tdiv_one, cond_and, cond_and, Bool.eq_iff_iff]
    simp only [Bool.not_false, Bool.true_and, Bool.and_eq_true, decide_eq_true_eq]
    omega
  have fl : ((p.la.take a.i.toNat).filter (pw 1 10 p.t p.nw)).length ≤ 30 := by
    have := List.length_filter_le (pw 1 10 p.t p.nw) (p.la.take a.i.toNat)
    rw [List.length_take] at this; omega
  have e : (((p.la.take (a.i + 1).toNat).filter (pw 1 10 p.t p.nw)).length : Int) = bif d3P p a then a.c + 1 else a.c := by
    rw [tk, List.filter_append, List.length_append, hc, hp, List.filter_cons]
    cases pw 1 10 p.t p.nw p.la[a.i.toNat] <;> simp
  refine ⟨_, T.path_eval (wayPb p a (d3P p a)) ⟨hg, x1, x2, gdP6_t x1, gdP6_t x2, gdP6_t x1, gdP6_t x2, rfl, trivial⟩, ⟨hm, m1, t0, t1, n0, n1, el, ?_, ?_, ?_⟩, ?_⟩
  · show 0 ≤ wI (a.i + 1); rw [hw]; omega
  · show wI (a.i + 1) ≤ p.m; rw [hw]; omega
  · show (bif d3P p a then wI (a.c + 1) else a.c) = (((p.la.take (wI (a.i + 1)).toNat).filter _).length : Int)
    rw [hw, e, show wI (a.c + 1) = a.c + 1 from wrap64_in (by omega) (by omega)]
  · show (p.m - wI (a.i + 1)).toNat < (p.m - a.i).toNat; rw [hw]; omega
theorem exPb (p : PPb) (a : APb) (h : okPb p a) (hg : goPb p a = false) : (rdPb p a).eval = some (.exit 2, FPb p a) := T.path_eval (wayPbx p a) ⟨hg, trivial⟩
noncomputable def famPb : LSpec := famC [5,6,9,10,11,12,13,14,15,16] SPb 3000 3000 139 decPb okPb goPb rdPb FPb muPb (.exit 2)
theorem lpPb_ok : LoopOk P6 lpPb famPb := famC_ok (vs := vsPb) (bs := bsPb) P6_ok mixed (noLoops_ok _) decPb_ok (by simp) (fun _ _ => rfl) (fun _ _ => rfl) stepPb exPb
noncomputable def parR (o : List TV) (b : Int) : T V := execS P6 (byReg [(rgPa, famPa), (rgPb, famPb)]) 20 [.orow 86 KR2 o, Eng.iv b]
end Go.Proofs.Ytheknddbbgjpkaa.Pla
