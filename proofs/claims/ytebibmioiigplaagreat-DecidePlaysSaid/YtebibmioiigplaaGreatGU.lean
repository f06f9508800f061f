import Derived.Test.YtebibmioiigplaaGreatGR
/- Layer 15: the document's delay: its calls. -/
namespace Go.Proofs.YtebibmioiigplaaGreat.Dly
open Go.Eng Go.RowKit
set_option linter.unusedVariables false
set_option linter.unusedSimpArgs false
set_option maxRecDepth 100000
theorem mixedE : Tryz.prog.follows .mixedOrders = true := Checked.mixed Tryz.checked
noncomputable def CE : Cfg := ⟨Tryz.prog, lookG [], [], 0⟩
theorem CE_ok : CE.Ok := Cfg.ok trivial trivial
noncomputable def rnewE : Eng.Obj := execO CE noLoops 30
theorem rnewE_ok : ObjOk Tryz.prog 30 rnewE := execO_plain CE_ok mixedE Tryz.func30 (by kernel_rfl) (by kernel_rfl)
noncomputable def rnewA : Eng.Obj := fun args h => (rnewE args h).bind (adoptH 24 1 105 [.int .i64, .int .i64] h)
theorem rnewA_ok : ObjOk Tryz.prog 30 rnewA := rnewE_ok.adopt 24 1 105 [.int .i64, .int .i64]
noncomputable def rputE : Eng.Obj := execO CE noLoops 48
theorem rputE_ok : ObjOk Tryz.prog 48 rputE := execO_plain CE_ok mixedE Tryz.func48 (by kernel_rfl) (by kernel_rfl)
noncomputable def rchE : Eng.Obj := execO CE noLoops 39
theorem rchE_ok : ObjOk Tryz.prog 39 rchE := execO_plain CE_ok mixedE Tryz.func39 (by kernel_rfl) (by kernel_rfl)
def ddB (s : Int) (j n : Nat) : Blk := .cells 100 [iv s, .sub j 2 0 n]
def rcB (l : List Stp) : Blk := .lst true 105 [.int .i64, .int .i64] l
def ddH (s : Int) (n : Nat) (l : List Stp) : Heap := [(0, ddB s 1 n), (1, rcB l)]
end Go.Proofs.YtebibmioiigplaaGreat.Dly

/- Layer 15: the document's Most. -/
namespace Go.Proofs.YtebibmioiigplaaGreat.Dly
open Go.Eng Go.RowKit
set_option linter.unusedVariables false
set_option linter.unusedSimpArgs false
set_option maxRecDepth 100000
noncomputable def lpRm : Code := loopAt Tryz.prog 49 0
structure PRm where (s : Int) (n : Nat) (l : List (Int × Int)) (t : Int)
structure ARm where (m : Int) (i : Int)
abbrev SRm : List (Nat × Src) := [(0, .same), (1, .same)]
def vsRm (p : PRm) (a : ARm) : List V := [.ptr 0 0, iv p.t, iv a.m, iv a.i]
def bsRm (p : PRm) (a : ARm) : List Blk := [.cells 100 [iv p.s, .sub 1 2 0 p.n], .lst true 105 [.int .i64, .int .i64] p.l]
noncomputable def FRm (p : PRm) (a : ARm) : St := mkSt [0,1,5,6] (keysR SRm) 1010 64 (vsRm p a) (bsRm p a)
noncomputable def rdRm (p : PRm) (a : ARm) : T (Ex × St) := T.anon (roundN CE noLoops lpRm [0,1,5,6] SRm 1000 1010 (mkSt [0,1,5,6] (keysR SRm) 1010 64 (vsRm p a) (bsRm p a)))
def decRm : List V → List Blk → Option (PRm × ARm)
  | [.ptr 0 0, .s (.int .i64 t), .s (.int .i64 m), .s (.int .i64 i)], [.cells tt0 [.s (.int .i64 s), .sub 1 2 0 n], .lst true tt1 [.int .i64, .int .i64] l] =>
    if tt0 = 100 then if tt1 = 105 then some (⟨s, n, l, t⟩, ⟨m, i⟩) else none else none
  | _, _ => none
theorem decRm_ok (l : List V) (b : List Blk) (d : PRm × ARm) (h : decRm l b = some d) : l = vsRm d.1 d.2 ∧ b = bsRm d.1 d.2 := by
  unfold decRm at h
  split at h
  · obtain ⟨e0, h⟩ := ite_some0 h
    obtain ⟨e1, h⟩ := ite_some0 h
    subst e0 e1
    cases h
    exact ⟨rfl, rfl⟩
  · cases h
noncomputable def rgRm : Nat := (firstReg lpRm).getD 0
theorem rgRm_is : firstReg lpRm = some rgRm := by kernel_rfl
end Go.Proofs.YtebibmioiigplaaGreat.Dly

/- Layer 15: the document's Most and Put: contracts. -/
namespace Go.Proofs.YtebibmioiigplaaGreat.Dly
open Go.Eng Go.RowKit
set_option linter.unusedVariables false
set_option linter.unusedSimpArgs false
set_option maxRecDepth 100000
def lstI (n : Nat) : Int := wI ((n : Int) - 1)
def hdRm (p : PRm) (a : ARm) : List (Bool × Bool) := [(decide (a.i < (p.n : Int)), true), (idR p.l p.n a.i, true), (ldR p.l a.i, true), (idR p.l p.n (lstI p.n), true), (ldR p.l (lstI p.n), true)]
def oldR (p : PRm) (a : ARm) : Bool := decide ((xS p.l a.i).1 < wI ((xS p.l (lstI p.n)).1 - 600))
def hitR (p : PRm) (a : ARm) : Bool := bif decide (wI (p.t - p.s) < (xS p.l a.i).1) then true else decide (p.t ≤ (xS p.l a.i).1)
theorem wayRm0 (p : PRm) (a : ARm) : T.path [true, true, true, true, true, true] (rdRm p a) = some (hdRm p a ++ [(oldR p a, true)], (.normal, FRm p ⟨a.m, wI (a.i + 1)⟩)) := by kernel_rfl
theorem wayRm1 (p : PRm) (a : ARm) : T.path [true, true, true, true, true, false, true] (rdRm p a) = some (hdRm p a ++ [(oldR p a, false), (hitR p a, true)], (.normal, FRm p ⟨if (xS p.l a.i).2 > a.m then (xS p.l a.i).2 else a.m, wI (a.i + 1)⟩)) := by kernel_rfl
theorem wayRm2 (p : PRm) (a : ARm) : T.path [true, true, true, true, true, false, false] (rdRm p a) = some (hdRm p a ++ [(oldR p a, false), (hitR p a, false)], (.normal, FRm p ⟨a.m, wI (a.i + 1)⟩)) := by kernel_rfl
theorem wayRmx (p : PRm) (a : ARm) : T.path [false] (rdRm p a) = some ([(decide (a.i < (p.n : Int)), false)], (.exit 0, FRm p a)) := by kernel_rfl
/-- from when on the document counts -/
def frD (l : List Stp) (t s : Int) : Int := max ((xS l (lstI l.length)).1 - 600) (thr t s)
structure okRm (p : PRm) (a : ARm) : Prop where
  n : p.n = p.l.length
  n1 : p.n ≤ 100001
  s0 : 0 ≤ p.s
  s1 : p.s ≤ 600
  t0 : 0 ≤ p.t
  t1 : p.t ≤ 1099511628377
  h : ∀ x ∈ p.l, (0 ≤ x.1 ∧ x.1 ≤ 1099511627776) ∧ 0 ≤ x.2 ∧ x.2 ≤ 1000000
  i0 : 0 ≤ a.i
  i1 : a.i ≤ p.n
  m : a.m = mS (frD p.l p.t p.s) (p.l.take a.i.toNat)
def goRm (p : PRm) (a : ARm) : Bool := decide (a.i < (p.n : Int))
def muRm (p : PRm) (a : ARm) : Nat := (p.n - a.i).toNat
theorem xS_mem {l : List Stp} {i : Int} (h0 : 0 ≤ i) (h1 : i < l.length) : xS l i ∈ l ∧ l[i.toNat]? = some (xS l i) := by
  have hl : i.toNat < l.length := by omega
  have e : xS l i = l[i.toNat] := by
    unfold xS
    rw [Nat.zero_add, List.getD_eq_getElem?_getD, List.getElem?_eq_getElem hl]; rfl
  rw [e]
  exact ⟨List.getElem_mem hl, List.getElem?_eq_getElem hl⟩
theorem stepRm (p : PRm) (a : ARm) (h : okRm p a) (hg : goRm p a = true) : ∃ b, stepC okRm rdRm FRm muRm p a b := by
  obtain ⟨hn, n1, s0, s1, t0, t1, hl, i0, i1, hm⟩ := h
  have hg0 := hg
  have hi : a.i < (p.n : Int) := of_decide_eq_true hg
  have hw : wI (a.i + 1) = a.i + 1 := wrap64_in (by omega) (by omega)
  have el : lstI p.n = (p.n : Int) - 1 := wrap64_in (by omega) (by omega)
  obtain ⟨x1, x2⟩ := idR_is (g := p.l) (k := p.n) (i := a.i) hn i0 hi
  obtain ⟨y1, y2⟩ := idR_is (g := p.l) (k := p.n) (i := lstI p.n) hn (by rw [el]; omega) (by rw [el]; omega)
  obtain ⟨m1, m2⟩ := xS_mem (l := p.l) (i := a.i) i0 (by omega)
  obtain ⟨l1, _⟩ := xS_mem (l := p.l) (i := lstI p.n) (by rw [el]; omega) (by rw [el]; omega)
  have b1 := hl _ m1
  have b2 := hl _ l1
  have hd : allSay (hdRm p a) := ⟨hg0, x1, x2, y1, y2, trivial⟩
  have et : (a.i + 1).toNat = a.i.toNat + 1 := by omega
  have mt : mS (frD p.l p.t p.s) (p.l.take (a.i + 1).toNat) = max a.m (vS (frD p.l p.t p.s) (xS p.l a.i)) := by
    rw [et, List.take_add_one, m2, mS_app, ← hm]
    show max a.m (max (vS _ _) 0) = _
    have := b1.2.1
    unfold vS; split <;> omega
  have w1 : wI ((xS p.l (lstI p.n)).1 - 600) = (xS p.l (lstI p.n)).1 - 600 := wrap64_in (by omega) (by omega)
  have w2 : wI (p.t - p.s) = p.t - p.s := wrap64_in (by omega) (by omega)
  have m0 : 0 ≤ a.m := by rw [hm]; exact mS_nn _ _
  have fr : frD p.l p.t p.s = max ((xS p.l (lstI p.n)).1 - 600) (min p.t (p.t - p.s + 1)) := by unfold frD thr; rw [hn]
  have mu : ∀ m', muRm p ⟨m', wI (a.i + 1)⟩ < muRm p a := by
    intro m'
    show ((p.n : Int) - wI (a.i + 1)).toNat < ((p.n : Int) - a.i).toNat
    rw [hw]; omega
  have fin : ∀ m', m' = max a.m (vS (frD p.l p.t p.s) (xS p.l a.i)) → okRm p ⟨m', wI (a.i + 1)⟩ := by
    intro m' e
    refine ⟨hn, n1, s0, s1, t0, t1, hl, ?_, ?_, ?_⟩
    · show 0 ≤ wI (a.i + 1); rw [hw]; omega
    · show wI (a.i + 1) ≤ p.n; rw [hw]; omega
    · show m' = mS _ (p.l.take (wI (a.i + 1)).toNat); rw [hw, mt, e]
  cases ho : oldR p a with
  | true =>
    have ho' := of_decide_eq_true ho
    rw [w1] at ho'
    refine ⟨_, T.path_eval (wayRm0 p a) (allSay_append hd ⟨ho, trivial⟩), fin _ ?_, mu _⟩
    unfold vS; rw [if_neg (by rw [fr]; omega)]; omega
  | false =>
    have ho' : ¬ (xS p.l a.i).1 < wI ((xS p.l (lstI p.n)).1 - 600) := of_decide_eq_false ho
    rw [w1] at ho'
    cases hh : hitR p a with
    | true =>
      have hx : p.t - p.s < (xS p.l a.i).1 ∨ p.t ≤ (xS p.l a.i).1 := by
        unfold hitR at hh
        rw [w2] at hh
        by_cases q : p.t - p.s < (xS p.l a.i).1
        · exact .inl q
        · rw [decide_eq_false q] at hh; exact .inr (of_decide_eq_true hh)
      refine ⟨_, T.path_eval (wayRm1 p a) (allSay_append hd ⟨ho, hh, trivial⟩), fin _ ?_, mu _⟩
      have ev : vS (frD p.l p.t p.s) (xS p.l a.i) = (xS p.l a.i).2 := if_pos (by rw [fr]; omega)
      rw [ev]
      split <;> omega
    | false =>
      have hx : ¬ (p.t - p.s < (xS p.l a.i).1 ∨ p.t ≤ (xS p.l a.i).1) := by
        unfold hitR at hh
        rw [w2] at hh
        intro hx
        by_cases q : p.t - p.s < (xS p.l a.i).1
        · rw [decide_eq_true q] at hh; cases hh
        · rw [decide_eq_false q] at hh
          have := of_decide_eq_false hh
          omega
      refine ⟨_, T.path_eval (wayRm2 p a) (allSay_append hd ⟨ho, hh, trivial⟩), fin _ ?_, mu _⟩
      unfold vS; rw [if_neg (by rw [fr]; omega)]; omega
theorem exRm (p : PRm) (a : ARm) (h : okRm p a) (hg : goRm p a = false) : (rdRm p a).eval = some (.exit 0, FRm p a) := T.path_eval (wayRmx p a) ⟨hg, trivial⟩
noncomputable def famRm : LSpec := famC [0,1,5,6] SRm 1000 1010 64 decRm okRm goRm rdRm FRm muRm (.exit 0)
theorem lpRm_ok : LoopOk CE lpRm famRm := famC_ok (vs := vsRm) (bs := bsRm) CE_ok mixed (noLoops_ok _) decRm_ok (by simp) (fun _ _ => rfl) (fun _ _ => rfl) stepRm exRm
noncomputable def rmosE : Eng.Obj := execO CE (byReg [(rgRm, famRm)]) 49
theorem rmosE_ok : ObjOk Tryz.prog 49 rmosE := execO_loops CE_ok mixedE Tryz.func49 (by kernel_rfl) (by kernel_rfl) (one_lp (by kernel_rfl) rgRm_is lpRm_ok)
end Go.Proofs.YtebibmioiigplaaGreat.Dly

/- Layer 15: the document's delay beside the program's. -/
namespace Go.Proofs.YtebibmioiigplaaGreat.Dly
open Go.Eng Go.RowKit
set_option linter.unusedVariables false
set_option linter.unusedSimpArgs false
set_option maxRecDepth 100000
def cpM (t : Int) : Int := if 1099511628377 < (if 0 > t then 0 else t) then 1099511628377 else (if 0 > t then 0 else t)
def okMs (s : Int) (n : Nat) (l : List Stp) : Prop := n = l.length ∧ n ≤ 100001 ∧ 0 ≤ s ∧ s ≤ 600 ∧ ∀ x ∈ l, (0 ≤ x.1 ∧ x.1 ≤ 1099511627776) ∧ 0 ≤ x.2 ∧ x.2 ≤ 1000000
noncomputable def rmosT (s t : Int) (n : Nat) (l : List Stp) : T (V × Heap) := .ite none (pB (okMs s n l)) (.ret (iv (mS (frD l (cpM t) s) l), ddH s n l)) .fail
noncomputable def rmosS : Eng.Obj
  | [.ptr 0 0, .s (.int .i64 t)], [(0, .cells 100 [.s (.int .i64 s), .sub 1 2 0 n]), (1, .lst true 105 [.int .i64, .int .i64] l)] => rmosT s t n l
  | _, _ => .fail
noncomputable def eRm (s t : Int) (n : Nat) (l : List Stp) : ARm := endW (nxtC okRm goRm rdRm FRm muRm ⟨s, n, l, cpM t⟩) ⟨0, 0⟩
theorem rmos_w (s t : Int) (n : Nat) (l : List Stp) : T.path [true] (T.anon (rmosE [.ptr 0 0, iv t] (ddH s n l))) = some ([(invC okRm ⟨s, n, l, cpM t⟩ ⟨0, 0⟩, true)], (iv (eRm s t n l).m, ddH s n l)) := by kernel_rfl
theorem rmos_run (s t : Int) (n : Nat) (l : List Stp) (r : V × Heap) (hv : (rmosT s t n l).eval = some r) : (rmosE [.ptr 0 0, iv t] (ddH s n l)).eval = some r := by
  unfold rmosT at hv
  obtain ⟨hc, hv⟩ := ite_some hv
  obtain rfl := Option.some.inj hv
  obtain ⟨hn, n1, s0, s1, hl⟩ := pB_ok hc
  have h0 : okRm ⟨s, n, l, cpM t⟩ ⟨0, 0⟩ := ⟨hn, n1, s0, s1, by show 0 ≤ cpM t; unfold cpM; split <;> (try split) <;> omega, by show cpM t ≤ 1099511628377; unfold cpM; split <;> (try split) <;> omega, hl, Int.le_refl _, by show (0 : Int) ≤ n; omega, rfl⟩
  obtain ⟨k1, k2⟩ := endC stepRm h0
  have k1 : okRm ⟨s, n, l, cpM t⟩ (eRm s t n l) := k1
  have k2 : decide ((eRm s t n l).i < (n : Int)) = false := k2
  have k2 := of_decide_eq_false k2
  have i1 : (eRm s t n l).i ≤ (n : Int) := k1.i1
  have e : (eRm s t n l).m = mS (frD l (cpM t) s) l := by
    have hlen : l.length ≤ (eRm s t n l).i.toNat := by omega
    rw [k1.m]
    show mS _ (l.take (eRm s t n l).i.toNat) = _
    rw [List.take_of_length_le hlen]
  rw [← T.eval_anon (t := rmosE _ _)]
  have w := rmos_w s t n l
  rw [e] at w
  exact T.path_eval w ⟨invC_is h0, trivial⟩
theorem rmosS_ok : ObjOk Tryz.prog 49 rmosS := rmosE_ok.of_eval fun args h r hv => by
  unfold rmosS at hv
  split at hv
  · rename_i t s n l
    exact rmos_run s t n l r hv
  · cases hv
def rgP (t w : Int) : Bool := bif bif bif decide (t < 0) then true else decide (1099511627776 < t) then true else decide (w < 0) then true else decide (1000000 < w)
def badP (n : Nat) (l : List Stp) (t w : Int) : Bool := bif rgP t w then true else (bif decide (0 < (n : Int)) then decide (t < (xS l (lstI n)).1) else false)
noncomputable def rputT (s t w : Int) (n : Nat) (l : List Stp) : T (V × Heap) := .ite none (pB (n = l.length ∧ n ≤ 99999)) (.ite none (badP n l t w) (.ret (iv 1, ddH s n l)) (.ret (iv 0, [(0, ddB s 322 (l ++ [(t, w)]).length), (322, rcB (l ++ [(t, w)]))]))) .fail
noncomputable def rputS : Eng.Obj
  | [.ptr 0 0, .s (.int .i64 t), .s (.int .i64 w)], [(0, .cells 100 [.s (.int .i64 s), .sub 1 2 0 n]), (1, .lst true 105 [.int .i64, .int .i64] l)] => rputT s t w n l
  | _, _ => .fail
def puG (n : Nat) (l : List Stp) (t w : Int) : List (Bool × Bool) := [((bif rgP t w == false && (decide (0 < (n : Int)) == true && true) then idR l n (lstI n) else true), true), ((bif rgP t w == false && (decide (0 < (n : Int)) == true && true) then ldR l (lstI n) else true), true)]
theorem rput_w1 (s t w : Int) (n : Nat) (l : List Stp) : T.path [true, true, true] (T.anon (rputE [.ptr 0 0, iv t, iv w] (ddH s n l))) = some (puG n l t w ++ [(badP n l t w, true)], (iv 1, ddH s n l)) := by kernel_rfl
theorem rput_w0 (s t w : Int) (n : Nat) (l : List Stp) : T.path [true, true, false, true] (T.anon (rputE [.ptr 0 0, iv t, iv w] (ddH s n l))) = some (puG n l t w ++ [(badP n l t w, false), (true && (decide (n ≤ l.length) && decide (n + [(t, w)].length ≤ 1000000)), true)], (iv 0, [(0, ddB s 322 (n + [(t, w)].length)), (322, rcB (List.take n l ++ [(t, w)]))])) := by kernel_rfl
theorem rput_run (s t w : Int) (n : Nat) (l : List Stp) (r : V × Heap) (hv : (rputT s t w n l).eval = some r) : (rputE [.ptr 0 0, iv t, iv w] (ddH s n l)).eval = some r := by
  unfold rputT at hv
  obtain ⟨hc, hv⟩ := ite_some hv
  obtain ⟨hn, n1⟩ := pB_ok hc
  rw [← T.eval_anon (t := rputE _ _)]
  have hg : allSay (puG n l t w) := by
    by_cases hz : 0 < n
    · have el : lstI n = (n : Int) - 1 := wrap64_in (by omega) (by omega)
      obtain ⟨y1, y2⟩ := idR_is (g := l) (k := n) (i := lstI n) hn (by rw [el]; omega) (by rw [el]; omega)
      refine ⟨?_, ?_, trivial⟩
      · rw [y1]; cases (rgP t w == false && (decide (0 < (n : Int)) == true && true)) <;> rfl
      · rw [y2]; cases (rgP t w == false && (decide (0 < (n : Int)) == true && true)) <;> rfl
    · have e : decide (0 < (n : Int)) = false := decide_eq_false (by omega)
      refine ⟨?_, ?_, trivial⟩
      · rw [e]; simp
      · rw [e]; simp
  cases hb : badP n l t w with
  | true =>
    rw [hb] at hv
    obtain rfl := Option.some.inj hv
    exact T.path_eval (rput_w1 s t w n l) (allSay_append hg ⟨hb, trivial⟩)
  | false =>
    rw [hb] at hv
    obtain rfl := Option.some.inj hv
    have ww := rput_w0 s t w n l
    subst hn
    rw [List.take_length] at ww
    rw [List.length_append]
    refine T.path_eval ww (allSay_append hg ⟨hb, ?_, trivial⟩)
    rw [decide_eq_true (Nat.le_refl _), decide_eq_true (show l.length + [(t, w)].length ≤ 1000000 by show l.length + 1 ≤ 1000000; omega)]; rfl
theorem rputS_ok : ObjOk Tryz.prog 48 rputS := rputE_ok.of_eval fun args h r hv => by
  unfold rputS at hv
  split at hv
  · rename_i t w s n l
    exact rput_run s t w n l r hv
  · cases hv
/-- the program's steps beside all that was put -/
structure BothL (s a : Int) (n : Nat) (l L : List Stp) (m : Nat) : Prop where
  h : Holds a l L
  s0 : 0 ≤ s
  s1 : s ≤ 600
  n : n = l.length
  m : L.length ≤ m
theorem last_is {a : Int} {l L : List Stp} (h : Holds a l L) (hz : L ≠ []) (h1 : L.length ≤ 100001) : (xS L (lstI L.length)).1 = a := by
  have hp : 0 < L.length := List.length_pos_iff.2 hz
  have el : lstI L.length = (L.length : Int) - 1 := wrap64_in (by omega) (by omega)
  obtain ⟨_, e⟩ := xS_mem (l := L) (i := lstI L.length) (by rw [el]; omega) (by rw [el]; omega)
  refine h.la _ ?_
  rw [List.getLast?_eq_getElem?, ← e, el]
  congr 1
  omega
theorem bool_eq {x y : Bool} (h : x = false ↔ y = false) : x = y := by
  cases x <;> cases y <;> simp at h <;> rfl
theorem BothL.bad {s a : Int} {n m : Nat} {l L : List Stp} (h : BothL s a n l L m) (hm : m ≤ 100001) (t w : Int) : badP L.length L t w = refB a t w := by
  have a0 := h.h.a0
  have hmm := h.m
  refine bool_eq ?_
  rw [refB_false]
  unfold badP rgP
  by_cases hz : L = []
  · have ha := h.h.e hz
    subst hz
    simp
    omega
  · have e := last_is h.h hz (by omega)
    have hp : 0 < L.length := List.length_pos_iff.2 hz
    rw [e, decide_eq_true (show (0 : Int) < (L.length : Int) by omega)]
    simp
    omega
theorem BothL.most {s a : Int} {n m : Nat} {l L : List Stp} (h : BothL s a n l L m) (hm : m ≤ 100001) (t : Int) : mS (frD L (cpM t) s) L = fS (thr (mx0 t) s) l := by
  rw [fS_mS _ h.h.dec]
  have hmm := h.m
  have s0 := h.s0
  have s1 := h.s1
  by_cases hz : L = []
  · have hl := h.h.ln
    subst hz
    have : l = [] := List.length_eq_zero_iff.1 (by have : l.length ≤ 0 := hl; omega)
    subst this; rfl
  · have e := last_is h.h hz (by omega)
    have a1 := h.h.a1
    have e1 : mS (thr (mx0 t) s) l = mS (max (a - 600) (thr (mx0 t) s)) l := mS_raise fun x hx => (h.h.t x hx).1
    rw [e1, h.h.m _ (by omega)]
    unfold frD
    rw [e]
    by_cases q : mx0 t ≤ 1099511628377
    · have : cpM t = mx0 t := by unfold cpM mx0 at *; split <;> omega
      rw [this]
    · have q1 : cpM t = 1099511628377 := by unfold cpM mx0 at *; split <;> omega
      rw [q1, mS_out fun x hx => by have := (h.h.T x hx).2; unfold thr; omega, mS_out fun x hx => by have := (h.h.T x hx).2; unfold thr; omega]
end Go.Proofs.YtebibmioiigplaaGreat.Dly

/- Layer 11: the document's metric beside the program's: what both rings hold. -/
namespace Go.Proofs.YtebibmioiigplaaGreat.Met
open Go.Eng Go.RowKit Mil Rin
set_option linter.unusedVariables false
set_option linter.unusedSimpArgs false
set_option maxRecDepth 100000
noncomputable def DM1 : Cfg := ⟨Tryz.prog, lookG [(28, .val Conf.mayS), (60, .obj newDS), (34, .obj puS), (67, .obj reS)], [], 0⟩
theorem DM1_ok : DM1.Ok := Cfg.ok ⟨Conf.refmay_ok, newDS_ok, puS_ok, reS_ok, trivial⟩ trivial
noncomputable def dnewE : Eng.Obj := execO DM1 noLoops 29
theorem dnewE_ok : ObjOk Tryz.prog 29 dnewE := execO_plain DM1_ok Rin.mixed Tryz.func29 (by kernel_rfl) (by kernel_rfl)
noncomputable def dputE : Eng.Obj := execO DM1 noLoops 9
theorem dputE_ok : ObjOk Tryz.prog 9 dputE := execO_plain DM1_ok Rin.mixed Tryz.func9 (by kernel_rfl) (by kernel_rfl)
noncomputable def dovE : Eng.Obj := execO DM1 noLoops 16
theorem dovE_ok : ObjOk Tryz.prog 16 dovE := execO_plain DM1_ok Rin.mixed Tryz.func16 (by kernel_rfl) (by kernel_rfl)
noncomputable def DM2 : Cfg := ⟨Tryz.prog, lookG [(28, .val Conf.mayS), (60, .obj newDS), (67, .obj reS), (16, .obj dovE)], [], 0⟩
theorem DM2_ok : DM2.Ok := Cfg.ok ⟨Conf.refmay_ok, newDS_ok, reS_ok, dovE_ok, trivial⟩ trivial
noncomputable def dchE : Eng.Obj := execO DM2 noLoops 38
theorem dchE_ok : ObjOk Tryz.prog 38 dchE := execO_plain DM2_ok Rin.mixed Tryz.func38 (by kernel_rfl) (by kernel_rfl)
noncomputable def meC (z : Bool) (s : RS) (t : Int) : List (Bool × Bool) := bif z then [(decide (0 < s.n), true), (decide (t < 0), true)] else sumC s t
noncomputable def me1 (z : Bool) (s : RS) (t : Int) : Int := bif z then 0 else s.mean t
noncomputable def smR (z : Bool) (s : RS) (t : Int) : RS := bif z then s else s.sum t
noncomputable def mD (d : DS) (t : Int) : Int := mnV (smS d t) (smN d t)
def ovP (om : Bool) (s q : RS) : Bool := bif (bif om then true else bif decide (0 < (s.n : Int)) then s.ov else false) then true else bif decide (0 < (q.n : Int)) then q.ov else false
noncomputable def rdC (d : DS) (x : Int) : List (Bool × Bool) := [(badX x d.g, false), (pB (OkD x d.g d.nw d.l ∧ d.n = d.l.length), true)]
theorem neZ (z : Int) : (z != z) = false := by simp
theorem bup {s : RS} {d : DS} {m k : Nat} (b : BothR s d m) (h : m ≤ k) : BothR s d k := ⟨b.h, b.w, b.g, b.nw, b.ov, b.n, b.ok, b.inw, by have := b.len; omega⟩
def d0 (d : DS) (b : Bool) : DS := ⟨d.w, d.g, d.n, d.nw, b, d.l⟩
/-- the rings hold the same, whatever was cut -/
def RD (s : RS) (d : DS) (m : Nat) : Prop := BothR s (d0 d s.ov) m
theorem RD.mono {s : RS} {d : DS} {m : Nat} (b : RD s d m) : RD s d (m + 1) := BothR.mono b
theorem RD.n0 {s : RS} {d : DS} {m : Nat} (b : RD s d m) : decide (0 < s.n) = true := decide_eq_true b.h.rep.n0
theorem RD.put {s : RS} {d : DS} {m : Nat} (b : RD s d m) (hm : m < 10000) {t v : Int} (t0 : 0 ≤ t) (t1 : t ≤ 1099511627776) (v0 : 0 ≤ v) (v1 : v ≤ 9223372036854775807) :
    allSay (putC s t v) ∧ ∃ c, allSay (putDC d t v c) ∧ RD (s.put t v) (bif c then d else d.put t v) (m + 1) := by
  obtain ⟨c1, q⟩ := BothR.put b hm t0 t1 v0 v1
  refine ⟨c1, ?_⟩
  rcases q with ⟨_, c2, b⟩ | ⟨_, c2, b⟩
  · exact ⟨true, c2, b.mono⟩
  · exact ⟨false, c2, b⟩
theorem RD.res {s : RS} {d : DS} {m : Nat} (b : RD s d m) (hm : m < 10000) {x : Int} (x0 : d.g ≤ x) (x1 : x ≤ 600) : allSay (resC s x) ∧ allSay (rdC d x) ∧ RD (s.res x) (d.res x) m := by
  obtain ⟨c1, c2, b⟩ := BothR.res b hm x0 x1
  exact ⟨c1, ⟨badX_false.2 ⟨x0, x1⟩, pB_is c2, trivial⟩, b⟩
theorem RD.mean {s : RS} {d : DS} {m : Nat} (b : RD s d m) {t : Int} (t1 : t ≤ 9223372036854775807) :
    allSay (meC (decide (t < 0)) s t) ∧ allSay (okDC d t) ∧ me1 (decide (t < 0)) s t = mD d t ∧ RD (smR (decide (t < 0)) s t) (d.sum t) m ∧ ∃ X, (smR (decide (t < 0)) s t).ov = (s.ov || X) ∧ (d.sum t).ov = (d.ov || X) := by
  cases ht : decide (t < 0) with
  | true =>
    have ht' := of_decide_eq_true ht
    obtain ⟨c, s1, s2, b1⟩ := BothR.neg b ht'
    refine ⟨⟨b.n0, ht, trivial⟩, c, ?_, ?_, false, ?_, ?_⟩
    · show (0 : Int) = mnV (smS d t) (smN d t)
      have s1 : smS d t = 0 := s1
      have s2 : smN d t = 0 := s2
      rw [s1, s2]; rfl
    · have e : ((d0 d s.ov).sum t) = d0 (d.sum t) s.ov := by
        show d0 (d.sum t) (s.ov || decide (tpI < sv (wD d.w d.g t d.l))) = _
        rw [wD_neg (by omega), show decide (tpI < sv []) = false from rfl, Bool.or_false]
      rw [e] at b1; exact b1
    · show s.ov = _; rw [Bool.or_false]
    · show (d.ov || decide (tpI < sv (wD d.w d.g t d.l))) = _
      rw [wD_neg (by omega), show decide (tpI < sv []) = false from rfl]
  | false =>
    have ht' : 0 ≤ t := by have := of_decide_eq_false ht; omega
    obtain ⟨c1, c2, s1, s2, b1⟩ := BothR.sum b ht' t1
    have eo : (s.sum t).ov = (s.ov || decide (tpI < sv (wD d.w d.g t d.l))) := b1.ov
    refine ⟨c1, c2, ?_, ?_, _, eo, rfl⟩
    · show s.mean t = mnV (smS d t) (smN d t)
      unfold RS.mean; rw [s1, s2]; rfl
    · show BothR (s.sum t) (d0 (d.sum t) (s.sum t).ov) m
      rw [eo]; exact b1
theorem ovP_is {om : Bool} {s q : RS} (h1 : 0 < s.n) (h2 : 0 < q.n) : ovP om s q = (om || s.ov || q.ov) := by
  unfold ovP
  rw [decide_eq_true (show 0 < (s.n : Int) by omega), decide_eq_true (show 0 < (q.n : Int) by omega)]
  cases om <;> cases s.ov <;> rfl
end Go.Proofs.YtebibmioiigplaaGreat.Met

/- Layer 17: the document's decider, run by the machine. -/
namespace Go.Proofs.YtebibmioiigplaaGreat.Dec
open Go.Eng Go.RowKit Mil Rin
set_option linter.unusedVariables false
set_option linter.unusedSimpArgs false
set_option maxRecDepth 100000
noncomputable def DX : Cfg := ⟨Tryz.prog, lookG [(42, .obj meS), (43, .val Conf.ofS), (45, .val Conf.overS), (46, .val Conf.limitS2), (44, .val Conf.rnextS), (47, .val Conf.isS), (50, .val Conf.keepS), (48, .obj Dly.rputS), (49, .obj Dly.rmosS), (40, .val Conf.mostS), (51, .val Conf.excS)], EB, 0⟩
theorem DX_ok : DX.Ok := Cfg.ok ⟨meS_ok, Conf.refof_ok, Conf.refover_ok, Conf.reflimit_ok, Conf.refnext_ok, Conf.refis_ok, Conf.refkeep_ok, Dly.rputS_ok, Dly.rmosS_ok, Conf.refmost_ok, Conf.refexc_ok, trivial⟩ EB_ok
noncomputable def rnexE : Eng.Obj := execO DX noLoops 13
theorem rnexE_ok : ObjOk Tryz.prog 13 rnexE := execO_plain DX_ok mixed Tryz.func13 (by kernel_rfl) (by kernel_rfl)
noncomputable def DY : Cfg := ⟨Tryz.prog, lookG [(28, .val Conf.mayS), (29, .obj Met.dnewE), (30, .obj Dly.rnewA), (40, .val Conf.mostS), (38, .obj Met.dchE), (39, .obj Dly.rchE)], EB, 0⟩
theorem DY_ok : DY.Ok := Cfg.ok ⟨Conf.refmay_ok, Met.dnewE_ok, Dly.rnewA_ok, Conf.refmost_ok, Met.dchE_ok, Dly.rchE_ok, trivial⟩ EB_ok
noncomputable def rndE : Eng.Obj := execO DY noLoops 6
theorem rndE_ok : ObjOk Tryz.prog 6 rndE := execO_plain DY_ok mixed Tryz.func6 (by kernel_rfl) (by kernel_rfl)
noncomputable def rdcE : Eng.Obj := execO DY noLoops 11
theorem rdcE_ok : ObjOk Tryz.prog 11 rdcE := execO_plain DY_ok mixed Tryz.func11 (by kernel_rfl) (by kernel_rfl)
/-- the document's decider -/
structure DdS where
  c : Conf.Cf
  d : DS
  e : DS
  si : Int
  mo : Int
  sp : Int
  L : List Dly.Stp
  la : Int
def ddcB (d : DdS) (i j : Nat) : Blk := .cells 40 (cfL d.c ++ [.ptr i 0, Eng.iv d.si, Eng.iv d.mo, .ptr j 0, Eng.iv d.la])
def dsB (d : DS) (j : Nat) : Blk := .cells 82 [Eng.iv d.w, Eng.iv d.g, .sub j 2 0 d.n, Eng.iv d.nw, Eng.bv d.ov]
def dmB (i j : Nat) : Blk := .cells 65 [.ptr i 0, .ptr j 0]
def ddcH (d : DdS) : Heap := [(0, ddcB d 1 2), (1, dmB 3 4), (2, Dly.ddB d.sp 5 d.L.length), (3, dsB d.d 6), (4, dsB d.e 7), (5, Dly.rcB d.L), (6, Dly.rcB d.d.l), (7, Dly.rcB d.e.l)]
end Go.Proofs.YtebibmioiigplaaGreat.Dec

/- Layer 17: the document's Next, in numbers. -/
namespace Go.Proofs.YtebibmioiigplaaGreat.Dec
open Go.Eng Go.RowKit Mil Rin
set_option linter.unusedVariables false
set_option linter.unusedSimpArgs false
set_option maxRecDepth 100000
noncomputable def rxS (d : DdS) (t : Int) : Int := Met.mD d.d t
noncomputable def rxQ (d : DdS) (t : Int) : Int := Met.mD d.e t
noncomputable def rxM (d : DdS) (t r : Int) : Conf.Md := Conf.nextA d.c ⟨d.si, d.mo⟩ t (Conf.overC d.c (Conf.ofC d.c (rxQ d t)) r)
noncomputable def rxN (b : Bool) (d : DdS) (t r : Int) : Int := bif b then (if Conf.limitR d.c (Conf.ofC d.c (rxQ d t)) r > Conf.limitR d.c (Conf.ofC d.c (rxS d t)) r then Conf.limitR d.c (Conf.ofC d.c (rxQ d t)) r else Conf.limitR d.c (Conf.ofC d.c (rxS d t)) r) else Conf.limitR d.c (Conf.ofC d.c (rxS d t)) r
noncomputable def rxL (b : Bool) (d : DdS) (t r : Int) : List Dly.Stp := d.L ++ [(t, rxN b d t r)]
noncomputable def rxF (b : Bool) (d : DdS) (t r : Int) : Int := Dly.mS (Dly.frD (rxL b d t r) (Dly.cpM t) d.sp) (rxL b d t r)
noncomputable def rxK (b : Bool) (d : DdS) (t r : Int) : Conf.Md := Conf.keepA ⟨(rxM d t r).since, (rxM d t r).most⟩ (rxF b d t r)
noncomputable def rxW (b : Bool) (d : DdS) (t r : Int) : Int := boundI d.c (Conf.keepW ⟨(rxM d t r).since, (rxM d t r).most⟩ (rxF b d t r))
noncomputable def rxD (b : Bool) (d : DdS) (t r : Int) : DdS := ⟨d.c, d.d.sum t, d.e.sum t, (rxK b d t r).since, (rxK b d t r).most, d.sp, rxL b d t r, t⟩
noncomputable def rxV (b : Bool) (d : DdS) (t r : Int) : V := dcsV t (rxS d t) (rxQ d t) (rxW b d t r) (decide (0 ≤ (rxK b d t r).since)) (Conf.excB d.c r (rxQ d t))
def badR17 (d : DdS) (t r : Int) : Bool := bif bif bif decide (t < d.la) then true else decide (1099511627776 < t) then true else decide (r < 0) then true else decide (100 < r)
end Go.Proofs.YtebibmioiigplaaGreat.Dec

/- Layer 17: the document's Next: its way. -/
namespace Go.Proofs.YtebibmioiigplaaGreat.Dec
open Go.Eng Go.RowKit Mil Rin
set_option linter.unusedVariables false
set_option linter.unusedSimpArgs false
set_option maxRecDepth 100000
/-- behind Next: the rows of the delay are new -/
def ddcR (d : DdS) : Heap := [(0, ddcB d 1 2), (1, dmB 3 4), (2, Dly.ddB d.sp 528 d.L.length), (3, dsB d.d 6), (4, dsB d.e 7), (6, Dly.rcB d.d.l), (7, Dly.rcB d.e.l), (528, Dly.rcB d.L)]
noncomputable def rxC (b : Bool) (d : DdS) (t r : Int) : List (Bool × Bool) := [(badR17 d t r, false)] ++ (okDC d.d t ++ (okDC d.e t ++ ([(Conf.inC d.c && Mil.inR (rxS d t), true), (Conf.inC d.c && Mil.inR (rxQ d t), true), (Conf.inC d.c, true), (Mil.inR d.si && Mil.inR t, true), (true, true), (decide (0 ≤ (rxM d t r).since), b)] ++
  ((bif b then [(true, true)] else []) ++ [(Dly.pB (d.L.length = d.L.length ∧ d.L.length ≤ 99999), true), (Dly.badP d.L.length d.L t (rxN b d t r), false), (Dly.pB (Dly.okMs d.sp (rxL b d t r).length (rxL b d t r)), true), (Mil.inR (rxQ d t), true)]))))
theorem rnex_w (b : Bool) (d : DdS) (t r : Int) : T.path ([false, true, true, true, true, true, true, true, b] ++ ((bif b then [true] else []) ++ [true, false, true, true])) (T.anon (rnexE [.ptr 0 0, Eng.iv t, Eng.iv r] (ddcH d))) = some (rxC b d t r, (.tup [rxV b d t r, Eng.iv 0], ddcR (rxD b d t r))) := by cases b <;> kernel_rfl
theorem rnex_0 (d : DdS) (t r : Int) : T.path [true] (T.anon (rnexE [.ptr 0 0, Eng.iv t, Eng.iv r] (ddcH d))) = some ([(badR17 d t r, true)], (.tup [.agg [Eng.iv 0, Eng.iv 0, Eng.iv 0, Eng.iv 0, .ff, Eng.iv 0], Eng.iv 1], ddcH d)) := by kernel_rfl
end Go.Proofs.YtebibmioiigplaaGreat.Dec

/- Layer 17: the document's decider beside the program's. -/
namespace Go.Proofs.YtebibmioiigplaaGreat.Dec
open Go.Eng Go.RowKit Mil Rin
set_option linter.unusedVariables false
set_option linter.unusedSimpArgs false
set_option maxRecDepth 100000
structure PairD (d : DcS) (dd : DdS) (m : Nat) : Prop where
  c : dd.c = d.c
  si : dd.si = d.si
  mo : dd.mo = d.mo
  la : dd.la = d.la
  sp : dd.sp = d.sp
  s : Met.RD d.s dd.d m
  q : Met.RD d.q dd.e m
  b : Dly.BothL d.sp d.a d.n d.l dd.L m
noncomputable def DdS.put (c1 c2 : Bool) (d : DdS) (t v : Int) : DdS := ⟨d.c, bif c1 then d.d else d.d.put t v, bif c2 then d.e else d.e.put t v, d.si, d.mo, d.sp, d.L, d.la⟩
theorem BothL_mono {s a : Int} {n m k : Nat} {l L : List Dly.Stp} (h : Dly.BothL s a n l L m) (hk : m ≤ k) : Dly.BothL s a n l L k := ⟨h.h, h.s0, h.s1, h.n, by have := h.m; omega⟩
theorem PairD.put {d : DcS} {dd : DdS} {m : Nat} (h : PairD d dd m) (hm : m < 10000) {t v : Int} (t0 : 0 ≤ t) (t1 : t ≤ 1099511627776) (v0 : 0 ≤ v) (v1 : v ≤ 9223372036854775807) :
    ∃ c1 c2, allSay (putDC dd.d t v c1) ∧ allSay (putDC dd.e t v c2) ∧ PairD (d.put t v) (dd.put c1 c2 t v) (m + 1) := by
  obtain ⟨_, c1, a1, a2⟩ := h.s.put hm t0 t1 v0 v1
  obtain ⟨_, c2, b1, b2⟩ := h.q.put hm t0 t1 v0 v1
  exact ⟨c1, c2, a1, b1, ⟨h.c, h.si, h.mo, h.la, h.sp, a2, b2, BothL_mono h.b (by omega)⟩⟩
theorem PairD.next {d : DcS} {dd : DdS} {m k : Nat} (h : PairD d dd m) (hm : m ≤ 20000) (hg : DcG d k) {t r : Int} (hl : d.la ≤ t) (t1 : t ≤ 1099511627776) (r0 : 0 ≤ r) (r1 : r ≤ 100) :
    ∃ b, allSay (rxC b dd t r) ∧ b = decide (0 ≤ (nxM d t r).since) ∧ rxV b dd t r = nxV b d t r ∧ PairD (nxD b d t r) (rxD b dd t r) (m + 1) := by
  have la := hg.la
  have al := hg.al
  have ht : decide (t < 0) = false := decide_eq_false (by omega)
  obtain ⟨_, x2, x3, x4, _⟩ := h.s.mean (t := t) (by omega)
  obtain ⟨_, y2, y3, y4, _⟩ := h.q.mean (t := t) (by omega)
  rw [ht] at x3 x4 y3 y4
  have eS : rxS dd t = d.s.mean t := x3.symm
  have eQ : rxQ dd t = d.q.mean t := y3.symm
  have eM : rxM dd t r = nxM d t r := by
    unfold rxM nxM hasty
    rw [eQ, h.c, h.si, h.mo]
  have eN : ∀ b, rxN b dd t r = nxN b d t r := by
    intro b
    unfold rxN nxN hasty calmy
    rw [eQ, eS, h.c]
  have nb := fun b => nxN_bd hg.may (d := d) b t r
  have hB : ∀ b, Dly.BothL d.sp t (nxL b d t r).length (nxL b d t r) (rxL b dd t r) (m + 1) := by
    intro b
    have hp := h.b.h.put (t := t) (w := nxN b d t r) (by omega) t1 (nb b).1 (nb b).2
    have hmm := h.b.m
    refine ⟨?_, h.b.s0, h.b.s1, rfl, ?_⟩
    · unfold nxL rxL
      rw [eN]; exact hp
    · unfold rxL
      rw [List.length_append]
      show dd.L.length + 1 ≤ m + 1
      omega
  have eF : ∀ b, rxF b dd t r = nxF b d t r := by
    intro b
    unfold rxF nxF
    rw [h.sp]
    exact (hB b).most (by omega) t
  have ic : Conf.inC dd.c = true := by
    rw [h.c]
    have may := Conf.may_of hg.may
    unfold Conf.inC
    have h1 := may.target
    have h2 := may.util
    rw [Mil.inR_iff.2 ⟨by omega, by omega⟩, Mil.inR_iff.2 ⟨by omega, by omega⟩]; rfl
  refine ⟨_, ?_, rfl, ?_, ?_⟩
  · have hmm := h.b.m
    refine allSay_append ⟨?_, trivial⟩ (allSay_append x2 (allSay_append y2 (allSay_append ⟨by rw [ic, eS, inR_mean]; rfl, by rw [ic, eQ, inR_mean]; rfl, ic, ?_, rfl, by rw [eM], trivial⟩ (allSay_append ?_ ⟨Dly.pB_is ⟨rfl, by omega⟩, ?_, Dly.pB_is ?_, by rw [eQ, inR_mean], trivial⟩))))
    · have := badA17_false (d := d) (r := r) hl t1 r0 r1
      unfold badR17
      rw [h.la]; exact this
    · have s1 := hg.si
      have s2 := hg.sl
      rw [h.si, Mil.inR_iff.2 ⟨by omega, by omega⟩, Mil.inR_iff.2 ⟨by omega, by omega⟩]; rfl
    · cases decide (0 ≤ (nxM d t r).since)
      · trivial
      · exact ⟨rfl, trivial⟩
    · rw [h.b.bad (by omega), eN]
      exact Dly.refB_false.2 ⟨by omega, t1, (nb _).1, (nb _).2⟩
    · have hq := hB (decide (0 ≤ (nxM d t r).since))
      have hT := hq.h.T
      have hW := hq.h.W
      have hml := hq.m
      refine ⟨rfl, by omega, by rw [h.sp]; exact h.b.s0, by rw [h.sp]; exact h.b.s1, fun x hx => ⟨?_, hW x hx⟩⟩
      have := hT x hx
      omega
  · unfold rxV nxV rxW nxW nxQ rxK nxK
    rw [eS, eQ, eM, eF, h.c]
  · refine ⟨h.c, ?_, ?_, rfl, h.sp, x4.mono, y4.mono, hB _⟩
    · show (rxK _ dd t r).since = (nxK _ d t r).since
      unfold rxK nxK; rw [eM, eF]
    · show (rxK _ dd t r).most = (nxK _ d t r).most
      unfold rxK nxK; rw [eM, eF]
theorem PairD.new {c : Conf.Cf} (hm : Conf.mayB c = true) : PairD (DcS.new c) ⟨c, ⟨c.stable, c.grain, 0, -1, false, []⟩, ⟨c.panic, c.grain, 0, -1, false, []⟩, -1, 0, c.delay, [], 0⟩ 0 := by
  have may := Conf.may_of hm
  have h1 := may.grain
  have h2 := may.panic
  have h3 := may.stable
  have h4 := may.delay
  exact ⟨rfl, rfl, rfl, rfl, rfl, BothR.new (by omega) (by omega) (by omega), BothR.new (by omega) (by omega) (by omega), ⟨Dly.Holds.new, h4.1, h4.2, rfl, Nat.le_refl _⟩⟩
end Go.Proofs.YtebibmioiigplaaGreat.Dec

/- Layer 17: DecidePlays: its calls. -/
namespace Go.Proofs.YtebibmioiigplaaGreat.Dec
open Go.Eng Go.RowKit Mil Rin
set_option linter.unusedVariables false
set_option linter.unusedSimpArgs false
set_option maxRecDepth 100000
def zV : V := .tup [.agg [Eng.iv 0, Eng.iv 0, Eng.iv 0, Eng.iv 0, .ff, Eng.iv 0], Eng.iv 1]
theorem nex_0 (d : DcS) (t r : Int) : T.path [true] (T.anon (nexE [.ptr 0 0, Eng.iv t, Eng.iv r] (decH d))) = some ([(badA17 d t r, true)], (zV, decH d)) := by kernel_rfl
noncomputable def nexP : Eng.Obj := fun args h => match args with
  | [.ptr 0 0, .s (.int .i64 t), .s (.int .i64 r)] => opt (asDc h) fun d => .ite none (badA17 d t r) (.ret (zV, decH d)) (.ite none (Dly.pB (okN17 d t r)) (.ite none (decide (0 ≤ (nxM d t r).since)) (.ret (.tup [nxV true d t r, Eng.iv 0], decR (nxD true d t r))) (.ret (.tup [nxV false d t r, Eng.iv 0], decR (nxD false d t r)))) .fail)
  | _ => .fail
theorem nexP_ok : ObjOk Tryz.prog 12 nexP := nexE_ok.of_eval fun args h x hv => by
  unfold nexP at hv
  split at hv
  · rename_i t r
    obtain ⟨d, hd, hv1⟩ := opt_eval hv
    rw [asDc_ok hd]
    cases hb : badA17 d t r with
    | true =>
      obtain rfl := Option.some.inj (ite_T hv1 hb)
      show (nexE [.ptr 0 0, Eng.iv t, Eng.iv r] (decH d)).eval = _
      rw [← T.eval_anon (t := nexE _ _)]
      exact T.path_eval (nex_0 d t r) ⟨hb, trivial⟩
    | false => exact nex_run (ite_F hv1 hb)
  · cases hv
noncomputable def DP : Cfg := ⟨Tryz.prog, lookG [(5, .obj dneS), (6, .obj rndE), (7, .val yesR), (8, .obj dputS), (12, .obj nexP), (10, .obj dchE), (14, .obj dmoE), (15, .obj dovE), (9, .obj Met.dputE), (13, .obj rnexE), (11, .obj rdcE), (16, .obj Met.dovE)], [43, 46], 0⟩
theorem DP_ok : DP.Ok := Cfg.ok ⟨dneS_ok, rndE_ok, told17_ok, dputS_ok, nexP_ok, dchE_ok, dmoE_ok, dovE_ok, Met.dputE_ok, rnexE_ok, rdcE_ok, Met.dovE_ok, trivial⟩ eL
abbrev KP : List K := [.int .i64, .int .i64, .int .i64, .int .i64, .int .i64, .int .i64, .int .i64, .int .i64, .int .i64, .int .i64, .int .i64, .int .i64, .int .i64, .int .i64, .int .i64, .int .i64, .int .i64, .int .i64, .int .i64, .int .i64, .int .i64, .int .i64, .int .i64, .int .i64, .int .i64]
abbrev O17 := Int × Int × Int × Int × Int × Int × Int × Int × Int × Int × Int × Int × Int × Int × Int × Int × Int × Int × Int × Int × Int × Int × Int × Int × Int
end Go.Proofs.YtebibmioiigplaaGreat.Dec

/- Layer 17: DecidePlays: its loop. -/
namespace Go.Proofs.YtebibmioiigplaaGreat.Dec
open Go.Eng Go.RowKit Mil Rin
set_option linter.unusedVariables false
set_option linter.unusedSimpArgs false
set_option maxRecDepth 100000
noncomputable def lpDp : Code := loopAt Tryz.prog 3 0
structure PDp where (k : Nat) (o : List (Int × Int × Int × Int × Int × Int × Int × Int × Int × Int × Int × Int × Int × Int × Int × Int × Int × Int × Int × Int × Int × Int × Int × Int × Int))
structure ADp where (ctargetA : Int) (cutilA : Int) (cstableA : Int) (cpanicA : Int) (cgrainA : Int) (cthresholdA : Int) (cupA : Int) (cdownA : Int) (cminA : Int) (cmaxA : Int) (cinitialA : Int) (cgraceA : Int) (cdelayA : Int) (cburstA : Int) (climitA : Int) (cqueueA : Int) (ctimeoutA : Int) (creadyA : Int) (csubsetA : Int) (csampleA : Int) (gmA : Int) (omA : Bool) (spA : Int) (aA : Int) (nlA : Nat) (w1A : Int) (g1A : Int) (n1A : Nat) (nw1A : Int) (ov1A : Bool) (w2A : Int) (g2A : Int) (n2A : Nat) (nw2A : Int) (ov2A : Bool) (l1A : List OB) (l2A : List OB) (lA : List (Int × Int)) (siA : Int) (moA : Int) (laA : Int) (etargetA : Int) (eutilA : Int) (estableA : Int) (epanicA : Int) (egrainA : Int) (ethresholdA : Int) (eupA : Int) (edownA : Int) (eminA : Int) (emaxA : Int) (einitialA : Int) (egraceA : Int) (edelayA : Int) (eburstA : Int) (elimitA : Int) (equeueA : Int) (etimeoutA : Int) (ereadyA : Int) (esubsetA : Int) (esampleA : Int) (spB : Int) (nlB : Nat) (w1B : Int) (g1B : Int) (n1B : Nat) (nw1B : Int) (ov1B : Bool) (w2B : Int) (g2B : Int) (n2B : Nat) (nw2B : Int) (ov2B : Bool) (l1B : List (Int × Int)) (l2B : List (Int × Int)) (lB : List (Int × Int)) (siB : Int) (moB : Int) (laB : Int) (now : Int) (i : Int)
abbrev SDp : List (Nat × Src) := [(0, .same), (17, .same), (33, .same), (2000, .path 17 [20]), (2001, .path 17 [21]), (2002, .path 17 [20, 0, 0]), (2003, .path 17 [20, 0, 1]), (2004, .path 17 [20, 0, 0, 2]), (2005, .path 17 [20, 0, 1, 2]), (2006, .path 17 [21, 2]), (2007, .path 33 [20]), (2008, .path 33 [23]), (2009, .path 33 [20, 0]), (2010, .path 33 [20, 1]), (2011, .path 33 [20, 0, 2]), (2012, .path 33 [20, 1, 2]), (2013, .path 33 [23, 1])]
def vsDp (p : PDp) (a : ADp) : List V := [.sub 0 25 0 p.k, .ptr 17 0, .ptr 33 0, iv a.now, iv a.i]
def bsDp (p : PDp) (a : ADp) : List Blk := [.lst false 31 [.int .i64, .int .i64, .int .i64, .int .i64, .int .i64, .int .i64, .int .i64, .int .i64, .int .i64, .int .i64, .int .i64, .int .i64, .int .i64, .int .i64, .int .i64, .int .i64, .int .i64, .int .i64, .int .i64, .int .i64, .int .i64, .int .i64, .int .i64, .int .i64, .int .i64] p.o, .cells 59 [iv a.ctargetA, iv a.cutilA, iv a.cstableA, iv a.cpanicA, iv a.cgrainA, iv a.cthresholdA, iv a.cupA, iv a.cdownA, iv a.cminA, iv a.cmaxA, iv a.cinitialA, iv a.cgraceA, iv a.cdelayA, iv a.cburstA, iv a.climitA, iv a.cqueueA, iv a.ctimeoutA, iv a.creadyA, iv a.csubsetA, iv a.csampleA, .ptr 2000 0, .ptr 2001 0, iv a.siA, iv a.moA, iv a.laA], .cells 40 [iv a.etargetA, iv a.eutilA, iv a.estableA, iv a.epanicA, iv a.egrainA, iv a.ethresholdA, iv a.eupA, iv a.edownA, iv a.eminA, iv a.emaxA, iv a.einitialA, iv a.egraceA, iv a.edelayA, iv a.eburstA, iv a.elimitA, iv a.equeueA, iv a.etimeoutA, iv a.ereadyA, iv a.esubsetA, iv a.esampleA, .ptr 2007 0, iv a.siB, iv a.moB, .ptr 2008 0, iv a.laB], .cells 93 [.iface 90 (.agg [.ptr 2002 0, .ptr 2003 0]), iv a.gmA, bv a.omA], .cells 97 [iv a.spA, iv a.aA, .sub 2006 2 0 a.nlA], .cells 131 [iv a.w1A, iv a.g1A, .sub 2004 1 0 a.n1A, iv a.nw1A, bv a.ov1A], .cells 131 [iv a.w2A, iv a.g2A, .sub 2005 1 0 a.n2A, iv a.nw2A, bv a.ov2A], .bx 20 134 138 [.int .i64, .int .i64, .bool] a.l1A [] none, .bx 20 134 138 [.int .i64, .int .i64, .bool] a.l2A [] none, .lst true 160 [.int .i64, .int .i64] a.lA, .cells 65 [.ptr 2009 0, .ptr 2010 0], .cells 100 [iv a.spB, .sub 2013 2 0 a.nlB], .cells 82 [iv a.w1B, iv a.g1B, .sub 2011 2 0 a.n1B, iv a.nw1B, bv a.ov1B], .cells 82 [iv a.w2B, iv a.g2B, .sub 2012 2 0 a.n2B, iv a.nw2B, bv a.ov2B], .lst true 105 [.int .i64, .int .i64] a.l1B, .lst true 105 [.int .i64, .int .i64] a.l2B, .lst true 105 [.int .i64, .int .i64] a.lB]
noncomputable def FDp (p : PDp) (a : ADp) : St := mkSt [1,5,6,7,8] (keysR SDp) 2020 156 (vsDp p a) (bsDp p a)
noncomputable def rdDp (p : PDp) (a : ADp) : T (Ex × St) := T.anon (roundN DP noLoops lpDp [1,5,6,7,8] SDp 2000 2020 (mkSt [1,5,6,7,8] (keysR SDp) 2020 156 (vsDp p a) (bsDp p a)))
def decDp_v0 : V → Option ((Nat))
  | .sub 0 25 0 k => some (k)
  | _ => none
theorem decDp_v0_ok (b : V) (x0 : (Nat)) (h : decDp_v0 b = some x0) : b = .sub 0 25 0 (x0) := by
  unfold decDp_v0 at h
  split at h
  · cases h
    rfl
  · cases h
def decDp_v1 : V → Option (Unit)
  | .ptr 17 0 => some ()
  | _ => none
theorem decDp_v1_ok (b : V) (x1 : Unit) (h : decDp_v1 b = some x1) : b = .ptr 17 0 := by
  unfold decDp_v1 at h
  split at h
  · cases h
    rfl
  · cases h
def decDp_v2 : V → Option (Unit)
  | .ptr 33 0 => some ()
  | _ => none
theorem decDp_v2_ok (b : V) (x2 : Unit) (h : decDp_v2 b = some x2) : b = .ptr 33 0 := by
  unfold decDp_v2 at h
  split at h
  · cases h
    rfl
  · cases h
def decDp_v3 : V → Option ((Int))
  | .s (.int .i64 now) => some (now)
  | _ => none
theorem decDp_v3_ok (b : V) (x3 : (Int)) (h : decDp_v3 b = some x3) : b = iv (x3) := by
  unfold decDp_v3 at h
  split at h
  · cases h
    rfl
  · cases h
def decDp_v4 : V → Option ((Int))
  | .s (.int .i64 i) => some (i)
  | _ => none
theorem decDp_v4_ok (b : V) (x4 : (Int)) (h : decDp_v4 b = some x4) : b = iv (x4) := by
  unfold decDp_v4 at h
  split at h
  · cases h
    rfl
  · cases h
def decDp_b0 (b : Blk) : Option ((List (Int × Int × Int × Int × Int × Int × Int × Int × Int × Int × Int × Int × Int × Int × Int × Int × Int × Int × Int × Int × Int × Int × Int × Int × Int))) := rowsOf false 31 [.int .i64, .int .i64, .int .i64, .int .i64, .int .i64, .int .i64, .int .i64, .int .i64, .int .i64, .int .i64, .int .i64, .int .i64, .int .i64, .int .i64, .int .i64, .int .i64, .int .i64, .int .i64, .int .i64, .int .i64, .int .i64, .int .i64, .int .i64, .int .i64, .int .i64] b
theorem decDp_b0_ok (b : Blk) (y0 : (List (Int × Int × Int × Int × Int × Int × Int × Int × Int × Int × Int × Int × Int × Int × Int × Int × Int × Int × Int × Int × Int × Int × Int × Int × Int))) (h : decDp_b0 b = some y0) : b = .lst false 31 [.int .i64, .int .i64, .int .i64, .int .i64, .int .i64, .int .i64, .int .i64, .int .i64, .int .i64, .int .i64, .int .i64, .int .i64, .int .i64, .int .i64, .int .i64, .int .i64, .int .i64, .int .i64, .int .i64, .int .i64, .int .i64, .int .i64, .int .i64, .int .i64, .int .i64] (y0) := rowsOf_ok h
def decDp_b1 : Blk → Option ((Int) × (Int) × (Int) × (Int) × (Int) × (Int) × (Int) × (Int) × (Int) × (Int) × (Int) × (Int) × (Int) × (Int) × (Int) × (Int) × (Int) × (Int) × (Int) × (Int) × (Int) × (Int) × (Int))
  | .cells tt0 [.s (.int .i64 ctargetA), .s (.int .i64 cutilA), .s (.int .i64 cstableA), .s (.int .i64 cpanicA), .s (.int .i64 cgrainA), .s (.int .i64 cthresholdA), .s (.int .i64 cupA), .s (.int .i64 cdownA), .s (.int .i64 cminA), .s (.int .i64 cmaxA), .s (.int .i64 cinitialA), .s (.int .i64 cgraceA), .s (.int .i64 cdelayA), .s (.int .i64 cburstA), .s (.int .i64 climitA), .s (.int .i64 cqueueA), .s (.int .i64 ctimeoutA), .s (.int .i64 creadyA), .s (.int .i64 csubsetA), .s (.int .i64 csampleA), .ptr 2000 0, .ptr 2001 0, .s (.int .i64 siA), .s (.int .i64 moA), .s (.int .i64 laA)] => if tt0 = 59 then some (ctargetA, cutilA, cstableA, cpanicA, cgrainA, cthresholdA, cupA, cdownA, cminA, cmaxA, cinitialA, cgraceA, cdelayA, cburstA, climitA, cqueueA, ctimeoutA, creadyA, csubsetA, csampleA, siA, moA, laA) else none
  | _ => none
theorem decDp_b1_ok (b : Blk) (y1 : (Int) × (Int) × (Int) × (Int) × (Int) × (Int) × (Int) × (Int) × (Int) × (Int) × (Int) × (Int) × (Int) × (Int) × (Int) × (Int) × (Int) × (Int) × (Int) × (Int) × (Int) × (Int) × (Int)) (h : decDp_b1 b = some y1) : b = .cells 59 [iv (y1.1), iv (y1.2.1), iv (y1.2.2.1), iv (y1.2.2.2.1), iv (y1.2.2.2.2.1), iv (y1.2.2.2.2.2.1), iv (y1.2.2.2.2.2.2.1), iv (y1.2.2.2.2.2.2.2.1), iv (y1.2.2.2.2.2.2.2.2.1), iv (y1.2.2.2.2.2.2.2.2.2.1), iv (y1.2.2.2.2.2.2.2.2.2.2.1), iv (y1.2.2.2.2.2.2.2.2.2.2.2.1), iv (y1.2.2.2.2.2.2.2.2.2.2.2.2.1), iv (y1.2.2.2.2.2.2.2.2.2.2.2.2.2.1), iv (y1.2.2.2.2.2.2.2.2.2.2.2.2.2.2.1), iv (y1.2.2.2.2.2.2.2.2.2.2.2.2.2.2.2.1), iv (y1.2.2.2.2.2.2.2.2.2.2.2.2.2.2.2.2.1), iv (y1.2.2.2.2.2.2.2.2.2.2.2.2.2.2.2.2.2.1), iv (y1.2.2.2.2.2.2.2.2.2.2.2.2.2.2.2.2.2.2.1), iv (y1.2.2.2.2.2.2.2.2.2.2.2.2.2.2.2.2.2.2.2.1), .ptr 2000 0, .ptr 2001 0, iv (y1.2.2.2.2.2.2.2.2.2.2.2.2.2.2.2.2.2.2.2.2.1), iv (y1.2.2.2.2.2.2.2.2.2.2.2.2.2.2.2.2.2.2.2.2.2.1), iv (y1.2.2.2.2.2.2.2.2.2.2.2.2.2.2.2.2.2.2.2.2.2.2)] := by
  unfold decDp_b1 at h
  split at h
  · obtain ⟨e0, h⟩ := ite_some0 h
    subst e0
    cases h
    rfl
  · cases h
def decDp_b2 : Blk → Option ((Int) × (Int) × (Int) × (Int) × (Int) × (Int) × (Int) × (Int) × (Int) × (Int) × (Int) × (Int) × (Int) × (Int) × (Int) × (Int) × (Int) × (Int) × (Int) × (Int) × (Int) × (Int) × (Int))
  | .cells tt0 [.s (.int .i64 etargetA), .s (.int .i64 eutilA), .s (.int .i64 estableA), .s (.int .i64 epanicA), .s (.int .i64 egrainA), .s (.int .i64 ethresholdA), .s (.int .i64 eupA), .s (.int .i64 edownA), .s (.int .i64 eminA), .s (.int .i64 emaxA), .s (.int .i64 einitialA), .s (.int .i64 egraceA), .s (.int .i64 edelayA), .s (.int .i64 eburstA), .s (.int .i64 elimitA), .s (.int .i64 equeueA), .s (.int .i64 etimeoutA), .s (.int .i64 ereadyA), .s (.int .i64 esubsetA), .s (.int .i64 esampleA), .ptr 2007 0, .s (.int .i64 siB), .s (.int .i64 moB), .ptr 2008 0, .s (.int .i64 laB)] => if tt0 = 40 then some (etargetA, eutilA, estableA, epanicA, egrainA, ethresholdA, eupA, edownA, eminA, emaxA, einitialA, egraceA, edelayA, eburstA, elimitA, equeueA, etimeoutA, ereadyA, esubsetA, esampleA, siB, moB, laB) else none
  | _ => none
theorem decDp_b2_ok (b : Blk) (y2 : (Int) × (Int) × (Int) × (Int) × (Int) × (Int) × (Int) × (Int) × (Int) × (Int) × (Int) × (Int) × (Int) × (Int) × (Int) × (Int) × (Int) × (Int) × (Int) × (Int) × (Int) × (Int) × (Int)) (h : decDp_b2 b = some y2) : b = .cells 40 [iv (y2.1), iv (y2.2.1), iv (y2.2.2.1), iv (y2.2.2.2.1), iv (y2.2.2.2.2.1), iv (y2.2.2.2.2.2.1), iv (y2.2.2.2.2.2.2.1), iv (y2.2.2.2.2.2.2.2.1), iv (y2.2.2.2.2.2.2.2.2.1), iv (y2.2.2.2.2.2.2.2.2.2.1), iv (y2.2.2.2.2.2.2.2.2.2.2.1), iv (y2.2.2.2.2.2.2.2.2.2.2.2.1), iv (y2.2.2.2.2.2.2.2.2.2.2.2.2.1), iv (y2.2.2.2.2.2.2.2.2.2.2.2.2.2.1), iv (y2.2.2.2.2.2.2.2.2.2.2.2.2.2.2.1), iv (y2.2.2.2.2.2.2.2.2.2.2.2.2.2.2.2.1), iv (y2.2.2.2.2.2.2.2.2.2.2.2.2.2.2.2.2.1), iv (y2.2.2.2.2.2.2.2.2.2.2.2.2.2.2.2.2.2.1), iv (y2.2.2.2.2.2.2.2.2.2.2.2.2.2.2.2.2.2.2.1), iv (y2.2.2.2.2.2.2.2.2.2.2.2.2.2.2.2.2.2.2.2.1), .ptr 2007 0, iv (y2.2.2.2.2.2.2.2.2.2.2.2.2.2.2.2.2.2.2.2.2.1), iv (y2.2.2.2.2.2.2.2.2.2.2.2.2.2.2.2.2.2.2.2.2.2.1), .ptr 2008 0, iv (y2.2.2.2.2.2.2.2.2.2.2.2.2.2.2.2.2.2.2.2.2.2.2)] := by
  unfold decDp_b2 at h
  split at h
  · obtain ⟨e0, h⟩ := ite_some0 h
    subst e0
    cases h
    rfl
  · cases h
def decDp_b3 : Blk → Option ((Int) × (Bool))
  | .cells tt0 [.iface tt1 (.agg [.ptr 2002 0, .ptr 2003 0]), .s (.int .i64 gmA), .s (.bool omA)] => if tt0 = 93 then if tt1 = 90 then some (gmA, omA) else none else none
  | _ => none
theorem decDp_b3_ok (b : Blk) (y3 : (Int) × (Bool)) (h : decDp_b3 b = some y3) : b = .cells 93 [.iface 90 (.agg [.ptr 2002 0, .ptr 2003 0]), iv (y3.1), bv (y3.2)] := by
  unfold decDp_b3 at h
  split at h
  · obtain ⟨e0, h⟩ := ite_some0 h
    obtain ⟨e1, h⟩ := ite_some0 h
    subst e0 e1
    cases h
    rfl
  · cases h
def decDp_b4 : Blk → Option ((Int) × (Int) × (Nat))
  | .cells tt0 [.s (.int .i64 spA), .s (.int .i64 aA), .sub 2006 2 0 nlA] => if tt0 = 97 then some (spA, aA, nlA) else none
  | _ => none
theorem decDp_b4_ok (b : Blk) (y4 : (Int) × (Int) × (Nat)) (h : decDp_b4 b = some y4) : b = .cells 97 [iv (y4.1), iv (y4.2.1), .sub 2006 2 0 (y4.2.2)] := by
  unfold decDp_b4 at h
  split at h
  · obtain ⟨e0, h⟩ := ite_some0 h
    subst e0
    cases h
    rfl
  · cases h
def decDp_b5 : Blk → Option ((Int) × (Int) × (Nat) × (Int) × (Bool))
  | .cells tt0 [.s (.int .i64 w1A), .s (.int .i64 g1A), .sub 2004 1 0 n1A, .s (.int .i64 nw1A), .s (.bool ov1A)] => if tt0 = 131 then some (w1A, g1A, n1A, nw1A, ov1A) else none
  | _ => none
theorem decDp_b5_ok (b : Blk) (y5 : (Int) × (Int) × (Nat) × (Int) × (Bool)) (h : decDp_b5 b = some y5) : b = .cells 131 [iv (y5.1), iv (y5.2.1), .sub 2004 1 0 (y5.2.2.1), iv (y5.2.2.2.1), bv (y5.2.2.2.2)] := by
  unfold decDp_b5 at h
  split at h
  · obtain ⟨e0, h⟩ := ite_some0 h
    subst e0
    cases h
    rfl
  · cases h
def decDp_b6 : Blk → Option ((Int) × (Int) × (Nat) × (Int) × (Bool))
  | .cells tt0 [.s (.int .i64 w2A), .s (.int .i64 g2A), .sub 2005 1 0 n2A, .s (.int .i64 nw2A), .s (.bool ov2A)] => if tt0 = 131 then some (w2A, g2A, n2A, nw2A, ov2A) else none
  | _ => none
theorem decDp_b6_ok (b : Blk) (y6 : (Int) × (Int) × (Nat) × (Int) × (Bool)) (h : decDp_b6 b = some y6) : b = .cells 131 [iv (y6.1), iv (y6.2.1), .sub 2005 1 0 (y6.2.2.1), iv (y6.2.2.2.1), bv (y6.2.2.2.2)] := by
  unfold decDp_b6 at h
  split at h
  · obtain ⟨e0, h⟩ := ite_some0 h
    subst e0
    cases h
    rfl
  · cases h
def decDp_b7 : Blk → Option ((List OB))
  | .bx tt0 tt1 tt2 [.int .i64, .int .i64, .bool] l1A [] none => if tt0 = 20 then if tt1 = 134 then if tt2 = 138 then some (l1A) else none else none else none
  | _ => none
theorem decDp_b7_ok (b : Blk) (y7 : (List OB)) (h : decDp_b7 b = some y7) : b = .bx 20 134 138 [.int .i64, .int .i64, .bool] (y7) [] none := by
  unfold decDp_b7 at h
  split at h
  · obtain ⟨e0, h⟩ := ite_some0 h
    obtain ⟨e1, h⟩ := ite_some0 h
    obtain ⟨e2, h⟩ := ite_some0 h
    subst e0 e1 e2
    cases h
    rfl
  · cases h
def decDp_b8 : Blk → Option ((List OB))
  | .bx tt0 tt1 tt2 [.int .i64, .int .i64, .bool] l2A [] none => if tt0 = 20 then if tt1 = 134 then if tt2 = 138 then some (l2A) else none else none else none
  | _ => none
theorem decDp_b8_ok (b : Blk) (y8 : (List OB)) (h : decDp_b8 b = some y8) : b = .bx 20 134 138 [.int .i64, .int .i64, .bool] (y8) [] none := by
  unfold decDp_b8 at h
  split at h
  · obtain ⟨e0, h⟩ := ite_some0 h
    obtain ⟨e1, h⟩ := ite_some0 h
    obtain ⟨e2, h⟩ := ite_some0 h
    subst e0 e1 e2
    cases h
    rfl
  · cases h
def decDp_b9 : Blk → Option ((List (Int × Int)))
  | .lst true tt0 [.int .i64, .int .i64] lA => if tt0 = 160 then some (lA) else none
  | _ => none
theorem decDp_b9_ok (b : Blk) (y9 : (List (Int × Int))) (h : decDp_b9 b = some y9) : b = .lst true 160 [.int .i64, .int .i64] (y9) := by
  unfold decDp_b9 at h
  split at h
  · obtain ⟨e0, h⟩ := ite_some0 h
    subst e0
    cases h
    rfl
  · cases h
def decDp_b10 : Blk → Option (Unit)
  | .cells tt0 [.ptr 2009 0, .ptr 2010 0] => if tt0 = 65 then some () else none
  | _ => none
theorem decDp_b10_ok (b : Blk) (y10 : Unit) (h : decDp_b10 b = some y10) : b = .cells 65 [.ptr 2009 0, .ptr 2010 0] := by
  unfold decDp_b10 at h
  split at h
  · obtain ⟨e0, h⟩ := ite_some0 h
    subst e0
    cases h
    rfl
  · cases h
def decDp_b11 : Blk → Option ((Int) × (Nat))
  | .cells tt0 [.s (.int .i64 spB), .sub 2013 2 0 nlB] => if tt0 = 100 then some (spB, nlB) else none
  | _ => none
theorem decDp_b11_ok (b : Blk) (y11 : (Int) × (Nat)) (h : decDp_b11 b = some y11) : b = .cells 100 [iv (y11.1), .sub 2013 2 0 (y11.2)] := by
  unfold decDp_b11 at h
  split at h
  · obtain ⟨e0, h⟩ := ite_some0 h
    subst e0
    cases h
    rfl
  · cases h
def decDp_b12 : Blk → Option ((Int) × (Int) × (Nat) × (Int) × (Bool))
  | .cells tt0 [.s (.int .i64 w1B), .s (.int .i64 g1B), .sub 2011 2 0 n1B, .s (.int .i64 nw1B), .s (.bool ov1B)] => if tt0 = 82 then some (w1B, g1B, n1B, nw1B, ov1B) else none
  | _ => none
theorem decDp_b12_ok (b : Blk) (y12 : (Int) × (Int) × (Nat) × (Int) × (Bool)) (h : decDp_b12 b = some y12) : b = .cells 82 [iv (y12.1), iv (y12.2.1), .sub 2011 2 0 (y12.2.2.1), iv (y12.2.2.2.1), bv (y12.2.2.2.2)] := by
  unfold decDp_b12 at h
  split at h
  · obtain ⟨e0, h⟩ := ite_some0 h
    subst e0
    cases h
    rfl
  · cases h
def decDp_b13 : Blk → Option ((Int) × (Int) × (Nat) × (Int) × (Bool))
  | .cells tt0 [.s (.int .i64 w2B), .s (.int .i64 g2B), .sub 2012 2 0 n2B, .s (.int .i64 nw2B), .s (.bool ov2B)] => if tt0 = 82 then some (w2B, g2B, n2B, nw2B, ov2B) else none
  | _ => none
theorem decDp_b13_ok (b : Blk) (y13 : (Int) × (Int) × (Nat) × (Int) × (Bool)) (h : decDp_b13 b = some y13) : b = .cells 82 [iv (y13.1), iv (y13.2.1), .sub 2012 2 0 (y13.2.2.1), iv (y13.2.2.2.1), bv (y13.2.2.2.2)] := by
  unfold decDp_b13 at h
  split at h
  · obtain ⟨e0, h⟩ := ite_some0 h
    subst e0
    cases h
    rfl
  · cases h
def decDp_b14 : Blk → Option ((List (Int × Int)))
  | .lst true tt0 [.int .i64, .int .i64] l1B => if tt0 = 105 then some (l1B) else none
  | _ => none
theorem decDp_b14_ok (b : Blk) (y14 : (List (Int × Int))) (h : decDp_b14 b = some y14) : b = .lst true 105 [.int .i64, .int .i64] (y14) := by
  unfold decDp_b14 at h
  split at h
  · obtain ⟨e0, h⟩ := ite_some0 h
    subst e0
    cases h
    rfl
  · cases h
def decDp_b15 : Blk → Option ((List (Int × Int)))
  | .lst true tt0 [.int .i64, .int .i64] l2B => if tt0 = 105 then some (l2B) else none
  | _ => none
theorem decDp_b15_ok (b : Blk) (y15 : (List (Int × Int))) (h : decDp_b15 b = some y15) : b = .lst true 105 [.int .i64, .int .i64] (y15) := by
  unfold decDp_b15 at h
  split at h
  · obtain ⟨e0, h⟩ := ite_some0 h
    subst e0
    cases h
    rfl
  · cases h
def decDp_b16 : Blk → Option ((List (Int × Int)))
  | .lst true tt0 [.int .i64, .int .i64] lB => if tt0 = 105 then some (lB) else none
  | _ => none
theorem decDp_b16_ok (b : Blk) (y16 : (List (Int × Int))) (h : decDp_b16 b = some y16) : b = .lst true 105 [.int .i64, .int .i64] (y16) := by
  unfold decDp_b16 at h
  split at h
  · obtain ⟨e0, h⟩ := ite_some0 h
    subst e0
    cases h
    rfl
  · cases h
def decDp : List V → List Blk → Option (PDp × ADp)
  | [v0, v1, v2, v3, v4], [b0, b1, b2, b3, b4, b5, b6, b7, b8, b9, b10, b11, b12, b13, b14, b15, b16] => (decDp_v0 v0).bind fun x0 => (decDp_v1 v1).bind fun x1 => (decDp_v2 v2).bind fun x2 => (decDp_v3 v3).bind fun x3 => (decDp_v4 v4).bind fun x4 => (decDp_b0 b0).bind fun y0 => (decDp_b1 b1).bind fun y1 => (decDp_b2 b2).bind fun y2 => (decDp_b3 b3).bind fun y3 => (decDp_b4 b4).bind fun y4 => (decDp_b5 b5).bind fun y5 => (decDp_b6 b6).bind fun y6 => (decDp_b7 b7).bind fun y7 => (decDp_b8 b8).bind fun y8 => (decDp_b9 b9).bind fun y9 => (decDp_b10 b10).bind fun y10 => (decDp_b11 b11).bind fun y11 => (decDp_b12 b12).bind fun y12 => (decDp_b13 b13).bind fun y13 => (decDp_b14 b14).bind fun y14 => (decDp_b15 b15).bind fun y15 => (decDp_b16 b16).bind fun y16 => some (⟨(x0), (y0)⟩, ⟨(y1.1), (y1.2.1), (y1.2.2.1), (y1.2.2.2.1), (y1.2.2.2.2.1), (y1.2.2.2.2.2.1), (y1.2.2.2.2.2.2.1), (y1.2.2.2.2.2.2.2.1), (y1.2.2.2.2.2.2.2.2.1), (y1.2.2.2.2.2.2.2.2.2.1), (y1.2.2.2.2.2.2.2.2.2.2.1), (y1.2.2.2.2.2.2.2.2.2.2.2.1), (y1.2.2.2.2.2.2.2.2.2.2.2.2.1), (y1.2.2.2.2.2.2.2.2.2.2.2.2.2.1), (y1.2.2.2.2.2.2.2.2.2.2.2.2.2.2.1), (y1.2.2.2.2.2.2.2.2.2.2.2.2.2.2.2.1), (y1.2.2.2.2.2.2.2.2.2.2.2.2.2.2.2.2.1), (y1.2.2.2.2.2.2.2.2.2.2.2.2.2.2.2.2.2.1), (y1.2.2.2.2.2.2.2.2.2.2.2.2.2.2.2.2.2.2.1), (y1.2.2.2.2.2.2.2.2.2.2.2.2.2.2.2.2.2.2.2.1), (y3.1), (y3.2), (y4.1), (y4.2.1), (y4.2.2), (y5.1), (y5.2.1), (y5.2.2.1), (y5.2.2.2.1), (y5.2.2.2.2), (y6.1), (y6.2.1), (y6.2.2.1), (y6.2.2.2.1), (y6.2.2.2.2), (y7), (y8), (y9), (y1.2.2.2.2.2.2.2.2.2.2.2.2.2.2.2.2.2.2.2.2.1), (y1.2.2.2.2.2.2.2.2.2.2.2.2.2.2.2.2.2.2.2.2.2.1), (y1.2.2.2.2.2.2.2.2.2.2.2.2.2.2.2.2.2.2.2.2.2.2), (y2.1), (y2.2.1), (y2.2.2.1), (y2.2.2.2.1), (y2.2.2.2.2.1), (y2.2.2.2.2.2.1), (y2.2.2.2.2.2.2.1), (y2.2.2.2.2.2.2.2.1), (y2.2.2.2.2.2.2.2.2.1), (y2.2.2.2.2.2.2.2.2.2.1), (y2.2.2.2.2.2.2.2.2.2.2.1), (y2.2.2.2.2.2.2.2.2.2.2.2.1), (y2.2.2.2.2.2.2.2.2.2.2.2.2.1), (y2.2.2.2.2.2.2.2.2.2.2.2.2.2.1), (y2.2.2.2.2.2.2.2.2.2.2.2.2.2.2.1), (y2.2.2.2.2.2.2.2.2.2.2.2.2.2.2.2.1), (y2.2.2.2.2.2.2.2.2.2.2.2.2.2.2.2.2.1), (y2.2.2.2.2.2.2.2.2.2.2.2.2.2.2.2.2.2.1), (y2.2.2.2.2.2.2.2.2.2.2.2.2.2.2.2.2.2.2.1), (y2.2.2.2.2.2.2.2.2.2.2.2.2.2.2.2.2.2.2.2.1), (y11.1), (y11.2), (y12.1), (y12.2.1), (y12.2.2.1), (y12.2.2.2.1), (y12.2.2.2.2), (y13.1), (y13.2.1), (y13.2.2.1), (y13.2.2.2.1), (y13.2.2.2.2), (y14), (y15), (y16), (y2.2.2.2.2.2.2.2.2.2.2.2.2.2.2.2.2.2.2.2.2.1), (y2.2.2.2.2.2.2.2.2.2.2.2.2.2.2.2.2.2.2.2.2.2.1), (y2.2.2.2.2.2.2.2.2.2.2.2.2.2.2.2.2.2.2.2.2.2.2), (x3), (x4)⟩)
  | _, _ => none
theorem decDp_ok (l : List V) (b : List Blk) (d : PDp × ADp) (h : decDp l b = some d) : l = vsDp d.1 d.2 ∧ b = bsDp d.1 d.2 := by
  unfold decDp at h
  split at h
  · obtain ⟨x0, hx0, h⟩ := Option.bind_eq_some_iff.1 h
    obtain ⟨x1, hx1, h⟩ := Option.bind_eq_some_iff.1 h
    obtain ⟨x2, hx2, h⟩ := Option.bind_eq_some_iff.1 h
    obtain ⟨x3, hx3, h⟩ := Option.bind_eq_some_iff.1 h
    obtain ⟨x4, hx4, h⟩ := Option.bind_eq_some_iff.1 h
    obtain ⟨y0, hy0, h⟩ := Option.bind_eq_some_iff.1 h
    obtain ⟨y1, hy1, h⟩ := Option.bind_eq_some_iff.1 h
    obtain ⟨y2, hy2, h⟩ := Option.bind_eq_some_iff.1 h
    obtain ⟨y3, hy3, h⟩ := Option.bind_eq_some_iff.1 h
    obtain ⟨y4, hy4, h⟩ := Option.bind_eq_some_iff.1 h
    obtain ⟨y5, hy5, h⟩ := Option.bind_eq_some_iff.1 h
    obtain ⟨y6, hy6, h⟩ := Option.bind_eq_some_iff.1 h
    obtain ⟨y7, hy7, h⟩ := Option.bind_eq_some_iff.1 h
    obtain ⟨y8, hy8, h⟩ := Option.bind_eq_some_iff.1 h
    obtain ⟨y9, hy9, h⟩ := Option.bind_eq_some_iff.1 h
    obtain ⟨y10, hy10, h⟩ := Option.bind_eq_some_iff.1 h
    obtain ⟨y11, hy11, h⟩ := Option.bind_eq_some_iff.1 h
    obtain ⟨y12, hy12, h⟩ := Option.bind_eq_some_iff.1 h
    obtain ⟨y13, hy13, h⟩ := Option.bind_eq_some_iff.1 h
    obtain ⟨y14, hy14, h⟩ := Option.bind_eq_some_iff.1 h
    obtain ⟨y15, hy15, h⟩ := Option.bind_eq_some_iff.1 h
    obtain ⟨y16, hy16, h⟩ := Option.bind_eq_some_iff.1 h
    have ex0 := decDp_v0_ok _ _ hx0
    have ex1 := decDp_v1_ok _ _ hx1
    have ex2 := decDp_v2_ok _ _ hx2
    have ex3 := decDp_v3_ok _ _ hx3
    have ex4 := decDp_v4_ok _ _ hx4
    have ey0 := decDp_b0_ok _ _ hy0
    have ey1 := decDp_b1_ok _ _ hy1
    have ey2 := decDp_b2_ok _ _ hy2
    have ey3 := decDp_b3_ok _ _ hy3
    have ey4 := decDp_b4_ok _ _ hy4
    have ey5 := decDp_b5_ok _ _ hy5
    have ey6 := decDp_b6_ok _ _ hy6
    have ey7 := decDp_b7_ok _ _ hy7
    have ey8 := decDp_b8_ok _ _ hy8
    have ey9 := decDp_b9_ok _ _ hy9
    have ey10 := decDp_b10_ok _ _ hy10
    have ey11 := decDp_b11_ok _ _ hy11
    have ey12 := decDp_b12_ok _ _ hy12
    have ey13 := decDp_b13_ok _ _ hy13
    have ey14 := decDp_b14_ok _ _ hy14
    have ey15 := decDp_b15_ok _ _ hy15
    have ey16 := decDp_b16_ok _ _ hy16
    cases h
    subst ex0 ex1 ex2 ex3 ex4 ey0 ey1 ey2 ey3 ey4 ey5 ey6 ey7 ey8 ey9 ey10 ey11 ey12 ey13 ey14 ey15 ey16
    exact ⟨rfl, rfl⟩
  · cases h
noncomputable def rgDp : Nat := (firstReg lpDp).getD 0
theorem rgDp_is : firstReg lpDp = some rgDp := by kernel_rfl
def stDp (d : DcS) (dd : DdS) (now i : Int) : ADp := ⟨d.c.target, d.c.util, d.c.stable, d.c.panic, d.c.grain, d.c.threshold, d.c.up, d.c.down, d.c.min, d.c.max, d.c.initial, d.c.grace, d.c.delay, d.c.burst, d.c.limit, d.c.queue, d.c.timeout, d.c.ready, d.c.subset, d.c.sample, d.gm, d.om, d.sp, d.a, d.n, d.s.w, d.s.g, d.s.n, d.s.nw, d.s.ov, d.q.w, d.q.g, d.q.n, d.q.nw, d.q.ov, d.s.l, d.q.l, d.l, d.si, d.mo, d.la, dd.c.target, dd.c.util, dd.c.stable, dd.c.panic, dd.c.grain, dd.c.threshold, dd.c.up, dd.c.down, dd.c.min, dd.c.max, dd.c.initial, dd.c.grace, dd.c.delay, dd.c.burst, dd.c.limit, dd.c.queue, dd.c.timeout, dd.c.ready, dd.c.subset, dd.c.sample, dd.sp, dd.L.length, dd.d.w, dd.d.g, dd.d.n, dd.d.nw, dd.d.ov, dd.e.w, dd.e.g, dd.e.n, dd.e.nw, dd.e.ov, dd.d.l, dd.e.l, dd.L, dd.si, dd.mo, dd.la, now, i⟩
end Go.Proofs.YtebibmioiigplaaGreat.Dec

/- Layer 17: DecidePlays: the ways of a round, in numbers. -/
namespace Go.Proofs.YtebibmioiigplaaGreat.Dec
open Go.Eng Go.RowKit Mil Rin
set_option linter.unusedVariables false
set_option linter.unusedSimpArgs false
set_option maxRecDepth 100000
def xO17 (o : List O17) (i : Int) : O17 := o.getD (0 + i.toNat) (Row.dflt KP)
def kD (x : O17) : Int := bits .and .i64 x.1 7
def cf17 (x : O17) : Conf.Cf := ⟨x.2.2.2.2.2.1, x.2.2.2.2.2.2.1, x.2.2.2.2.2.2.2.1, x.2.2.2.2.2.2.2.2.1, x.2.2.2.2.2.2.2.2.2.1, x.2.2.2.2.2.2.2.2.2.2.1, x.2.2.2.2.2.2.2.2.2.2.2.1, x.2.2.2.2.2.2.2.2.2.2.2.2.1, x.2.2.2.2.2.2.2.2.2.2.2.2.2.1, x.2.2.2.2.2.2.2.2.2.2.2.2.2.2.1, x.2.2.2.2.2.2.2.2.2.2.2.2.2.2.2.1, x.2.2.2.2.2.2.2.2.2.2.2.2.2.2.2.2.1, x.2.2.2.2.2.2.2.2.2.2.2.2.2.2.2.2.2.1, x.2.2.2.2.2.2.2.2.2.2.2.2.2.2.2.2.2.2.1, x.2.2.2.2.2.2.2.2.2.2.2.2.2.2.2.2.2.2.2.1, x.2.2.2.2.2.2.2.2.2.2.2.2.2.2.2.2.2.2.2.2.1, x.2.2.2.2.2.2.2.2.2.2.2.2.2.2.2.2.2.2.2.2.2.1, x.2.2.2.2.2.2.2.2.2.2.2.2.2.2.2.2.2.2.2.2.2.2.1, x.2.2.2.2.2.2.2.2.2.2.2.2.2.2.2.2.2.2.2.2.2.2.2.1, x.2.2.2.2.2.2.2.2.2.2.2.2.2.2.2.2.2.2.2.2.2.2.2.2⟩
def nwD (now : Int) (x : O17) : Int := if 1099511627776 < wI (now + wI (Int.tmod (IntKind.wrap .u64 x.2.1) 4)) then 1099511627776 else wI (now + wI (Int.tmod (IntKind.wrap .u64 x.2.1) 4))
def rD17 (x : O17) : Int := wI (Int.tmod (IntKind.wrap .u64 x.2.2.1) 101)
def vD17 (x : O17) : Int := wI (Int.tmod (IntKind.wrap .u64 x.2.2.2.2.1) 2000000)
abbrev D6 := Int × Int × Int × Int × Bool × Int
def nD6 (x y : D6) : Bool := !(x.1 == y.1 && (x.2.1 == y.2.1 && (x.2.2.1 == y.2.2.1 && (x.2.2.2.1 == y.2.2.2.1 && (x.2.2.2.2.1 == y.2.2.2.2.1 && (x.2.2.2.2.2 == y.2.2.2.2.2 && true))))))
noncomputable def pD6 (b : Bool) (d : DcS) (t r : Int) : D6 := (t, d.s.mean t, d.q.mean t, nxW b d t r, decide (0 ≤ (nxK b d t r).since), Conf.excB d.c r (d.q.mean t))
noncomputable def qD6 (b : Bool) (d : DdS) (t r : Int) : D6 := (t, rxS d t, rxQ d t, rxW b d t r, decide (0 ≤ (rxK b d t r).since), Conf.excB d.c r (rxQ d t))
def z06 : D6 := (0, 0, 0, 0, false, 0)
def f1 (x y : D6) (e : Int) : Bool := bif nD6 x y then true else e != e
def f2 (x y : D6) (e : Int) (d : DcS) (dd : DdS) : Bool := bif f1 x y e then true else d.si != dd.si
def f3 (x y : D6) (e : Int) (d : DcS) (dd : DdS) : Bool := bif f2 x y e d dd then true else d.mo != dd.mo
def f4 (x y : D6) (e : Int) (d : DcS) (dd : DdS) : Bool := bif f3 x y e d dd then true else !(Met.ovP d.om d.s d.q == (bif dd.d.ov then true else dd.e.ov))
def cmp (x y : D6) (e : Int) (d : DcS) (dd : DdS) : List (Bool × Bool) := [(f1 x y e, false), (f2 x y e d dd, false), (f3 x y e d dd, false), (f3 x y e d dd, false), (f4 x y e d dd, false)]
noncomputable def tlP (b : Bool) (d : DcS) (dd : DdS) (t r : Int) : List (Bool × Bool) := [(badA17 d t r, false), (Dly.pB (okN17 d t r), true), (decide (0 ≤ (nxM d t r).since), b)] ++ (rxC b dd t r ++ (cmp (pD6 b d t r) (qD6 b dd t r) 0 (nxD b d t r) (rxD b dd t r) ++ [((0 : Int) == 0, true)]))
def chP (b : Bool) : List Bool := [false, true, b] ++ (([false, true, true, true, true, true, true, true, b] ++ ((bif b then [true] else []) ++ [true, false, true, true])) ++ [false, false, false, false, false, true])
def hdD (p : PDp) (i : Int) : List (Bool × Bool) := [(decide (i < (p.k : Int)), true), (idR p.o p.k i, true), (ldR p.o i, true), ((4 : Int) == 0, false), ((101 : Int) == 0, false)]
def moC (c : Conf.Cf) (mo : Int) : Int := if Conf.mostC c < mo then Conf.mostC c else mo
noncomputable def chgP (d : DcS) (c : Conf.Cf) : DcS := ⟨c, d.gm, d.om, d.s.res c.stable, d.q.res c.panic, c.delay, d.a, d.n, d.l, d.si, moC c d.mo, d.la⟩
noncomputable def newP (d : DcS) (c : Conf.Cf) : DcS := ⟨c, c.grain, Met.ovP d.om d.s d.q, RS.new c.stable c.grain, RS.new c.panic c.grain, c.delay, d.a, d.n, d.l, d.si, moC c d.mo, d.la⟩
noncomputable def chgD (d : DdS) (c : Conf.Cf) : DdS := ⟨c, d.d.res c.stable, d.e.res c.panic, d.si, moC c d.mo, c.delay, d.L, d.la⟩
noncomputable def newD (d : DdS) (c : Conf.Cf) : DdS := ⟨c, ⟨c.stable, c.grain, 0, -1, bif d.d.ov then true else d.e.ov, []⟩, ⟨c.panic, c.grain, 0, -1, false, []⟩, d.si, moC c d.mo, c.delay, d.L, d.la⟩
def dyP (c : Conf.Cf) : Bool := !(bif decide (0 ≤ c.delay) then decide (c.delay ≤ 600) else false)
def dyD (c : Conf.Cf) : Bool := bif decide (c.delay < 0) then true else decide (600 < c.delay)
theorem wayDpx (p : PDp) (a : ADp) : T.path [false] (rdDp p a) = some ([(decide (a.i < (p.k : Int)), false)], (.exit 0, FDp p a)) := by kernel_rfl
theorem wayR0 (p : PDp) (d : DcS) (dd : DdS) (now i : Int) (x : O17) (hx : xO17 p.o i = x) : T.path ([true, true, true, false, false, false, true, true, true, false, false, false, false, false, false]) (rdDp p (stDp d dd now i)) =
    some (hdD p i ++ ([(decide (kD x < 6), false), (kD x == 6, true), (badA17 d x.2.2.2.1 x.2.2.1, true), (badR17 dd x.2.2.2.1 x.2.2.1, true)] ++ (cmp z06 z06 1 d dd ++ [((1 : Int) == 0, false)])), (.normal, FDp p (stDp d dd (nwD now x) (wI (i + 1))))) := by subst hx; kernel_rfl
end Go.Proofs.YtebibmioiigplaaGreat.Dec

/- Layer 17: DecidePlays: a raw tick. -/
namespace Go.Proofs.YtebibmioiigplaaGreat.Dec
open Go.Eng Go.RowKit Mil Rin
set_option linter.unusedVariables false
set_option linter.unusedSimpArgs false
set_option maxRecDepth 100000
theorem wayR1 (b : Bool) (p : PDp) (d : DcS) (dd : DdS) (now i : Int) (x : O17) (hx : xO17 p.o i = x) : T.path ([true, true, true, false, false] ++ ([false, true] ++ chP b)) (rdDp p (stDp d dd now i)) =
    some (hdD p i ++ ([(decide (kD x < 6), false), (kD x == 6, true)] ++ tlP b d dd x.2.2.2.1 x.2.2.1), (.normal, FDp p (stDp (nxD b d x.2.2.2.1 x.2.2.1) (rxD b dd x.2.2.2.1 x.2.2.1) x.2.2.2.1 (wI (i + 1))))) := by subst hx; cases b <;> kernel_rfl
end Go.Proofs.YtebibmioiigplaaGreat.Dec

