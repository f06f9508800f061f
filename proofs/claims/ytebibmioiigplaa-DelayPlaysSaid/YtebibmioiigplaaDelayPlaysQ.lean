import Derived.Test.YtebibmioiigplaaGG
import Derived.Test.YtebibmioiigplaaGO
/- Layer 15: the document's delay: its calls. -/
namespace Go.Proofs.Ytebibmioiigplaa.Dly
open Go.Eng Go.RowKit
set_option linter.unusedVariables false
set_option linter.unusedSimpArgs false
set_option maxRecDepth 100000
theorem mixedE : Try.prog.follows .mixedOrders = true := Checked.mixed Try.checked
noncomputable def CE : Cfg := ⟨Try.prog, lookG [], [], 0⟩
theorem CE_ok : CE.Ok := Cfg.ok trivial trivial
noncomputable def rnewE : Eng.Obj := execO CE noLoops 52
theorem rnewE_ok : ObjOk Try.prog 52 rnewE := execO_plain CE_ok mixedE Try.func52 (by kernel_rfl) (by kernel_rfl)
noncomputable def rnewA : Eng.Obj := fun args h => (rnewE args h).bind (adoptH 24 1 35 [.int .i64, .int .i64] h)
theorem rnewA_ok : ObjOk Try.prog 52 rnewA := rnewE_ok.adopt 24 1 35 [.int .i64, .int .i64]
noncomputable def rputE : Eng.Obj := execO CE noLoops 55
theorem rputE_ok : ObjOk Try.prog 55 rputE := execO_plain CE_ok mixedE Try.func55 (by kernel_rfl) (by kernel_rfl)
noncomputable def rchE : Eng.Obj := execO CE noLoops 57
theorem rchE_ok : ObjOk Try.prog 57 rchE := execO_plain CE_ok mixedE Try.func57 (by kernel_rfl) (by kernel_rfl)
def ddB (s : Int) (j n : Nat) : Blk := .cells 155 [iv s, .sub j 2 0 n]
def rcB (l : List Stp) : Blk := .lst true 35 [.int .i64, .int .i64] l
def ddH (s : Int) (n : Nat) (l : List Stp) : Heap := [(0, ddB s 1 n), (1, rcB l)]
end Go.Proofs.Ytebibmioiigplaa.Dly

/- Layer 15: the document's Most. -/
namespace Go.Proofs.Ytebibmioiigplaa.Dly
open Go.Eng Go.RowKit
set_option linter.unusedVariables false
set_option linter.unusedSimpArgs false
set_option maxRecDepth 100000
noncomputable def lpRm : Code := loopAt Try.prog 59 0
structure PRm where (s : Int) (n : Nat) (l : List (Int × Int)) (t : Int)
structure ARm where (m : Int) (i : Int)
abbrev SRm : List (Nat × Src) := [(0, .same), (1, .same)]
def vsRm (p : PRm) (a : ARm) : List V := [.ptr 0 0, iv p.t, iv a.m, iv a.i]
def bsRm (p : PRm) (a : ARm) : List Blk := [.cells 155 [iv p.s, .sub 1 2 0 p.n], .lst true 35 [.int .i64, .int .i64] p.l]
noncomputable def FRm (p : PRm) (a : ARm) : St := mkSt [0,1,5,6] (keysR SRm) 1010 64 (vsRm p a) (bsRm p a)
noncomputable def rdRm (p : PRm) (a : ARm) : T (Ex × St) := T.anon (roundN CE noLoops lpRm [0,1,5,6] SRm 1000 1010 (mkSt [0,1,5,6] (keysR SRm) 1010 64 (vsRm p a) (bsRm p a)))
def decRm : List V → List Blk → Option (PRm × ARm)
  | [.ptr 0 0, .s (.int .i64 t), .s (.int .i64 m), .s (.int .i64 i)], [.cells tt0 [.s (.int .i64 s), .sub 1 2 0 n], .lst true tt1 [.int .i64, .int .i64] l] =>
    if tt0 = 155 then if tt1 = 35 then some (⟨s, n, l, t⟩, ⟨m, i⟩) else none else none
  | _, _ => none
theorem decRm_ok (l : List V) (b : List Blk) (d : PRm × ARm) (h : decRm l b = some d) : l = vsRm d.1 d.2 ∧ b = bsRm d.1 d.2 := by
  unfold decRm at h
  split at h
  · obtain ⟨e0, h⟩ := ite_some0 h
    obtain ⟨e1, h⟩ := ite_some0 h
    subst e0 e1
    cases h
    exact ⟨rfl, rfl⟩
  · cases h
noncomputable def rgRm : Nat := (firstReg lpRm).getD 0
theorem rgRm_is : firstReg lpRm = some rgRm := by kernel_rfl
end Go.Proofs.Ytebibmioiigplaa.Dly

/- Layer 15: the document's Most and Put: contracts. -/
namespace Go.Proofs.Ytebibmioiigplaa.Dly
open Go.Eng Go.RowKit
set_option linter.unusedVariables false
set_option linter.unusedSimpArgs false
set_option maxRecDepth 100000
def lstI (n : Nat) : Int := wI ((n : Int) - 1)
def hdRm (p : PRm) (a : ARm) : List (Bool × Bool) := [(decide (a.i < (p.n : Int)), true), (idR p.l p.n a.i, true), (ldR p.l a.i, true), (idR p.l p.n (lstI p.n), true), (ldR p.l (lstI p.n), true)]
def oldR (p : PRm) (a : ARm) : Bool := decide ((xS p.l a.i).1 < wI ((xS p.l (lstI p.n)).1 - 600))
def hitR (p : PRm) (a : ARm) : Bool := bif decide (wI (p.t - p.s) < (xS p.l a.i).1) then true else decide (p.t ≤ (xS p.l a.i).1)
theorem wayRm0 (p : PRm) (a : ARm) : T.path [true, true, true, true, true, true] (rdRm p a) = some (hdRm p a ++ [(oldR p a, true)], (.normal, FRm p ⟨a.m, wI (a.i + 1)⟩)) := by kernel_rfl
theorem wayRm1 (p : PRm) (a : ARm) : T.path [true, true, true, true, true, false, true] (rdRm p a) = some (hdRm p a ++ [(oldR p a, false), (hitR p a, true)], (.normal, FRm p ⟨if (xS p.l a.i).2 > a.m then (xS p.l a.i).2 else a.m, wI (a.i + 1)⟩)) := by kernel_rfl
theorem wayRm2 (p : PRm) (a : ARm) : T.path [true, true, true, true, true, false, false] (rdRm p a) = some (hdRm p a ++ [(oldR p a, false), (hitR p a, false)], (.normal, FRm p ⟨a.m, wI (a.i + 1)⟩)) := by kernel_rfl
theorem wayRmx (p : PRm) (a : ARm) : T.path [false] (rdRm p a) = some ([(decide (a.i < (p.n : Int)), false)], (.exit 0, FRm p a)) := by kernel_rfl
/-- from when on the document counts -/
def frD (l : List Stp) (t s : Int) : Int := max ((xS l (lstI l.length)).1 - 600) (thr t s)
structure okRm (p : PRm) (a : ARm) : Prop where
  n : p.n = p.l.length
  n1 : p.n ≤ 100001
  s0 : 0 ≤ p.s
  s1 : p.s ≤ 600
  t0 : 0 ≤ p.t
  t1 : p.t ≤ 1099511628377
  h : ∀ x ∈ p.l, (0 ≤ x.1 ∧ x.1 ≤ 1099511627776) ∧ 0 ≤ x.2 ∧ x.2 ≤ 1000000
  i0 : 0 ≤ a.i
  i1 : a.i ≤ p.n
  m : a.m = mS (frD p.l p.t p.s) (p.l.take a.i.toNat)
def goRm (p : PRm) (a : ARm) : Bool := decide (a.i < (p.n : Int))
def muRm (p : PRm) (a : ARm) : Nat := (p.n - a.i).toNat
theorem xS_mem {l : List Stp} {i : Int} (h0 : 0 ≤ i) (h1 : i < l.length) : xS l i ∈ l ∧ l[i.toNat]? = some (xS l i) := by
  have hl : i.toNat < l.length := by omega
  have e : xS l i = l[i.toNat] := by
    unfold xS
    rw [Nat.zero_add, List.getD_eq_getElem?_getD, List.getElem?_eq_getElem hl]; rfl
  rw [e]
  exact ⟨List.getElem_mem hl, List.getElem?_eq_getElem hl⟩
theorem stepRm (p : PRm) (a : ARm) (h : okRm p a) (hg : goRm p a = true) : ∃ b, stepC okRm rdRm FRm muRm p a b := by
  obtain ⟨hn, n1, s0, s1, t0, t1, hl, i0, i1, hm⟩ := h
  have hg0 := hg
  have hi : a.i < (p.n : Int) := of_decide_eq_true hg
  have hw : wI (a.i + 1) = a.i + 1 := wrap64_in (by omega) (by omega)
  have el : lstI p.n = (p.n : Int) - 1 := wrap64_in (by omega) (by omega)
  obtain ⟨x1, x2⟩ := idR_is (g := p.l) (k := p.n) (i := a.i) hn i0 hi
  obtain ⟨y1, y2⟩ := idR_is (g := p.l) (k := p.n) (i := lstI p.n) hn (by rw [el]; omega) (by rw [el]; omega)
  obtain ⟨m1, m2⟩ := xS_mem (l := p.l) (i := a.i) i0 (by omega)
  obtain ⟨l1, _⟩ := xS_mem (l := p.l) (i := lstI p.n) (by rw [el]; omega) (by rw [el]; omega)
  have b1 := hl _ m1
  have b2 := hl _ l1
  have hd : allSay (hdRm p a) := ⟨hg0, x1, x2, y1, y2, trivial⟩
  have et : (a.i + 1).toNat = a.i.toNat + 1 := by omega
  have mt : mS (frD p.l p.t p.s) (p.l.take (a.i + 1).toNat) = max a.m (vS (frD p.l p.t p.s) (xS p.l a.i)) := by
    rw [et, List.take_add_one, m2, mS_app, ← hm]
    show max a.m (max (vS _ _) 0) = _
    have := b1.2.1
    unfold vS; split <;> omega
  have w1 : wI ((xS p.l (lstI p.n)).1 - 600) = (xS p.l (lstI p.n)).1 - 600 := wrap64_in (by omega) (by omega)
  have w2 : wI (p.t - p.s) = p.t - p.s := wrap64_in (by omega) (by omega)
  have m0 : 0 ≤ a.m := by rw [hm]; exact mS_nn _ _
  have fr : frD p.l p.t p.s = max ((xS p.l (lstI p.n)).1 - 600) (min p.t (p.t - p.s + 1)) := by unfold frD thr; rw [hn]
  have mu : ∀ m', muRm p ⟨m', wI (a.i + 1)⟩ < muRm p a := by
    intro m'
    show ((p.n : Int) - wI (a.i + 1)).toNat < ((p.n : Int) - a.i).toNat
    rw [hw]; omega
  have fin : ∀ m', m' = max a.m (vS (frD p.l p.t p.s) (xS p.l a.i)) → okRm p ⟨m', wI (a.i + 1)⟩ := by
    intro m' e
    refine ⟨hn, n1, s0, s1, t0, t1, hl, ?_, ?_, ?_⟩
    · show 0 ≤ wI (a.i + 1); rw [hw]; omega
    · show wI (a.i + 1) ≤ p.n; rw [hw]; omega
    · show m' = mS _ (p.l.take (wI (a.i + 1)).toNat); rw [hw, mt, e]
  cases ho : oldR p a with
  | true =>
    have ho' := of_decide_eq_true ho
    rw [w1] at ho'
    refine ⟨_, T.path_eval (wayRm0 p a) (allSay_append hd ⟨ho, trivial⟩), fin _ ?_, mu _⟩
    unfold vS; rw [if_neg (by rw [fr]; omega)]; omega
  | false =>
    have ho' : ¬ (xS p.l a.i).1 < wI ((xS p.l (lstI p.n)).1 - 600) := of_decide_eq_false ho
    rw [w1] at ho'
    cases hh : hitR p a with
    | true =>
      have hx : p.t - p.s < (xS p.l a.i).1 ∨ p.t ≤ (xS p.l a.i).1 := by
        unfold hitR at hh
        rw [w2] at hh
        by_cases q : p.t - p.s < (xS p.l a.i).1
        · exact .inl q
        · rw [decide_eq_false q] at hh; exact .inr (of_decide_eq_true hh)
      refine ⟨_, T.path_eval (wayRm1 p a) (allSay_append hd ⟨ho, hh, trivial⟩), fin _ ?_, mu _⟩
      have ev : vS (frD p.l p.t p.s) (xS p.l a.i) = (xS p.l a.i).2 := if_pos (by rw [fr]; omega)
      rw [ev]
      split <;> omega
    | false =>
      have hx : ¬ (p.t - p.s < (xS p.l a.i).1 ∨ p.t ≤ (xS p.l a.i).1) := by
        unfold hitR at hh
        rw [w2] at hh
        intro hx
        by_cases q : p.t - p.s < (xS p.l a.i).1
        · rw [decide_eq_true q] at hh; cases hh
        · rw [decide_eq_false q] at hh
          have := of_decide_eq_false hh
          omega
      refine ⟨_, T.path_eval (wayRm2 p a) (allSay_append hd ⟨ho, hh, trivial⟩), fin _ ?_, mu _⟩
      unfold vS; rw [if_neg (by rw [fr]; omega)]; omega
theorem exRm (p : PRm) (a : ARm) (h : okRm p a) (hg : goRm p a = false) : (rdRm p a).eval = some (.exit 0, FRm p a) := T.path_eval (wayRmx p a) ⟨hg, trivial⟩
noncomputable def famRm : LSpec := famC [0,1,5,6] SRm 1000 1010 64 decRm okRm goRm rdRm FRm muRm (.exit 0)
theorem lpRm_ok : LoopOk CE lpRm famRm := famC_ok (vs := vsRm) (bs := bsRm) CE_ok mixed (noLoops_ok _) decRm_ok (by simp) (fun _ _ => rfl) (fun _ _ => rfl) stepRm exRm
noncomputable def rmosE : Eng.Obj := execO CE (byReg [(rgRm, famRm)]) 59
theorem rmosE_ok : ObjOk Try.prog 59 rmosE := execO_loops CE_ok mixedE Try.func59 (by kernel_rfl) (by kernel_rfl) (one_lp (by kernel_rfl) rgRm_is lpRm_ok)
end Go.Proofs.Ytebibmioiigplaa.Dly

/- Layer 15: the document's delay beside the program's. -/
namespace Go.Proofs.Ytebibmioiigplaa.Dly
open Go.Eng Go.RowKit
set_option linter.unusedVariables false
set_option linter.unusedSimpArgs false
set_option maxRecDepth 100000
def cpM (t : Int) : Int := if 1099511628377 < (if 0 > t then 0 else t) then 1099511628377 else (if 0 > t then 0 else t)
def okMs (s : Int) (n : Nat) (l : List Stp) : Prop := n = l.length ∧ n ≤ 100001 ∧ 0 ≤ s ∧ s ≤ 600 ∧ ∀ x ∈ l, (0 ≤ x.1 ∧ x.1 ≤ 1099511627776) ∧ 0 ≤ x.2 ∧ x.2 ≤ 1000000
noncomputable def rmosT (s t : Int) (n : Nat) (l : List Stp) : T (V × Heap) := .ite none (pB (okMs s n l)) (.ret (iv (mS (frD l (cpM t) s) l), ddH s n l)) .fail
noncomputable def rmosS : Eng.Obj
  | [.ptr 0 0, .s (.int .i64 t)], [(0, .cells 155 [.s (.int .i64 s), .sub 1 2 0 n]), (1, .lst true 35 [.int .i64, .int .i64] l)] => rmosT s t n l
  | _, _ => .fail
noncomputable def eRm (s t : Int) (n : Nat) (l : List Stp) : ARm := endW (nxtC okRm goRm rdRm FRm muRm ⟨s, n, l, cpM t⟩) ⟨0, 0⟩
theorem rmos_w (s t : Int) (n : Nat) (l : List Stp) : T.path [true] (T.anon (rmosE [.ptr 0 0, iv t] (ddH s n l))) = some ([(invC okRm ⟨s, n, l, cpM t⟩ ⟨0, 0⟩, true)], (iv (eRm s t n l).m, ddH s n l)) := by kernel_rfl
theorem rmos_run (s t : Int) (n : Nat) (l : List Stp) (r : V × Heap) (hv : (rmosT s t n l).eval = some r) : (rmosE [.ptr 0 0, iv t] (ddH s n l)).eval = some r := by
  unfold rmosT at hv
  obtain ⟨hc, hv⟩ := ite_some hv
  obtain rfl := Option.some.inj hv
  obtain ⟨hn, n1, s0, s1, hl⟩ := pB_ok hc
  have h0 : okRm ⟨s, n, l, cpM t⟩ ⟨0, 0⟩ := ⟨hn, n1, s0, s1, by show 0 ≤ cpM t; unfold cpM; split <;> (try split) <;> omega, by show cpM t ≤ 1099511628377; unfold cpM; split <;> (try split) <;> omega, hl, Int.le_refl _, by show (0 : Int) ≤ n; omega, rfl⟩
  obtain ⟨k1, k2⟩ := endC stepRm h0
  have k1 : okRm ⟨s, n, l, cpM t⟩ (eRm s t n l) := k1
  have k2 : decide ((eRm s t n l).i < (n : Int)) = false := k2
  have k2 := of_decide_eq_false k2
  have i1 : (eRm s t n l).i ≤ (n : Int) := k1.i1
  have e : (eRm s t n l).m = mS (frD l (cpM t) s) l := by
    have hlen : l.length ≤ (eRm s t n l).i.toNat := by omega
    rw [k1.m]
    show mS _ (l.take (eRm s t n l).i.toNat) = _
    rw [List.take_of_length_le hlen]
  rw [← T.eval_anon (t := rmosE _ _)]
  have w := rmos_w s t n l
  rw [e] at w
  exact T.path_eval w ⟨invC_is h0, trivial⟩
theorem rmosS_ok : ObjOk Try.prog 59 rmosS := rmosE_ok.of_eval fun args h r hv => by
  unfold rmosS at hv
  split at hv
  · rename_i t s n l
    exact rmos_run s t n l r hv
  · cases hv
def rgP (t w : Int) : Bool := bif bif bif decide (t < 0) then true else decide (1099511627776 < t) then true else decide (w < 0) then true else decide (1000000 < w)
def badP (n : Nat) (l : List Stp) (t w : Int) : Bool := bif rgP t w then true else (bif decide (0 < (n : Int)) then decide (t < (xS l (lstI n)).1) else false)
noncomputable def rputT (s t w : Int) (n : Nat) (l : List Stp) : T (V × Heap) := .ite none (pB (n = l.length ∧ n ≤ 99999)) (.ite none (badP n l t w) (.ret (iv 1, ddH s n l)) (.ret (iv 0, [(0, ddB s 322 (l ++ [(t, w)]).length), (322, rcB (l ++ [(t, w)]))]))) .fail
noncomputable def rputS : Eng.Obj
  | [.ptr 0 0, .s (.int .i64 t), .s (.int .i64 w)], [(0, .cells 155 [.s (.int .i64 s), .sub 1 2 0 n]), (1, .lst true 35 [.int .i64, .int .i64] l)] => rputT s t w n l
  | _, _ => .fail
def puG (n : Nat) (l : List Stp) (t w : Int) : List (Bool × Bool) := [((bif rgP t w == false && (decide (0 < (n : Int)) == true && true) then idR l n (lstI n) else true), true), ((bif rgP t w == false && (decide (0 < (n : Int)) == true && true) then ldR l (lstI n) else true), true)]
theorem rput_w1 (s t w : Int) (n : Nat) (l : List Stp) : T.path [true, true, true] (T.anon (rputE [.ptr 0 0, iv t, iv w] (ddH s n l))) = some (puG n l t w ++ [(badP n l t w, true)], (iv 1, ddH s n l)) := by kernel_rfl
theorem rput_w0 (s t w : Int) (n : Nat) (l : List Stp) : T.path [true, true, false, true] (T.anon (rputE [.ptr 0 0, iv t, iv w] (ddH s n l))) = some (puG n l t w ++ [(badP n l t w, false), (true && (decide (n ≤ l.length) && decide (n + [(t, w)].length ≤ 1000000)), true)], (iv 0, [(0, ddB s 322 (n + [(t, w)].length)), (322, rcB (List.take n l ++ [(t, w)]))])) := by kernel_rfl
theorem rput_run (s t w : Int) (n : Nat) (l : List Stp) (r : V × Heap) (hv : (rputT s t w n l).eval = some r) : (rputE [.ptr 0 0, iv t, iv w] (ddH s n l)).eval = some r := by
  unfold rputT at hv
  obtain ⟨hc, hv⟩ := ite_some hv
  obtain ⟨hn, n1⟩ := pB_ok hc
  rw [← T.eval_anon (t := rputE _ _)]
  have hg : allSay (puG n l t w) := by
    by_cases hz : 0 < n
    · have el : lstI n = (n : Int) - 1 := wrap64_in (by omega) (by omega)
      obtain ⟨y1, y2⟩ := idR_is (g := l) (k := n) (i := lstI n) hn (by rw [el]; omega) (by rw [el]; omega)
      refine ⟨?_, ?_, trivial⟩
      · rw [y1]; cases (rgP t w == false && (decide (0 < (n : Int)) == true && true)) <;> rfl
      · rw [y2]; cases (rgP t w == false && (decide (0 < (n : Int)) == true && true)) <;> rfl
    · have e : decide (0 < (n : Int)) = false := decide_eq_false (by omega)
      refine ⟨?_, ?_, trivial⟩
      · rw [e]; simp
      · rw [e]; simp
  cases hb : badP n l t w with
  | true =>
    rw [hb] at hv
    obtain rfl := Option.some.inj hv
    exact T.path_eval (rput_w1 s t w n l) (allSay_append hg ⟨hb, trivial⟩)
  | false =>
    rw [hb] at hv
    obtain rfl := Option.some.inj hv
    have ww := rput_w0 s t w n l
    subst hn
    rw [List.take_length] at ww
    rw [List.length_append]
    refine T.path_eval ww (allSay_append hg ⟨hb, ?_, trivial⟩)
    rw [decide_eq_true (Nat.le_refl _), decide_eq_true (show l.length + [(t, w)].length ≤ 1000000 by show l.length + 1 ≤ 1000000; omega)]; rfl
theorem rputS_ok : ObjOk Try.prog 55 rputS := rputE_ok.of_eval fun args h r hv => by
  unfold rputS at hv
  split at hv
  · rename_i t w s n l
    exact rput_run s t w n l r hv
  · cases hv
/-- the program's steps beside all that was put -/
structure BothL (s a : Int) (n : Nat) (l L : List Stp) (m : Nat) : Prop where
  h : Holds a l L
  s0 : 0 ≤ s
  s1 : s ≤ 600
  n : n = l.length
  m : L.length ≤ m
theorem last_is {a : Int} {l L : List Stp} (h : Holds a l L) (hz : L ≠ []) (h1 : L.length ≤ 100001) : (xS L (lstI L.length)).1 = a := by
  have hp : 0 < L.length := List.length_pos_iff.2 hz
  have el : lstI L.length = (L.length : Int) - 1 := wrap64_in (by omega) (by omega)
  obtain ⟨_, e⟩ := xS_mem (l := L) (i := lstI L.length) (by rw [el]; omega) (by rw [el]; omega)
  refine h.la _ ?_
  rw [List.getLast?_eq_getElem?, ← e, el]
  congr 1
  omega
theorem bool_eq {x y : Bool} (h : x = false ↔ y = false) : x = y := by
  cases x <;> cases y <;> simp at h <;> rfl
theorem BothL.bad {s a : Int} {n m : Nat} {l L : List Stp} (h : BothL s a n l L m) (hm : m ≤ 100001) (t w : Int) : badP L.length L t w = refB a t w := by
  have a0 := h.h.a0
  have hmm := h.m
  refine bool_eq ?_
  rw [refB_false]
  unfold badP rgP
  by_cases hz : L = []
  · have ha := h.h.e hz
    subst hz
    simp
    omega
  · have e := last_is h.h hz (by omega)
    have hp : 0 < L.length := List.length_pos_iff.2 hz
    rw [e, decide_eq_true (show (0 : Int) < (L.length : Int) by omega)]
    simp
    omega
theorem BothL.most {s a : Int} {n m : Nat} {l L : List Stp} (h : BothL s a n l L m) (hm : m ≤ 100001) (t : Int) : mS (frD L (cpM t) s) L = fS (thr (mx0 t) s) l := by
  rw [fS_mS _ h.h.dec]
  have hmm := h.m
  have s0 := h.s0
  have s1 := h.s1
  by_cases hz : L = []
  · have hl := h.h.ln
    subst hz
    have : l = [] := List.length_eq_zero_iff.1 (by have : l.length ≤ 0 := hl; omega)
    subst this; rfl
  · have e := last_is h.h hz (by omega)
    have a1 := h.h.a1
    have e1 : mS (thr (mx0 t) s) l = mS (max (a - 600) (thr (mx0 t) s)) l := mS_raise fun x hx => (h.h.t x hx).1
    rw [e1, h.h.m _ (by omega)]
    unfold frD
    rw [e]
    by_cases q : mx0 t ≤ 1099511628377
    · have : cpM t = mx0 t := by unfold cpM mx0 at *; split <;> omega
      rw [this]
    · have q1 : cpM t = 1099511628377 := by unfold cpM mx0 at *; split <;> omega
      rw [q1, mS_out fun x hx => by have := (h.h.T x hx).2; unfold thr; omega, mS_out fun x hx => by have := (h.h.T x hx).2; unfold thr; omega]
end Go.Proofs.Ytebibmioiigplaa.Dly

/- Layer 15: the loops' states. -/
namespace Go.Proofs.Ytebibmioiigplaa.Del
open Go.Eng Go.RowKit
set_option linter.unusedVariables false
set_option linter.unusedSimpArgs false
abbrev Stp := Int × Int
def iv (n : Int) : V := .s (.int .i64 n)
def stepsB (l : List Stp) : Blk := .lst true 158 [.int .i64, .int .i64] l
noncomputable def dp1 : Code := loopAt Try.prog 103 0
noncomputable def wi1 : Code := loopAt Try.prog 105 0
noncomputable def fg1 : Code := loopAt Try.prog 104 0
noncomputable def FD (s a w : Int) (k : Nat) (l : List Stp) : St := mkSt [0, 1] [0, 1] 1000 34 [.ptr 0 0, iv w] [.cells 153 [iv s, iv a, .sub 1 2 0 k], stepsB l]
noncomputable def FW (s a t : Int) (k : Nat) (l : List Stp) (n i : Int) (r : V) (j : Nat) : St := mkSt [0, 1, 4, 10, 11, 12] [0, 1] 1000 36 [.ptr 0 0, iv t, r, .sub 1 2 0 k, iv n, iv i] [.cells 153 [iv s, iv a, .sub 1 2 0 j], stepsB l]
end Go.Proofs.Ytebibmioiigplaa.Del

/- Trees as the machine prints them. -/
namespace Go.Proofs.Ytebibmioiigplaa.Del
open Go.Eng Go.RowKit
set_option linter.unusedVariables false
set_option maxRecDepth 100000
noncomputable def rtD (s a w : Int) (k : Nat) (l : List Stp) : T (Ex × St) := T.ite none ((↑k : Int) == 0)
  (T.ret
    (Ex.ret,
      { tmps := [(0, V.ptr 0 0), (1, V.s (S.int IntKind.i64 w))],
        heap :=
          [(0, Blk.cells 96 [V.s (S.int IntKind.i64 s), V.s (S.int IntKind.i64 a), V.sub 1 2 0 k]),
            (1, Blk.lst true 99 [K.int IntKind.i64, K.int IntKind.i64] l)],
        next := 1000, size := 34 }))
  (T.ite none
    (decide (0 ≤ IntKind.wrap IntKind.i64 ((↑k : Int) - 1)) &&
      (decide (IntKind.wrap IntKind.i64 ((↑k : Int) - 1) < (↑k : Int)) &&
        decide (0 + Int.toNat (IntKind.wrap IntKind.i64 ((↑k : Int) - 1)) < List.length l)))
    (T.ite none (decide (0 + Int.toNat (IntKind.wrap IntKind.i64 ((↑k : Int) - 1)) < List.length l))
      (T.ite none
        (decide
          (w <
            Prod.snd
              (List.getD l (0 + Int.toNat (IntKind.wrap IntKind.i64 ((↑k : Int) - 1)))
                (Row.dflt [K.int IntKind.i64, K.int IntKind.i64]))))
        (T.ret
          (Ex.ret,
            { tmps := [(0, V.ptr 0 0), (1, V.s (S.int IntKind.i64 w))],
              heap :=
                [(0, Blk.cells 96 [V.s (S.int IntKind.i64 s), V.s (S.int IntKind.i64 a), V.sub 1 2 0 k]),
                  (1, Blk.lst true 99 [K.int IntKind.i64, K.int IntKind.i64] l)],
              next := 1000, size := 34 }))
        (T.ite none
          (decide (0 ≤ 0) &&
            (decide (0 ≤ IntKind.wrap IntKind.i64 ((↑k : Int) - 1)) &&
              (decide (IntKind.wrap IntKind.i64 ((↑k : Int) - 1) ≤ (↑k : Int)) && decide (k ≤ List.length l))))
          (T.ret
            (Ex.normal,
              { tmps := [(0, V.ptr 0 0), (1, V.s (S.int IntKind.i64 w))],
                heap :=
                  [(0,
                      Blk.cells 96
                        [V.s (S.int IntKind.i64 s), V.s (S.int IntKind.i64 a),
                          V.sub 1 2 0 (Int.toNat (IntKind.wrap IntKind.i64 ((↑k : Int) - 1)) - Int.toNat 0)]),
                    (1, Blk.lst true 99 [K.int IntKind.i64, K.int IntKind.i64] l)],
                next := 1000, size := 34 }))
          T.fail))
      T.fail)
    T.fail)
noncomputable def rtW (s a t : Int) (k : Nat) (l : List Stp) (n i : Int) (j : Nat) : T (Ex × St) := T.ite none (decide (i < n))
  (T.ite none (decide (0 ≤ i) && (decide (i < (↑k : Int)) && decide (0 + Int.toNat i < List.length l)))
    (T.ite none (decide (0 + Int.toNat i < List.length l))
      (T.ite none
        (bif
            decide (t ≤ Prod.fst (List.getD l (0 + Int.toNat i) (Row.dflt [K.int IntKind.i64, K.int IntKind.i64]))) then
          true
        else
          decide
            (IntKind.wrap IntKind.i64 (t - s) <
              Prod.fst (List.getD l (0 + Int.toNat i) (Row.dflt [K.int IntKind.i64, K.int IntKind.i64]))))
        (T.ret
          (Ex.ret,
            {
              tmps :=
                [(0, V.ptr 0 0), (1, V.s (S.int IntKind.i64 t)),
                  (4,
                    V.iface 99
                      (V.agg
                        [V.s
                            (S.int IntKind.i64
                              (Prod.fst
                                (List.getD l (0 + Int.toNat i) (Row.dflt [K.int IntKind.i64, K.int IntKind.i64])))),
                          V.s
                            (S.int IntKind.i64
                              (Prod.snd
                                (List.getD l (0 + Int.toNat i) (Row.dflt [K.int IntKind.i64, K.int IntKind.i64]))))])),
                  (10, V.sub 1 2 0 k), (11, V.s (S.int IntKind.i64 n)), (12, V.s (S.int IntKind.i64 i))],
              heap :=
                [(0, Blk.cells 96 [V.s (S.int IntKind.i64 s), V.s (S.int IntKind.i64 a), V.sub 1 2 0 j]),
                  (1, Blk.lst true 99 [K.int IntKind.i64, K.int IntKind.i64] l)],
              next := 1000, size := 36 }))
        (T.ret
          (Ex.normal,
            {
              tmps :=
                [(0, V.ptr 0 0), (1, V.s (S.int IntKind.i64 t)), (4, V.nilIface), (10, V.sub 1 2 0 k),
                  (11, V.s (S.int IntKind.i64 n)), (12, V.s (S.int IntKind.i64 (IntKind.wrap IntKind.i64 (i + 1))))],
              heap :=
                [(0, Blk.cells 96 [V.s (S.int IntKind.i64 s), V.s (S.int IntKind.i64 a), V.sub 1 2 0 j]),
                  (1, Blk.lst true 99 [K.int IntKind.i64, K.int IntKind.i64] l)],
              next := 1000, size := 36 })))
      T.fail)
    T.fail)
  (T.ret
    (Ex.exit 0,
      {
        tmps :=
          [(0, V.ptr 0 0), (1, V.s (S.int IntKind.i64 t)), (4, V.nilIface), (10, V.sub 1 2 0 k),
            (11, V.s (S.int IntKind.i64 n)), (12, V.s (S.int IntKind.i64 i))],
        heap :=
          [(0, Blk.cells 96 [V.s (S.int IntKind.i64 s), V.s (S.int IntKind.i64 a), V.sub 1 2 0 j]),
            (1, Blk.lst true 99 [K.int IntKind.i64, K.int IntKind.i64] l)],
        next := 1000, size := 36 }))
end Go.Proofs.Ytebibmioiigplaa.Del

/- Layer 15: DelayPlays: the loop. -/
namespace Go.Proofs.Ytebibmioiigplaa.Dly
open Go.Eng Go.RowKit
set_option linter.unusedVariables false
set_option linter.unusedSimpArgs false
set_option maxRecDepth 100000
noncomputable def DP : Cfg := ⟨Try.prog, lookG [(51, .obj newA), (52, .obj rnewA), (53, .val Rin.yesR), (54, .obj putS), (55, .obj rputS), (56, .obj Del.spanD), (57, .obj rchE), (58, .obj mosS), (59, .obj rmosS)], [], 0⟩
theorem DP_ok : DP.Ok := Cfg.ok ⟨newA_ok, rnewA_ok, Del.told_ok, putS_ok, rputS_ok, Del.spanD_ok, rchE_ok, mosS_ok, rmosS_ok, trivial⟩ trivial
abbrev KO5 : List K := [.int .i64, .int .i64, .int .i64, .bool, .int .i64]
abbrev O5 := Int × Int × Int × Bool × Int
noncomputable def lpDq : Code := loopAt Try.prog 10 0
structure PDq where (k : Nat) (o : List (Int × Int × Int × Bool × Int))
structure ADq where (s : Int) (a : Int) (n : Nat) (l : List (Int × Int)) (s2 : Int) (n2 : Nat) (l2 : List (Int × Int)) (w : Int) (i : Int)
abbrev SDq : List (Nat × Src) := [(0, .same), (1, .same), (2000, .path 1 [2]), (9, .same), (2001, .path 9 [1])]
def vsDq (p : PDq) (a : ADq) : List V := [.sub 0 5 0 p.k, .ptr 1 0, .ptr 9 0, iv a.w, iv a.i]
def bsDq (p : PDq) (a : ADq) : List Blk := [.lst false 75 [.int .i64, .int .i64, .int .i64, .bool, .int .i64] p.o, .cells 153 [iv a.s, iv a.a, .sub 2000 2 0 a.n], .lst true 158 [.int .i64, .int .i64] a.l, .cells 155 [iv a.s2, .sub 2001 2 0 a.n2], .lst true 35 [.int .i64, .int .i64] a.l2]
noncomputable def FDq (p : PDq) (a : ADq) : St := mkSt [1,5,6,7,8] (keysR SDq) 2010 96 (vsDq p a) (bsDq p a)
noncomputable def rdDq (p : PDq) (a : ADq) : T (Ex × St) := T.anon (roundN DP noLoops lpDq [1,5,6,7,8] SDq 2000 2010 (mkSt [1,5,6,7,8] (keysR SDq) 2010 96 (vsDq p a) (bsDq p a)))
def decDq_v0 : V → Option ((Nat))
  | .sub 0 5 0 k => some (k)
  | _ => none
theorem decDq_v0_ok (b : V) (x0 : (Nat)) (h : decDq_v0 b = some x0) : b = .sub 0 5 0 (x0) := by
  unfold decDq_v0 at h
  split at h
  · cases h
    rfl
  · cases h
def decDq_v1 : V → Option (Unit)
  | .ptr 1 0 => some ()
  | _ => none
theorem decDq_v1_ok (b : V) (x1 : Unit) (h : decDq_v1 b = some x1) : b = .ptr 1 0 := by
  unfold decDq_v1 at h
  split at h
  · cases h
    rfl
  · cases h
def decDq_v2 : V → Option (Unit)
  | .ptr 9 0 => some ()
  | _ => none
theorem decDq_v2_ok (b : V) (x2 : Unit) (h : decDq_v2 b = some x2) : b = .ptr 9 0 := by
  unfold decDq_v2 at h
  split at h
  · cases h
    rfl
  · cases h
def decDq_v3 : V → Option ((Int))
  | .s (.int .i64 w) => some (w)
  | _ => none
theorem decDq_v3_ok (b : V) (x3 : (Int)) (h : decDq_v3 b = some x3) : b = iv (x3) := by
  unfold decDq_v3 at h
  split at h
  · cases h
    rfl
  · cases h
def decDq_v4 : V → Option ((Int))
  | .s (.int .i64 i) => some (i)
  | _ => none
theorem decDq_v4_ok (b : V) (x4 : (Int)) (h : decDq_v4 b = some x4) : b = iv (x4) := by
  unfold decDq_v4 at h
  split at h
  · cases h
    rfl
  · cases h
def decDq_b0 : Blk → Option ((List (Int × Int × Int × Bool × Int)))
  | .lst false tt0 [.int .i64, .int .i64, .int .i64, .bool, .int .i64] o => if tt0 = 75 then some (o) else none
  | _ => none
theorem decDq_b0_ok (b : Blk) (y0 : (List (Int × Int × Int × Bool × Int))) (h : decDq_b0 b = some y0) : b = .lst false 75 [.int .i64, .int .i64, .int .i64, .bool, .int .i64] (y0) := by
  unfold decDq_b0 at h
  split at h
  · obtain ⟨e0, h⟩ := ite_some0 h
    subst e0
    cases h
    rfl
  · cases h
def decDq_b1 : Blk → Option ((Int) × (Int) × (Nat))
  | .cells tt0 [.s (.int .i64 s), .s (.int .i64 a), .sub 2000 2 0 n] => if tt0 = 153 then some (s, a, n) else none
  | _ => none
theorem decDq_b1_ok (b : Blk) (y1 : (Int) × (Int) × (Nat)) (h : decDq_b1 b = some y1) : b = .cells 153 [iv (y1.1), iv (y1.2.1), .sub 2000 2 0 (y1.2.2)] := by
  unfold decDq_b1 at h
  split at h
  · obtain ⟨e0, h⟩ := ite_some0 h
    subst e0
    cases h
    rfl
  · cases h
def decDq_b2 : Blk → Option ((List (Int × Int)))
  | .lst true tt0 [.int .i64, .int .i64] l => if tt0 = 158 then some (l) else none
  | _ => none
theorem decDq_b2_ok (b : Blk) (y2 : (List (Int × Int))) (h : decDq_b2 b = some y2) : b = .lst true 158 [.int .i64, .int .i64] (y2) := by
  unfold decDq_b2 at h
  split at h
  · obtain ⟨e0, h⟩ := ite_some0 h
    subst e0
    cases h
    rfl
  · cases h
def decDq_b3 : Blk → Option ((Int) × (Nat))
  | .cells tt0 [.s (.int .i64 s2), .sub 2001 2 0 n2] => if tt0 = 155 then some (s2, n2) else none
  | _ => none
theorem decDq_b3_ok (b : Blk) (y3 : (Int) × (Nat)) (h : decDq_b3 b = some y3) : b = .cells 155 [iv (y3.1), .sub 2001 2 0 (y3.2)] := by
  unfold decDq_b3 at h
  split at h
  · obtain ⟨e0, h⟩ := ite_some0 h
    subst e0
    cases h
    rfl
  · cases h
def decDq_b4 : Blk → Option ((List (Int × Int)))
  | .lst true tt0 [.int .i64, .int .i64] l2 => if tt0 = 35 then some (l2) else none
  | _ => none
theorem decDq_b4_ok (b : Blk) (y4 : (List (Int × Int))) (h : decDq_b4 b = some y4) : b = .lst true 35 [.int .i64, .int .i64] (y4) := by
  unfold decDq_b4 at h
  split at h
  · obtain ⟨e0, h⟩ := ite_some0 h
    subst e0
    cases h
    rfl
  · cases h
def decDq : List V → List Blk → Option (PDq × ADq)
  | [v0, v1, v2, v3, v4], [b0, b1, b2, b3, b4] => (decDq_v0 v0).bind fun x0 => (decDq_v1 v1).bind fun x1 => (decDq_v2 v2).bind fun x2 => (decDq_v3 v3).bind fun x3 => (decDq_v4 v4).bind fun x4 => (decDq_b0 b0).bind fun y0 => (decDq_b1 b1).bind fun y1 => (decDq_b2 b2).bind fun y2 => (decDq_b3 b3).bind fun y3 => (decDq_b4 b4).bind fun y4 => some (⟨(x0), (y0)⟩, ⟨(y1.1), (y1.2.1), (y1.2.2), (y2), (y3.1), (y3.2), (y4), (x3), (x4)⟩)
  | _, _ => none
theorem decDq_ok (l : List V) (b : List Blk) (d : PDq × ADq) (h : decDq l b = some d) : l = vsDq d.1 d.2 ∧ b = bsDq d.1 d.2 := by
  unfold decDq at h
  split at h
  · obtain ⟨x0, hx0, h⟩ := Option.bind_eq_some_iff.1 h
    obtain ⟨x1, hx1, h⟩ := Option.bind_eq_some_iff.1 h
    obtain ⟨x2, hx2, h⟩ := Option.bind_eq_some_iff.1 h
    obtain ⟨x3, hx3, h⟩ := Option.bind_eq_some_iff.1 h
    obtain ⟨x4, hx4, h⟩ := Option.bind_eq_some_iff.1 h
    obtain ⟨y0, hy0, h⟩ := Option.bind_eq_some_iff.1 h
    obtain ⟨y1, hy1, h⟩ := Option.bind_eq_some_iff.1 h
    obtain ⟨y2, hy2, h⟩ := Option.bind_eq_some_iff.1 h
    obtain ⟨y3, hy3, h⟩ := Option.bind_eq_some_iff.1 h
    obtain ⟨y4, hy4, h⟩ := Option.bind_eq_some_iff.1 h
    have ex0 := decDq_v0_ok _ _ hx0
    have ex1 := decDq_v1_ok _ _ hx1
    have ex2 := decDq_v2_ok _ _ hx2
    have ex3 := decDq_v3_ok _ _ hx3
    have ex4 := decDq_v4_ok _ _ hx4
    have ey0 := decDq_b0_ok _ _ hy0
    have ey1 := decDq_b1_ok _ _ hy1
    have ey2 := decDq_b2_ok _ _ hy2
    have ey3 := decDq_b3_ok _ _ hy3
    have ey4 := decDq_b4_ok _ _ hy4
    cases h
    subst ex0 ex1 ex2 ex3 ex4 ey0 ey1 ey2 ey3 ey4
    exact ⟨rfl, rfl⟩
  · cases h
noncomputable def rgDq : Nat := (firstReg lpDq).getD 0
theorem rgDq_is : firstReg lpDq = some rgDq := by kernel_rfl
end Go.Proofs.Ytebibmioiigplaa.Dly

/- Layer 15: DelayPlays. -/
namespace Go.Proofs.Ytebibmioiigplaa.Dly
open Go.Eng Go.RowKit
set_option linter.unusedVariables false
set_option linter.unusedSimpArgs false
set_option maxRecDepth 100000
def stD (s a : Int) (l L : List Stp) (w i : Int) : ADq := ⟨s, a, l.length, l, s, L.length, L, w, i⟩
def xO (o : List O5) (i : Int) : O5 := o.getD (0 + i.toNat) (0, 0, 0, false, 0)
def nwD (w : Int) (x : O5) : Int := if 1099511627776 < wI (w + wI (Int.tmod (IntKind.wrap .u64 x.2.1) 40)) then 1099511627776 else wI (w + wI (Int.tmod (IntKind.wrap .u64 x.2.1) 40))
def tmD (b : Bool) (w : Int) (x : O5) : Int := bif b then x.2.2.2.2 else nwD w x
def hdD (b : Bool) (o : List O5) (i : Int) : List (Bool × Bool) := [(decide (i < (o.length : Int)), true), (idR o o.length i, true), (ldR o i, true), ((40 : Int) == 0, false), ((xO o i).2.2.2.1, b)]
def kD (o : List O5) (i : Int) : Int := bits .and .i64 (xO o i).1 7
noncomputable def tlD (s t : Int) (l L : List Stp) : List (Bool × Bool) := [(pB (okW s (mx0 t) l.length l), true), (pB (okMs s L.length L), true), (fS (thr (mx0 t) s) l != mS (frD L (cpM t) s) L, false)]
def inS (x : Int) : Bool := bif decide (0 ≤ x) then decide (x ≤ 600) else false
def outS (x : Int) : Bool := bif decide (x < 0) then true else decide (600 < x)
theorem wayP1 (b : Bool) (o : List O5) (s a : Int) (l L : List Stp) (w i : Int) : T.path [true, true, true, false, b, true, false, true, true, false, false, true, true, true, false] (rdDq ⟨o.length, o⟩ (stD s a l L w i)) =
    some (hdD b o i ++ ([(decide (kD o i < 5), true), (refB a (tmD b w (xO o i)) (xO o i).2.2.1, false), (pB (okU a l.length l), true), (pB (L.length = L.length ∧ L.length ≤ 99999), true), (badP L.length L (tmD b w (xO o i)) (xO o i).2.2.1, false), ((0 : Int) != 0, false), ((0 : Int) == 0, true)] ++ tlD s (tmD b w (xO o i)) (putL l (tmD b w (xO o i)) (xO o i).2.2.1) (L ++ [(tmD b w (xO o i), (xO o i).2.2.1)])),
      (.normal, FDq ⟨o.length, o⟩ (stD s (tmD b w (xO o i)) (putL l (tmD b w (xO o i)) (xO o i).2.2.1) (L ++ [(tmD b w (xO o i), (xO o i).2.2.1)]) (tmD b w (xO o i)) (wI (i + 1))))) := by cases b <;> kernel_rfl
theorem wayP0 (b : Bool) (o : List O5) (s a : Int) (l L : List Stp) (w i : Int) : T.path [true, true, true, false, b, true, true, true, true, false, false, true, true, false] (rdDq ⟨o.length, o⟩ (stD s a l L w i)) =
    some (hdD b o i ++ ([(decide (kD o i < 5), true), (refB a (tmD b w (xO o i)) (xO o i).2.2.1, true), (pB (L.length = L.length ∧ L.length ≤ 99999), true), (badP L.length L (tmD b w (xO o i)) (xO o i).2.2.1, true), ((1 : Int) != 1, false), ((1 : Int) == 0, false)] ++ tlD s (tmD b w (xO o i)) l L),
      (.normal, FDq ⟨o.length, o⟩ (stD s a l L (nwD w (xO o i)) (wI (i + 1))))) := by cases b <;> kernel_rfl
theorem wayS1 (b : Bool) (o : List O5) (s a : Int) (l L : List Stp) (w i : Int) : T.path [true, true, true, false, b, false, true, false, false, false, true, true, false] (rdDq ⟨o.length, o⟩ (stD s a l L w i)) =
    some (hdD b o i ++ ([(decide (kD o i < 5), false), (kD o i == 7, true), (!(inS (xO o i).2.1), false), (outS (xO o i).2.1, false), ((0 : Int) != 0, false)] ++ tlD (xO o i).2.1 (tmD b w (xO o i)) l L),
      (.normal, FDq ⟨o.length, o⟩ (stD (xO o i).2.1 a l L (nwD w (xO o i)) (wI (i + 1))))) := by cases b <;> kernel_rfl
theorem wayS0 (b : Bool) (o : List O5) (s a : Int) (l L : List Stp) (w i : Int) : T.path [true, true, true, false, b, false, true, true, true, false, true, true, false] (rdDq ⟨o.length, o⟩ (stD s a l L w i)) =
    some (hdD b o i ++ ([(decide (kD o i < 5), false), (kD o i == 7, true), (!(inS (xO o i).2.1), true), (outS (xO o i).2.1, true), ((1 : Int) != 1, false)] ++ tlD s (tmD b w (xO o i)) l L),
      (.normal, FDq ⟨o.length, o⟩ (stD s a l L (nwD w (xO o i)) (wI (i + 1))))) := by cases b <;> kernel_rfl
theorem wayN (b : Bool) (o : List O5) (s a : Int) (l L : List Stp) (w i : Int) : T.path [true, true, true, false, b, false, false, true, true, false] (rdDq ⟨o.length, o⟩ (stD s a l L w i)) =
    some (hdD b o i ++ ([(decide (kD o i < 5), false), (kD o i == 7, false)] ++ tlD s (tmD b w (xO o i)) l L),
      (.normal, FDq ⟨o.length, o⟩ (stD s a l L (nwD w (xO o i)) (wI (i + 1))))) := by cases b <;> kernel_rfl
theorem wayDx (p : PDq) (a : ADq) : T.path [false] (rdDq p a) = some ([(decide (a.i < (p.k : Int)), false)], (.exit 0, FDq p a)) := by kernel_rfl
def okDq (p : PDq) (a : ADq) : Prop := ∃ (o : List O5) (s la : Int) (l L : List Stp) (w i : Int), p = ⟨o.length, o⟩ ∧ a = stD s la l L w i ∧ BothL s la l.length l L i.toNat ∧ 0 ≤ i ∧ i ≤ o.length ∧ o.length ≤ 120 ∧ 0 ≤ w ∧ w ≤ 1099511627776 ∧ ∀ x ∈ o, x.2.2.2.2 ≤ 9223372036854775807
def goDq (p : PDq) (a : ADq) : Bool := decide (a.i < (p.k : Int))
def muDq (p : PDq) (a : ADq) : Nat := (p.k - a.i).toNat
theorem mx0_bd {t : Int} (h : t ≤ 9223372036854775807) : 0 ≤ mx0 t ∧ mx0 t ≤ 9223372036854775807 := by unfold mx0; split <;> omega
theorem neI (z : Int) : (z != z) = false := by simp
theorem BothL.tl {s a : Int} {l L : List Stp} {m : Nat} (h : BothL s a l.length l L m) (hm : m ≤ 1000) {t : Int} (ht : t ≤ 9223372036854775807) : allSay (tlD s t l L) := by
  have hl := h.h.ln
  have hmm := h.m
  obtain ⟨b1, b2⟩ := mx0_bd ht
  refine ⟨pB_is ⟨rfl, by omega, h.s0, h.s1, b1, b2⟩, pB_is ⟨rfl, by omega, h.s0, h.s1, fun x hx => ⟨?_, h.h.W x hx⟩⟩, ?_, trivial⟩
  · have := h.h.T x hx
    have := h.h.a1
    omega
  · show (fS (thr (mx0 t) s) l != mS (frD L (cpM t) s) L) = false
    rw [h.most (by omega) t]; exact neI _
theorem outS_in {x : Int} : outS x = !(inS x) := by
  unfold outS inS
  by_cases h1 : x < 0
  · rw [decide_eq_true h1, decide_eq_false (show ¬ 0 ≤ x by omega)]; rfl
  · rw [decide_eq_false h1, decide_eq_true (show 0 ≤ x by omega)]
    by_cases h2 : 600 < x
    · rw [decide_eq_true h2]; show true = !(decide (x ≤ 600)); rw [decide_eq_false (by omega)]; rfl
    · rw [decide_eq_false h2]; show false = !(decide (x ≤ 600)); rw [decide_eq_true (by omega)]; rfl
theorem stepDq (p : PDq) (a : ADq) (h : okDq p a) (hg : goDq p a = true) : ∃ b, stepC okDq rdDq FDq muDq p a b := by
  obtain ⟨o, s, la, l, L, w, i, rfl, rfl, hB, i0, i1, i2, w0, w1, hT⟩ := h
  have hg0 : decide (i < (o.length : Int)) = true := hg
  have hi := of_decide_eq_true hg0
  have hw : wI (i + 1) = i + 1 := wrap64_in (by omega) (by omega)
  obtain ⟨x1, x2⟩ := idR_is (g := o) (k := o.length) (i := i) rfl i0 hi
  have hx : xO o i ∈ o := by
    unfold xO
    rw [Nat.zero_add, List.getD_eq_getElem?_getD, List.getElem?_eq_getElem (by omega)]
    exact List.getElem_mem _
  have ht := hT _ hx
  have hn : 0 ≤ nwD w (xO o i) ∧ nwD w (xO o i) ≤ 1099511627776 := by
    have hm : 0 ≤ wI (Int.tmod (IntKind.wrap .u64 (xO o i).2.1) 40) ∧ wI (Int.tmod (IntKind.wrap .u64 (xO o i).2.1) 40) < 40 := Rin.modI _ (by omega) (by omega)
    unfold nwD
    rw [show wI (w + wI (Int.tmod (IntKind.wrap .u64 (xO o i).2.1) 40)) = w + wI (Int.tmod (IntKind.wrap .u64 (xO o i).2.1) 40) from wrap64_in (by omega) (by omega)]
    split <;> omega
  generalize hb : (xO o i).2.2.2.1 = b
  have hd : allSay (hdD b o i) := ⟨hg0, x1, x2, by kernel_rfl, hb, trivial⟩
  have htm : tmD b w (xO o i) ≤ 9223372036854775807 := by
    unfold tmD
    cases b
    · show nwD w (xO o i) ≤ _; omega
    · exact ht
  have mu : ∀ s' a' l' L' w', muDq ⟨o.length, o⟩ (stD s' a' l' L' w' (wI (i + 1))) < muDq ⟨o.length, o⟩ (stD s la l L w i) := by
    intro s' a' l' L' w'
    show ((o.length : Int) - wI (i + 1)).toNat < ((o.length : Int) - i).toNat
    rw [hw]; omega
  have ll := hB.h.ln
  have lm := hB.m
  have hB' : BothL s la l.length l L (wI (i + 1)).toNat := ⟨hB.h, hB.s0, hB.s1, rfl, by rw [hw]; omega⟩
  cases h5 : decide (kD o i < 5) with
  | true =>
    have hbad := hB.bad (by omega) (tmD b w (xO o i)) (xO o i).2.2.1
    cases hr : refB la (tmD b w (xO o i)) (xO o i).2.2.1 with
    | true =>
      rw [hr] at hbad
      exact ⟨_, T.path_eval (wayP0 b o s la l L w i) (allSay_append hd (allSay_append ⟨h5, hr, pB_is ⟨rfl, by omega⟩, hbad, rfl, rfl, trivial⟩ (hB.tl (by omega) htm))), ⟨o, s, la, l, L, _, _, rfl, rfl, hB', by rw [hw]; omega, by rw [hw]; omega, i2, hn.1, hn.2, hT⟩, mu _ _ _ _ _⟩
    | false =>
      rw [hr] at hbad
      obtain ⟨t0, t1, v0, v1⟩ := refB_false.1 hr
      have a0 := hB.h.a0
      have hp := hB.h.put t0 t1 v0 v1
      have hB2 : BothL s (tmD b w (xO o i)) (putL l (tmD b w (xO o i)) (xO o i).2.2.1).length (putL l (tmD b w (xO o i)) (xO o i).2.2.1) (L ++ [(tmD b w (xO o i), (xO o i).2.2.1)]) (wI (i + 1)).toNat := ⟨hp, hB.s0, hB.s1, rfl, by rw [hw, List.length_append]; show L.length + 1 ≤ _; omega⟩
      have hu : pB (okU la l.length l) = true := pB_is ⟨hB.h.dec, rfl, by omega, a0, fun x hx => ⟨hB.h.tn x hx, (hB.h.t x hx).2⟩⟩
      exact ⟨_, T.path_eval (wayP1 b o s la l L w i) (allSay_append hd (allSay_append ⟨h5, hr, hu, pB_is ⟨rfl, by omega⟩, hbad, rfl, rfl, trivial⟩ (hB2.tl (by rw [hw]; omega) htm))), ⟨o, s, _, _, _, _, _, rfl, rfl, hB2, by rw [hw]; omega, by rw [hw]; omega, i2, by omega, t1, hT⟩, mu _ _ _ _ _⟩
  | false =>
    cases h7 : (kD o i == 7) with
    | true =>
      cases hs : inS (xO o i).2.1 with
      | true =>
        have hs0 : 0 ≤ (xO o i).2.1 ∧ (xO o i).2.1 ≤ 600 := by
          unfold inS at hs
          by_cases h1 : 0 ≤ (xO o i).2.1
          · rw [decide_eq_true h1] at hs; exact ⟨h1, of_decide_eq_true hs⟩
          · rw [decide_eq_false h1] at hs; cases hs
        have hB3 : BothL (xO o i).2.1 la l.length l L (wI (i + 1)).toNat := ⟨hB.h, hs0.1, hs0.2, rfl, by rw [hw]; omega⟩
        exact ⟨_, T.path_eval (wayS1 b o s la l L w i) (allSay_append hd (allSay_append ⟨h5, h7, by rw [hs]; rfl, by rw [outS_in, hs]; rfl, rfl, trivial⟩ (hB3.tl (by rw [hw]; omega) htm))), ⟨o, _, la, l, L, _, _, rfl, rfl, hB3, by rw [hw]; omega, by rw [hw]; omega, i2, hn.1, hn.2, hT⟩, mu _ _ _ _ _⟩
      | false =>
        exact ⟨_, T.path_eval (wayS0 b o s la l L w i) (allSay_append hd (allSay_append ⟨h5, h7, by rw [hs]; rfl, by rw [outS_in, hs]; rfl, rfl, trivial⟩ (hB.tl (by omega) htm))), ⟨o, s, la, l, L, _, _, rfl, rfl, hB', by rw [hw]; omega, by rw [hw]; omega, i2, hn.1, hn.2, hT⟩, mu _ _ _ _ _⟩
    | false =>
      exact ⟨_, T.path_eval (wayN b o s la l L w i) (allSay_append hd (allSay_append ⟨h5, h7, trivial⟩ (hB.tl (by omega) htm))), ⟨o, s, la, l, L, _, _, rfl, rfl, hB', by rw [hw]; omega, by rw [hw]; omega, i2, hn.1, hn.2, hT⟩, mu _ _ _ _ _⟩
theorem exDq (p : PDq) (a : ADq) (h : okDq p a) (hg : goDq p a = false) : (rdDq p a).eval = some (.exit 0, FDq p a) := T.path_eval (wayDx p a) ⟨hg, trivial⟩
noncomputable def famDq : LSpec := famC [1,5,6,7,8] SDq 2000 2010 96 decDq okDq goDq rdDq FDq muDq (.exit 0)
theorem lpDq_ok : LoopOk DP lpDq famDq := famC_ok (vs := vsDq) (bs := bsDq) DP_ok mixed (noLoops_ok _) decDq_ok (by simp) (fun _ _ => rfl) (fun _ _ => rfl) stepDq exDq
noncomputable def dplR (s : Int) (l : List O5) : T V := execS DP (byReg [(rgDq, famDq)]) 10 [iv s, .orow 75 KO5 l]
theorem dpl_0 (s : Int) (l : List O5) : T.path [true, true] (T.anon (dplR s l)) = some ([(!(inS s), true), (outS s, true)], .tt) := by kernel_rfl
theorem dpl_1 (s : Int) (l : List O5) : T.path [false, false, true] (T.anon (dplR s l)) = some ([(!(inS s), false), (outS s, false), (decide (120 < (l.length : Int)), true)], .tt) := by kernel_rfl
theorem dpl_2 (s : Int) (l : List O5) : T.path [false, false, false, true] (T.anon (dplR s l)) = some ([(!(inS s), false), (outS s, false), (decide (120 < (l.length : Int)), false), (invC okDq ⟨l.length, l⟩ (stD s 0 [] [] 0 0), true)], .tt) := by kernel_rfl
theorem dpl_run (s : Int) (l : List O5) (wf : ∀ x ∈ l, Law.GoodRow KO5 x) : (dplR s l).eval = some .tt := by
  rw [← T.eval_anon (t := dplR s l)]
  cases hs : inS s with
  | false => exact T.path_eval (dpl_0 s l) ⟨by rw [hs]; rfl, by rw [outS_in, hs]; rfl, trivial⟩
  | true =>
    have hs0 : 0 ≤ s ∧ s ≤ 600 := by
      unfold inS at hs
      by_cases h1 : 0 ≤ s
      · rw [decide_eq_true h1] at hs; exact ⟨h1, of_decide_eq_true hs⟩
      · rw [decide_eq_false h1] at hs; cases hs
    by_cases hl : 120 < (l.length : Int)
    · exact T.path_eval (dpl_1 s l) ⟨by rw [hs]; rfl, by rw [outS_in, hs]; rfl, decide_eq_true hl, trivial⟩
    · have hT : ∀ x ∈ l, x.2.2.2.2 ≤ 9223372036854775807 := fun x hx => (wf64 ((wf x hx) (.int .i64 x.2.2.2.2) (.tail _ (.tail _ (.tail _ (.tail _ (.head _))))))).2
      have h0 : okDq ⟨l.length, l⟩ (stD s 0 [] [] 0 0) := ⟨l, s, 0, [], [], 0, 0, rfl, rfl, ⟨Holds.new, hs0.1, hs0.2, rfl, Nat.zero_le _⟩, Int.le_refl _, by omega, by omega, Int.le_refl _, by omega, hT⟩
      exact T.path_eval (dpl_2 s l) ⟨by rw [hs]; rfl, by rw [outS_in, hs]; rfl, decide_eq_false hl, invC_is h0, trivial⟩
theorem dpl_walk (s : Int) (_ : (Lit.int .i64 s).wf = true) (l : List O5) (_ : l.length ≤ maxLen) (wf : ∀ x ∈ l, Law.GoodRow KO5 x) (x : Value) (W : World) (hx : holdsP 0 W (.orow 75 KO5 l) x) :
    Calls Try.prog 10 #[.int .i64 s, x] W fun e w' => e = .returned (.bool true) ∧ Below W.heap.size W w' :=
  Law.law_rows (args := [iv s, .orow 75 KO5 l]) (xs := [.int .i64 s, x]) (execS_loops (Λ := byReg [(rgDq, famDq)]) DP_ok mixedE Try.func10 (by kernel_rfl) (by kernel_rfl) (one_lp (by kernel_rfl) rgDq_is lpDq_ok)) rfl (.inl (dpl_run s l wf)) W ⟨rfl, hx, trivial⟩
end Go.Proofs.Ytebibmioiigplaa.Dly

