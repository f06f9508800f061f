import Derived.Test.YtebibmioiigplaaGreatGT
/- Layer 11: the document's metric beside the program's: what both rings hold. -/
namespace Go.Proofs.YtebibmioiigplaaGreat.Met
open Go.Eng Go.RowKit Mil Rin
set_option linter.unusedVariables false
set_option linter.unusedSimpArgs false
set_option maxRecDepth 100000
noncomputable def DM1 : Cfg := ⟨Tryz.prog, lookG [(28, .val Conf.mayS), (60, .obj newDS), (34, .obj puS), (67, .obj reS)], [], 0⟩
theorem DM1_ok : DM1.Ok := Cfg.ok ⟨Conf.refmay_ok, newDS_ok, puS_ok, reS_ok, trivial⟩ trivial
noncomputable def dnewE : Eng.Obj := execO DM1 noLoops 29
theorem dnewE_ok : ObjOk Tryz.prog 29 dnewE := execO_plain DM1_ok Rin.mixed Tryz.func29 (by kernel_rfl) (by kernel_rfl)
noncomputable def dputE : Eng.Obj := execO DM1 noLoops 9
theorem dputE_ok : ObjOk Tryz.prog 9 dputE := execO_plain DM1_ok Rin.mixed Tryz.func9 (by kernel_rfl) (by kernel_rfl)
noncomputable def dovE : Eng.Obj := execO DM1 noLoops 16
theorem dovE_ok : ObjOk Tryz.prog 16 dovE := execO_plain DM1_ok Rin.mixed Tryz.func16 (by kernel_rfl) (by kernel_rfl)
noncomputable def DM2 : Cfg := ⟨Tryz.prog, lookG [(28, .val Conf.mayS), (60, .obj newDS), (67, .obj reS), (16, .obj dovE)], [], 0⟩
theorem DM2_ok : DM2.Ok := Cfg.ok ⟨Conf.refmay_ok, newDS_ok, reS_ok, dovE_ok, trivial⟩ trivial
noncomputable def dchE : Eng.Obj := execO DM2 noLoops 38
theorem dchE_ok : ObjOk Tryz.prog 38 dchE := execO_plain DM2_ok Rin.mixed Tryz.func38 (by kernel_rfl) (by kernel_rfl)
noncomputable def meC (z : Bool) (s : RS) (t : Int) : List (Bool × Bool) := bif z then [(decide (0 < s.n), true), (decide (t < 0), true)] else sumC s t
noncomputable def me1 (z : Bool) (s : RS) (t : Int) : Int := bif z then 0 else s.mean t
noncomputable def smR (z : Bool) (s : RS) (t : Int) : RS := bif z then s else s.sum t
noncomputable def mD (d : DS) (t : Int) : Int := mnV (smS d t) (smN d t)
def ovP (om : Bool) (s q : RS) : Bool := bif (bif om then true else bif decide (0 < (s.n : Int)) then s.ov else false) then true else bif decide (0 < (q.n : Int)) then q.ov else false
noncomputable def rdC (d : DS) (x : Int) : List (Bool × Bool) := [(badX x d.g, false), (pB (OkD x d.g d.nw d.l ∧ d.n = d.l.length), true)]
theorem neZ (z : Int) : (z != z) = false := by simp
theorem bup {s : RS} {d : DS} {m k : Nat} (b : BothR s d m) (h : m ≤ k) : BothR s d k := ⟨b.h, b.w, b.g, b.nw, b.ov, b.n, b.ok, b.inw, by have := b.len; omega⟩
def d0 (d : DS) (b : Bool) : DS := ⟨d.w, d.g, d.n, d.nw, b, d.l⟩
/-- the rings hold the same, whatever was cut -/
def RD (s : RS) (d : DS) (m : Nat) : Prop := BothR s (d0 d s.ov) m
theorem RD.mono {s : RS} {d : DS} {m : Nat} (b : RD s d m) : RD s d (m + 1) := BothR.mono b
theorem RD.n0 {s : RS} {d : DS} {m : Nat} (b : RD s d m) : decide (0 < s.n) = true := decide_eq_true b.h.rep.n0
theorem RD.put {s : RS} {d : DS} {m : Nat} (b : RD s d m) (hm : m < 10000) {t v : Int} (t0 : 0 ≤ t) (t1 : t ≤ 1099511627776) (v0 : 0 ≤ v) (v1 : v ≤ 9223372036854775807) :
    allSay (putC s t v) ∧ ∃ c, allSay (putDC d t v c) ∧ RD (s.put t v) (bif c then d else d.put t v) (m + 1) := by
  obtain ⟨c1, q⟩ := BothR.put b hm t0 t1 v0 v1
  refine ⟨c1, ?_⟩
  rcases q with ⟨_, c2, b⟩ | ⟨_, c2, b⟩
  · exact ⟨true, c2, b.mono⟩
  · exact ⟨false, c2, b⟩
theorem RD.res {s : RS} {d : DS} {m : Nat} (b : RD s d m) (hm : m < 10000) {x : Int} (x0 : d.g ≤ x) (x1 : x ≤ 600) : allSay (resC s x) ∧ allSay (rdC d x) ∧ RD (s.res x) (d.res x) m := by
  obtain ⟨c1, c2, b⟩ := BothR.res b hm x0 x1
  exact ⟨c1, ⟨badX_false.2 ⟨x0, x1⟩, pB_is c2, trivial⟩, b⟩
theorem RD.mean {s : RS} {d : DS} {m : Nat} (b : RD s d m) {t : Int} (t1 : t ≤ 9223372036854775807) :
    allSay (meC (decide (t < 0)) s t) ∧ allSay (okDC d t) ∧ me1 (decide (t < 0)) s t = mD d t ∧ RD (smR (decide (t < 0)) s t) (d.sum t) m ∧ ∃ X, (smR (decide (t < 0)) s t).ov = (s.ov || X) ∧ (d.sum t).ov = (d.ov || X) := by
  cases ht : decide (t < 0) with
  | true =>
    have ht' := of_decide_eq_true ht
    obtain ⟨c, s1, s2, b1⟩ := BothR.neg b ht'
    refine ⟨⟨b.n0, ht, trivial⟩, c, ?_, ?_, false, ?_, ?_⟩
    · show (0 : Int) = mnV (smS d t) (smN d t)
      have s1 : smS d t = 0 := s1
      have s2 : smN d t = 0 := s2
      rw [s1, s2]; rfl
    · have e : ((d0 d s.ov).sum t) = d0 (d.sum t) s.ov := by
        show d0 (d.sum t) (s.ov || decide (tpI < sv (wD d.w d.g t d.l))) = _
        rw [wD_neg (by omega), show decide (tpI < sv []) = false from rfl, Bool.or_false]
      rw [e] at b1; exact b1
    · show s.ov = _; rw [Bool.or_false]
    · show (d.ov || decide (tpI < sv (wD d.w d.g t d.l))) = _
      rw [wD_neg (by omega), show decide (tpI < sv []) = false from rfl]
  | false =>
    have ht' : 0 ≤ t := by have := of_decide_eq_false ht; omega
    obtain ⟨c1, c2, s1, s2, b1⟩ := BothR.sum b ht' t1
    have eo : (s.sum t).ov = (s.ov || decide (tpI < sv (wD d.w d.g t d.l))) := b1.ov
    refine ⟨c1, c2, ?_, ?_, _, eo, rfl⟩
    · show s.mean t = mnV (smS d t) (smN d t)
      unfold RS.mean; rw [s1, s2]; rfl
    · show BothR (s.sum t) (d0 (d.sum t) (s.sum t).ov) m
      rw [eo]; exact b1
theorem ovP_is {om : Bool} {s q : RS} (h1 : 0 < s.n) (h2 : 0 < q.n) : ovP om s q = (om || s.ov || q.ov) := by
  unfold ovP
  rw [decide_eq_true (show 0 < (s.n : Int) by omega), decide_eq_true (show 0 < (q.n : Int) by omega)]
  cases om <;> cases s.ov <;> rfl
end Go.Proofs.YtebibmioiigplaaGreat.Met

/- Layer 15: the document's delay: its calls. -/
namespace Go.Proofs.YtebibmioiigplaaGreat.Dly
open Go.Eng Go.RowKit
set_option linter.unusedVariables false
set_option linter.unusedSimpArgs false
set_option maxRecDepth 100000
theorem mixedE : Tryz.prog.follows .mixedOrders = true := Checked.mixed Tryz.checked
noncomputable def CE : Cfg := ⟨Tryz.prog, lookG [], [], 0⟩
theorem CE_ok : CE.Ok := Cfg.ok trivial trivial
noncomputable def rnewE : Eng.Obj := execO CE noLoops 30
theorem rnewE_ok : ObjOk Tryz.prog 30 rnewE := execO_plain CE_ok mixedE Tryz.func30 (by kernel_rfl) (by kernel_rfl)
noncomputable def rnewA : Eng.Obj := fun args h => (rnewE args h).bind (adoptH 24 1 105 [.int .i64, .int .i64] h)
theorem rnewA_ok : ObjOk Tryz.prog 30 rnewA := rnewE_ok.adopt 24 1 105 [.int .i64, .int .i64]
noncomputable def rputE : Eng.Obj := execO CE noLoops 48
theorem rputE_ok : ObjOk Tryz.prog 48 rputE := execO_plain CE_ok mixedE Tryz.func48 (by kernel_rfl) (by kernel_rfl)
noncomputable def rchE : Eng.Obj := execO CE noLoops 39
theorem rchE_ok : ObjOk Tryz.prog 39 rchE := execO_plain CE_ok mixedE Tryz.func39 (by kernel_rfl) (by kernel_rfl)
def ddB (s : Int) (j n : Nat) : Blk := .cells 100 [iv s, .sub j 2 0 n]
def rcB (l : List Stp) : Blk := .lst true 105 [.int .i64, .int .i64] l
def ddH (s : Int) (n : Nat) (l : List Stp) : Heap := [(0, ddB s 1 n), (1, rcB l)]
end Go.Proofs.YtebibmioiigplaaGreat.Dly

/- Layer 15: the document's Most. -/
namespace Go.Proofs.YtebibmioiigplaaGreat.Dly
open Go.Eng Go.RowKit
set_option linter.unusedVariables false
set_option linter.unusedSimpArgs false
set_option maxRecDepth 100000
noncomputable def lpRm : Code := loopAt Tryz.prog 49 0
structure PRm where (s : Int) (n : Nat) (l : List (Int × Int)) (t : Int)
structure ARm where (m : Int) (i : Int)
abbrev SRm : List (Nat × Src) := [(0, .same), (1, .same)]
def vsRm (p : PRm) (a : ARm) : List V := [.ptr 0 0, iv p.t, iv a.m, iv a.i]
def bsRm (p : PRm) (a : ARm) : List Blk := [.cells 100 [iv p.s, .sub 1 2 0 p.n], .lst true 105 [.int .i64, .int .i64] p.l]
noncomputable def FRm (p : PRm) (a : ARm) : St := mkSt [0,1,5,6] (keysR SRm) 1010 64 (vsRm p a) (bsRm p a)
noncomputable def rdRm (p : PRm) (a : ARm) : T (Ex × St) := T.anon (roundN CE noLoops lpRm [0,1,5,6] SRm 1000 1010 (mkSt [0,1,5,6] (keysR SRm) 1010 64 (vsRm p a) (bsRm p a)))
def decRm : List V → List Blk → Option (PRm × ARm)
  | [.ptr 0 0, .s (.int .i64 t), .s (.int .i64 m), .s (.int .i64 i)], [.cells tt0 [.s (.int .i64 s), .sub 1 2 0 n], .lst true tt1 [.int .i64, .int .i64] l] =>
    if tt0 = 100 then if tt1 = 105 then some (⟨s, n, l, t⟩, ⟨m, i⟩) else none else none
  | _, _ => none
theorem decRm_ok (l : List V) (b : List Blk) (d : PRm × ARm) (h : decRm l b = some d) : l = vsRm d.1 d.2 ∧ b = bsRm d.1 d.2 := by
  unfold decRm at h
  split at h
  · obtain ⟨e0, h⟩ := ite_some0 h
    obtain ⟨e1, h⟩ := ite_some0 h
    subst e0 e1
    cases h
    exact ⟨rfl, rfl⟩
  · cases h
noncomputable def rgRm : Nat := (firstReg lpRm).getD 0
theorem rgRm_is : firstReg lpRm = some rgRm := by kernel_rfl
end Go.Proofs.YtebibmioiigplaaGreat.Dly

/- Layer 15: the document's Most and Put: contracts. -/
namespace Go.Proofs.YtebibmioiigplaaGreat.Dly
open Go.Eng Go.RowKit
set_option linter.unusedVariables false
set_option linter.unusedSimpArgs false
set_option maxRecDepth 100000
def lstI (n : Nat) : Int := wI ((n : Int) - 1)
def hdRm (p : PRm) (a : ARm) : List (Bool × Bool) := [(decide (a.i < (p.n : Int)), true), (idR p.l p.n a.i, true), (ldR p.l a.i, true), (idR p.l p.n (lstI p.n), true), (ldR p.l (lstI p.n), true)]
def oldR (p : PRm) (a : ARm) : Bool := decide ((xS p.l a.i).1 < wI ((xS p.l (lstI p.n)).1 - 600))
def hitR (p : PRm) (a : ARm) : Bool := bif decide (wI (p.t - p.s) < (xS p.l a.i).1) then true else decide (p.t ≤ (xS p.l a.i).1)
theorem wayRm0 (p : PRm) (a : ARm) : T.path [true, true, true, true, true, true] (rdRm p a) = some (hdRm p a ++ [(oldR p a, true)], (.normal, FRm p ⟨a.m, wI (a.i + 1)⟩)) := by kernel_rfl
theorem wayRm1 (p : PRm) (a : ARm) : T.path [true, true, true, true, true, false, true] (rdRm p a) = some (hdRm p a ++ [(oldR p a, false), (hitR p a, true)], (.normal, FRm p ⟨if (xS p.l a.i).2 > a.m then (xS p.l a.i).2 else a.m, wI (a.i + 1)⟩)) := by kernel_rfl
theorem wayRm2 (p : PRm) (a : ARm) : T.path [true, true, true, true, true, false, false] (rdRm p a) = some (hdRm p a ++ [(oldR p a, false), (hitR p a, false)], (.normal, FRm p ⟨a.m, wI (a.i + 1)⟩)) := by kernel_rfl
theorem wayRmx (p : PRm) (a : ARm) : T.path [false] (rdRm p a) = some ([(decide (a.i < (p.n : Int)), false)], (.exit 0, FRm p a)) := by kernel_rfl
/-- from when on the document counts -/
def frD (l : List Stp) (t s : Int) : Int := max ((xS l (lstI l.length)).1 - 600) (thr t s)
structure okRm (p : PRm) (a : ARm) : Prop where
  n : p.n = p.l.length
  n1 : p.n ≤ 100001
  s0 : 0 ≤ p.s
  s1 : p.s ≤ 600
  t0 : 0 ≤ p.t
  t1 : p.t ≤ 1099511628377
  h : ∀ x ∈ p.l, (0 ≤ x.1 ∧ x.1 ≤ 1099511627776) ∧ 0 ≤ x.2 ∧ x.2 ≤ 1000000
  i0 : 0 ≤ a.i
  i1 : a.i ≤ p.n
  m : a.m = mS (frD p.l p.t p.s) (p.l.take a.i.toNat)
def goRm (p : PRm) (a : ARm) : Bool := decide (a.i < (p.n : Int))
def muRm (p : PRm) (a : ARm) : Nat := (p.n - a.i).toNat
theorem xS_mem {l : List Stp} {i : Int} (h0 : 0 ≤ i) (h1 : i < l.length) : xS l i ∈ l ∧ l[i.toNat]? = some (xS l i) := by
  have hl : i.toNat < l.length := by omega
  have e : xS l i = l[i.toNat] := by
    unfold xS
    rw [Nat.zero_add, List.getD_eq_getElem?_getD, List.getElem?_eq_getElem hl]; rfl
  rw [e]
  exact ⟨List.getElem_mem hl, List.getElem?_eq_getElem hl⟩
theorem stepRm (p : PRm) (a : ARm) (h : okRm p a) (hg : goRm p a = true) : ∃ b, stepC okRm rdRm FRm muRm p a b := by
  obtain ⟨hn, n1, s0, s1, t0, t1, hl, i0, i1, hm⟩ := h
  have hg0 := hg
  have hi : a.i < (p.n : Int) := of_decide_eq_true hg
  have hw : wI (a.i + 1) = a.i + 1 := wrap64_in (by omega) (by omega)
  have el : lstI p.n = (p.n : Int) - 1 := wrap64_in (by omega) (by omega)
  obtain ⟨x1, x2⟩ := idR_is (g := p.l) (k := p.n) (i := a.i) hn i0 hi
  obtain ⟨y1, y2⟩ := idR_is (g := p.l) (k := p.n) (i := lstI p.n) hn (by rw [el]; omega) (by rw [el]; omega)
  obtain ⟨m1, m2⟩ := xS_mem (l := p.l) (i := a.i) i0 (by omega)
  obtain ⟨l1, _⟩ := xS_mem (l := p.l) (i := lstI p.n) (by rw [el]; omega) (by rw [el]; omega)
  have b1 := hl _ m1
  have b2 := hl _ l1
  have hd : allSay (hdRm p a) := ⟨hg0, x1, x2, y1, y2, trivial⟩
  have et : (a.i + 1).toNat = a.i.toNat + 1 := by omega
  have mt : mS (frD p.l p.t p.s) (p.l.take (a.i + 1).toNat) = max a.m (vS (frD p.l p.t p.s) (xS p.l a.i)) := by
    rw [et, List.take_add_one, m2, mS_app, ← hm]
    show max a.m (max (vS _ _) 0) = _
    have := b1.2.1
    unfold vS; split <;> omega
  have w1 : wI ((xS p.l (lstI p.n)).1 - 600) = (xS p.l (lstI p.n)).1 - 600 := wrap64_in (by omega) (by omega)
  have w2 : wI (p.t - p.s) = p.t - p.s := wrap64_in (by omega) (by omega)
  have m0 : 0 ≤ a.m := by rw [hm]; exact mS_nn _ _
  have fr : frD p.l p.t p.s = max ((xS p.l (lstI p.n)).1 - 600) (min p.t (p.t - p.s + 1)) := by unfold frD thr; rw [hn]
  have mu : ∀ m', muRm p ⟨m', wI (a.i + 1)⟩ < muRm p a := by
    intro m'
    show ((p.n : Int) - wI (a.i + 1)).toNat < ((p.n : Int) - a.i).toNat
    rw [hw]; omega
  have fin : ∀ m', m' = max a.m (vS (frD p.l p.t p.s) (xS p.l a.i)) → okRm p ⟨m', wI (a.i + 1)⟩ := by
    intro m' e
    refine ⟨hn, n1, s0, s1, t0, t1, hl, ?_, ?_, ?_⟩
    · show 0 ≤ wI (a.i + 1); rw [hw]; omega
    · show wI (a.i + 1) ≤ p.n; rw [hw]; omega
    · show m' = mS _ (p.l.take (wI (a.i + 1)).toNat); rw [hw, mt, e]
  cases ho : oldR p a with
  | true =>
    have ho' := of_decide_eq_true ho
    rw [w1] at ho'
    refine ⟨_, T.path_eval (wayRm0 p a) (allSay_append hd ⟨ho, trivial⟩), fin _ ?_, mu _⟩
    unfold vS; rw [if_neg (by rw [fr]; omega)]; omega
  | false =>
    have ho' : ¬ (xS p.l a.i).1 < wI ((xS p.l (lstI p.n)).1 - 600) := of_decide_eq_false ho
    rw [w1] at ho'
    cases hh : hitR p a with
    | true =>
      have hx : p.t - p.s < (xS p.l a.i).1 ∨ p.t ≤ (xS p.l a.i).1 := by
        unfold hitR at hh
        rw [w2] at hh
        by_cases q : p.t - p.s < (xS p.l a.i).1
        · exact .inl q
        · rw [decide_eq_false q] at hh; exact .inr (of_decide_eq_true hh)
      refine ⟨_, T.path_eval (wayRm1 p a) (allSay_append hd ⟨ho, hh, trivial⟩), fin _ ?_, mu _⟩
      have ev : vS (frD p.l p.t p.s) (xS p.l a.i) = (xS p.l a.i).2 := if_pos (by rw [fr]; omega)
      rw [ev]
      split <;> omega
    | false =>
      have hx : ¬ (p.t - p.s < (xS p.l a.i).1 ∨ p.t ≤ (xS p.l a.i).1) := by
        unfold hitR at hh
        rw [w2] at hh
        intro hx
        by_cases q : p.t - p.s < (xS p.l a.i).1
        · rw [decide_eq_true q] at hh; cases hh
        · rw [decide_eq_false q] at hh
          have := of_decide_eq_false hh
          omega
      refine ⟨_, T.path_eval (wayRm2 p a) (allSay_append hd ⟨ho, hh, trivial⟩), fin _ ?_, mu _⟩
      unfold vS; rw [if_neg (by rw [fr]; omega)]; omega
theorem exRm (p : PRm) (a : ARm) (h : okRm p a) (hg : goRm p a = false) : (rdRm p a).eval = some (.exit 0, FRm p a) := T.path_eval (wayRmx p a) ⟨hg, trivial⟩
noncomputable def famRm : LSpec := famC [0,1,5,6] SRm 1000 1010 64 decRm okRm goRm rdRm FRm muRm (.exit 0)
theorem lpRm_ok : LoopOk CE lpRm famRm := famC_ok (vs := vsRm) (bs := bsRm) CE_ok mixed (noLoops_ok _) decRm_ok (by simp) (fun _ _ => rfl) (fun _ _ => rfl) stepRm exRm
noncomputable def rmosE : Eng.Obj := execO CE (byReg [(rgRm, famRm)]) 49
theorem rmosE_ok : ObjOk Tryz.prog 49 rmosE := execO_loops CE_ok mixedE Tryz.func49 (by kernel_rfl) (by kernel_rfl) (one_lp (by kernel_rfl) rgRm_is lpRm_ok)
end Go.Proofs.YtebibmioiigplaaGreat.Dly

/- Layer 15: the document's delay beside the program's. -/
namespace Go.Proofs.YtebibmioiigplaaGreat.Dly
open Go.Eng Go.RowKit
set_option linter.unusedVariables false
set_option linter.unusedSimpArgs false
set_option maxRecDepth 100000
def cpM (t : Int) : Int := if 1099511628377 < (if 0 > t then 0 else t) then 1099511628377 else (if 0 > t then 0 else t)
def okMs (s : Int) (n : Nat) (l : List Stp) : Prop := n = l.length ∧ n ≤ 100001 ∧ 0 ≤ s ∧ s ≤ 600 ∧ ∀ x ∈ l, (0 ≤ x.1 ∧ x.1 ≤ 1099511627776) ∧ 0 ≤ x.2 ∧ x.2 ≤ 1000000
noncomputable def rmosT (s t : Int) (n : Nat) (l : List Stp) : T (V × Heap) := .ite none (pB (okMs s n l)) (.ret (iv (mS (frD l (cpM t) s) l), ddH s n l)) .fail
noncomputable def rmosS : Eng.Obj
  | [.ptr 0 0, .s (.int .i64 t)], [(0, .cells 100 [.s (.int .i64 s), .sub 1 2 0 n]), (1, .lst true 105 [.int .i64, .int .i64] l)] => rmosT s t n l
  | _, _ => .fail
noncomputable def eRm (s t : Int) (n : Nat) (l : List Stp) : ARm := endW (nxtC okRm goRm rdRm FRm muRm ⟨s, n, l, cpM t⟩) ⟨0, 0⟩
theorem rmos_w (s t : Int) (n : Nat) (l : List Stp) : T.path [true] (T.anon (rmosE [.ptr 0 0, iv t] (ddH s n l))) = some ([(invC okRm ⟨s, n, l, cpM t⟩ ⟨0, 0⟩, true)], (iv (eRm s t n l).m, ddH s n l)) := by kernel_rfl
theorem rmos_run (s t : Int) (n : Nat) (l : List Stp) (r : V × Heap) (hv : (rmosT s t n l).eval = some r) : (rmosE [.ptr 0 0, iv t] (ddH s n l)).eval = some r := by
  unfold rmosT at hv
  obtain ⟨hc, hv⟩ := ite_some hv
  obtain rfl := Option.some.inj hv
  obtain ⟨hn, n1, s0, s1, hl⟩ := pB_ok hc
  have h0 : okRm ⟨s, n, l, cpM t⟩ ⟨0, 0⟩ := ⟨hn, n1, s0, s1, by show 0 ≤ cpM t; unfold cpM; split <;> (try split) <;> omega, by show cpM t ≤ 1099511628377; unfold cpM; split <;> (try split) <;> omega, hl, Int.le_refl _, by show (0 : Int) ≤ n; omega, rfl⟩
  obtain ⟨k1, k2⟩ := endC stepRm h0
  have k1 : okRm ⟨s, n, l, cpM t⟩ (eRm s t n l) := k1
  have k2 : decide ((eRm s t n l).i < (n : Int)) = false := k2
  have k2 := of_decide_eq_false k2
  have i1 : (eRm s t n l).i ≤ (n : Int) := k1.i1
  have e : (eRm s t n l).m = mS (frD l (cpM t) s) l := by
    have hlen : l.length ≤ (eRm s t n l).i.toNat := by omega
    rw [k1.m]
    show mS _ (l.take (eRm s t n l).i.toNat) = _
    rw [List.take_of_length_le hlen]
  rw [← T.eval_anon (t := rmosE _ _)]
  have w := rmos_w s t n l
  rw [e] at w
  exact T.path_eval w ⟨invC_is h0, trivial⟩
theorem rmosS_ok : ObjOk Tryz.prog 49 rmosS := rmosE_ok.of_eval fun args h r hv => by
  unfold rmosS at hv
  split at hv
  · rename_i t s n l
    exact rmos_run s t n l r hv
  · cases hv
def rgP (t w : Int) : Bool := bif bif bif decide (t < 0) then true else decide (1099511627776 < t) then true else decide (w < 0) then true else decide (1000000 < w)
def badP (n : Nat) (l : List Stp) (t w : Int) : Bool := bif rgP t w then true else (bif decide (0 < (n : Int)) then decide (t < (xS l (lstI n)).1) else false)
noncomputable def rputT (s t w : Int) (n : Nat) (l : List Stp) : T (V × Heap) := .ite none (pB (n = l.length ∧ n ≤ 99999)) (.ite none (badP n l t w) (.ret (iv 1, ddH s n l)) (.ret (iv 0, [(0, ddB s 322 (l ++ [(t, w)]).length), (322, rcB (l ++ [(t, w)]))]))) .fail
noncomputable def rputS : Eng.Obj
  | [.ptr 0 0, .s (.int .i64 t), .s (.int .i64 w)], [(0, .cells 100 [.s (.int .i64 s), .sub 1 2 0 n]), (1, .lst true 105 [.int .i64, .int .i64] l)] => rputT s t w n l
  | _, _ => .fail
def puG (n : Nat) (l : List Stp) (t w : Int) : List (Bool × Bool) := [((bif rgP t w == false && (decide (0 < (n : Int)) == true && true) then idR l n (lstI n) else true), true), ((bif rgP t w == false && (decide (0 < (n : Int)) == true && true) then ldR l (lstI n) else true), true)]
theorem rput_w1 (s t w : Int) (n : Nat) (l : List Stp) : T.path [true, true, true] (T.anon (rputE [.ptr 0 0, iv t, iv w] (ddH s n l))) = some (puG n l t w ++ [(badP n l t w, true)], (iv 1, ddH s n l)) := by kernel_rfl
theorem rput_w0 (s t w : Int) (n : Nat) (l : List Stp) : T.path [true, true, false, true] (T.anon (rputE [.ptr 0 0, iv t, iv w] (ddH s n l))) = some (puG n l t w ++ [(badP n l t w, false), (true && (decide (n ≤ l.length) && decide (n + [(t, w)].length ≤ 1000000)), true)], (iv 0, [(0, ddB s 322 (n + [(t, w)].length)), (322, rcB (List.take n l ++ [(t, w)]))])) := by kernel_rfl
theorem rput_run (s t w : Int) (n : Nat) (l : List Stp) (r : V × Heap) (hv : (rputT s t w n l).eval = some r) : (rputE [.ptr 0 0, iv t, iv w] (ddH s n l)).eval = some r := by
  unfold rputT at hv
  obtain ⟨hc, hv⟩ := ite_some hv
  obtain ⟨hn, n1⟩ := pB_ok hc
  rw [← T.eval_anon (t := rputE _ _)]
  have hg : allSay (puG n l t w) := by
    by_cases hz : 0 < n
    · have el : lstI n = (n : Int) - 1 := wrap64_in (by omega) (by omega)
      obtain ⟨y1, y2⟩ := idR_is (g := l) (k := n) (i := lstI n) hn (by rw [el]; omega) (by rw [el]; omega)
      refine ⟨?_, ?_, trivial⟩
      · rw [y1]; cases (rgP t w == false && (decide (0 < (n : Int)) == true && true)) <;> rfl
      · rw [y2]; cases (rgP t w == false && (decide (0 < (n : Int)) == true && true)) <;> rfl
    · have e : decide (0 < (n : Int)) = false := decide_eq_false (by omega)
      refine ⟨?_, ?_, trivial⟩
      · rw [e]; simp
      · rw [e]; simp
  cases hb : badP n l t w with
  | true =>
    rw [hb] at hv
    obtain rfl := Option.some.inj hv
    exact T.path_eval (rput_w1 s t w n l) (allSay_append hg ⟨hb, trivial⟩)
  | false =>
    rw [hb] at hv
    obtain rfl := Option.some.inj hv
    have ww := rput_w0 s t w n l
    subst hn
    rw [List.take_length] at ww
    rw [List.length_append]
    refine T.path_eval ww (allSay_append hg ⟨hb, ?_, trivial⟩)
    rw [decide_eq_true (Nat.le_refl _), decide_eq_true (show l.length + [(t, w)].length ≤ 1000000 by show l.length + 1 ≤ 1000000; omega)]; rfl
theorem rputS_ok : ObjOk Tryz.prog 48 rputS := rputE_ok.of_eval fun args h r hv => by
  unfold rputS at hv
  split at hv
  · rename_i t w s n l
    exact rput_run s t w n l r hv
  · cases hv
/-- the program's steps beside all that was put -/
structure BothL (s a : Int) (n : Nat) (l L : List Stp) (m : Nat) : Prop where
  h : Holds a l L
  s0 : 0 ≤ s
  s1 : s ≤ 600
  n : n = l.length
  m : L.length ≤ m
theorem last_is {a : Int} {l L : List Stp} (h : Holds a l L) (hz : L ≠ []) (h1 : L.length ≤ 100001) : (xS L (lstI L.length)).1 = a := by
  have hp : 0 < L.length := List.length_pos_iff.2 hz
  have el : lstI L.length = (L.length : Int) - 1 := wrap64_in (by omega) (by omega)
  obtain ⟨_, e⟩ := xS_mem (l := L) (i := lstI L.length) (by rw [el]; omega) (by rw [el]; omega)
  refine h.la _ ?_
  rw [List.getLast?_eq_getElem?, ← e, el]
  congr 1
  omega
theorem bool_eq {x y : Bool} (h : x = false ↔ y = false) : x = y := by
  cases x <;> cases y <;> simp at h <;> rfl
theorem BothL.bad {s a : Int} {n m : Nat} {l L : List Stp} (h : BothL s a n l L m) (hm : m ≤ 100001) (t w : Int) : badP L.length L t w = refB a t w := by
  have a0 := h.h.a0
  have hmm := h.m
  refine bool_eq ?_
  rw [refB_false]
  unfold badP rgP
  by_cases hz : L = []
  · have ha := h.h.e hz
    subst hz
    simp
    omega
  · have e := last_is h.h hz (by omega)
    have hp : 0 < L.length := List.length_pos_iff.2 hz
    rw [e, decide_eq_true (show (0 : Int) < (L.length : Int) by omega)]
    simp
    omega
theorem BothL.most {s a : Int} {n m : Nat} {l L : List Stp} (h : BothL s a n l L m) (hm : m ≤ 100001) (t : Int) : mS (frD L (cpM t) s) L = fS (thr (mx0 t) s) l := by
  rw [fS_mS _ h.h.dec]
  have hmm := h.m
  have s0 := h.s0
  have s1 := h.s1
  by_cases hz : L = []
  · have hl := h.h.ln
    subst hz
    have : l = [] := List.length_eq_zero_iff.1 (by have : l.length ≤ 0 := hl; omega)
    subst this; rfl
  · have e := last_is h.h hz (by omega)
    have a1 := h.h.a1
    have e1 : mS (thr (mx0 t) s) l = mS (max (a - 600) (thr (mx0 t) s)) l := mS_raise fun x hx => (h.h.t x hx).1
    rw [e1, h.h.m _ (by omega)]
    unfold frD
    rw [e]
    by_cases q : mx0 t ≤ 1099511628377
    · have : cpM t = mx0 t := by unfold cpM mx0 at *; split <;> omega
      rw [this]
    · have q1 : cpM t = 1099511628377 := by unfold cpM mx0 at *; split <;> omega
      rw [q1, mS_out fun x hx => by have := (h.h.T x hx).2; unfold thr; omega, mS_out fun x hx => by have := (h.h.T x hx).2; unfold thr; omega]
end Go.Proofs.YtebibmioiigplaaGreat.Dly

/- Layer 17: the document's decider, run by the machine. -/
namespace Go.Proofs.YtebibmioiigplaaGreat.Dec
open Go.Eng Go.RowKit Mil Rin
set_option linter.unusedVariables false
set_option linter.unusedSimpArgs false
set_option maxRecDepth 100000
noncomputable def DX : Cfg := ⟨Tryz.prog, lookG [(42, .obj meS), (43, .val Conf.ofS), (45, .val Conf.overS), (46, .val Conf.limitS2), (44, .val Conf.rnextS), (47, .val Conf.isS), (50, .val Conf.keepS), (48, .obj Dly.rputS), (49, .obj Dly.rmosS), (40, .val Conf.mostS), (51, .val Conf.excS)], EB, 0⟩
theorem DX_ok : DX.Ok := Cfg.ok ⟨meS_ok, Conf.refof_ok, Conf.refover_ok, Conf.reflimit_ok, Conf.refnext_ok, Conf.refis_ok, Conf.refkeep_ok, Dly.rputS_ok, Dly.rmosS_ok, Conf.refmost_ok, Conf.refexc_ok, trivial⟩ EB_ok
noncomputable def rnexE : Eng.Obj := execO DX noLoops 13
theorem rnexE_ok : ObjOk Tryz.prog 13 rnexE := execO_plain DX_ok mixed Tryz.func13 (by kernel_rfl) (by kernel_rfl)
noncomputable def DY : Cfg := ⟨Tryz.prog, lookG [(28, .val Conf.mayS), (29, .obj Met.dnewE), (30, .obj Dly.rnewA), (40, .val Conf.mostS), (38, .obj Met.dchE), (39, .obj Dly.rchE)], EB, 0⟩
theorem DY_ok : DY.Ok := Cfg.ok ⟨Conf.refmay_ok, Met.dnewE_ok, Dly.rnewA_ok, Conf.refmost_ok, Met.dchE_ok, Dly.rchE_ok, trivial⟩ EB_ok
noncomputable def rndE : Eng.Obj := execO DY noLoops 6
theorem rndE_ok : ObjOk Tryz.prog 6 rndE := execO_plain DY_ok mixed Tryz.func6 (by kernel_rfl) (by kernel_rfl)
noncomputable def rdcE : Eng.Obj := execO DY noLoops 11
theorem rdcE_ok : ObjOk Tryz.prog 11 rdcE := execO_plain DY_ok mixed Tryz.func11 (by kernel_rfl) (by kernel_rfl)
/-- the document's decider -/
structure DdS where
  c : Conf.Cf
  d : DS
  e : DS
  si : Int
  mo : Int
  sp : Int
  L : List Dly.Stp
  la : Int
def ddcB (d : DdS) (i j : Nat) : Blk := .cells 40 (cfL d.c ++ [.ptr i 0, Eng.iv d.si, Eng.iv d.mo, .ptr j 0, Eng.iv d.la])
def dsB (d : DS) (j : Nat) : Blk := .cells 82 [Eng.iv d.w, Eng.iv d.g, .sub j 2 0 d.n, Eng.iv d.nw, Eng.bv d.ov]
def dmB (i j : Nat) : Blk := .cells 65 [.ptr i 0, .ptr j 0]
def ddcH (d : DdS) : Heap := [(0, ddcB d 1 2), (1, dmB 3 4), (2, Dly.ddB d.sp 5 d.L.length), (3, dsB d.d 6), (4, dsB d.e 7), (5, Dly.rcB d.L), (6, Dly.rcB d.d.l), (7, Dly.rcB d.e.l)]
end Go.Proofs.YtebibmioiigplaaGreat.Dec

/- Layer 17: the document's Next, in numbers. -/
namespace Go.Proofs.YtebibmioiigplaaGreat.Dec
open Go.Eng Go.RowKit Mil Rin
set_option linter.unusedVariables false
set_option linter.unusedSimpArgs false
set_option maxRecDepth 100000
noncomputable def rxS (d : DdS) (t : Int) : Int := Met.mD d.d t
noncomputable def rxQ (d : DdS) (t : Int) : Int := Met.mD d.e t
noncomputable def rxM (d : DdS) (t r : Int) : Conf.Md := Conf.nextA d.c ⟨d.si, d.mo⟩ t (Conf.overC d.c (Conf.ofC d.c (rxQ d t)) r)
noncomputable def rxN (b : Bool) (d : DdS) (t r : Int) : Int := bif b then (if Conf.limitR d.c (Conf.ofC d.c (rxQ d t)) r > Conf.limitR d.c (Conf.ofC d.c (rxS d t)) r then Conf.limitR d.c (Conf.ofC d.c (rxQ d t)) r else Conf.limitR d.c (Conf.ofC d.c (rxS d t)) r) else Conf.limitR d.c (Conf.ofC d.c (rxS d t)) r
noncomputable def rxL (b : Bool) (d : DdS) (t r : Int) : List Dly.Stp := d.L ++ [(t, rxN b d t r)]
noncomputable def rxF (b : Bool) (d : DdS) (t r : Int) : Int := Dly.mS (Dly.frD (rxL b d t r) (Dly.cpM t) d.sp) (rxL b d t r)
noncomputable def rxK (b : Bool) (d : DdS) (t r : Int) : Conf.Md := Conf.keepA ⟨(rxM d t r).since, (rxM d t r).most⟩ (rxF b d t r)
noncomputable def rxW (b : Bool) (d : DdS) (t r : Int) : Int := boundI d.c (Conf.keepW ⟨(rxM d t r).since, (rxM d t r).most⟩ (rxF b d t r))
noncomputable def rxD (b : Bool) (d : DdS) (t r : Int) : DdS := ⟨d.c, d.d.sum t, d.e.sum t, (rxK b d t r).since, (rxK b d t r).most, d.sp, rxL b d t r, t⟩
noncomputable def rxV (b : Bool) (d : DdS) (t r : Int) : V := dcsV t (rxS d t) (rxQ d t) (rxW b d t r) (decide (0 ≤ (rxK b d t r).since)) (Conf.excB d.c r (rxQ d t))
def badR17 (d : DdS) (t r : Int) : Bool := bif bif bif decide (t < d.la) then true else decide (1099511627776 < t) then true else decide (r < 0) then true else decide (100 < r)
end Go.Proofs.YtebibmioiigplaaGreat.Dec

/- Layer 17: the document's Next: its way. -/
namespace Go.Proofs.YtebibmioiigplaaGreat.Dec
open Go.Eng Go.RowKit Mil Rin
set_option linter.unusedVariables false
set_option linter.unusedSimpArgs false
set_option maxRecDepth 100000
/-- behind Next: the rows of the delay are new -/
def ddcR (d : DdS) : Heap := [(0, ddcB d 1 2), (1, dmB 3 4), (2, Dly.ddB d.sp 528 d.L.length), (3, dsB d.d 6), (4, dsB d.e 7), (6, Dly.rcB d.d.l), (7, Dly.rcB d.e.l), (528, Dly.rcB d.L)]
noncomputable def rxC (b : Bool) (d : DdS) (t r : Int) : List (Bool × Bool) := [(badR17 d t r, false)] ++ (okDC d.d t ++ (okDC d.e t ++ ([(Conf.inC d.c && Mil.inR (rxS d t), true), (Conf.inC d.c && Mil.inR (rxQ d t), true), (Conf.inC d.c, true), (Mil.inR d.si && Mil.inR t, true), (true, true), (decide (0 ≤ (rxM d t r).since), b)] ++
  ((bif b then [(true, true)] else []) ++ [(Dly.pB (d.L.length = d.L.length ∧ d.L.length ≤ 99999), true), (Dly.badP d.L.length d.L t (rxN b d t r), false), (Dly.pB (Dly.okMs d.sp (rxL b d t r).length (rxL b d t r)), true), (Mil.inR (rxQ d t), true)]))))
theorem rnex_w (b : Bool) (d : DdS) (t r : Int) : T.path ([false, true, true, true, true, true, true, true, b] ++ ((bif b then [true] else []) ++ [true, false, true, true])) (T.anon (rnexE [.ptr 0 0, Eng.iv t, Eng.iv r] (ddcH d))) = some (rxC b d t r, (.tup [rxV b d t r, Eng.iv 0], ddcR (rxD b d t r))) := by cases b <;> kernel_rfl
theorem rnex_0 (d : DdS) (t r : Int) : T.path [true] (T.anon (rnexE [.ptr 0 0, Eng.iv t, Eng.iv r] (ddcH d))) = some ([(badR17 d t r, true)], (.tup [.agg [Eng.iv 0, Eng.iv 0, Eng.iv 0, Eng.iv 0, .ff, Eng.iv 0], Eng.iv 1], ddcH d)) := by kernel_rfl
end Go.Proofs.YtebibmioiigplaaGreat.Dec

/- Layer 17: the document's decider beside the program's. -/
namespace Go.Proofs.YtebibmioiigplaaGreat.Dec
open Go.Eng Go.RowKit Mil Rin
set_option linter.unusedVariables false
set_option linter.unusedSimpArgs false
set_option maxRecDepth 100000
structure PairD (d : DcS) (dd : DdS) (m : Nat) : Prop where
  c : dd.c = d.c
  si : dd.si = d.si
  mo : dd.mo = d.mo
  la : dd.la = d.la
  sp : dd.sp = d.sp
  s : Met.RD d.s dd.d m
  q : Met.RD d.q dd.e m
  b : Dly.BothL d.sp d.a d.n d.l dd.L m
noncomputable def DdS.put (c1 c2 : Bool) (d : DdS) (t v : Int) : DdS := ⟨d.c, bif c1 then d.d else d.d.put t v, bif c2 then d.e else d.e.put t v, d.si, d.mo, d.sp, d.L, d.la⟩
theorem BothL_mono {s a : Int} {n m k : Nat} {l L : List Dly.Stp} (h : Dly.BothL s a n l L m) (hk : m ≤ k) : Dly.BothL s a n l L k := ⟨h.h, h.s0, h.s1, h.n, by have := h.m; omega⟩
theorem PairD.put {d : DcS} {dd : DdS} {m : Nat} (h : PairD d dd m) (hm : m < 10000) {t v : Int} (t0 : 0 ≤ t) (t1 : t ≤ 1099511627776) (v0 : 0 ≤ v) (v1 : v ≤ 9223372036854775807) :
    ∃ c1 c2, allSay (putDC dd.d t v c1) ∧ allSay (putDC dd.e t v c2) ∧ PairD (d.put t v) (dd.put c1 c2 t v) (m + 1) := by
  obtain ⟨_, c1, a1, a2⟩ := h.s.put hm t0 t1 v0 v1
  obtain ⟨_, c2, b1, b2⟩ := h.q.put hm t0 t1 v0 v1
  exact ⟨c1, c2, a1, b1, ⟨h.c, h.si, h.mo, h.la, h.sp, a2, b2, BothL_mono h.b (by omega)⟩⟩
theorem PairD.next {d : DcS} {dd : DdS} {m k : Nat} (h : PairD d dd m) (hm : m ≤ 20000) (hg : DcG d k) {t r : Int} (hl : d.la ≤ t) (t1 : t ≤ 1099511627776) (r0 : 0 ≤ r) (r1 : r ≤ 100) :
    ∃ b, allSay (rxC b dd t r) ∧ b = decide (0 ≤ (nxM d t r).since) ∧ rxV b dd t r = nxV b d t r ∧ PairD (nxD b d t r) (rxD b dd t r) (m + 1) := by
  have la := hg.la
  have al := hg.al
  have ht : decide (t < 0) = false := decide_eq_false (by omega)
  obtain ⟨_, x2, x3, x4, _⟩ := h.s.mean (t := t) (by omega)
  obtain ⟨_, y2, y3, y4, _⟩ := h.q.mean (t := t) (by omega)
  rw [ht] at x3 x4 y3 y4
  have eS : rxS dd t = d.s.mean t := x3.symm
  have eQ : rxQ dd t = d.q.mean t := y3.symm
  have eM : rxM dd t r = nxM d t r := by
    unfold rxM nxM hasty
    rw [eQ, h.c, h.si, h.mo]
  have eN : ∀ b, rxN b dd t r = nxN b d t r := by
    intro b
    unfold rxN nxN hasty calmy
    rw [eQ, eS, h.c]
  have nb := fun b => nxN_bd hg.may (d := d) b t r
  have hB : ∀ b, Dly.BothL d.sp t (nxL b d t r).length (nxL b d t r) (rxL b dd t r) (m + 1) := by
    intro b
    have hp := h.b.h.put (t := t) (w := nxN b d t r) (by omega) t1 (nb b).1 (nb b).2
    have hmm := h.b.m
    refine ⟨?_, h.b.s0, h.b.s1, rfl, ?_⟩
    · unfold nxL rxL
      rw [eN]; exact hp
    · unfold rxL
      rw [List.length_append]
      show dd.L.length + 1 ≤ m + 1
      omega
  have eF : ∀ b, rxF b dd t r = nxF b d t r := by
    intro b
    unfold rxF nxF
    rw [h.sp]
    exact (hB b).most (by omega) t
  have ic : Conf.inC dd.c = true := by
    rw [h.c]
    have may := Conf.may_of hg.may
    unfold Conf.inC
    have h1 := may.target
    have h2 := may.util
    rw [Mil.inR_iff.2 ⟨by omega, by omega⟩, Mil.inR_iff.2 ⟨by omega, by omega⟩]; rfl
  refine ⟨_, ?_, rfl, ?_, ?_⟩
  · have hmm := h.b.m
    refine allSay_append ⟨?_, trivial⟩ (allSay_append x2 (allSay_append y2 (allSay_append ⟨by rw [ic, eS, inR_mean]; rfl, by rw [ic, eQ, inR_mean]; rfl, ic, ?_, rfl, by rw [eM], trivial⟩ (allSay_append ?_ ⟨Dly.pB_is ⟨rfl, by omega⟩, ?_, Dly.pB_is ?_, by rw [eQ, inR_mean], trivial⟩))))
    · have := badA17_false (d := d) (r := r) hl t1 r0 r1
      unfold badR17
      rw [h.la]; exact this
    · have s1 := hg.si
      have s2 := hg.sl
      rw [h.si, Mil.inR_iff.2 ⟨by omega, by omega⟩, Mil.inR_iff.2 ⟨by omega, by omega⟩]; rfl
    · cases decide (0 ≤ (nxM d t r).since)
      · trivial
      · exact ⟨rfl, trivial⟩
    · rw [h.b.bad (by omega), eN]
      exact Dly.refB_false.2 ⟨by omega, t1, (nb _).1, (nb _).2⟩
    · have hq := hB (decide (0 ≤ (nxM d t r).since))
      have hT := hq.h.T
      have hW := hq.h.W
      have hml := hq.m
      refine ⟨rfl, by omega, by rw [h.sp]; exact h.b.s0, by rw [h.sp]; exact h.b.s1, fun x hx => ⟨?_, hW x hx⟩⟩
      have := hT x hx
      omega
  · unfold rxV nxV rxW nxW nxQ rxK nxK
    rw [eS, eQ, eM, eF, h.c]
  · refine ⟨h.c, ?_, ?_, rfl, h.sp, x4.mono, y4.mono, hB _⟩
    · show (rxK _ dd t r).since = (nxK _ d t r).since
      unfold rxK nxK; rw [eM, eF]
    · show (rxK _ dd t r).most = (nxK _ d t r).most
      unfold rxK nxK; rw [eM, eF]
theorem PairD.new {c : Conf.Cf} (hm : Conf.mayB c = true) : PairD (DcS.new c) ⟨c, ⟨c.stable, c.grain, 0, -1, false, []⟩, ⟨c.panic, c.grain, 0, -1, false, []⟩, -1, 0, c.delay, [], 0⟩ 0 := by
  have may := Conf.may_of hm
  have h1 := may.grain
  have h2 := may.panic
  have h3 := may.stable
  have h4 := may.delay
  exact ⟨rfl, rfl, rfl, rfl, rfl, BothR.new (by omega) (by omega) (by omega), BothR.new (by omega) (by omega) (by omega), ⟨Dly.Holds.new, h4.1, h4.2, rfl, Nat.le_refl _⟩⟩
end Go.Proofs.YtebibmioiigplaaGreat.Dec

/- Layer 26: the document's Steady: its calls. -/
namespace Go.Proofs.YtebibmioiigplaaGreat.Dec
open Go.Eng Go.RowKit Mil Rin
set_option linter.unusedVariables false
set_option linter.unusedSimpArgs false
set_option maxRecDepth 100000
noncomputable def DZ : Cfg := ⟨Tryz.prog, lookG [(54, .val Mil.clampS), (6, .obj rndE), (13, .obj rnexE), (9, .obj Met.dputE)], EB, 0⟩
theorem DZ_ok : DZ.Ok := Cfg.ok ⟨Mil.refclamp_ok, rndE_ok, rnexE_ok, Met.dputE_ok, trivial⟩ EB_ok
end Go.Proofs.YtebibmioiigplaaGreat.Dec

/- Layer 26: the document's Steady: its loop. -/
namespace Go.Proofs.YtebibmioiigplaaGreat.Dec
open Go.Eng Go.RowKit Mil Rin
set_option linter.unusedVariables false
set_option linter.unusedSimpArgs false
set_option maxRecDepth 100000
noncomputable def lpRe : Code := loopAt Tryz.prog 18 0
structure PRe where (v : Int) (n : Int) (k0 : Int) (ctargetA : Int) (cutilA : Int) (cstableA : Int) (cpanicA : Int) (cgrainA : Int) (cthresholdA : Int) (cupA : Int) (cdownA : Int) (cminA : Int) (cmaxA : Int) (cinitialA : Int) (cgraceA : Int) (cdelayA : Int) (cburstA : Int) (climitA : Int) (cqueueA : Int) (ctimeoutA : Int) (creadyA : Int) (csubsetA : Int) (csampleA : Int)
structure ARe where (spA : Int) (nlA : Nat) (w1A : Int) (g1A : Int) (n1A : Nat) (nw1A : Int) (ov1A : Bool) (w2A : Int) (g2A : Int) (n2A : Nat) (nw2A : Int) (ov2A : Bool) (l1A : List (Int × Int)) (l2A : List (Int × Int)) (lA : List (Int × Int)) (siA : Int) (moA : Int) (laA : Int) (o : List (Int × Int × Int × Int × Bool × Int)) (ko : Nat) (k : Int) (t : Int)
abbrev SRe : List (Nat × Src) := [(16, .same), (2000, .path 16 [20]), (2001, .path 16 [23]), (2002, .path 16 [20, 0]), (2003, .path 16 [20, 1]), (2004, .path 16 [20, 0, 2]), (2005, .path 16 [20, 1, 2]), (2006, .path 16 [23, 1]), (2007, .tmp 10)]
def vsRe (p : PRe) (a : ARe) : List V := [iv p.v, iv p.n, .ptr 16 0, .sub 2007 6 0 a.ko, iv a.k, iv a.t]
def bsRe (p : PRe) (a : ARe) : List Blk := [.cells 40 [iv p.ctargetA, iv p.cutilA, iv p.cstableA, iv p.cpanicA, iv p.cgrainA, iv p.cthresholdA, iv p.cupA, iv p.cdownA, iv p.cminA, iv p.cmaxA, iv p.cinitialA, iv p.cgraceA, iv p.cdelayA, iv p.cburstA, iv p.climitA, iv p.cqueueA, iv p.ctimeoutA, iv p.creadyA, iv p.csubsetA, iv p.csampleA, .ptr 2000 0, iv a.siA, iv a.moA, .ptr 2001 0, iv a.laA], .cells 65 [.ptr 2002 0, .ptr 2003 0], .cells 100 [iv a.spA, .sub 2006 2 0 a.nlA], .cells 82 [iv a.w1A, iv a.g1A, .sub 2004 2 0 a.n1A, iv a.nw1A, bv a.ov1A], .cells 82 [iv a.w2A, iv a.g2A, .sub 2005 2 0 a.n2A, iv a.nw2A, bv a.ov2A], .lst true 105 [.int .i64, .int .i64] a.l1A, .lst true 105 [.int .i64, .int .i64] a.l2A, .lst true 105 [.int .i64, .int .i64] a.lA, .lst true 43 [.int .i64, .int .i64, .int .i64, .int .i64, .bool, .int .i64] a.o]
noncomputable def FRe (p : PRe) (a : ARe) : St := mkSt [1,3,9,10,11,12] (keysR SRe) 2020 54 (vsRe p a) (bsRe p a)
noncomputable def rdRe (p : PRe) (a : ARe) : T (Ex × St) := T.anon (roundN DZ noLoops lpRe [1,3,9,10,11,12] SRe 2000 2020 (mkSt [1,3,9,10,11,12] (keysR SRe) 2020 54 (vsRe p a) (bsRe p a)))
def decRe_v0 : V → Option ((Int))
  | .s (.int .i64 v) => some (v)
  | _ => none
theorem decRe_v0_ok (b : V) (x0 : (Int)) (h : decRe_v0 b = some x0) : b = iv (x0) := by
  unfold decRe_v0 at h
  split at h
  · cases h
    rfl
  · cases h
def decRe_v1 : V → Option ((Int))
  | .s (.int .i64 n) => some (n)
  | _ => none
theorem decRe_v1_ok (b : V) (x1 : (Int)) (h : decRe_v1 b = some x1) : b = iv (x1) := by
  unfold decRe_v1 at h
  split at h
  · cases h
    rfl
  · cases h
def decRe_v2 : V → Option (Unit)
  | .ptr 16 0 => some ()
  | _ => none
theorem decRe_v2_ok (b : V) (x2 : Unit) (h : decRe_v2 b = some x2) : b = .ptr 16 0 := by
  unfold decRe_v2 at h
  split at h
  · cases h
    rfl
  · cases h
def decRe_v3 : V → Option ((Nat))
  | .sub 2007 6 0 ko => some (ko)
  | _ => none
theorem decRe_v3_ok (b : V) (x3 : (Nat)) (h : decRe_v3 b = some x3) : b = .sub 2007 6 0 (x3) := by
  unfold decRe_v3 at h
  split at h
  · cases h
    rfl
  · cases h
def decRe_v4 : V → Option ((Int))
  | .s (.int .i64 k) => some (k)
  | _ => none
theorem decRe_v4_ok (b : V) (x4 : (Int)) (h : decRe_v4 b = some x4) : b = iv (x4) := by
  unfold decRe_v4 at h
  split at h
  · cases h
    rfl
  · cases h
def decRe_v5 : V → Option ((Int))
  | .s (.int .i64 t) => some (t)
  | _ => none
theorem decRe_v5_ok (b : V) (x5 : (Int)) (h : decRe_v5 b = some x5) : b = iv (x5) := by
  unfold decRe_v5 at h
  split at h
  · cases h
    rfl
  · cases h
def decRe_b0 : Blk → Option ((Int) × (Int) × (Int) × (Int) × (Int) × (Int) × (Int) × (Int) × (Int) × (Int) × (Int) × (Int) × (Int) × (Int) × (Int) × (Int) × (Int) × (Int) × (Int) × (Int) × (Int) × (Int) × (Int))
  | .cells tt0 [.s (.int .i64 ctargetA), .s (.int .i64 cutilA), .s (.int .i64 cstableA), .s (.int .i64 cpanicA), .s (.int .i64 cgrainA), .s (.int .i64 cthresholdA), .s (.int .i64 cupA), .s (.int .i64 cdownA), .s (.int .i64 cminA), .s (.int .i64 cmaxA), .s (.int .i64 cinitialA), .s (.int .i64 cgraceA), .s (.int .i64 cdelayA), .s (.int .i64 cburstA), .s (.int .i64 climitA), .s (.int .i64 cqueueA), .s (.int .i64 ctimeoutA), .s (.int .i64 creadyA), .s (.int .i64 csubsetA), .s (.int .i64 csampleA), .ptr 2000 0, .s (.int .i64 siA), .s (.int .i64 moA), .ptr 2001 0, .s (.int .i64 laA)] => if tt0 = 40 then some (ctargetA, cutilA, cstableA, cpanicA, cgrainA, cthresholdA, cupA, cdownA, cminA, cmaxA, cinitialA, cgraceA, cdelayA, cburstA, climitA, cqueueA, ctimeoutA, creadyA, csubsetA, csampleA, siA, moA, laA) else none
  | _ => none
theorem decRe_b0_ok (b : Blk) (y0 : (Int) × (Int) × (Int) × (Int) × (Int) × (Int) × (Int) × (Int) × (Int) × (Int) × (Int) × (Int) × (Int) × (Int) × (Int) × (Int) × (Int) × (Int) × (Int) × (Int) × (Int) × (Int) × (Int)) (h : decRe_b0 b = some y0) : b = .cells 40 [iv (y0.1), iv (y0.2.1), iv (y0.2.2.1), iv (y0.2.2.2.1), iv (y0.2.2.2.2.1), iv (y0.2.2.2.2.2.1), iv (y0.2.2.2.2.2.2.1), iv (y0.2.2.2.2.2.2.2.1), iv (y0.2.2.2.2.2.2.2.2.1), iv (y0.2.2.2.2.2.2.2.2.2.1), iv (y0.2.2.2.2.2.2.2.2.2.2.1), iv (y0.2.2.2.2.2.2.2.2.2.2.2.1), iv (y0.2.2.2.2.2.2.2.2.2.2.2.2.1), iv (y0.2.2.2.2.2.2.2.2.2.2.2.2.2.1), iv (y0.2.2.2.2.2.2.2.2.2.2.2.2.2.2.1), iv (y0.2.2.2.2.2.2.2.2.2.2.2.2.2.2.2.1), iv (y0.2.2.2.2.2.2.2.2.2.2.2.2.2.2.2.2.1), iv (y0.2.2.2.2.2.2.2.2.2.2.2.2.2.2.2.2.2.1), iv (y0.2.2.2.2.2.2.2.2.2.2.2.2.2.2.2.2.2.2.1), iv (y0.2.2.2.2.2.2.2.2.2.2.2.2.2.2.2.2.2.2.2.1), .ptr 2000 0, iv (y0.2.2.2.2.2.2.2.2.2.2.2.2.2.2.2.2.2.2.2.2.1), iv (y0.2.2.2.2.2.2.2.2.2.2.2.2.2.2.2.2.2.2.2.2.2.1), .ptr 2001 0, iv (y0.2.2.2.2.2.2.2.2.2.2.2.2.2.2.2.2.2.2.2.2.2.2)] := by
  unfold decRe_b0 at h
  split at h
  · obtain ⟨e0, h⟩ := ite_some0 h
    subst e0
    cases h
    rfl
  · cases h
def decRe_b1 : Blk → Option (Unit)
  | .cells tt0 [.ptr 2002 0, .ptr 2003 0] => if tt0 = 65 then some () else none
  | _ => none
theorem decRe_b1_ok (b : Blk) (y1 : Unit) (h : decRe_b1 b = some y1) : b = .cells 65 [.ptr 2002 0, .ptr 2003 0] := by
  unfold decRe_b1 at h
  split at h
  · obtain ⟨e0, h⟩ := ite_some0 h
    subst e0
    cases h
    rfl
  · cases h
def decRe_b2 : Blk → Option ((Int) × (Nat))
  | .cells tt0 [.s (.int .i64 spA), .sub 2006 2 0 nlA] => if tt0 = 100 then some (spA, nlA) else none
  | _ => none
theorem decRe_b2_ok (b : Blk) (y2 : (Int) × (Nat)) (h : decRe_b2 b = some y2) : b = .cells 100 [iv (y2.1), .sub 2006 2 0 (y2.2)] := by
  unfold decRe_b2 at h
  split at h
  · obtain ⟨e0, h⟩ := ite_some0 h
    subst e0
    cases h
    rfl
  · cases h
def decRe_b3 : Blk → Option ((Int) × (Int) × (Nat) × (Int) × (Bool))
  | .cells tt0 [.s (.int .i64 w1A), .s (.int .i64 g1A), .sub 2004 2 0 n1A, .s (.int .i64 nw1A), .s (.bool ov1A)] => if tt0 = 82 then some (w1A, g1A, n1A, nw1A, ov1A) else none
  | _ => none
theorem decRe_b3_ok (b : Blk) (y3 : (Int) × (Int) × (Nat) × (Int) × (Bool)) (h : decRe_b3 b = some y3) : b = .cells 82 [iv (y3.1), iv (y3.2.1), .sub 2004 2 0 (y3.2.2.1), iv (y3.2.2.2.1), bv (y3.2.2.2.2)] := by
  unfold decRe_b3 at h
  split at h
  · obtain ⟨e0, h⟩ := ite_some0 h
    subst e0
    cases h
    rfl
  · cases h
def decRe_b4 : Blk → Option ((Int) × (Int) × (Nat) × (Int) × (Bool))
  | .cells tt0 [.s (.int .i64 w2A), .s (.int .i64 g2A), .sub 2005 2 0 n2A, .s (.int .i64 nw2A), .s (.bool ov2A)] => if tt0 = 82 then some (w2A, g2A, n2A, nw2A, ov2A) else none
  | _ => none
theorem decRe_b4_ok (b : Blk) (y4 : (Int) × (Int) × (Nat) × (Int) × (Bool)) (h : decRe_b4 b = some y4) : b = .cells 82 [iv (y4.1), iv (y4.2.1), .sub 2005 2 0 (y4.2.2.1), iv (y4.2.2.2.1), bv (y4.2.2.2.2)] := by
  unfold decRe_b4 at h
  split at h
  · obtain ⟨e0, h⟩ := ite_some0 h
    subst e0
    cases h
    rfl
  · cases h
def decRe_b5 : Blk → Option ((List (Int × Int)))
  | .lst true tt0 [.int .i64, .int .i64] l1A => if tt0 = 105 then some (l1A) else none
  | _ => none
theorem decRe_b5_ok (b : Blk) (y5 : (List (Int × Int))) (h : decRe_b5 b = some y5) : b = .lst true 105 [.int .i64, .int .i64] (y5) := by
  unfold decRe_b5 at h
  split at h
  · obtain ⟨e0, h⟩ := ite_some0 h
    subst e0
    cases h
    rfl
  · cases h
def decRe_b6 : Blk → Option ((List (Int × Int)))
  | .lst true tt0 [.int .i64, .int .i64] l2A => if tt0 = 105 then some (l2A) else none
  | _ => none
theorem decRe_b6_ok (b : Blk) (y6 : (List (Int × Int))) (h : decRe_b6 b = some y6) : b = .lst true 105 [.int .i64, .int .i64] (y6) := by
  unfold decRe_b6 at h
  split at h
  · obtain ⟨e0, h⟩ := ite_some0 h
    subst e0
    cases h
    rfl
  · cases h
def decRe_b7 : Blk → Option ((List (Int × Int)))
  | .lst true tt0 [.int .i64, .int .i64] lA => if tt0 = 105 then some (lA) else none
  | _ => none
theorem decRe_b7_ok (b : Blk) (y7 : (List (Int × Int))) (h : decRe_b7 b = some y7) : b = .lst true 105 [.int .i64, .int .i64] (y7) := by
  unfold decRe_b7 at h
  split at h
  · obtain ⟨e0, h⟩ := ite_some0 h
    subst e0
    cases h
    rfl
  · cases h
def decRe_b8 : Blk → Option ((List (Int × Int × Int × Int × Bool × Int)))
  | .lst true tt0 [.int .i64, .int .i64, .int .i64, .int .i64, .bool, .int .i64] o => if tt0 = 43 then some (o) else none
  | _ => none
theorem decRe_b8_ok (b : Blk) (y8 : (List (Int × Int × Int × Int × Bool × Int))) (h : decRe_b8 b = some y8) : b = .lst true 43 [.int .i64, .int .i64, .int .i64, .int .i64, .bool, .int .i64] (y8) := by
  unfold decRe_b8 at h
  split at h
  · obtain ⟨e0, h⟩ := ite_some0 h
    subst e0
    cases h
    rfl
  · cases h
def decRe : List V → List Blk → Option (PRe × ARe)
  | [v0, v1, v2, v3, v4, v5], [b0, b1, b2, b3, b4, b5, b6, b7, b8] => (decRe_v0 v0).bind fun x0 => (decRe_v1 v1).bind fun x1 => (decRe_v2 v2).bind fun x2 => (decRe_v3 v3).bind fun x3 => (decRe_v4 v4).bind fun x4 => (decRe_v5 v5).bind fun x5 => (decRe_b0 b0).bind fun y0 => (decRe_b1 b1).bind fun y1 => (decRe_b2 b2).bind fun y2 => (decRe_b3 b3).bind fun y3 => (decRe_b4 b4).bind fun y4 => (decRe_b5 b5).bind fun y5 => (decRe_b6 b6).bind fun y6 => (decRe_b7 b7).bind fun y7 => (decRe_b8 b8).bind fun y8 => some (⟨(x0), (x1), (x4), (y0.1), (y0.2.1), (y0.2.2.1), (y0.2.2.2.1), (y0.2.2.2.2.1), (y0.2.2.2.2.2.1), (y0.2.2.2.2.2.2.1), (y0.2.2.2.2.2.2.2.1), (y0.2.2.2.2.2.2.2.2.1), (y0.2.2.2.2.2.2.2.2.2.1), (y0.2.2.2.2.2.2.2.2.2.2.1), (y0.2.2.2.2.2.2.2.2.2.2.2.1), (y0.2.2.2.2.2.2.2.2.2.2.2.2.1), (y0.2.2.2.2.2.2.2.2.2.2.2.2.2.1), (y0.2.2.2.2.2.2.2.2.2.2.2.2.2.2.1), (y0.2.2.2.2.2.2.2.2.2.2.2.2.2.2.2.1), (y0.2.2.2.2.2.2.2.2.2.2.2.2.2.2.2.2.1), (y0.2.2.2.2.2.2.2.2.2.2.2.2.2.2.2.2.2.1), (y0.2.2.2.2.2.2.2.2.2.2.2.2.2.2.2.2.2.2.1), (y0.2.2.2.2.2.2.2.2.2.2.2.2.2.2.2.2.2.2.2.1)⟩, ⟨(y2.1), (y2.2), (y3.1), (y3.2.1), (y3.2.2.1), (y3.2.2.2.1), (y3.2.2.2.2), (y4.1), (y4.2.1), (y4.2.2.1), (y4.2.2.2.1), (y4.2.2.2.2), (y5), (y6), (y7), (y0.2.2.2.2.2.2.2.2.2.2.2.2.2.2.2.2.2.2.2.2.1), (y0.2.2.2.2.2.2.2.2.2.2.2.2.2.2.2.2.2.2.2.2.2.1), (y0.2.2.2.2.2.2.2.2.2.2.2.2.2.2.2.2.2.2.2.2.2.2), (y8), (x3), (x4), (x5)⟩)
  | _, _ => none
theorem decRe_ok (l : List V) (b : List Blk) (d : PRe × ARe) (h : decRe l b = some d) : l = vsRe d.1 d.2 ∧ b = bsRe d.1 d.2 := by
  unfold decRe at h
  split at h
  · obtain ⟨x0, hx0, h⟩ := Option.bind_eq_some_iff.1 h
    obtain ⟨x1, hx1, h⟩ := Option.bind_eq_some_iff.1 h
    obtain ⟨x2, hx2, h⟩ := Option.bind_eq_some_iff.1 h
    obtain ⟨x3, hx3, h⟩ := Option.bind_eq_some_iff.1 h
    obtain ⟨x4, hx4, h⟩ := Option.bind_eq_some_iff.1 h
    obtain ⟨x5, hx5, h⟩ := Option.bind_eq_some_iff.1 h
    obtain ⟨y0, hy0, h⟩ := Option.bind_eq_some_iff.1 h
    obtain ⟨y1, hy1, h⟩ := Option.bind_eq_some_iff.1 h
    obtain ⟨y2, hy2, h⟩ := Option.bind_eq_some_iff.1 h
    obtain ⟨y3, hy3, h⟩ := Option.bind_eq_some_iff.1 h
    obtain ⟨y4, hy4, h⟩ := Option.bind_eq_some_iff.1 h
    obtain ⟨y5, hy5, h⟩ := Option.bind_eq_some_iff.1 h
    obtain ⟨y6, hy6, h⟩ := Option.bind_eq_some_iff.1 h
    obtain ⟨y7, hy7, h⟩ := Option.bind_eq_some_iff.1 h
    obtain ⟨y8, hy8, h⟩ := Option.bind_eq_some_iff.1 h
    have ex0 := decRe_v0_ok _ _ hx0
    have ex1 := decRe_v1_ok _ _ hx1
    have ex2 := decRe_v2_ok _ _ hx2
    have ex3 := decRe_v3_ok _ _ hx3
    have ex4 := decRe_v4_ok _ _ hx4
    have ex5 := decRe_v5_ok _ _ hx5
    have ey0 := decRe_b0_ok _ _ hy0
    have ey1 := decRe_b1_ok _ _ hy1
    have ey2 := decRe_b2_ok _ _ hy2
    have ey3 := decRe_b3_ok _ _ hy3
    have ey4 := decRe_b4_ok _ _ hy4
    have ey5 := decRe_b5_ok _ _ hy5
    have ey6 := decRe_b6_ok _ _ hy6
    have ey7 := decRe_b7_ok _ _ hy7
    have ey8 := decRe_b8_ok _ _ hy8
    cases h
    subst ex0 ex1 ex2 ex3 ex4 ex5 ey0 ey1 ey2 ey3 ey4 ey5 ey6 ey7 ey8
    exact ⟨rfl, rfl⟩
  · cases h
noncomputable def rgRe : Nat := (firstReg lpRe).getD 0
theorem rgRe_is : firstReg lpRe = some rgRe := by kernel_rfl
def pRe (v n r0 : Int) (c : Conf.Cf) : PRe := ⟨v, n, r0, c.target, c.util, c.stable, c.panic, c.grain, c.threshold, c.up, c.down, c.min, c.max, c.initial, c.grace, c.delay, c.burst, c.limit, c.queue, c.timeout, c.ready, c.subset, c.sample⟩
def stRe (d : DdS) (o : List Dcn) (ko : Nat) (k t : Int) : ARe := ⟨d.sp, d.L.length, d.d.w, d.d.g, d.d.n, d.d.nw, d.d.ov, d.e.w, d.e.g, d.e.n, d.e.nw, d.e.ov, d.d.l, d.e.l, d.L, d.si, d.mo, d.la, o, ko, k, t⟩
end Go.Proofs.YtebibmioiigplaaGreat.Dec

/- Layer 26: the document's Steady: its rounds. -/
namespace Go.Proofs.YtebibmioiigplaaGreat.Dec
open Go.Eng Go.RowKit Mil Rin
set_option linter.unusedVariables false
set_option linter.unusedSimpArgs false
set_option maxRecDepth 100000
noncomputable def dcx (b : Bool) (d : DdS) (t r : Int) : Dcn := (t, rxS d t, rxQ d t, rxW b d t r, decide (0 ≤ (rxK b d t r).since), Conf.excB d.c r (rxQ d t))
def apX (j : Nat) (o : List Dcn) (x : Dcn) : Bool := true && (decide (j ≤ o.length) && decide (j + [x].length ≤ 1000000))
def leE (t n : Int) : Bool := bif decide (t ≤ n) then decide (t ≤ 30000) else false
theorem wayRe (b c1 c2 : Bool) (v n r0 : Int) (d : DdS) (o : List Dcn) (ko : Nat) (k t : Int) : T.path ([true] ++ ([false, true, c1] ++ ([false, true, c2] ++ ([false, true, true, true, true, true, true, true, b] ++ ((bif b then [true] else []) ++ [true, false, true, true, true]))))) (rdRe (pRe v n r0 d.c) (stRe d o ko k t)) =
    some ([(leE t n, true)] ++ (putDC d.d t v c1 ++ (putDC d.e t v c2 ++ (rxC b (d.put c1 c2 t v) t k ++ [(apX ko o (dcx b (d.put c1 c2 t v) t k), true)]))),
      (.normal, FRe (pRe v n r0 d.c) (stRe (rxD b (d.put c1 c2 t v) t k) (o.take ko ++ [dcx b (d.put c1 c2 t v) t k]) (ko + [dcx b (d.put c1 c2 t v) t k].length) (rxW b (d.put c1 c2 t v) t k) (wI (t + 1))))) := by cases b <;> cases c1 <;> cases c2 <;> kernel_rfl
theorem wayRex (p : PRe) (a : ARe) : T.path [false] (rdRe p a) = some ([(leE a.t p.n, false)], (.exit 0, FRe p a)) := by kernel_rfl
end Go.Proofs.YtebibmioiigplaaGreat.Dec

/- Layer 26: the document's Steady: its loop's contract. -/
namespace Go.Proofs.YtebibmioiigplaaGreat.Dec
open Go.Eng Go.RowKit Mil Rin
set_option linter.unusedVariables false
set_option linter.unusedSimpArgs false
set_option maxRecDepth 100000
theorem dcsV_inj {t s q w e t' s' q' w' e' : Int} {p p' : Bool} (h : dcsV t s q w p e = dcsV t' s' q' w' p' e') : ((t, s, q, w, p, e) : Dcn) = (t', s', q', w', p', e') := by
  unfold dcsV at h
  simp only [Eng.iv, Eng.bv, V.agg.injEq, List.cons.injEq, V.s.injEq, S.int.injEq, S.bool.injEq, true_and, and_true] at h
  obtain ⟨rfl, rfl, rfl, rfl, rfl, rfl⟩ := h
  rfl
def okRe (p : PRe) (a : ARe) : Prop := ∃ (v : Int) (c : Conf.Cf) (n : Int) (i : Nat) (r0 : Int) (dd : DdS), p = pRe v n r0 c ∧ a = stRe dd (outs v c r0 i) i (seqD v c r0 i).2 ((i : Int) + 1) ∧ PairD (seqD v c r0 i).1 dd (2 * i) ∧ Conf.mayB c = true ∧ 0 ≤ v ∧ v ≤ 1000000000 ∧ 0 ≤ r0 ∧ r0 ≤ 100 ∧ i ≤ n.toNat ∧ n ≤ 4000
def goRe (p : PRe) (a : ARe) : Bool := leE a.t p.n
def muRe (p : PRe) (a : ARe) : Nat := (p.n + 1 - a.t).toNat
theorem leE_is {t n : Int} (h : leE t n = true) : t ≤ n ∧ t ≤ 30000 := by
  unfold leE at h
  cases h1 : decide (t ≤ n) with
  | true => rw [h1] at h; exact ⟨of_decide_eq_true h1, of_decide_eq_true h⟩
  | false => rw [h1] at h; cases h
theorem leE_no {t n : Int} (h : leE t n = false) (h2 : t ≤ 30000) : n < t := by
  unfold leE at h
  cases h1 : decide (t ≤ n) with
  | true => rw [h1] at h; exact absurd h2 (of_decide_eq_false h)
  | false => have := of_decide_eq_false h1; omega
theorem outs_succ (v : Int) (c : Conf.Cf) (r0 : Int) (k : Nat) : outs v c r0 (k + 1) = outs v c r0 k ++ [outD v c r0 k] := by
  unfold outs
  rw [List.range_succ, List.map_append]; rfl
theorem stepRe (p : PRe) (a : ARe) (h : okRe p a) (hg : goRe p a = true) : ∃ b, stepC okRe rdRe FRe muRe p a b := by
  obtain ⟨v, c, n, i, r0, dd, rfl, rfl, hp, hm, v0, v1, h0, h1, ik, kn⟩ := h
  have hg0 : leE ((i : Int) + 1) n = true := hg
  obtain ⟨g1, g2⟩ := leE_is hg0
  have hw0 : wI ((i : Int) + 1 + 1) = (i : Int) + 1 + 1 := wrap64_in (by omega) (by omega)
  have hw : wI ((i : Int) + 1 + 1) = ((i + 1 : Nat) : Int) + 1 := by rw [hw0]; omega
  obtain ⟨hd, x0, x1⟩ := seqD_ok hm v0 v1 h0 h1 i (by omega)
  obtain ⟨_, _, _, _, gg, _⟩ := hd.tick (by omega) (by omega) (by omega) v0 v1 x0 x1
  obtain ⟨c1, c2, p1, p2, hp2⟩ := hp.put (t := (i : Int) + 1) (v := v) (by omega) (by omega) (by omega) v0 (by omega)
  obtain ⟨b, q1, q2, q3, q4⟩ := hp2.next (t := (i : Int) + 1) (by omega) gg (by show (seqD v c r0 i).1.la ≤ _; rw [hd.la]; omega) (by omega) x0 x1
  have ec : dd.c = c := by rw [hp.c, seqD_c]
  have eb : tkB (seqD v c r0 i).1 v ((i : Int) + 1) (seqD v c r0 i).2 = b := q2.symm
  have en : (seqD v c r0 (i + 1)).1 = nxD b ((seqD v c r0 i).1.put ((i : Int) + 1) v) ((i : Int) + 1) (seqD v c r0 i).2 := by rw [← eb]; rfl
  have eo : dcx b (dd.put c1 c2 ((i : Int) + 1) v) ((i : Int) + 1) (seqD v c r0 i).2 = outD v c r0 i := by
    unfold outD
    rw [eb]
    exact dcsV_inj q3
  have ew : rxW b (dd.put c1 c2 ((i : Int) + 1) v) ((i : Int) + 1) (seqD v c r0 i).2 = (seqD v c r0 (i + 1)).2 := by
    have := congrArg (fun x : Dcn => x.2.2.2.1) eo
    exact this
  have way := wayRe b c1 c2 v n r0 dd (outs v c r0 i) i (seqD v c r0 i).2 ((i : Int) + 1)
  rw [hw, ec, eo, ew] at way
  have ap : apX i (outs v c r0 i) (outD v c r0 i) = true := by
    unfold apX
    rw [outs_len, decide_eq_true (Nat.le_refl i), decide_eq_true (show i + [outD v c r0 i].length ≤ 1000000 by show i + 1 ≤ 1000000; omega)]; rfl
  have et : (outs v c r0 i).take i ++ [outD v c r0 i] = outs v c r0 (i + 1) := by
    rw [List.take_of_length_le (by rw [outs_len]; exact Nat.le_refl _), outs_succ]
  rw [et] at way
  refine ⟨_, T.path_eval way (allSay_append ⟨hg0, trivial⟩ (allSay_append p1 (allSay_append p2 (allSay_append q1 ⟨ap, trivial⟩)))), ⟨v, c, n, i + 1, r0, _, rfl, rfl, ?_, hm, v0, v1, h0, h1, by omega, kn⟩, ?_⟩
  · rw [en]; exact q4
  · show (n + 1 - (((i + 1 : Nat) : Int) + 1)).toNat < (n + 1 - ((i : Int) + 1)).toNat; omega
theorem exRe (p : PRe) (a : ARe) (h : okRe p a) (hg : goRe p a = false) : (rdRe p a).eval = some (.exit 0, FRe p a) := T.path_eval (wayRex p a) ⟨hg, trivial⟩
noncomputable def famRe : LSpec := famC [1,3,9,10,11,12] SRe 2000 2020 54 decRe okRe goRe rdRe FRe muRe (.exit 0)
theorem lpRe_ok : LoopOk DZ lpRe famRe := famC_ok (vs := vsRe) (bs := bsRe) DZ_ok mixed (noLoops_ok _) decRe_ok (by simp) (fun _ _ => rfl) (fun _ _ => rfl) stepRe exRe
noncomputable def sdyE : Eng.Obj := execO DZ (byReg [(rgRe, famRe)]) 18
theorem sdyE_ok : ObjOk Tryz.prog 18 sdyE := execO_loops DZ_ok mixed Tryz.func18 (by kernel_rfl) (by kernel_rfl) (one_lp (by kernel_rfl) rgRe_is lpRe_ok)
end Go.Proofs.YtebibmioiigplaaGreat.Dec

/- Layer 26: the document's Steady: its contract. -/
namespace Go.Proofs.YtebibmioiigplaaGreat.Dec
open Go.Eng Go.RowKit Mil Rin
set_option linter.unusedVariables false
set_option linter.unusedSimpArgs false
set_option maxRecDepth 100000
def ddN (c : Conf.Cf) : DdS := ⟨c, ⟨c.stable, c.grain, 0, -1, false, []⟩, ⟨c.panic, c.grain, 0, -1, false, []⟩, -1, 0, c.delay, [], 0⟩
noncomputable def eRe (v n r : Int) (c : Conf.Cf) : ARe := endW (nxtC okRe goRe rdRe FRe muRe (pRe v n r c)) (stRe (ddN c) [] 0 r 1)
theorem sdy_w0 (c : Conf.Cf) (v r n : Int) : T.path [true] (T.anon (sdyE [.agg (cfL c), Eng.iv v, Eng.iv r, Eng.iv n] [])) = some ([(!Conf.mayB c, true)], (.sub 16 6 0 0, [(16, .lst true 43 KD6 [])])) := by kernel_rfl
theorem sdy_w1 (c : Conf.Cf) (v r n : Int) (k : Nat) (o : List Dcn) (hk : (eRe (Mil.clampI v 0 1000000000) n (cpI r 100) c).ko = k) (ho : (eRe (Mil.clampI v 0 1000000000) n (cpI r 100) c).o = o) : T.path [false, false, false, false, false, true] (T.anon (sdyE [.agg (cfL c), Eng.iv v, Eng.iv r, Eng.iv n] [])) =
    some ([(!Conf.mayB c, false), (!Conf.mayB c, false), (badN c.stable c.grain, false), (badN c.panic c.grain, false), (bif decide (c.delay < 0) then true else decide (600 < c.delay), false), (invC okRe (pRe (Mil.clampI v 0 1000000000) n (cpI r 100) c) (stRe (ddN c) [] 0 (cpI r 100) 1), true)], (.sub 2007 6 0 k, [(2007, .lst true 43 KD6 o)])) := by subst ho; subst hk; kernel_rfl
noncomputable def sdyS : Eng.Obj
  | [.agg [.s (.int .i64 ctarget), .s (.int .i64 cutil), .s (.int .i64 cstable), .s (.int .i64 cpanic), .s (.int .i64 cgrain), .s (.int .i64 cthreshold), .s (.int .i64 cup), .s (.int .i64 cdown), .s (.int .i64 cmin), .s (.int .i64 cmax), .s (.int .i64 cinitial), .s (.int .i64 cgrace), .s (.int .i64 cdelay), .s (.int .i64 cburst), .s (.int .i64 climit), .s (.int .i64 cqueue), .s (.int .i64 ctimeout), .s (.int .i64 cready), .s (.int .i64 csubset), .s (.int .i64 csample)], .s (.int .i64 v), .s (.int .i64 r), .s (.int .i64 n)], [] => .ite none (Conf.mayB ⟨ctarget, cutil, cstable, cpanic, cgrain, cthreshold, cup, cdown, cmin, cmax, cinitial, cgrace, cdelay, cburst, climit, cqueue, ctimeout, cready, csubset, csample⟩) (.ite none (decide (n ≤ 4000)) (.ret (.sub 2007 6 0 n.toNat, [(2007, .lst true 43 KD6 (outs (cpI v 1000000000) ⟨ctarget, cutil, cstable, cpanic, cgrain, cthreshold, cup, cdown, cmin, cmax, cinitial, cgrace, cdelay, cburst, climit, cqueue, ctimeout, cready, csubset, csample⟩ (cpI r 100) n.toNat))])) .fail) (.ret (.sub 16 6 0 0, [(16, .lst true 43 KD6 [])]))
  | _, _ => .fail
theorem clampP (a : Int) {hi : Int} (h : 0 ≤ hi) : Mil.clampI a 0 hi = cpI a hi := by
  unfold Mil.clampI cpI
  repeat' split
  all_goals omega
theorem pRe_r {v v' n n' r r' : Int} {c c' : Conf.Cf} (h : pRe v n r c = pRe v' n' r' c') : v = v' ∧ n = n' ∧ r = r' ∧ c = c' := by
  unfold pRe at h
  injection h with h1 h2 h3 h5 h6 h7 h8 h9 h10 h11 h12 h13 h14 h15 h16 h17 h18 h19 h20 h21 h22 h23 h24
  refine ⟨h1, h2, h3, ?_⟩
  cases c; cases c'
  simp only at *
  subst h5 h6 h7 h8 h9 h10 h11 h12 h13 h14 h15 h16 h17 h18 h19 h20 h21 h22 h23 h24
  rfl
theorem sdyS_ok : ObjOk Tryz.prog 18 sdyS := sdyE_ok.of_eval fun args h x hv => by
  unfold sdyS at hv
  split at hv
  · rename_i ctarget cutil cstable cpanic cgrain cthreshold cup cdown cmin cmax cinitial cgrace cdelay cburst climit cqueue ctimeout cready csubset csample v r n
    revert hv
    generalize hc : (⟨ctarget, cutil, cstable, cpanic, cgrain, cthreshold, cup, cdown, cmin, cmax, cinitial, cgrace, cdelay, cburst, climit, cqueue, ctimeout, cready, csubset, csample⟩ : Conf.Cf) = c
    intro hv
    have e : (.agg [.s (.int .i64 ctarget), .s (.int .i64 cutil), .s (.int .i64 cstable), .s (.int .i64 cpanic), .s (.int .i64 cgrain), .s (.int .i64 cthreshold), .s (.int .i64 cup), .s (.int .i64 cdown), .s (.int .i64 cmin), .s (.int .i64 cmax), .s (.int .i64 cinitial), .s (.int .i64 cgrace), .s (.int .i64 cdelay), .s (.int .i64 cburst), .s (.int .i64 climit), .s (.int .i64 cqueue), .s (.int .i64 ctimeout), .s (.int .i64 cready), .s (.int .i64 csubset), .s (.int .i64 csample)] : V) = .agg (cfL c) := by rw [← hc]; rfl
    rw [e]
    rw [← T.eval_anon (t := sdyE _ _)]
    cases hm : Conf.mayB c with
    | false =>
      obtain rfl := Option.some.inj (ite_F hv hm)
      exact T.path_eval (sdy_w0 c v r n) ⟨by rw [hm]; rfl, trivial⟩
    | true =>
      have hv := ite_T hv hm
      cases hn4 : decide (n ≤ 4000) with
      | false => cases ite_F hv hn4
      | true =>
      obtain rfl := Option.some.inj (ite_T hv hn4)
      have hn4 := of_decide_eq_true hn4
      have hv := cpI_range v (show (0 : Int) ≤ 1000000000 by omega)
      have hr := cpI_range r (show (0 : Int) ≤ 100 by omega)
      have may := Conf.may_of hm
      have h1 := may.grain
      have h2 := may.panic
      have h3 := may.stable
      have h4 := may.delay
      have h0 : okRe (pRe (cpI v 1000000000) n (cpI r 100) c) (stRe (ddN c) [] 0 (cpI r 100) 1) := ⟨_, c, _, 0, _, _, rfl, rfl, PairD.new hm, hm, hv.1, hv.2, hr.1, hr.2, Nat.zero_le _, hn4⟩
      obtain ⟨k1, k2⟩ := endC stepRe h0
      have k1 : okRe (pRe (cpI v 1000000000) n (cpI r 100) c) (eRe (cpI v 1000000000) n (cpI r 100) c) := k1
      have k2 : leE (eRe (cpI v 1000000000) n (cpI r 100) c).t n = false := k2
      obtain ⟨v', c', n', i, r', dd, hp, ha, _, _, _, _, _, _, ik, _⟩ := k1
      obtain ⟨rfl, rfl, er, rfl⟩ := pRe_r hp
      rw [ha] at k2
      have k2 : n < (i : Int) + 1 := leE_no k2 (by show (i : Int) + 1 ≤ 30000; omega)
      have ei : i = n.toNat := by omega
      subst ei
      have eo : (eRe (cpI v 1000000000) n (cpI r 100) c).o = outs (cpI v 1000000000) c (cpI r 100) n.toNat := by rw [ha, ← er]; rfl
      have ek : (eRe (cpI v 1000000000) n (cpI r 100) c).ko = n.toNat := by rw [ha]; rfl
      have way := sdy_w1 c v r n n.toNat (outs (cpI v 1000000000) c (cpI r 100) n.toNat) (by rw [clampP v (by omega)]; exact ek) (by rw [clampP v (by omega)]; exact eo)
      rw [clampP v (by omega)] at way
      refine T.path_eval way ⟨by rw [hm]; rfl, by rw [hm]; rfl, badN_false (by omega) (by omega) (by omega), badN_false (by omega) (by omega) (by omega), ?_, invC_is h0, trivial⟩
      rw [decide_eq_false (show ¬ c.delay < 0 by omega), decide_eq_false (show ¬ 600 < c.delay by omega)]; rfl
  · cases hv
end Go.Proofs.YtebibmioiigplaaGreat.Dec

/- Layer 26: SteadyAsks: its calls. -/
namespace Go.Proofs.YtebibmioiigplaaGreat.Dec
open Go.Eng Go.RowKit Mil Rin
set_option linter.unusedVariables false
set_option linter.unusedSimpArgs false
set_option maxRecDepth 100000
noncomputable def DQ : Cfg := ⟨Tryz.prog, lookG [(28, .val Conf.mayS), (43, .val Conf.ofS), (40, .val Conf.mostS)], [], 0⟩
theorem DQ_ok : DQ.Ok := Cfg.ok ⟨Conf.refmay_ok, Conf.refof_ok, Conf.refmost_ok, trivial⟩ trivial
noncomputable def raiE : Eng.Obj := execO DQ noLoops 21
theorem raiE_ok : ObjOk Tryz.prog 21 raiE := execO_plain DQ_ok mixed Tryz.func21 (by kernel_rfl) (by kernel_rfl)
noncomputable def rtiE : Eng.Obj := execO DQ noLoops 23
theorem rtiE_ok : ObjOk Tryz.prog 23 rtiE := execO_plain DQ_ok mixed Tryz.func23 (by kernel_rfl) (by kernel_rfl)
theorem eD26 : EOk Tryz.prog [43] := ⟨⟨by kernel_rfl, by kernel_rfl⟩, trivial⟩
noncomputable def DW : Cfg := ⟨Tryz.prog, lookG [(17, .obj runS), (18, .obj sdyS), (20, .obj aimE), (22, .obj ticE), (21, .obj raiE), (23, .obj rtiE), (19, .val yesR)], [43], 0⟩
theorem DW_ok : DW.Ok := Cfg.ok ⟨runS_ok, sdyS_ok, aimE_ok, ticE_ok, raiE_ok, rtiE_ok, told26_ok, trivial⟩ eD26
end Go.Proofs.YtebibmioiigplaaGreat.Dec

/- Layer 26: SteadyAsks: its loop. -/
namespace Go.Proofs.YtebibmioiigplaaGreat.Dec
open Go.Eng Go.RowKit Mil Rin
set_option linter.unusedVariables false
set_option linter.unusedSimpArgs false
set_option maxRecDepth 100000
noncomputable def lpRq : Code := loopAt Tryz.prog 4 0
structure PRq where (c_target : Int) (c_util : Int) (c_stable : Int) (c_panic : Int) (c_grain : Int) (c_threshold : Int) (c_up : Int) (c_down : Int) (c_min : Int) (c_max : Int) (c_initial : Int) (c_grace : Int) (c_delay : Int) (c_burst : Int) (c_limit : Int) (c_queue : Int) (c_timeout : Int) (c_ready : Int) (c_subset : Int) (c_sample : Int) (v : Int) (k : Nat) (o : List (Int × Int × Int × Int × Bool × Int)) (k2 : Nat) (o2 : List (Int × Int × Int × Int × Bool × Int))
structure ARq where (i : Int)
abbrev SRq : List (Nat × Src) := [(0, .same), (48, .same), (88, .same)]
def vsRq (p : PRq) (a : ARq) : List V := [iv p.v, .ptr 0 0, .sub 48 6 0 p.k, .sub 88 6 0 p.k2, iv a.i]
def bsRq (p : PRq) (a : ARq) : List Blk := [.cells 23 [iv p.c_target, iv p.c_util, iv p.c_stable, iv p.c_panic, iv p.c_grain, iv p.c_threshold, iv p.c_up, iv p.c_down, iv p.c_min, iv p.c_max, iv p.c_initial, iv p.c_grace, iv p.c_delay, iv p.c_burst, iv p.c_limit, iv p.c_queue, iv p.c_timeout, iv p.c_ready, iv p.c_subset, iv p.c_sample], .lst true 43 [.int .i64, .int .i64, .int .i64, .int .i64, .bool, .int .i64] p.o, .lst true 43 [.int .i64, .int .i64, .int .i64, .int .i64, .bool, .int .i64] p.o2]
noncomputable def FRq (p : PRq) (a : ARq) : St := mkSt [1,4,10,11,12] (keysR SRq) 2020 65 (vsRq p a) (bsRq p a)
noncomputable def rdRq (p : PRq) (a : ARq) : T (Ex × St) := T.anon (roundN DW noLoops lpRq [1,4,10,11,12] SRq 2000 2020 (mkSt [1,4,10,11,12] (keysR SRq) 2020 65 (vsRq p a) (bsRq p a)))
def decRq_v0 : V → Option ((Int))
  | .s (.int .i64 v) => some (v)
  | _ => none
theorem decRq_v0_ok (b : V) (x0 : (Int)) (h : decRq_v0 b = some x0) : b = iv (x0) := by
  unfold decRq_v0 at h
  split at h
  · cases h
    rfl
  · cases h
def decRq_v1 : V → Option (Unit)
  | .ptr 0 0 => some ()
  | _ => none
theorem decRq_v1_ok (b : V) (x1 : Unit) (h : decRq_v1 b = some x1) : b = .ptr 0 0 := by
  unfold decRq_v1 at h
  split at h
  · cases h
    rfl
  · cases h
def decRq_v2 : V → Option ((Nat))
  | .sub 48 6 0 k => some (k)
  | _ => none
theorem decRq_v2_ok (b : V) (x2 : (Nat)) (h : decRq_v2 b = some x2) : b = .sub 48 6 0 (x2) := by
  unfold decRq_v2 at h
  split at h
  · cases h
    rfl
  · cases h
def decRq_v3 : V → Option ((Nat))
  | .sub 88 6 0 k2 => some (k2)
  | _ => none
theorem decRq_v3_ok (b : V) (x3 : (Nat)) (h : decRq_v3 b = some x3) : b = .sub 88 6 0 (x3) := by
  unfold decRq_v3 at h
  split at h
  · cases h
    rfl
  · cases h
def decRq_v4 : V → Option ((Int))
  | .s (.int .i64 i) => some (i)
  | _ => none
theorem decRq_v4_ok (b : V) (x4 : (Int)) (h : decRq_v4 b = some x4) : b = iv (x4) := by
  unfold decRq_v4 at h
  split at h
  · cases h
    rfl
  · cases h
def decRq_b0 : Blk → Option ((Int) × (Int) × (Int) × (Int) × (Int) × (Int) × (Int) × (Int) × (Int) × (Int) × (Int) × (Int) × (Int) × (Int) × (Int) × (Int) × (Int) × (Int) × (Int) × (Int))
  | .cells tt0 [.s (.int .i64 c_target), .s (.int .i64 c_util), .s (.int .i64 c_stable), .s (.int .i64 c_panic), .s (.int .i64 c_grain), .s (.int .i64 c_threshold), .s (.int .i64 c_up), .s (.int .i64 c_down), .s (.int .i64 c_min), .s (.int .i64 c_max), .s (.int .i64 c_initial), .s (.int .i64 c_grace), .s (.int .i64 c_delay), .s (.int .i64 c_burst), .s (.int .i64 c_limit), .s (.int .i64 c_queue), .s (.int .i64 c_timeout), .s (.int .i64 c_ready), .s (.int .i64 c_subset), .s (.int .i64 c_sample)] => if tt0 = 23 then some (c_target, c_util, c_stable, c_panic, c_grain, c_threshold, c_up, c_down, c_min, c_max, c_initial, c_grace, c_delay, c_burst, c_limit, c_queue, c_timeout, c_ready, c_subset, c_sample) else none
  | _ => none
theorem decRq_b0_ok (b : Blk) (y0 : (Int) × (Int) × (Int) × (Int) × (Int) × (Int) × (Int) × (Int) × (Int) × (Int) × (Int) × (Int) × (Int) × (Int) × (Int) × (Int) × (Int) × (Int) × (Int) × (Int)) (h : decRq_b0 b = some y0) : b = .cells 23 [iv (y0.1), iv (y0.2.1), iv (y0.2.2.1), iv (y0.2.2.2.1), iv (y0.2.2.2.2.1), iv (y0.2.2.2.2.2.1), iv (y0.2.2.2.2.2.2.1), iv (y0.2.2.2.2.2.2.2.1), iv (y0.2.2.2.2.2.2.2.2.1), iv (y0.2.2.2.2.2.2.2.2.2.1), iv (y0.2.2.2.2.2.2.2.2.2.2.1), iv (y0.2.2.2.2.2.2.2.2.2.2.2.1), iv (y0.2.2.2.2.2.2.2.2.2.2.2.2.1), iv (y0.2.2.2.2.2.2.2.2.2.2.2.2.2.1), iv (y0.2.2.2.2.2.2.2.2.2.2.2.2.2.2.1), iv (y0.2.2.2.2.2.2.2.2.2.2.2.2.2.2.2.1), iv (y0.2.2.2.2.2.2.2.2.2.2.2.2.2.2.2.2.1), iv (y0.2.2.2.2.2.2.2.2.2.2.2.2.2.2.2.2.2.1), iv (y0.2.2.2.2.2.2.2.2.2.2.2.2.2.2.2.2.2.2.1), iv (y0.2.2.2.2.2.2.2.2.2.2.2.2.2.2.2.2.2.2.2)] := by
  unfold decRq_b0 at h
  split at h
  · obtain ⟨e0, h⟩ := ite_some0 h
    subst e0
    cases h
    rfl
  · cases h
def decRq_b1 : Blk → Option ((List (Int × Int × Int × Int × Bool × Int)))
  | .lst true tt0 [.int .i64, .int .i64, .int .i64, .int .i64, .bool, .int .i64] o => if tt0 = 43 then some (o) else none
  | _ => none
theorem decRq_b1_ok (b : Blk) (y1 : (List (Int × Int × Int × Int × Bool × Int))) (h : decRq_b1 b = some y1) : b = .lst true 43 [.int .i64, .int .i64, .int .i64, .int .i64, .bool, .int .i64] (y1) := by
  unfold decRq_b1 at h
  split at h
  · obtain ⟨e0, h⟩ := ite_some0 h
    subst e0
    cases h
    rfl
  · cases h
def decRq_b2 : Blk → Option ((List (Int × Int × Int × Int × Bool × Int)))
  | .lst true tt0 [.int .i64, .int .i64, .int .i64, .int .i64, .bool, .int .i64] o2 => if tt0 = 43 then some (o2) else none
  | _ => none
theorem decRq_b2_ok (b : Blk) (y2 : (List (Int × Int × Int × Int × Bool × Int))) (h : decRq_b2 b = some y2) : b = .lst true 43 [.int .i64, .int .i64, .int .i64, .int .i64, .bool, .int .i64] (y2) := by
  unfold decRq_b2 at h
  split at h
  · obtain ⟨e0, h⟩ := ite_some0 h
    subst e0
    cases h
    rfl
  · cases h
def decRq : List V → List Blk → Option (PRq × ARq)
  | [v0, v1, v2, v3, v4], [b0, b1, b2] => (decRq_v0 v0).bind fun x0 => (decRq_v1 v1).bind fun x1 => (decRq_v2 v2).bind fun x2 => (decRq_v3 v3).bind fun x3 => (decRq_v4 v4).bind fun x4 => (decRq_b0 b0).bind fun y0 => (decRq_b1 b1).bind fun y1 => (decRq_b2 b2).bind fun y2 => some (⟨(y0.1), (y0.2.1), (y0.2.2.1), (y0.2.2.2.1), (y0.2.2.2.2.1), (y0.2.2.2.2.2.1), (y0.2.2.2.2.2.2.1), (y0.2.2.2.2.2.2.2.1), (y0.2.2.2.2.2.2.2.2.1), (y0.2.2.2.2.2.2.2.2.2.1), (y0.2.2.2.2.2.2.2.2.2.2.1), (y0.2.2.2.2.2.2.2.2.2.2.2.1), (y0.2.2.2.2.2.2.2.2.2.2.2.2.1), (y0.2.2.2.2.2.2.2.2.2.2.2.2.2.1), (y0.2.2.2.2.2.2.2.2.2.2.2.2.2.2.1), (y0.2.2.2.2.2.2.2.2.2.2.2.2.2.2.2.1), (y0.2.2.2.2.2.2.2.2.2.2.2.2.2.2.2.2.1), (y0.2.2.2.2.2.2.2.2.2.2.2.2.2.2.2.2.2.1), (y0.2.2.2.2.2.2.2.2.2.2.2.2.2.2.2.2.2.2.1), (y0.2.2.2.2.2.2.2.2.2.2.2.2.2.2.2.2.2.2.2), (x0), (x2), (y1), (x3), (y2)⟩, ⟨(x4)⟩)
  | _, _ => none
theorem decRq_ok (l : List V) (b : List Blk) (d : PRq × ARq) (h : decRq l b = some d) : l = vsRq d.1 d.2 ∧ b = bsRq d.1 d.2 := by
  unfold decRq at h
  split at h
  · obtain ⟨x0, hx0, h⟩ := Option.bind_eq_some_iff.1 h
    obtain ⟨x1, hx1, h⟩ := Option.bind_eq_some_iff.1 h
    obtain ⟨x2, hx2, h⟩ := Option.bind_eq_some_iff.1 h
    obtain ⟨x3, hx3, h⟩ := Option.bind_eq_some_iff.1 h
    obtain ⟨x4, hx4, h⟩ := Option.bind_eq_some_iff.1 h
    obtain ⟨y0, hy0, h⟩ := Option.bind_eq_some_iff.1 h
    obtain ⟨y1, hy1, h⟩ := Option.bind_eq_some_iff.1 h
    obtain ⟨y2, hy2, h⟩ := Option.bind_eq_some_iff.1 h
    have ex0 := decRq_v0_ok _ _ hx0
    have ex1 := decRq_v1_ok _ _ hx1
    have ex2 := decRq_v2_ok _ _ hx2
    have ex3 := decRq_v3_ok _ _ hx3
    have ex4 := decRq_v4_ok _ _ hx4
    have ey0 := decRq_b0_ok _ _ hy0
    have ey1 := decRq_b1_ok _ _ hy1
    have ey2 := decRq_b2_ok _ _ hy2
    cases h
    subst ex0 ex1 ex2 ex3 ex4 ey0 ey1 ey2
    exact ⟨rfl, rfl⟩
  · cases h
noncomputable def rgRq : Nat := (firstReg lpRq).getD 0
theorem rgRq_is : firstReg lpRq = some rgRq := by kernel_rfl
def pRq (c : Conf.Cf) (v : Int) (k : Nat) (o : List Dcn) (k2 : Nat) (o2 : List Dcn) : PRq := ⟨c.target, c.util, c.stable, c.panic, c.grain, c.threshold, c.up, c.down, c.min, c.max, c.initial, c.grace, c.delay, c.burst, c.limit, c.queue, c.timeout, c.ready, c.subset, c.sample, v, k, o, k2, o2⟩
end Go.Proofs.YtebibmioiigplaaGreat.Dec

/- Layer 26: SteadyAsks: its rounds. -/
namespace Go.Proofs.YtebibmioiigplaaGreat.Dec
open Go.Eng Go.RowKit Mil Rin
set_option linter.unusedVariables false
set_option linter.unusedSimpArgs false
set_option maxRecDepth 100000
def xQ (o : List Dcn) (i : Int) : Dcn := o.getD (0 + i.toNat) (Row.dflt KD6)
def neD (x y : Dcn) : Bool := !(x.1 == y.1 && (x.2.1 == y.2.1 && (x.2.2.1 == y.2.2.1 && (x.2.2.2.1 == y.2.2.2.1 && (x.2.2.2.2.1 == y.2.2.2.2.1 && (x.2.2.2.2.2 == y.2.2.2.2.2 && true))))))
theorem neD_same (x : Dcn) : neD x x = false := by unfold neD; simp
theorem wayRq (c : Conf.Cf) (v : Int) (k : Nat) (o : List Dcn) (k2 : Nat) (o2 : List Dcn) (i : Int) : T.path [true, true, true, true, true, false] (rdRq (pRq c v k o k2 o2) ⟨i⟩) = some ([(decide (i < (k : Int)), true), (idR o k i, true), (ldR o i, true), (idR o2 k2 i, true), (ldR o2 i, true), (neD (xQ o i) (xQ o2 i), false)], (.normal, FRq (pRq c v k o k2 o2) ⟨wI (i + 1)⟩)) := by kernel_rfl
theorem wayRqx (p : PRq) (a : ARq) : T.path [false] (rdRq p a) = some ([(decide (a.i < (p.k : Int)), false)], (.exit 0, FRq p a)) := by kernel_rfl
def okRq (p : PRq) (a : ARq) : Prop := ∃ (c : Conf.Cf) (v : Int) (o : List Dcn) (i : Nat), p = pRq c v o.length o o.length o ∧ a = ⟨(i : Int)⟩ ∧ i ≤ o.length ∧ o.length ≤ 4000
def goRq (p : PRq) (a : ARq) : Bool := decide (a.i < (p.k : Int))
def muRq (p : PRq) (a : ARq) : Nat := ((p.k : Int) - a.i).toNat
theorem stepRq (p : PRq) (a : ARq) (h : okRq p a) (hg : goRq p a = true) : ∃ b, stepC okRq rdRq FRq muRq p a b := by
  obtain ⟨c, v, o, i, rfl, rfl, h1, h2⟩ := h
  have hg0 : decide ((i : Int) < (o.length : Int)) = true := hg
  have hi : (i : Int) < (o.length : Int) := of_decide_eq_true hg0
  have hwp : wI ((i : Int) + 1) = ((i + 1 : Nat) : Int) := wrap64_in (by omega) (by omega)
  obtain ⟨y1, y2⟩ := idR_is (g := o) (k := o.length) (i := (i : Int)) rfl (by omega) hi
  have way := wayRq c v o.length o o.length o i
  rw [hwp] at way
  refine ⟨_, T.path_eval way ⟨hg0, y1, y2, y1, y2, neD_same _, trivial⟩, ⟨c, v, o, i + 1, rfl, rfl, by omega, h2⟩, ?_⟩
  show ((o.length : Int) - ((i + 1 : Nat) : Int)).toNat < ((o.length : Int) - (i : Int)).toNat; omega
theorem exRq (p : PRq) (a : ARq) (h : okRq p a) (hg : goRq p a = false) : (rdRq p a).eval = some (.exit 0, FRq p a) := T.path_eval (wayRqx p a) ⟨hg, trivial⟩
noncomputable def famRq : LSpec := famC [1,4,10,11,12] SRq 2000 2020 65 decRq okRq goRq rdRq FRq muRq (.exit 0)
theorem lpRq_ok : LoopOk DW lpRq famRq := famC_ok (vs := vsRq) (bs := bsRq) DW_ok mixed (noLoops_ok _) decRq_ok (by simp) (fun _ _ => rfl) (fun _ _ => rfl) stepRq exRq
noncomputable def askR (c : Conf.Cf) (a b n : Int) : T V := execS DW (byReg [(rgRq, famRq)]) 4 [.agg (cfL c), Eng.iv a, Eng.iv b, Eng.iv n]
end Go.Proofs.YtebibmioiigplaaGreat.Dec

/- Layer 26: SteadyAsks. -/
namespace Go.Proofs.YtebibmioiigplaaGreat.Dec
open Go.Eng Go.RowKit Mil Rin
set_option linter.unusedVariables false
set_option linter.unusedSimpArgs false
set_option maxRecDepth 100000
def inA6 (c : Conf.Cf) (l : Int) : Bool := Conf.inC c && Mil.inR (if 0 > l then 0 else l)
def aimC6 (c : Conf.Cf) (l : Int) : Int := boundI c (Conf.ofC c (if 0 > l then 0 else l))
def ticC6 (c : Conf.Cf) : Int := wI (wI (wI (400 + wI (2 * c.stable)) + c.panic) + wI (40 * c.delay))
noncomputable def askC (c : Conf.Cf) (a b k : Int) : List (Bool × Bool) := [(Conf.mayB c, true), (Conf.mayB c, true), (decide (k ≤ 4000), true), ((((cpI k 30000).toNat : Nat) : Int) != ((k.toNat : Nat) : Int), false), (invC okRq (pRq c a (cpI k 30000).toNat (outs (cpI a 1000000000) c (cpI b 100) (cpI k 30000).toNat) k.toNat (outs (cpI a 1000000000) c (cpI b 100) k.toNat)) ⟨0⟩, true), (!Conf.mayB c, false), (inA6 c a, true), (!Conf.mayB c, false), (inA6 c a, true), (aimC6 c a == aimC6 c a, true), (!Conf.mayB c, false), (!Conf.mayB c, false)]
noncomputable def askN (c : Conf.Cf) (a : Int) : List (Bool × Bool) := [(Conf.mayB c, false), (Conf.mayB c, false), (((0 : Nat) : Int) != ((0 : Nat) : Int), false), (invC okRq (pRq c a 0 [] 0 []) ⟨0⟩, true), (!Conf.mayB c, true), (!Conf.mayB c, true), ((0 : Int) == 0, true), (!Conf.mayB c, true), (!Conf.mayB c, true)]
def askV (c : Conf.Cf) (a : Int) : V := .s (.bool (bif aimC6 c a == aimC6 c a then ticC6 c == ticC6 c else false))
theorem ask_w0 (c : Conf.Cf) (a b n : Int) : T.path ([false] ++ [true, true, true, false, true, false, true, false, true, true, false, false]) (T.anon (askR c a b n)) = some ([(decide (300 < n), false)] ++ askC c a b n, askV c a) := by kernel_rfl
theorem ask_w1 (c : Conf.Cf) (a b n : Int) : T.path ([true, false] ++ [true, true, true, false, true, false, true, false, true, true, false, false]) (T.anon (askR c a b n)) = some ([(decide (300 < n), true), ((301 : Int) == 0, false)] ++ askC c a b (Int.tmod n 301), askV c a) := by kernel_rfl
theorem ask_w2 (c : Conf.Cf) (a b n : Int) : T.path ([false] ++ [false, false, false, true, true, true, true, true, true]) (T.anon (askR c a b n)) = some ([(decide (300 < n), false)] ++ askN c a, .s (.bool (bif (0 : Int) == 0 then (0 : Int) == 0 else false))) := by kernel_rfl
theorem ask_w3 (c : Conf.Cf) (a b n : Int) : T.path ([true, false] ++ [false, false, false, true, true, true, true, true, true]) (T.anon (askR c a b n)) = some ([(decide (300 < n), true), ((301 : Int) == 0, false)] ++ askN c a, .s (.bool (bif (0 : Int) == 0 then (0 : Int) == 0 else false))) := by kernel_rfl
theorem mayC6 {c : Conf.Cf} (h : Conf.mayB c = true) : Conf.inC c = true := by
  have may := Conf.may_of h
  unfold Conf.inC
  have h1 := may.target
  have h2 := may.util
  rw [Mil.inR_iff.2 ⟨by omega, by omega⟩, Mil.inR_iff.2 ⟨by omega, by omega⟩]; rfl
theorem inA6_is {c : Conf.Cf} (h : Conf.mayB c = true) {l : Int} (hl : (Lit.int .i64 l).wf = true) : inA6 c l = true := by
  obtain ⟨h1, h2⟩ := wf64 hl
  unfold inA6
  rw [mayC6 h, Mil.inR_iff.2 (by split <;> omega)]; rfl
theorem cp_nat {k : Int} (h : k ≤ 300) : (cpI k 30000).toNat = k.toNat := by
  unfold cpI
  repeat' split
  all_goals omega
theorem askC_all {c : Conf.Cf} (hm : Conf.mayB c = true) {a b k : Int} (ha : (Lit.int .i64 a).wf = true) (hk : k ≤ 300) : allSay (askC c a b k) := by
  have ln := outs_len (cpI a 1000000000) c (cpI b 100) k.toNat
  have h0 : okRq (pRq c a (cpI k 30000).toNat (outs (cpI a 1000000000) c (cpI b 100) (cpI k 30000).toNat) k.toNat (outs (cpI a 1000000000) c (cpI b 100) k.toNat)) ⟨0⟩ := by
    rw [cp_nat hk]
    refine ⟨c, a, outs (cpI a 1000000000) c (cpI b 100) k.toNat, 0, ?_, rfl, Nat.zero_le _, by rw [ln]; omega⟩
    rw [ln]
  refine ⟨hm, hm, decide_eq_true (by omega), by rw [cp_nat hk]; exact bne_self_eq_false _, invC_is h0, by rw [hm]; rfl, inA6_is hm ha, by rw [hm]; rfl, inA6_is hm ha, beq_self_eq_true _, by rw [hm]; rfl, by rw [hm]; rfl, trivial⟩
theorem askN_all {c : Conf.Cf} (hm : Conf.mayB c = false) (a : Int) : allSay (askN c a) :=
  ⟨hm, hm, rfl, invC_is ⟨c, a, [], 0, rfl, rfl, Nat.le_refl _, by show (0 : Nat) ≤ 4000; omega⟩, by rw [hm]; rfl, by rw [hm]; rfl, rfl, by rw [hm]; rfl, by rw [hm]; rfl, trivial⟩
theorem askV_is (c : Conf.Cf) (a : Int) : askV c a = .s (.bool true) := by unfold askV; rw [beq_self_eq_true, beq_self_eq_true]; rfl
theorem ask_run (c : Conf.Cf) {a : Int} (ha : (Lit.int .i64 a).wf = true) (b n : Int) : (askR c a b n).yes := by
  unfold T.yes
  right
  rw [← T.eval_anon (t := askR c a b n)]
  cases hm : Conf.mayB c with
  | true =>
    cases hn : decide (300 < n) with
    | false =>
      have way := ask_w0 c a b n
      rw [askV_is] at way
      have := of_decide_eq_false hn
      exact T.path_eval way (allSay_append ⟨hn, trivial⟩ (askC_all hm ha (by omega)))
    | true =>
      have way := ask_w1 c a b n
      rw [askV_is] at way
      have := of_decide_eq_true hn
      have := Int.tmod_lt_of_pos n (show (0 : Int) < 301 by omega)
      exact T.path_eval way (allSay_append ⟨hn, rfl, trivial⟩ (askC_all hm ha (by omega)))
  | false =>
    cases hn : decide (300 < n) with
    | false => exact T.path_eval (ask_w2 c a b n) (allSay_append ⟨hn, trivial⟩ (askN_all hm a))
    | true => exact T.path_eval (ask_w3 c a b n) (allSay_append ⟨hn, rfl, trivial⟩ (askN_all hm a))
theorem ask_walk (c : Conf.Cf) (_ : c.Ok) (a : Int) (ha : (Lit.int .i64 a).wf = true) (b : Int) (_ : (Lit.int .i64 b).wf = true) (n : Int) (_ : (Lit.int .i64 n).wf = true) (W : World) :
    Calls Tryz.prog 4 #[.agg #[.int .i64 c.target, .int .i64 c.util, .int .i64 c.stable, .int .i64 c.panic, .int .i64 c.grain, .int .i64 c.threshold, .int .i64 c.up, .int .i64 c.down, .int .i64 c.min, .int .i64 c.max, .int .i64 c.initial, .int .i64 c.grace, .int .i64 c.delay, .int .i64 c.burst, .int .i64 c.limit, .int .i64 c.queue, .int .i64 c.timeout, .int .i64 c.ready, .int .i64 c.subset, .int .i64 c.sample], .int .i64 a, .int .i64 b, .int .i64 n] W fun e w' => e = .returned (.bool true) ∧ Below W.heap.size W w' :=
  Law.law_rows (args := [Conf.confV c, Eng.iv a, Eng.iv b, Eng.iv n]) (xs := [.agg #[.int .i64 c.target, .int .i64 c.util, .int .i64 c.stable, .int .i64 c.panic, .int .i64 c.grain, .int .i64 c.threshold, .int .i64 c.up, .int .i64 c.down, .int .i64 c.min, .int .i64 c.max, .int .i64 c.initial, .int .i64 c.grace, .int .i64 c.delay, .int .i64 c.burst, .int .i64 c.limit, .int .i64 c.queue, .int .i64 c.timeout, .int .i64 c.ready, .int .i64 c.subset, .int .i64 c.sample], .int .i64 a, .int .i64 b, .int .i64 n]) (execS_loops (Λ := byReg [(rgRq, famRq)]) DW_ok mixed Tryz.func4 (by kernel_rfl) (by kernel_rfl) (one_lp (by kernel_rfl) rgRq_is lpRq_ok)) rfl (ask_run c ha b n) W ⟨rfl, rfl, rfl, rfl, trivial⟩
end Go.Proofs.YtebibmioiigplaaGreat.Dec

