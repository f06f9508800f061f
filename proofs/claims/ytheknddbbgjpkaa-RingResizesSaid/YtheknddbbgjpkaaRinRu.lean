/- Layer 5: RingResizes: its second loop. -/
import Derived.Test.YtheknddbbgjpkaaRinRt
namespace Go.Proofs.Ytheknddbbgjpkaa.Rin
open Go.Eng Go.RowKit Mil
set_option linter.unusedVariables false
set_option linter.unusedSimpArgs false
noncomputable def lpRe : Code := loopAt Try.prog 16 1
structure PRe where (x : Int) (y : Int) (k : Int) (w : Int) (g : Int) (n : Nat) (ov : Bool)
structure ARe where (nw : Int) (l : List OB) (i : Int)
abbrev SRe : List (Nat × Src) := [(0, .same), (2000, .cell 0 2)]
def vsRe (p : PRe) (a : ARe) : List V := [iv p.x, iv p.y, iv p.k, .ptr 0 0, iv a.i]
def bsRe (p : PRe) (a : ARe) : List Blk := [.cells 138 [iv p.w, iv p.g, .sub 2000 1 0 p.n, iv a.nw, bv p.ov], .bx 20 141 145 [.int .i64, .int .i64, .bool] a.l [] none]
noncomputable def FRe (p : PRe) (a : ARe) : St := mkSt [7,8,9,10,14] (keysR SRe) 2001 99 (vsRe p a) (bsRe p a)
noncomputable def rdRe (p : PRe) (a : ARe) : T (Ex × St) := T.anon (roundN RL noLoops lpRe [7,8,9,10,14] SRe 2000 2001 (mkSt [7,8,9,10,14] (keysR SRe) 2001 99 (vsRe p a) (bsRe p a)))
def decRe : List V → List Blk → Option (PRe × ARe)
  | [.s (.int .i64 x), .s (.int .i64 y), .s (.int .i64 k), .ptr 0 0, .s (.int .i64 i)], [.cells tt0 [.s (.int .i64 w), .s (.int .i64 g), .sub 2000 1 0 n, .s (.int .i64 nw), .s (.bool ov)], .bx tt1 tt2 tt3 [.int .i64, .int .i64, .bool] l [] none] =>
    if tt0 = 138 then if tt1 = 20 then if tt2 = 141 then if tt3 = 145 then some (⟨x, y, k, w, g, n, ov⟩, ⟨nw, l, i⟩) else none else none else none else none
  | _, _ => none
theorem decRe_ok (l : List V) (b : List Blk) (d : PRe × ARe) (h : decRe l b = some d) : l = vsRe d.1 d.2 ∧ b = bsRe d.1 d.2 := by
  unfold decRe at h
  split at h
  · obtain ⟨e0, h⟩ := ite_some0 h
    obtain ⟨e1, h⟩ := ite_some0 h
    obtain ⟨e2, h⟩ := ite_some0 h
    obtain ⟨e3, h⟩ := ite_some0 h
    subst e0 e1 e2 e3
    cases h
    exact ⟨rfl, rfl⟩
  · cases h
noncomputable def rgRe : Nat := (firstReg lpRe).getD 0
theorem rgRe_is : firstReg lpRe = some rgRe := by kernel_rfl
def sRe (p : PRe) (a : ARe) : RS := ⟨p.w, p.g, p.n, a.nw, p.ov, a.l⟩
theorem wayRe (p : PRe) (a : ARe) : T.path ([true] ++ [true, false, true]) (rdRe p a) = some ([(decide (a.i < IntKind.wrap .i64 (2 * p.k)), true)] ++ putC (sRe p a) a.i 1, (.normal, FRe p ⟨((sRe p a).put a.i 1).nw, ((sRe p a).put a.i 1).l, IntKind.wrap .i64 (a.i + 1)⟩)) := by kernel_rfl
theorem wayRex (p : PRe) (a : ARe) : T.path [false] (rdRe p a) = some ([(decide (a.i < IntKind.wrap .i64 (2 * p.k)), false)], (.exit 2, FRe p a)) := by kernel_rfl
def sgE (p : PRe) (i : Int) : List Rec := ((seg 0 p.k.toNat).filter fun z => decide (p.k - 1 - p.x < z.1)) ++ seg p.k (i - p.k).toNat
structure okRe (p : PRe) (a : ARe) : Prop where
  g1 : p.g = 1
  k0 : 1 ≤ p.k
  k1 : p.k ≤ 100
  i0 : p.k ≤ a.i
  i1 : a.i ≤ 2 * p.k
  nw : a.nw = a.i - 1
  hs : HoldsR (sRe p a) (sgE p a.i)
def goRe (p : PRe) (a : ARe) : Bool := decide (a.i < 2 * p.k)
def muRe (p : PRe) (a : ARe) : Nat := (2 * p.k - a.i).toNat
theorem stepRe (p : PRe) (a : ARe) (h : okRe p a) (hg : goRe p a = true) : ∃ b, stepC okRe rdRe FRe muRe p a b := by
  obtain ⟨g1, k0, k1, i0, i1, nw, hs⟩ := h
  have hi : a.i < 2 * p.k := of_decide_eq_true hg
  have hw : IntKind.wrap .i64 (a.i + 1) = a.i + 1 := wrap64_in (by omega) (by omega)
  have hk : IntKind.wrap .i64 (2 * p.k) = 2 * p.k := wrap64_in (by omega) (by omega)
  have hlen : (sgE p a.i).length < 1000000 := by
    unfold sgE
    rw [List.length_append, seg_len]
    have := List.length_filter_le (fun z : Rec => decide (p.k - 1 - p.x < z.1)) (seg 0 p.k.toNat)
    rw [seg_len] at this
    omega
  obtain ⟨c, h2⟩ := hs.put (t := a.i) (v := 1) (by omega) (by omega) (by omega) (by omega) hlen
  have d1 : Int.tdiv a.i p.g = a.i := by rw [g1, Int.tdiv_one]
  have hn : 0 < p.n := hs.rep.n0
  have mx : mxR a.nw a.i = a.i := mxR_r (by omega)
  rw [putRs_in (by show mxR a.nw (Int.tdiv a.i p.g) - (p.n : Nat) < Int.tdiv a.i p.g; rw [d1, mx]; omega), show Int.tdiv a.i (sRe p a).g = a.i from d1] at h2
  have e : sgE p a.i ++ [(a.i, 1)] = sgE p (a.i + 1) := by
    unfold sgE
    rw [show (a.i + 1 - p.k).toNat = (a.i - p.k).toNat + 1 by omega, seg_next, List.append_assoc]
    congr 3
    have : p.k + ((a.i - p.k).toNat : Int) = a.i := by omega
    rw [this]
  refine ⟨_, T.path_eval (wayRe p a) (allSay_append ⟨by rw [hk]; exact hg, trivial⟩ c), ⟨g1, k0, k1, ?_, ?_, ?_, ?_⟩, ?_⟩
  · show p.k ≤ IntKind.wrap .i64 (a.i + 1); rw [hw]; omega
  · show IntKind.wrap .i64 (a.i + 1) ≤ 2 * p.k; rw [hw]; omega
  · show mxR a.nw (Int.tdiv a.i p.g) = IntKind.wrap .i64 (a.i + 1) - 1
    rw [d1, mx, hw]; omega
  · show HoldsR ((sRe p a).put a.i 1) (sgE p (IntKind.wrap .i64 (a.i + 1)))
    rw [hw, ← e]; exact h2
  · show (2 * p.k - IntKind.wrap .i64 (a.i + 1)).toNat < (2 * p.k - a.i).toNat
    rw [hw]; omega
theorem exRe (p : PRe) (a : ARe) (h : okRe p a) (hg : goRe p a = false) : (rdRe p a).eval = some (.exit 2, FRe p a) := T.path_eval (wayRex p a) ⟨by
  have := h.k1
  have := h.k0
  rw [wrap64_in (by omega) (by omega)]; exact hg, trivial⟩
noncomputable def famRe : LSpec := famC [7,8,9,10,14] SRe 2000 2001 99 decRe okRe goRe rdRe FRe muRe (.exit 2)
theorem lpRe_ok : LoopOk RL lpRe famRe := famC_ok (vs := vsRe) (bs := bsRe) RL_ok mixed (noLoops_ok _) decRe_ok (by simp) (fun _ _ => rfl) (fun _ _ => rfl) stepRe exRe
noncomputable def resizR (a b c : Int) : T V := execS RL (byReg [(rgRd, famRd), (rgRe, famRe)]) 16 [iv a, iv b, iv c]
end Go.Proofs.Ytheknddbbgjpkaa.Rin
