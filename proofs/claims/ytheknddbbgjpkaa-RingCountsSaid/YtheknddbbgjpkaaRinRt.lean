/- Layer 5: RingResizes: the rounds of its first loop. -/
import Derived.Test.YtheknddbbgjpkaaRinRs
import Derived.Test.YtheknddbbgjpkaaRinFo
namespace Go.Proofs.Ytheknddbbgjpkaa.Rin
open Go.Eng Go.RowKit Mil
set_option linter.unusedVariables false
set_option linter.unusedSimpArgs false
/-- one at each time from lo on, k of them -/
def seg (lo : Int) (k : Nat) : List Rec := (List.range k).map fun (j : Nat) => (lo + (j : Int), 1)
theorem seg_next (lo : Int) (k : Nat) : seg lo (k + 1) = seg lo k ++ [(lo + k, 1)] := by unfold seg; rw [List.range_succ, List.map_append]; rfl
theorem seg_len (lo : Int) (k : Nat) : (seg lo k).length = k := by unfold seg; simp
theorem wn_app (lo hi : Int) (a b : List Rec) : wn lo hi (a ++ b) = wn lo hi a ++ wn lo hi b := by unfold wn; exact List.filter_append ..
theorem seg_wn (lo hi a : Int) : ∀ k : Nat, ((wn lo hi (seg a k)).length : Int) = max 0 (min hi (a + k) - max lo a)
  | 0 => by unfold seg; simp [wn]; omega
  | k + 1 => by
    rw [seg_next, wn_app, List.length_append, wn_one]
    have := seg_wn lo hi a k
    split
    · simp; omega
    · simp; omega
theorem wn_flt (lo hi c : Int) (rs : List Rec) : wn lo hi (rs.filter fun p => decide (c < p.1)) = wn (max lo (c + 1)) hi rs := by
  unfold wn
  rw [List.filter_filter]
  apply List.filter_congr
  intro p _
  by_cases h1 : c < p.1
  · rw [decide_eq_true h1, Bool.and_true, decide_eq_decide.2 (show lo ≤ p.1 ↔ max lo (c + 1) ≤ p.1 by omega)]
  · rw [decide_eq_false h1, Bool.and_false, decide_eq_false (show ¬ max lo (c + 1) ≤ p.1 by omega)]; rfl
def sRd (p : PRd) (a : ARd) : RS := ⟨p.w, p.g, p.n, a.nw, p.ov, a.l⟩
theorem wayRd (p : PRd) (a : ARd) : T.path ([true] ++ [true, false, true]) (rdRd p a) = some ([(decide (a.i < p.k), true)] ++ putC (sRd p a) a.i 1, (.normal, FRd p ⟨((sRd p a).put a.i 1).nw, ((sRd p a).put a.i 1).l, IntKind.wrap .i64 (a.i + 1)⟩)) := by kernel_rfl
theorem wayRdx (p : PRd) (a : ARd) : T.path [false] (rdRd p a) = some ([(decide (a.i < p.k), false)], (.exit 0, FRd p a)) := by kernel_rfl
structure okRd (p : PRd) (a : ARd) : Prop where
  g1 : p.g = 1
  k1 : p.k ≤ 100
  i0 : 0 ≤ a.i
  i1 : a.i ≤ p.k
  nw : a.nw = a.i - 1
  hs : HoldsR (sRd p a) (seg 0 a.i.toNat)
def goRd (p : PRd) (a : ARd) : Bool := decide (a.i < p.k)
def muRd (p : PRd) (a : ARd) : Nat := (p.k - a.i).toNat
theorem stepRd (p : PRd) (a : ARd) (h : okRd p a) (hg : goRd p a = true) : ∃ b, stepC okRd rdRd FRd muRd p a b := by
  obtain ⟨g1, k1, i0, i1, nw, hs⟩ := h
  have hi : a.i < p.k := of_decide_eq_true hg
  have hw : IntKind.wrap .i64 (a.i + 1) = a.i + 1 := wrap64_in (by omega) (by omega)
  obtain ⟨c, h2⟩ := hs.put (t := a.i) (v := 1) i0 (by omega) (by omega) (by omega) (by rw [seg_len]; omega)
  have d1 : Int.tdiv a.i p.g = a.i := by rw [g1, Int.tdiv_one]
  have hn := hs.rep.n0
  have hn : 0 < p.n := hn
  have mx : mxR a.nw a.i = a.i := mxR_r (by omega)
  rw [putRs_in (by show mxR a.nw (Int.tdiv a.i p.g) - (p.n : Nat) < Int.tdiv a.i p.g; rw [d1, mx]; omega), show Int.tdiv a.i (sRd p a).g = a.i from d1] at h2
  have e : seg 0 a.i.toNat ++ [(a.i, 1)] = seg 0 (a.i + 1).toNat := by
    rw [show (a.i + 1).toNat = a.i.toNat + 1 by omega, seg_next]
    congr 2
    have : (0 : Int) + (a.i.toNat : Int) = a.i := by omega
    rw [this]
  refine ⟨_, T.path_eval (wayRd p a) (allSay_append ⟨hg, trivial⟩ c), ⟨g1, k1, ?_, ?_, ?_, ?_⟩, ?_⟩
  · show 0 ≤ IntKind.wrap .i64 (a.i + 1); rw [hw]; omega
  · show IntKind.wrap .i64 (a.i + 1) ≤ p.k; rw [hw]; omega
  · show mxR a.nw (Int.tdiv a.i p.g) = IntKind.wrap .i64 (a.i + 1) - 1
    rw [d1, mx, hw]; omega
  · show HoldsR ((sRd p a).put a.i 1) (seg 0 (IntKind.wrap .i64 (a.i + 1)).toNat)
    rw [hw, ← e]; exact h2
  · show (p.k - IntKind.wrap .i64 (a.i + 1)).toNat < (p.k - a.i).toNat
    rw [hw]; omega
theorem exRd (p : PRd) (a : ARd) (h : okRd p a) (hg : goRd p a = false) : (rdRd p a).eval = some (.exit 0, FRd p a) := T.path_eval (wayRdx p a) ⟨hg, trivial⟩
noncomputable def famRd : LSpec := famC [7,8,9,10,11] SRd 100 100 99 decRd okRd goRd rdRd FRd muRd (.exit 0)
theorem lpRd_ok : LoopOk RL lpRd famRd := famC_ok (vs := vsRd) (bs := bsRd) RL_ok mixed (noLoops_ok _) decRd_ok (by simp) (fun _ _ => rfl) (fun _ _ => rfl) stepRd exRd
noncomputable def LRd : Loops := fun c => match byReg [(rgRd, famRd)] c with
  | some s => some s
  | none => some (fun st => .ret (.ret, st))
end Go.Proofs.Ytheknddbbgjpkaa.Rin
