/- Layer 5: RingSteady: its rounds. -/
import Derived.Test.YtheknddbbgjpkaaRinSa
import Derived.Test.YtheknddbbgjpkaaRinRt
namespace Go.Proofs.Ytheknddbbgjpkaa.Rin
open Go.Eng Go.RowKit Mil
set_option linter.unusedVariables false
set_option linter.unusedSimpArgs false
def sRf (p : PRf) (a : ARf) : RS := ⟨p.w, p.g, p.n, a.nw, a.ov, a.l⟩
noncomputable def sRf2 (p : PRf) (a : ARf) : RS := (sRf p a).put a.i p.x
noncomputable def sRf3 (p : PRf) (a : ARf) : RS := (sRf2 p a).sum a.i
theorem wayRf (p : PRf) (a : ARf) : T.path ([true] ++ ([true, false, true] ++ ([false] ++ ([true, false, true] ++ [false])))) (rdRf p a) = some ([(decide (a.i < p.k), true)] ++ (putC (sRf p a) a.i p.x ++ ([((0 : Int) != 0, false)] ++ (sumC (sRf2 p a) a.i ++ [(bif (0 : Int) != 0 then true else (sRf2 p a).mean a.i != p.x, false)]))),
  (.normal, FRf p ⟨(sRf3 p a).nw, (sRf3 p a).ov, (sRf3 p a).l, IntKind.wrap .i64 (a.i + 1)⟩)) := by kernel_rfl
theorem wayRfx (p : PRf) (a : ARf) : T.path [false] (rdRf p a) = some ([(decide (a.i < p.k), false)], (.exit 0, FRf p a)) := by kernel_rfl
theorem sv_const {x : Int} : ∀ {rs : List Rec}, (∀ z ∈ rs, z.2 = x) → sv rs = x * rs.length
  | [], _ => by simp [sv]
  | z :: r, h => by
    rw [sv_cons, sv_const fun y hy => h y (List.mem_cons_of_mem _ hy), h z List.mem_cons_self, List.length_cons, Int.natCast_add, Int.mul_add]; simp; omega
structure hRf (p : PRf) (s : RS) (i : Int) (rs : List Rec) : Prop where
  hs : HoldsR s rs
  cst : ∀ z ∈ rs, z.2 = p.x
  len : (rs.length : Int) = i
  lst : (i = 0 ∧ s.nw = -1) ∨ (s.nw = (i - 1) / s.g ∧ ∃ z ∈ rs, z.1 = s.nw)
structure okRf (p : PRf) (a : ARf) : Prop where
  x0 : 0 ≤ p.x
  x1 : p.x < 1000000000
  k1 : p.k ≤ 200
  i0 : 0 ≤ a.i
  i1 : a.i ≤ p.k
  rs : ∃ rs, hRf p (sRf p a) a.i rs
def goRf (p : PRf) (a : ARf) : Bool := decide (a.i < p.k)
def muRf (p : PRf) (a : ARf) : Nat := (p.k - a.i).toNat
/-- what stands in a window of such a ring -/
theorem steady_sum {p : PRf} (hx0 : 0 ≤ p.x) (hx1 : p.x < 1000000000) {s : RS} {i t : Int} {rs : List Rec} (h : hRf p s i rs) (hi : i ≤ 200) (i0 : 0 ≤ i) (t0 : 0 ≤ t) (t1 : t ≤ 1000000) :
    ∃ c : Int, 0 ≤ c ∧ c ≤ i ∧ (s.sumA t).c = c ∧ (s.sumA t).s = p.x * c ∧ (s.sumA t).k = false ∧ (Int.tdiv t s.g = s.nw → 1 ≤ i → 1 ≤ c) ∧ (s.nw < Int.tdiv t s.g - s.n + 1 → c = 0) := by
  obtain ⟨_, _, v⟩ := h.hs.sum (t := t) t0 (by omega)
  obtain ⟨v1, v2, v3⟩ := smV_s v
  generalize hW : wn (frR s.n s.nw (Int.tdiv t s.g)) (Int.tdiv t s.g + 1) rs = W at *
  have hc : ∀ z ∈ W, z.2 = p.x := fun z hz => by rw [← hW] at hz; exact h.cst z (List.mem_filter.1 hz).1
  have hl : W.length ≤ rs.length := by rw [← hW]; exact List.length_filter_le _ _
  have hil := h.len
  have hm : p.x * (W.length : Int) ≤ 1000000000 * 200 := Int.mul_le_mul (by omega) (by omega) (by omega) (by omega)
  have hm0 : 0 ≤ p.x * (W.length : Int) := Int.mul_nonneg hx0 (by omega)
  refine ⟨W.length, by omega, by omega, v2, by rw [v1, sv_const hc]; exact cut_small hm0 (by omega), by rw [v3, sv_const hc]; unfold tpI; exact decide_eq_false (by omega), fun ht h1 => ?_, fun ht => ?_⟩
  · rcases h.lst with ⟨q, _⟩ | ⟨q, z, hz, hz1⟩
    · omega
    · have : z ∈ W := by
        rw [← hW, ht]
        unfold wn
        refine List.mem_filter.2 ⟨hz, ?_⟩
        have hn := h.hs.rep.n0
        have h0 := (h.hs.rep.recs z hz).1
        rw [hz1]
        simp only [Bool.and_eq_true, decide_eq_true_eq]
        unfold frR
        rw [mxR_l (Int.le_refl _)]
        split <;> omega
      have := List.length_pos_of_mem this
      omega
  · have : W = [] := by
      rw [← hW]
      unfold wn
      rw [List.filter_eq_nil_iff]
      intro z hz hq
      have := (h.hs.rep.recs z hz).2.1
      simp only [Bool.and_eq_true, decide_eq_true_eq] at hq
      have h2 := hq.1
      unfold frR at h2
      rw [mxR_l (by have := h.hs.rep.n0; omega)] at h2
      split at h2 <;> omega
    rw [this]; rfl
theorem mnV_is {x c : Int} (hx0 : 0 ≤ x) (hx1 : x < 1000000000) (hc : 1 ≤ c) : mnV (x * c) c = x := by
  unfold mnV
  rw [show (c == 0) = false by rw [beq_eq_false_iff_ne]; omega, Int.mul_tdiv_cancel x (by omega)]
  exact wrap64_in (by omega) (by omega)
theorem stepRf (p : PRf) (a : ARf) (h : okRf p a) (hg : goRf p a = true) : ∃ b, stepC okRf rdRf FRf muRf p a b := by
  obtain ⟨x0, x1, k1, i0, i1, rs, hr⟩ := h
  have hi : a.i < p.k := of_decide_eq_true hg
  have hw : IntKind.wrap .i64 (a.i + 1) = a.i + 1 := wrap64_in (by omega) (by omega)
  have hil := hr.len
  have g1 : 1 ≤ p.g := hr.hs.g1
  obtain ⟨c1, h2⟩ := hr.hs.put (t := a.i) (v := p.x) i0 (by omega) x0 (by omega) (by omega)
  have dv : Int.tdiv a.i p.g = a.i / p.g := Int.tdiv_eq_ediv_of_nonneg i0
  have b0 : 0 ≤ a.i / p.g := Int.ediv_nonneg i0 (by omega)
  have hle : a.nw ≤ a.i / p.g := by
    rcases hr.lst with ⟨_, q⟩ | ⟨q, _⟩
    · have q : a.nw = -1 := q
      omega
    · have q : a.nw = (a.i - 1) / p.g := q
      rw [q]
      exact Int.ediv_le_ediv (by omega) (by omega)
  have mx : mxR a.nw (Int.tdiv a.i p.g) = a.i / p.g := by rw [dv]; exact mxR_r hle
  have hn : 0 < p.n := hr.hs.rep.n0
  rw [putRs_in (by show mxR a.nw (Int.tdiv a.i p.g) - (p.n : Nat) < Int.tdiv a.i p.g; rw [mx, dv]; omega), show Int.tdiv a.i (sRf p a).g = a.i / p.g from dv] at h2
  have h2 : hRf p (sRf2 p a) (a.i + 1) (rs ++ [(a.i / p.g, p.x)]) := by
    refine ⟨h2, fun z hz => ?_, by rw [List.length_append]; simp; omega, .inr ⟨?_, (a.i / p.g, p.x), by simp, mx.symm⟩⟩
    · rcases List.mem_append.1 hz with hz | hz
      · exact hr.cst z hz
      · rw [List.mem_singleton] at hz; rw [hz]
    · show mxR a.nw (Int.tdiv a.i p.g) = (a.i + 1 - 1) / p.g
      rw [mx, Int.add_sub_cancel]
  obtain ⟨c2, h3, _⟩ := h2.hs.sum (t := a.i) i0 (by omega)
  obtain ⟨c, d0, d1, d2, d3, d4, d5, d6⟩ := steady_sum x0 x1 h2 (by omega) (by omega) i0 (by omega)
  have hc1 : 1 ≤ c := d5 (by show Int.tdiv a.i p.g = mxR a.nw (Int.tdiv a.i p.g); rw [mx, dv]) (by omega)
  have hmean : (sRf2 p a).mean a.i = p.x := by unfold RS.mean; rw [d2, d3]; exact mnV_is x0 x1 hc1
  refine ⟨_, T.path_eval (wayRf p a) (allSay_append ⟨hg, trivial⟩ (allSay_append c1 (allSay_append ⟨rfl, trivial⟩ (allSay_append c2 ⟨by rw [hmean]; simp, trivial⟩)))), ⟨x0, x1, k1, ?_, ?_, rs ++ [(a.i / p.g, p.x)], ?_⟩, ?_⟩
  · show 0 ≤ IntKind.wrap .i64 (a.i + 1); rw [hw]; omega
  · show IntKind.wrap .i64 (a.i + 1) ≤ p.k; rw [hw]; omega
  · show hRf p (sRf3 p a) (IntKind.wrap .i64 (a.i + 1)) _
    rw [hw]
    exact ⟨h3, h2.cst, h2.len, h2.lst⟩
  · show (p.k - IntKind.wrap .i64 (a.i + 1)).toNat < (p.k - a.i).toNat
    rw [hw]; omega
theorem exRf (p : PRf) (a : ARf) (h : okRf p a) (hg : goRf p a = false) : (rdRf p a).eval = some (.exit 0, FRf p a) := T.path_eval (wayRfx p a) ⟨hg, trivial⟩
noncomputable def famRf : LSpec := famC [10,11,12,13] SRf 100 100 94 decRf okRf goRf rdRf FRf muRf (.exit 0)
theorem lpRf_ok : LoopOk RL lpRf famRf := famC_ok (vs := vsRf) (bs := bsRf) RL_ok mixed (noLoops_ok _) decRf_ok (by simp) (fun _ _ => rfl) (fun _ _ => rfl) stepRf exRf
noncomputable def stdyR (a b c d : Int) : T V := execS RL (byReg [(rgRf, famRf)]) 12 [iv a, iv b, iv c, iv d]
end Go.Proofs.Ytheknddbbgjpkaa.Rin
