/- Layer 5: a ring's states, for the laws. -/
import Derived.Test.YtheknddbbgjpkaaRinL
namespace Go.Proofs.Ytheknddbbgjpkaa.Rin
open Go.Eng Go.RowKit Mil
set_option linter.unusedVariables false
set_option linter.unusedSimpArgs false
structure RS where
  w : Int
  g : Int
  n : Nat
  nw : Int
  ov : Bool
  l : List OB
def RS.new (w g : Int) : RS := ⟨w, g, nN w g, -1, false, emptyR (nN w g)⟩
noncomputable def RS.put (s : RS) (t v : Int) : RS := ⟨s.w, s.g, s.n, mxR s.nw (Int.tdiv t s.g), s.ov, putL s.w s.g s.n s.nw s.ov s.l (Int.tdiv t s.g) v⟩
noncomputable def RS.sumA (s : RS) (t : Int) : ARb := sumE s.w s.g s.n s.nw s.ov s.l (Int.tdiv t s.g)
noncomputable def RS.sum (s : RS) (t : Int) : RS := ⟨s.w, s.g, s.n, s.nw, bif s.ov then true else (s.sumA t).k, s.l⟩
noncomputable def RS.mean (s : RS) (t : Int) : Int := mnV (s.sumA t).s (s.sumA t).c
noncomputable def RS.res (s : RS) (x : Int) : RS := ⟨x, s.g, nN x s.g, s.nw, s.ov, resK s.w s.g s.n s.nw s.ov s.l x⟩
noncomputable def putC (s : RS) (t v : Int) : List (Bool × Bool) := [(decide (0 < s.n), true), (badA t v, false), (gdP s.w s.g s.n s.nw s.ov s.l t v, true)]
noncomputable def sumC (s : RS) (t : Int) : List (Bool × Bool) := [(decide (0 < s.n), true), (decide (t < 0), false), (pB (gdS s.g t s.n s.nw s.l), true)]
noncomputable def resC (s : RS) (x : Int) : List (Bool × Bool) := [(decide (0 < s.n), true), (badX x s.g, false), (pB (1 ≤ s.g ∧ ∃ rs, RepR s.n s.nw s.l rs), true)]
/-- the ring s holds the records rs -/
structure HoldsR (s : RS) (rs : List Rec) : Prop where
  rep : RepR s.n s.nw s.l rs
  g1 : 1 ≤ s.g
  g2 : s.g ≤ s.w
  w1 : s.w ≤ 600
  sn : s.n = nN s.w s.g
theorem HoldsR.new {w g : Int} (h1 : 1 ≤ g) (h2 : g ≤ w) (h3 : w ≤ 600) : HoldsR (RS.new w g) [] := ⟨newRep h1 h2 h3, h1, h2, h3, rfl⟩
theorem HoldsR.put {s : RS} {rs : List Rec} (h : HoldsR s rs) {t v : Int} (t0 : 0 ≤ t) (t1 : t ≤ 1099511627776) (v0 : 0 ≤ v) (v1 : v ≤ 9223372036854775807) (hl : rs.length < 1000000) :
    allSay (putC s t v) ∧ HoldsR (s.put t v) (putRs s.n s.nw (Int.tdiv t s.g) v rs) := by
  obtain ⟨i0, i1⟩ := tdiv_bd t0 h.g1
  exact ⟨⟨decide_eq_true h.rep.n0, badA_false.2 ⟨t0, t1, v0⟩, h.rep.gd h.g1 t0 t1 v0 v1, trivial⟩, ⟨h.rep.put i0 (by omega) v0 hl, h.g1, h.g2, h.w1, h.sn⟩⟩
theorem HoldsR.sum {s : RS} {rs : List Rec} (h : HoldsR s rs) {t : Int} (t0 : 0 ≤ t) (t1 : t ≤ 9223372036854775807) :
    allSay (sumC s t) ∧ HoldsR (s.sum t) rs ∧ (((s.sumA t).s, (s.sumA t).c, (s.sumA t).k) : RB) = smV (frR s.n s.nw (Int.tdiv t s.g)) (Int.tdiv t s.g + 1) rs := by
  obtain ⟨i0, i1⟩ := tdiv_bd t0 h.g1
  exact ⟨⟨decide_eq_true h.rep.n0, decide_eq_false (by omega), pB_is ⟨h.g1, t1, rs, h.rep⟩, trivial⟩, ⟨h.rep, h.g1, h.g2, h.w1, h.sn⟩, (sum_is h.rep i0 (by omega)).2⟩
theorem HoldsR.res {s : RS} {rs : List Rec} (h : HoldsR s rs) {x : Int} (x0 : s.g ≤ x) (x1 : x ≤ 600) :
    allSay (resC s x) ∧ HoldsR (s.res x) (rs.filter fun p => decide (s.nw - s.n < p.1)) :=
  ⟨⟨decide_eq_true h.rep.n0, badX_false.2 ⟨x0, x1⟩, pB_is ⟨h.g1, rs, h.rep⟩, trivial⟩, ⟨res_is h.rep h.g1 x0 x1, h.g1, x0, x1, rfl⟩⟩
theorem nN_one {w : Int} (h : 1 ≤ w) : ((nN w 1 : Nat) : Int) = w := by
  unfold nN
  rw [Int.tdiv_one]; omega
theorem smV_s {lo hi : Int} {rs : List Rec} {a : ARb} (h : ((a.s, a.c, a.k) : RB) = smV lo hi rs) : a.s = Mil.cutV (sv (wn lo hi rs)) ∧ a.c = ((wn lo hi rs).length : Int) ∧ a.k = decide (tpI < sv (wn lo hi rs)) := by
  unfold smV at h
  exact ⟨congrArg (fun x : RB => x.1) h, congrArg (fun x : RB => x.2.1) h, congrArg (fun x : RB => x.2.2) h⟩
def anB (a b : Bool) : Bool := bif a then b else false
abbrev wI (n : Int) : Int := IntKind.wrap .i64 n
theorem anB_t {a b : Bool} (h1 : a = true) (h2 : b = true) : anB a b = true := by rw [h1, h2]; rfl
theorem cut_small {s : Int} (h1 : 0 ≤ s) (h2 : s ≤ 9223372036854775807) : Mil.cutV s = s := (Mil.cut_in s (by omega) h2).1
theorem modI (a : Int) {m : Int} (hm : 0 < m) (h2 : m ≤ 9223372036854775807) : 0 ≤ IntKind.wrap .i64 (Int.tmod (IntKind.wrap .u64 a) m) ∧ IntKind.wrap .i64 (Int.tmod (IntKind.wrap .u64 a) m) < m := by
  rw [modU hm h2]; exact modU_range a hm
theorem wrapu {n : Int} (h0 : 0 ≤ n) (h1 : n ≤ 9223372036854775807) : IntKind.wrap .u64 n = n := by rw [wrapu64]; omega
theorem putRs_in {n : Nat} {nw b v : Int} {rs : List Rec} (h : mxR nw b - n < b) : putRs n nw b v rs = rs ++ [(b, v)] := by unfold putRs; rw [decide_eq_true h]; rfl
theorem putRs_out {n : Nat} {nw b v : Int} {rs : List Rec} (h : ¬ mxR nw b - n < b) : putRs n nw b v rs = rs := by unfold putRs; rw [decide_eq_false h]; rfl
theorem mxR_l {nw b : Int} (h : b ≤ nw) : mxR nw b = nw := by unfold mxR; split <;> omega
theorem mxR_r {nw b : Int} (h : nw ≤ b) : mxR nw b = b := by unfold mxR; split <;> omega
theorem beqI (z : Int) : (z == z) = true := by simp
end Go.Proofs.Ytheknddbbgjpkaa.Rin
