/- Layer 19: PickLeast, the rounds of its loops. -/
import Derived.Test.YtacdadifjgppbaaPicF
namespace Go.Proofs.Ytacdadifjgppbaa.Pic
open Go.Eng Go.RowKit Go.Flt Lod Brk
set_option linter.unusedVariables false
set_option linter.unusedSimpArgs false
def mB (p : PN) (a : AN) : Int := IntKind.wrap .i64 (Int.tmod (IntKind.wrap .u64 (gI p.g a.i)) 6)
def mW (p : PN) (a : AN) : Int := IntKind.wrap .i64 (Int.tmod (IntKind.wrap .u64 (Int.tdiv (IntKind.wrap .u64 (gI p.g a.i)) 6)) 6)
def mx (p : PN) (a : AN) : Nat × Nat := (fW (mB p a), fW (mW p a))
theorem wayM (p : PN) (a : AN) : T.path [true, true, true, false, true, true, false, false, true] (rdM p a) = some ([(bif decide (a.i < (p.k : Int)) then decide (a.i < 30) else false, true), (idI p.g p.k a.i, true), (ldI p.g a.i, true), ((6 : Int) == 0, false), (idI p.g p.k a.i, true), (ldI p.g a.i, true), ((6 : Int) == 0, false), ((6 : Int) == 0, false),
  (true && (decide (a.j ≤ a.z.length) && decide (a.j + [mx p a].length ≤ 1000000)), true)], (.normal, FM p ⟨List.take a.j a.z ++ [mx p a], a.j + [mx p a].length, IntKind.wrap .i64 (a.i + 1)⟩)) := by kernel_rfl
theorem wayMx (p : PN) (a : AN) : T.path [false] (rdM p a) = some ([(bif decide (a.i < (p.k : Int)) then decide (a.i < 30) else false, false)], (.exit 0, FM p a)) := by kernel_rfl
def goM (p : PN) (a : AN) : Bool := bif decide (a.i < (p.k : Int)) then decide (a.i < 30) else false
def muM (p : PN) (a : AN) : Nat := (30 - a.i).toNat
def okM (p : PN) (a : AN) : Prop := p.k = p.g.length ∧ a.j = a.z.length ∧ a.i = a.z.length ∧ a.i ≤ 30 ∧ ∀ x ∈ a.z, isW x.1 = true ∧ isW x.2 = true ∧ 0 ≤ valW x.1 ∧ valW x.1 ≤ 5
theorem vfw {t : Int} (h0 : 0 ≤ t) (h1 : t ≤ 1000) : valW (fW t) = t := by rw [valW_fW, wi_in h0 (by omega)]
theorem stepM (p : PN) (a : AN) (h : okM p a) (hg : goM p a = true) : ∃ b, stepC okM rdM FM muM p a b := by
  obtain ⟨h1, h4, h5, h6, h7⟩ := id h
  have hg0 := hg
  unfold goM at hg
  rw [cond_and] at hg
  simp only [Bool.and_eq_true, decide_eq_true_eq] at hg
  have hw : IntKind.wrap .i64 (a.i + 1) = a.i + 1 := wrap64_in (by omega) (by omega)
  have l1 : ldI p.g a.i = true := decide_eq_true (by omega)
  have i1 : idI p.g p.k a.i = true := by
    unfold idI
    rw [decide_eq_true (show 0 ≤ a.i by omega), decide_eq_true hg.1, decide_eq_true (show 0 + a.i.toNat < p.g.length by omega)]; rfl
  have b1 := umod (gI p.g a.i) (m := 6) (by decide)
  have e1 : mB p a = Int.tmod (IntKind.wrap .u64 (gI p.g a.i)) 6 := by
    unfold mB
    rw [wrap64_in (n := Int.tmod _ _) (by omega) (by omega)]
  have f1 := vfw (t := mB p a) (by omega) (by omega)
  refine ⟨_, T.path_eval (wayM p a) ⟨hg0, i1, l1, rfl, i1, l1, rfl, rfl, ?_, trivial⟩, ⟨h1, ?_, ?_, ?_, ?_⟩, ?_⟩
  · rw [decide_eq_true (show a.j ≤ a.z.length by omega), decide_eq_true (show a.j + [mx p a].length ≤ 1000000 by simp; omega)]; rfl
  · show a.j + [mx p a].length = (List.take a.j a.z ++ [mx p a]).length
    rw [h4]; simp
  · show IntKind.wrap .i64 (a.i + 1) = ((List.take a.j a.z ++ [mx p a]).length : Int)
    rw [hw, h4]; simp; omega
  · show IntKind.wrap .i64 (a.i + 1) ≤ 30; rw [hw]; omega
  · show ∀ x ∈ List.take a.j a.z ++ [mx p a], _
    rw [h4, List.take_length]
    intro x hx
    rcases List.mem_append.1 hx with q | q
    · exact h7 x q
    · obtain rfl := List.mem_singleton.1 q
      refine ⟨isW_fW _, isW_fW _, ?_, ?_⟩
      · show 0 ≤ valW (fW (mB p a)); rw [f1]; omega
      · show valW (fW (mB p a)) ≤ 5; rw [f1]; omega
  · show (30 - IntKind.wrap .i64 (a.i + 1)).toNat < (30 - a.i).toNat
    rw [hw]; omega
theorem exM (p : PN) (a : AN) (h : okM p a) (hg : goM p a = false) : (rdM p a).eval = some (.exit 0, FM p a) := T.path_eval (wayMx p a) ⟨hg, trivial⟩
noncomputable def famM : LSpec := famC [0,5,6,7] SM 1000 1001 157 decN okM goM rdM FM muM (.exit 0)
theorem lpM_ok : LoopOk C3 lm1 famM := famC_ok (vs := vsN) (bs := bsN) C3_ok mixed (noLoops_ok _) decN_ok (by simp) (fun _ _ => rfl) (fun _ _ => rfl) stepM exM
def bad1 (p : PQ) (a : AQ) : Bool := bif bif bif decide (p.k < 0) then true else decide ((p.j : Int) ≤ p.k) then true else decide (p.f < 0) then true else decide (a.i < p.f)
def bad2 (p : PQ) (a : AQ) : Bool := bif bad1 p a then true else ls p.z a.i p.k
def gd1 (p : PQ) (a : AQ) : Bool := bad1 p a == false && true
def gd2 (p : PQ) (a : AQ) : Bool := bad2 p a == false && (decide (a.i < p.k) == true && true)
def bad3 (p : PQ) (a : AQ) : Bool := bif bad2 p a then true else bif decide (a.i < p.k) then !(ls p.z p.k a.i) else false
theorem wayQ (p : PQ) (a : AQ) : T.path [true, true, true, true, true, true, true, true, true, true, true, true, true, true, true, false] (rdQ p a) = some ([(decide (a.i < (p.j : Int)), true), (idA p.z p.j a.i, true), (ldA p.z a.i, true), (isW (g1 p.z a.i).1, true), (decide (bz p.z a.i < p.m), true),
  (bif gd1 p a then idA p.z p.j a.i else true, true), (bif gd1 p a then ldA p.z a.i else true, true), (bif gd1 p a then idA p.z p.j p.k else true, true), (bif gd1 p a then ldA p.z p.k else true, true), (bif gd1 p a then all4 (g1 p.z a.i).1 (g1 p.z a.i).2 (g1 p.z p.k).1 (g1 p.z p.k).2 else true, true),
  (bif gd2 p a then idA p.z p.j p.k else true, true), (bif gd2 p a then ldA p.z p.k else true, true), (bif gd2 p a then idA p.z p.j a.i else true, true), (bif gd2 p a then ldA p.z a.i else true, true), (bif gd2 p a then all4 (g1 p.z p.k).1 (g1 p.z p.k).2 (g1 p.z a.i).1 (g1 p.z a.i).2 else true, true), (bad3 p a, false)],
  (.normal, FQ p ⟨IntKind.wrap .i64 (IntKind.wrap .i64 (a.r + p.m) - bz p.z a.i), IntKind.wrap .i64 (a.i + 1)⟩)) := by kernel_rfl
theorem wayQ2 (p : PQ) (a : AQ) : T.path [true, true, true, true, false] (rdQ p a) = some ([(decide (a.i < (p.j : Int)), true), (idA p.z p.j a.i, true), (ldA p.z a.i, true), (isW (g1 p.z a.i).1, true), (decide (bz p.z a.i < p.m), false)], (.normal, FQ p ⟨a.r, IntKind.wrap .i64 (a.i + 1)⟩)) := by kernel_rfl
theorem wayQx (p : PQ) (a : AQ) : T.path [false] (rdQ p a) = some ([(decide (a.i < (p.j : Int)), false)], (.exit 2, FQ p a)) := by kernel_rfl
def firstP (z : List (Nat × Nat)) (m f : Int) : Prop := (f = -1 ∧ ∀ j : Int, 0 ≤ j → j < z.length → ¬ bz z j < m) ∨ (0 ≤ f ∧ f < z.length ∧ bz z f < m ∧ ∀ j : Int, 0 ≤ j → j < f → ¬ bz z j < m)
def okQ (p : PQ) (a : AQ) : Prop := p.j = p.z.length ∧ p.z.length ≤ 30 ∧ 0 ≤ p.m ∧ p.m ≤ 6 ∧ (∀ j : Int, isW (g1 p.z j).1 = true ∧ isW (g1 p.z j).2 = true ∧ 0 ≤ bz p.z j ∧ bz p.z j ≤ 5) ∧ best p.z p.m p.z.length p.k ∧ firstP p.z p.m p.f ∧ 0 ≤ a.i ∧ a.i ≤ p.z.length ∧ a.r = sumR p.z p.m a.i.toNat
def goQ (p : PQ) (a : AQ) : Bool := decide (a.i < (p.j : Int))
def muQ (p : PQ) (a : AQ) : Nat := (p.j - a.i).toNat
theorem sumR_le {z : List (Nat × Nat)} {m : Int} (hm : 0 ≤ m) (hb : ∀ j, 0 ≤ bz z j) : ∀ n : Nat, 0 ≤ sumR z m n ∧ sumR z m n ≤ m * n
  | 0 => ⟨Int.le_refl 0, by simp [sumR]⟩
  | n + 1 => by
    have h1 := sumR_le hm hb n
    have h2 := room_in (b := bz z n) hm (hb n)
    show 0 ≤ sumR z m n + room m (bz z n) ∧ sumR z m n + room m (bz z n) ≤ m * ((n + 1 : Nat) : Int)
    rw [show ((n + 1 : Nat) : Int) = (n : Int) + 1 by omega, Int.mul_add]
    omega
theorem sumR_pos {z : List (Nat × Nat)} {m : Int} (hm : 0 ≤ m) (hb : ∀ j, 0 ≤ bz z j) (k : Nat) (hk : bz z k < m) : ∀ n : Nat, k < n → 0 < sumR z m n
  | 0, h => by omega
  | n + 1, h => by
    show 0 < sumR z m n + room m (bz z n)
    by_cases e : k = n
    · subst e
      have := (sumR_le hm hb k).1
      unfold room; split <;> omega
    · have h1 := sumR_pos hm hb k hk n (by omega)
      have h2 := room_in (b := bz z n) hm (hb n)
      omega
theorem stepQ (p : PQ) (a : AQ) (h : okQ p a) (hg : goQ p a = true) : ∃ b, stepC okQ rdQ FQ muQ p a b := by
  obtain ⟨h1, h2, h3, h4, h5, h6, h7, h8, h9, h10⟩ := id h
  have hi : a.i < (p.j : Int) := of_decide_eq_true hg
  have hw : IntKind.wrap .i64 (a.i + 1) = a.i + 1 := wrap64_in (by omega) (by omega)
  obtain ⟨x1, x2⟩ := idA_is (g := p.z) (k := p.j) (i := a.i) h1 h8 hi
  have hs : sumR p.z p.m (a.i + 1).toNat = a.r + room p.m (bz p.z a.i) := by
    rw [show (a.i + 1).toNat = a.i.toNat + 1 by omega, h10]
    show sumR p.z p.m a.i.toNat + room p.m (bz p.z (a.i.toNat : Int)) = _
    rw [show ((a.i.toNat : Nat) : Int) = a.i by omega]
  have hl := sumR_le (z := p.z) h3 (fun j => (h5 j).2.2.1) a.i.toNat
  have hl2 : p.m * (a.i.toNat : Int) ≤ 6 * 30 := Int.mul_le_mul h4 (by omega) (by omega) (by omega)
  have hb := (h5 a.i).2.2
  by_cases hm : bz p.z a.i < p.m
  · have hk : 0 ≤ p.k ∧ p.k < p.z.length ∧ ls p.z a.i p.k = false ∧ (a.i < p.k → ls p.z p.k a.i = true) := by
      rcases h6 with q | q
      · exact absurd hm (q.2 a.i h8 (by omega))
      · have := q.2.2.2 a.i h8 (by omega) hm
        exact ⟨q.1, q.2.1, this.1, this.2⟩
    have hf : 0 ≤ p.f ∧ p.f ≤ a.i := by
      rcases h7 with q | q
      · exact absurd hm (q.2 a.i h8 (by omega))
      · refine ⟨q.1, ?_⟩
        rcases Int.lt_or_le a.i p.f with r | r
        · exact absurd hm (q.2.2.2 a.i h8 r)
        · exact r
    have b1 : bad1 p a = false := by
      unfold bad1
      rw [decide_eq_false (show ¬ p.k < 0 by omega), decide_eq_false (show ¬ (p.j : Int) ≤ p.k by omega), decide_eq_false (show ¬ p.f < 0 by omega), decide_eq_false (show ¬ a.i < p.f by omega)]; rfl
    have b2 : bad2 p a = false := by unfold bad2; rw [b1]; exact hk.2.2.1
    have b3 : bad3 p a = false := by
      unfold bad3
      rw [b2]
      by_cases r : a.i < p.k
      · rw [decide_eq_true r, hk.2.2.2 r]; rfl
      · rw [decide_eq_false r]; rfl
    obtain ⟨y1, y2⟩ := idA_is (g := p.z) (k := p.j) (i := p.k) h1 hk.1 (by omega)
    have al : all4 (g1 p.z a.i).1 (g1 p.z a.i).2 (g1 p.z p.k).1 (g1 p.z p.k).2 = true := by unfold all4; rw [(h5 a.i).1, (h5 a.i).2.1, (h5 p.k).1, (h5 p.k).2.1]; rfl
    have al2 : all4 (g1 p.z p.k).1 (g1 p.z p.k).2 (g1 p.z a.i).1 (g1 p.z a.i).2 = true := by unfold all4; rw [(h5 a.i).1, (h5 a.i).2.1, (h5 p.k).1, (h5 p.k).2.1]; rfl
    have t1 : ∀ c b : Bool, b = true → (bif c then b else true) = true := by intro c b e; subst e; cases c <;> rfl
    have e1 : IntKind.wrap .i64 (IntKind.wrap .i64 (a.r + p.m) - bz p.z a.i) = a.r + room p.m (bz p.z a.i) := by
      rw [wrap64_in (n := a.r + p.m) (by omega) (by omega), wrap64_in (by omega) (by omega)]
      unfold room; split <;> omega
    refine ⟨_, T.path_eval (wayQ p a) ⟨hg, x1, x2, (h5 _).1, decide_eq_true hm, t1 _ _ x1, t1 _ _ x2, t1 _ _ y1, t1 _ _ y2, t1 _ _ al, t1 _ _ y1, t1 _ _ y2, t1 _ _ x1, t1 _ _ x2, t1 _ _ al2, b3, trivial⟩, ⟨h1, h2, h3, h4, h5, h6, h7, ?_, ?_, ?_⟩, ?_⟩
    · show 0 ≤ IntKind.wrap .i64 (a.i + 1); rw [hw]; omega
    · show IntKind.wrap .i64 (a.i + 1) ≤ _; rw [hw]; omega
    · show IntKind.wrap .i64 (IntKind.wrap .i64 (a.r + p.m) - bz p.z a.i) = sumR p.z p.m (IntKind.wrap .i64 (a.i + 1)).toNat
      rw [hw, hs, e1]
    · show (p.j - IntKind.wrap .i64 (a.i + 1)).toNat < (p.j - a.i).toNat
      rw [hw]; omega
  · have e1 : room p.m (bz p.z a.i) = 0 := by unfold room; split <;> omega
    refine ⟨_, T.path_eval (wayQ2 p a) ⟨hg, x1, x2, (h5 _).1, decide_eq_false hm, trivial⟩, ⟨h1, h2, h3, h4, h5, h6, h7, ?_, ?_, ?_⟩, ?_⟩
    · show 0 ≤ IntKind.wrap .i64 (a.i + 1); rw [hw]; omega
    · show IntKind.wrap .i64 (a.i + 1) ≤ _; rw [hw]; omega
    · show a.r = sumR p.z p.m (IntKind.wrap .i64 (a.i + 1)).toNat
      rw [hw, hs, e1]; omega
    · show (p.j - IntKind.wrap .i64 (a.i + 1)).toNat < (p.j - a.i).toNat
      rw [hw]; omega
theorem exQ (p : PQ) (a : AQ) (h : okQ p a) (hg : goQ p a = false) : (rdQ p a).eval = some (.exit 2, FQ p a) := T.path_eval (wayQx p a) ⟨hg, trivial⟩
def decQ : List V → List Blk → Option (PQ × AQ)
  | [.s (.int .i64 m), .sub 1000 1 0 j, .s (.int .i64 k), .s (.int .i64 f), .s (.int .i64 r), .s (.int .i64 i)], [.lst true t1 [.cx .f64] z] => if t1 = 23 then some (⟨z, j, m, k, f⟩, ⟨r, i⟩) else none
  | _, _ => none
theorem decQ_ok (l : List V) (b : List Blk) (d : PQ × AQ) (h : decQ l b = some d) : l = vsQ d.1 d.2 ∧ b = bsQ d.1 := by
  unfold decQ at h
  split at h
  · split at h
    · rename_i ht1
      subst ht1
      cases h
      exact ⟨rfl, rfl⟩
    · cases h
  · cases h
noncomputable def famQ : LSpec := famC [5,6,8,9,10,11] SQ 2000 2000 157 decQ okQ goQ rdQ FQ muQ (.exit 2)
theorem lpQ_ok : LoopOk C3 lm2 famQ := famC_ok (vs := vsQ) (bs := fun p _ => bsQ p) C3_ok mixed (noLoops_ok _) decQ_ok (by simp) (fun _ _ => rfl) (fun _ _ => rfl) stepQ exQ
noncomputable def mlist : List (Nat × LSpec) := [(4, famM), (10, famQ)]
theorem mfind1 : findL mlist 4 = some famM := rfl
theorem mfind2 : findL mlist 10 = some famQ := rfl
theorem mreg1 : firstReg lm1 = some 4 := by kernel_rfl
theorem mreg2 : firstReg lm2 = some 10 := by kernel_rfl
theorem mlps_ok : ∀ a ∈ loopsIn (codeOf Try.prog 18), ∀ sp, byReg mlist a = some sp → LoopOk C3 a sp := by
  have e : loopsIn (codeOf Try.prog 18) = [lm1, lm2] := by kernel_rfl
  rw [e]
  intro a ha
  rcases List.mem_cons.1 ha with h | ha
  · rw [h]; exact byReg_mem mreg1 mfind1 lpM_ok
  rcases List.mem_cons.1 ha with h | ha
  · rw [h]; exact byReg_mem mreg2 mfind2 lpQ_ok
  · cases ha
end Go.Proofs.Ytacdadifjgppbaa.Pic
