/- Layer 19: PickEven. -/
import Derived.Test.YtacdadifjgppbaaPicJ
namespace Go.Proofs.Ytacdadifjgppbaa.Pic
open Go.Eng Go.RowKit Go.Flt Lod Brk
set_option linter.unusedVariables false
set_option linter.unusedSimpArgs false
def okO (p : PO) (a : AO) : Prop := okB19 p.p p.m ∧ 0 ≤ p.k ∧ p.k ≤ 250 ∧ a.n = a.W.length ∧ a.i = a.e ∧ 0 ≤ a.e ∧ a.e ≤ p.p * p.m ∧ a.e ≤ p.k ∧ even a.W p.p a.e
def goO (p : PO) (a : AO) : Bool := decide (a.i < p.k) && decide (a.e < p.p * p.m)
def muO (p : PO) (a : AO) : Nat := (p.k - a.i).toNat
theorem pm_in {p m : Int} (h : okB19 p m) : 0 ≤ p * m ∧ p * m ≤ 200 := ⟨Int.mul_nonneg (by have := h.1; omega) h.2.2.1, Int.mul_le_mul h.2.1 h.2.2.2 h.2.2.1 (by decide)⟩
theorem zI_is {p : PO} {a : AO} (h : okO p a) : okI (pI p a) ⟨[], 0, 0⟩ ∧ zI p a = loads a.W ∧ (eI p a).j = (eI p a).z.length := by
  obtain ⟨h1, h2, h3, h4, h5, h6, h7, h8, h9⟩ := h
  have hl := h9.1
  have o1 : okI (pI p a) ⟨[], 0, 0⟩ := ⟨h4, hl, by have := h1.2.1; show a.W.length ≤ 20; omega, rfl, rfl, by have := h1.1; show (0 : Int) ≤ p.p; omega, rfl⟩
  obtain ⟨⟨-, -, -, e4, e5, e6, e7⟩, e8⟩ := endC stepI o1
  have e9 : ¬ (eI p a).q < p.p := of_decide_eq_false e8
  have e6' : (eI p a).q ≤ p.p := e6
  have e5' : (eI p a).q = (eI p a).z.length := e5
  have e4' : (eI p a).j = (eI p a).z.length := e4
  refine ⟨o1, ?_, e4⟩
  unfold zI
  rw [e4', List.drop_zero, List.take_length]
  have e7' : (eI p a).z = (loads a.W).take (eI p a).z.length := e7
  rw [e7', List.take_of_length_le (by rw [loads_len]; omega)]
theorem condO {p : PO} {a : AO} (h : okO p a) : invC okS (pA (zI p a) (clampL p.m)) ⟨0, 0⟩ = true ∧ ((eS (zI p a) (clampL p.m)).b != IntKind.wrap .i64 (IntKind.wrap .i64 (p.p * p.m) - a.e)) = false ∧ invC okA (pA (zI p a) p.m) ⟨-1, 0⟩ = true ∧
    (a.e < p.p * p.m → bO p a = a.e % p.p) ∧ (¬ a.e < p.p * p.m → bO p a = -1) ∧ (bif !(decide (0 ≤ bO p a) == decide (a.e < IntKind.wrap .i64 (p.p * p.m))) then true else decide (p.p ≤ bO p a)) = false := by
  obtain ⟨-, hz, -⟩ := zI_is h
  obtain ⟨h1, h2, h3, h4, h5, h6, h7, h8, h9⟩ := h
  have hk := even_okL h1 h9
  have hq := qr h1 ⟨h6, h7⟩
  have hpm := pm_in h1
  have hc : clampL p.m = p.m := by have := h1.2.2; unfold clampL; split <;> split <;> omega
  obtain ⟨s1, s2⟩ := spare_ok hk (m := p.m) (by have := h1.2.2; omega)
  obtain ⟨a1, a2⟩ := least_ok hk p.m
  have hl := h9.1
  have hb : bO p a = (eA (loads a.W) p.m).b := by unfold bO; rw [hz]
  obtain ⟨b1, b2⟩ := even_best h1 ⟨h6, h7⟩ h9 a2
  rw [← hb] at b1 b2
  have w1 : IntKind.wrap .i64 (p.p * p.m) = p.p * p.m := wrap64_in (by omega) (by omega)
  have hs := even_sum h1 ⟨h6, h7⟩ h9 a.W.length (by omega)
  have hs2 : sumR (loads a.W) p.m (loads a.W).length = p.p * p.m - a.e := by
    rw [loads_len, hs, ← hl, if_neg (by omega), Int.mul_sub]; omega
  rw [hz, hc, w1, s2, hs2, wrap64_in (n := p.p * p.m - a.e) (by omega) (by omega)]
  refine ⟨s1, by simp, a1, b1, b2, ?_⟩
  by_cases q : a.e < p.p * p.m
  · rw [b1 q, decide_eq_true q, decide_eq_true hq.2.2.1, decide_eq_false (by omega)]; rfl
  · have := h1.1
    rw [b2 q, decide_eq_false q, decide_eq_false (by decide), decide_eq_false (by omega)]; rfl
theorem stepO (p : PO) (a : AO) (h : okO p a) (hg : goO p a = true) : ∃ b, stepC okO rdO FO muO p a b := by
  obtain ⟨z1, z2, z3⟩ := zI_is h
  obtain ⟨c1, c2, c3, c4, -, c5⟩ := condO h
  obtain ⟨h1, h2, h3, h4, h5, h6, h7, h8, h9⟩ := h
  unfold goO at hg
  simp only [Bool.and_eq_true, decide_eq_true_eq] at hg
  have hq := qr h1 ⟨h6, h7⟩
  have hpm := pm_in h1
  have hl := h9.1
  have p1 := h1.1
  have hb := c4 hg.2
  have g0 := even_in h1 ⟨h6, h7⟩ h9 hq.2.2.1 hq.2.2.2.1
  have m10 := h1.2.2.2
  have w1 : IntKind.wrap .i64 (a.i + 1) = a.i + 1 := wrap64_in (by omega) (by omega)
  have w2 : IntKind.wrap .i64 (a.e + 1) = a.e + 1 := wrap64_in (by omega) (by omega)
  have w3 : IntKind.wrap .i64 (gI a.W (a.e % p.p) + 1) = gI a.W (a.e % p.p) + 1 := wrap64_in (by omega) (by omega)
  have i1 : idI a.W a.n (bO p a) = true ∧ ldI a.W (bO p a) = true := by
    unfold idI ldI
    rw [hb, decide_eq_true hq.2.2.1, decide_eq_true (show a.e % p.p < (a.n : Int) by omega), decide_eq_true (show 0 + (a.e % p.p).toNat < a.W.length by omega)]
    exact ⟨rfl, rfl⟩
  refine ⟨_, T.path_eval (wayO p a) ⟨decide_eq_true hg.1, invC_is z1, decide_eq_true (by omega), c1, c2, decide_eq_true (by omega), c3, c5, decide_eq_false (by omega), by rw [beq_eq_false_iff_ne]; omega, ?_, i1.1, i1.2, i1.1, i1.2, trivial⟩, ⟨h1, h2, h3, ?_, ?_, ?_, ?_, ?_, ?_⟩, ?_⟩
  · rw [hb, Int.tmod_eq_emod_of_nonneg h6]; simp
  · show a.n = (a.W.set _ _).length; rw [List.length_set]; exact h4
  · show IntKind.wrap .i64 (a.i + 1) = IntKind.wrap .i64 (a.e + 1); rw [h5]
  · show 0 ≤ IntKind.wrap .i64 (a.e + 1); rw [w2]; omega
  · show IntKind.wrap .i64 (a.e + 1) ≤ _; rw [w2]; omega
  · show IntKind.wrap .i64 (a.e + 1) ≤ _; rw [w2]; omega
  · show even (a.W.set (0 + (bO p a).toNat) (IntKind.wrap .i64 (gI a.W (bO p a) + 1))) p.p (IntKind.wrap .i64 (a.e + 1))
    rw [w2, hb, w3]
    exact even_next h1 ⟨h6, hg.2⟩ h9
  · show (p.k - IntKind.wrap .i64 (a.i + 1)).toNat < (p.k - a.i).toNat
    rw [w1]; omega
theorem exO (p : PO) (a : AO) (h : okO p a) (hg : goO p a = false) : (rdO p a).eval = some (.exit 0, FO p a) := by
  by_cases q : a.i < p.k
  · have q2 : ¬ a.e < p.p * p.m := by
      intro r
      unfold goO at hg
      rw [decide_eq_true q, decide_eq_true r] at hg
      cases hg
    obtain ⟨z1, z2, z3⟩ := zI_is h
    obtain ⟨c1, c2, c3, -, c4, c5⟩ := condO h
    have hb := c4 q2
    exact T.path_eval (wayOb p a) ⟨decide_eq_true q, invC_is z1, decide_eq_true (by omega), c1, c2, decide_eq_true (by omega), c3, c5, decide_eq_true (by omega), trivial⟩
  · exact T.path_eval (wayOx p a) ⟨decide_eq_false q, trivial⟩
def okTt (p : PT) (a : AT) : Prop := okB19 p.p p.m ∧ p.n = p.W.length ∧ 0 ≤ p.e ∧ p.e ≤ p.p * p.m ∧ even p.W p.p p.e ∧ 0 ≤ a.i ∧ a.i ≤ p.p
def goT (p : PT) (a : AT) : Bool := decide (a.i < p.p)
def muT (p : PT) (a : AT) : Nat := (p.p - a.i).toNat
theorem stepT (p : PT) (a : AT) (h : okTt p a) (hg : goT p a = true) : ∃ b, stepC okTt rdT FT muT p a b := by
  obtain ⟨h1, h2, h3, h4, h5, h6, h7⟩ := id h
  have hi : a.i < p.p := of_decide_eq_true hg
  have hq := qr h1 ⟨h3, h4⟩
  have hl := h5.1
  have p1 := h1.1
  have p2 := h1.2.1
  have w1 : IntKind.wrap .i64 (a.i + 1) = a.i + 1 := wrap64_in (by omega) (by omega)
  have i1 : idI p.W p.n a.i = true ∧ ldI p.W a.i = true := by
    unfold idI ldI
    rw [decide_eq_true h6, decide_eq_true (show a.i < (p.n : Int) by omega), decide_eq_true (show 0 + a.i.toNat < p.W.length by omega)]
    exact ⟨rfl, rfl⟩
  have g0 := even_in h1 ⟨h3, h4⟩ h5 h6 hi
  have g1 := h5.2 a.i h6 hi
  have w2 : IntKind.wrap .i64 (Int.tdiv p.e p.p) = p.e / p.p := by rw [Int.tdiv_eq_ediv_of_nonneg h3]; exact wrap64_in (by omega) (by omega)
  have w3 : IntKind.wrap .i64 (p.e / p.p + 1) = p.e / p.p + 1 := wrap64_in (by omega) (by omega)
  have x0 : decide (p.m < gI p.W a.i) = false := decide_eq_false (by omega)
  have c1 : c1T p a = false := by
    unfold c1T
    rw [x0, w2]
    exact decide_eq_false (by split at g1 <;> omega)
  have t1 : ∀ c b : Bool, b = true → (bif c then b else true) = true := by intro c b e; subst e; cases c <;> rfl
  have pz : (p.p == 0) = false := by rw [beq_eq_false_iff_ne]; omega
  refine ⟨_, T.path_eval (wayT p a) ⟨hg, i1.1, i1.2, t1 _ _ i1.1, t1 _ _ i1.2, x0, pz, t1 _ _ i1.1, t1 _ _ i1.2, c1, pz, ?_, trivial⟩, ⟨h1, h2, h3, h4, h5, ?_, ?_⟩, ?_⟩
  · rw [c1, w2, w3]
    exact decide_eq_false (by split at g1 <;> omega)
  · show 0 ≤ IntKind.wrap .i64 (a.i + 1); rw [w1]; omega
  · show IntKind.wrap .i64 (a.i + 1) ≤ _; rw [w1]; omega
  · show (p.p - IntKind.wrap .i64 (a.i + 1)).toNat < (p.p - a.i).toNat
    rw [w1]; omega
theorem exT (p : PT) (a : AT) (h : okTt p a) (hg : goT p a = false) : (rdT p a).eval = some (.exit 4, FT p a) := T.path_eval (wayTx p a) ⟨hg, trivial⟩
def decO : List V → List Blk → Option (PO × AO)
  | [.s (.int .i64 p), .s (.int .i64 m), .s (.int .i64 k), .sub 0 1 0 n, .s (.int .i64 e), .s (.int .i64 i)], [.lst true t0 [.int .i64] W] => if t0 = 3 then some (⟨p, m, k⟩, ⟨W, n, e, i⟩) else none
  | _, _ => none
theorem decO_ok (l : List V) (b : List Blk) (d : PO × AO) (h : decO l b = some d) : l = vsO d.1 d.2 ∧ b = bsO d.2 := by
  unfold decO at h
  split at h
  · split at h
    · rename_i ht0
      subst ht0
      cases h
      exact ⟨rfl, rfl⟩
    · cases h
  · cases h
def decT : List V → List Blk → Option (PT × AT)
  | [.s (.int .i64 p), .s (.int .i64 m), .s (.int .i64 k), .sub 0 1 0 n, .s (.int .i64 e), .s (.int .i64 i)], [.lst true t0 [.int .i64] W] => if t0 = 3 then some (⟨p, m, k, W, n, e⟩, ⟨i⟩) else none
  | _, _ => none
theorem decT_ok (l : List V) (b : List Blk) (d : PT × AT) (h : decT l b = some d) : l = vsT d.1 d.2 ∧ b = bsT d.1 := by
  unfold decT at h
  split at h
  · split at h
    · rename_i ht0
      subst ht0
      cases h
      exact ⟨rfl, rfl⟩
    · cases h
  · cases h
noncomputable def famO : LSpec := famC [7,8,9,10,11,12] SO 1000 1000 132 decO okO goO rdO FO muO (.exit 0)
theorem famS_ok {c : Code} (hl : LoopsOkS C3 (byReg ilist) c) (hrun : ∀ p a, T.anon (roundN C3 (byReg ilist) c [7,8,9,10,11,12] SO 1000 1000 (mkSt [7,8,9,10,11,12] (keysR SO) 1000 132 (vsO p a) (bsO a))) = rdO p a) : LoopOk C3 c famO :=
  famC_ok (vs := vsO) (bs := fun _ a => bsO a) C3_ok mixed hl.ok decO_ok (by simp) (fun _ _ => rfl) hrun stepO exO
theorem lpO_ok : LoopOk C3 lv1 famO := famS_ok ilps_ok fun _ _ => rfl
noncomputable def famT : LSpec := famC [7,8,9,10,11,16] SO 1000 1000 132 decT okTt goT rdT FT muT (.exit 4)
theorem lpT_ok : LoopOk C3 lv3 famT := famC_ok (vs := vsT) (bs := fun p _ => bsT p) C3_ok mixed (noLoops_ok _) decT_ok (by simp) (fun _ _ => rfl) (fun _ _ => rfl) stepT exT
noncomputable def elist : List (Nat × LSpec) := [(5, famO), (23, famT)]
theorem efind1 : findL elist 5 = some famO := rfl
theorem efind2 : findL elist 23 = some famT := rfl
theorem ereg1 : firstReg lv1 = some 5 := by kernel_rfl
theorem ereg2 : firstReg lv3 = some 23 := by kernel_rfl
theorem elps_ok : ∀ a ∈ loopsIn (codeOf Try.prog 17), ∀ sp, byReg elist a = some sp → LoopOk C3 a sp := by
  have e : loopsIn (codeOf Try.prog 17) = [lv1, lv3] := by kernel_rfl
  rw [e]
  intro a ha
  rcases List.mem_cons.1 ha with h | ha
  · rw [h]; exact byReg_mem ereg1 efind1 lpO_ok
  rcases List.mem_cons.1 ha with h | ha
  · rw [h]; exact byReg_mem ereg2 efind2 lpT_ok
  · cases ha
end Go.Proofs.Ytacdadifjgppbaa.Pic
