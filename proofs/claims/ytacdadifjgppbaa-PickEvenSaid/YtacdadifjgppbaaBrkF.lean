/- Layer 7: the loops of BreakerFull. -/
import Derived.Test.YtacdadifjgppbaaBrkE
namespace Go.Proofs.Ytacdadifjgppbaa.Brk
open Go.Eng Go.RowKit Go.Flt Lod
set_option linter.unusedVariables false
set_option linter.unusedSimpArgs false
def decF : List V → List Blk → Option (PF × AF)
  | [.s (.int .i64 n), .s (.int .i64 d), .ptr 0 0, .s (.int .i64 i)], [.cells t [.s (.int .i64 L), .s (.int .i64 D), .s (.cx .f64 x y)]] => if t = 76 then some (⟨n, d, L, D⟩, ⟨x, y, i⟩) else none
  | _, _ => none
theorem decF_ok (l : List V) (b : List Blk) (d : PF × AF) (h : decF l b = some d) : l = vsF d.1 d.2 ∧ b = bsF d.1 d.2 := by
  unfold decF at h
  split at h
  · split at h
    · rename_i ht
      subst ht
      cases h
      exact ⟨rfl, rfl⟩
    · cases h
  · cases h
def decG : List V → List Blk → Option (PG × AF)
  | [.s (.int .i64 n), .s (.int .i64 d), .ptr 0 0, .s (.int .i64 e), .s (.cx .f64 zx zy), .s (.int .i64 i)], [.cells t [.s (.int .i64 L), .s (.int .i64 D), .s (.cx .f64 x y)]] => if t = 76 then some (⟨n, d, L, D, e, zx, zy⟩, ⟨x, y, i⟩) else none
  | _, _ => none
theorem decG_ok (l : List V) (b : List Blk) (d : PG × AF) (h : decG l b = some d) : l = vsG d.1 d.2 ∧ b = bsG d.1 d.2 := by
  unfold decG at h
  split at h
  · split at h
    · rename_i ht
      subst ht
      cases h
      exact ⟨rfl, rfl⟩
    · cases h
  · cases h
def bIn (n i : Int) : Int := if i < n then i else n
def wIn (n i : Int) : Int := if i < n then 0 else i - n
def invF (p : PF) (a : AF) : Bool := decide (p.L = p.n) && decide (p.D = p.d) && decide (1 ≤ p.n) && decide (p.n ≤ 20) && decide (0 ≤ p.d) && decide (p.d ≤ 20) && decide (0 ≤ a.i) && decide (a.i ≤ p.n + p.d) && isW a.x && isW a.y && decide (valW a.x = bIn p.n a.i) && decide (valW a.y = wIn p.n a.i)
def nxtF (p : PF) (a : AF) : Option AF := if a.i < p.n + p.d then some (if a.i < p.n then ⟨fW (valW a.x + 1), fW (valW a.y), a.i + 1⟩ else ⟨fW (valW a.x), fW (valW a.y + 1), a.i + 1⟩) else none
noncomputable def outF (p : PF) (a : AF) : T (Ex × St) := .ret (.exit 0, FF p a)
theorem stF (p : PF) (a b : AF) (h : invF p a = true) (e : nxtF p a = some b) : invF p b = true ∧ (p.n + p.d - b.i).toNat < (p.n + p.d - a.i).toNat := by
  obtain ⟨x, y, i⟩ := a
  unfold nxtF at e
  unfold invF at h
  dsimp only at e h
  split at e
  · rename_i hc
    obtain rfl := Option.some.inj e
    simp only [Bool.and_eq_true, decide_eq_true_eq] at h
    obtain ⟨⟨⟨⟨⟨⟨⟨⟨⟨⟨⟨h1, h2⟩, h3⟩, h4⟩, h5⟩, h6⟩, h7⟩, h8⟩, h9⟩, h10⟩, h11⟩, h12⟩ := h
    unfold bIn at h11
    unfold wIn at h12
    split
    · rename_i q
      rw [if_pos q] at h11 h12
      simp only [invF, Bool.and_eq_true, decide_eq_true_eq, isW_fW, valW_fW, h11, h12]
      rw [wi_in (n := i + 1) (by omega) (by omega), wi_in (n := 0) (by omega) (by omega)]
      refine ⟨⟨⟨⟨⟨⟨⟨⟨⟨⟨⟨⟨h1, h2⟩, h3⟩, h4⟩, h5⟩, h6⟩, by omega⟩, by omega⟩, trivial⟩, trivial⟩, ?_⟩, ?_⟩, by omega⟩
      · unfold bIn; split <;> omega
      · unfold wIn; split <;> omega
    · rename_i q
      rw [if_neg q] at h11 h12
      simp only [invF, Bool.and_eq_true, decide_eq_true_eq, isW_fW, valW_fW, h11, h12]
      rw [wi_in (n := p.n) (by omega) (by omega), wi_in (n := i - p.n + 1) (by omega) (by omega)]
      refine ⟨⟨⟨⟨⟨⟨⟨⟨⟨⟨⟨⟨h1, h2⟩, h3⟩, h4⟩, h5⟩, h6⟩, by omega⟩, by omega⟩, trivial⟩, trivial⟩, ?_⟩, ?_⟩, by omega⟩
      · unfold bIn; split <;> omega
      · unfold wIn; split <;> omega
  · cases e
theorem okB_is {L D : Int} {x y : Nat} (hx : isW x = true) (hy : isW y = true) (h1 : 0 ≤ L ∧ L ≤ 2000) (h2 : 0 ≤ D ∧ D ≤ 2000) (h3 : 0 ≤ valW x ∧ valW x ≤ 2000) (h4 : 0 ≤ valW y ∧ valW y ≤ 2000) : okB L D x y = true := by
  unfold okB inS
  rw [hx, hy]
  simp; omega
theorem lpF_ok : LoopOk B5 bf1 (famWN [5,6,7,8] S0 1000 1000 111 decF invF nxtF outF) := by
  refine famWN_ok (vs := vsF) (bs := bsF) B5_ok mixed (noLoops_ok _) decF_ok (fun p a => (p.n + p.d - a.i).toNat) stF fun ⟨n, d, L, D⟩ ⟨x, y, i⟩ h => ?_
  have e : T.anon (roundN B5 noLoops bf1 [5,6,7,8] S0 1000 1000 (mkSt [5,6,7,8] (keysR S0) 1000 111 (vsF ⟨n, d, L, D⟩ ⟨x, y, i⟩) (bsF ⟨n, d, L, D⟩ ⟨x, y, i⟩))) = rtF n d L D x y i := by kernel_rfl
  rw [← T.eval_anon (t := roundN _ _ _ _ _ _ _ _), e]
  clear e
  simp only [invF, Bool.and_eq_true, decide_eq_true_eq] at h
  obtain ⟨⟨⟨⟨⟨⟨⟨⟨⟨⟨⟨rfl, rfl⟩, h3⟩, h4⟩, h5⟩, h6⟩, h7⟩, h8⟩, h9⟩, h10⟩, h11⟩, h12⟩ := h
  simp only [nxtF, outF]
  unfold rtF
  rw [wrap64_in (n := L + D) (by omega) (by omega)]
  by_cases hc : i < L + D
  · rw [if_pos hc]
    refine ⟨fun b hb => ?_, fun h => by cases h⟩
    obtain rfl := Option.some.inj hb
    rw [wrap64_in (n := i + 1) (by omega) (by omega)]
    unfold bIn at h11
    unfold wIn at h12
    by_cases q : i < L
    · rw [if_pos q] at h11 h12 ⊢
      refine tev_then (decide_eq_true hc) (tev_then (okB_is h9 h10 (by omega) (by omega) (by omega) (by omega)) (tev_then (by rw [h11]; exact decide_eq_true q) (tev_else (by rw [decide_eq_true q]; rfl) rfl)))
    · rw [if_neg q] at h11 h12 ⊢
      refine tev_then (decide_eq_true hc) (tev_then (okB_is h9 h10 (by omega) (by omega) (by omega) (by omega)) (tev_else (by rw [h11]; simp) (tev_then (by rw [h12]; exact decide_eq_true (by omega)) (tev_else (by rw [decide_eq_false q]; rfl) rfl))))
  · rw [if_neg hc]
    refine ⟨fun b hb => (by cases hb), fun _ r hr => ?_⟩
    obtain rfl := Option.some.inj hr
    exact ⟨by simp, tev_else (decide_eq_false hc) rfl⟩
def bOut (n d i : Int) : Int := if n + d - i < n then n + d - i else n
def wOut (d i : Int) : Int := if i < d then d - i else 0
def invG (p : PG) (a : AF) : Bool := decide (p.L = p.n) && decide (p.D = p.d) && decide (1 ≤ p.n) && decide (p.n ≤ 20) && decide (0 ≤ p.d) && decide (p.d ≤ 20) && decide (0 ≤ a.i) && decide (a.i ≤ p.n + p.d) && isW a.x && isW a.y && decide (valW a.x = bOut p.n p.d a.i) && decide (valW a.y = wOut p.d a.i)
def nxtG (p : PG) (a : AF) : Option AF := if a.i < p.n + p.d then some ⟨fW (valW a.x - 1 + adm p.n (valW a.x - 1) (valW a.y)), fW (valW a.y - adm p.n (valW a.x - 1) (valW a.y)), a.i + 1⟩ else none
noncomputable def outG (p : PG) (a : AF) : T (Ex × St) := .ret (.exit 2, FG p a)
theorem admG {n d i : Int} (h1 : 1 ≤ n) (h2 : 0 ≤ d) (h3 : 0 ≤ i) (h4 : i < n + d) : adm n (bOut n d i - 1) (wOut d i) = if i < d then 1 else 0 := by
  unfold adm fr bOut wOut
  repeat' split
  all_goals omega
theorem stG (p : PG) (a b : AF) (h : invG p a = true) (e : nxtG p a = some b) : invG p b = true ∧ (p.n + p.d - b.i).toNat < (p.n + p.d - a.i).toNat := by
  obtain ⟨x, y, i⟩ := a
  unfold nxtG at e
  unfold invG at h
  dsimp only at e h
  split at e
  · rename_i hc
    obtain rfl := Option.some.inj e
    simp only [Bool.and_eq_true, decide_eq_true_eq] at h
    obtain ⟨⟨⟨⟨⟨⟨⟨⟨⟨⟨⟨h1, h2⟩, h3⟩, h4⟩, h5⟩, h6⟩, h7⟩, h8⟩, h9⟩, h10⟩, h11⟩, h12⟩ := h
    have ha := admG h3 h5 h7 hc
    simp only [invG, Bool.and_eq_true, decide_eq_true_eq, isW_fW, valW_fW, h11, h12, ha]
    have hb : 1 ≤ bOut p.n p.d i ∧ bOut p.n p.d i ≤ 20 := by unfold bOut; split <;> omega
    have hw : 0 ≤ wOut p.d i ∧ wOut p.d i ≤ 20 := by unfold wOut; split <;> omega
    have e1 : bOut p.n p.d i - 1 + (if i < p.d then 1 else 0) = bOut p.n p.d (i + 1) := by
      unfold bOut; repeat' split
      all_goals omega
    have e2 : wOut p.d i - (if i < p.d then 1 else 0) = wOut p.d (i + 1) := by
      unfold wOut; repeat' split
      all_goals omega
    have hb' : 0 ≤ bOut p.n p.d (i + 1) ∧ bOut p.n p.d (i + 1) ≤ 20 := by unfold bOut; split <;> omega
    have hw' : 0 ≤ wOut p.d (i + 1) ∧ wOut p.d (i + 1) ≤ 20 := by unfold wOut; split <;> omega
    rw [e1, e2, wi_in (n := bOut p.n p.d (i + 1)) (by omega) (by omega), wi_in (n := wOut p.d (i + 1)) (by omega) (by omega)]
    exact ⟨⟨⟨⟨⟨⟨⟨⟨⟨⟨⟨⟨h1, h2⟩, h3⟩, h4⟩, h5⟩, h6⟩, by omega⟩, by omega⟩, trivial⟩, trivial⟩, rfl⟩, rfl⟩, by omega⟩
  · cases e
theorem lpG_ok : LoopOk B5 bf2 (famWN [5,6,7,12,13,14] S0 2000 2000 111 decG invG nxtG outG) := by
  refine famWN_ok (vs := vsG) (bs := bsG) B5_ok mixed (noLoops_ok _) decG_ok (fun p a => (p.n + p.d - a.i).toNat) stG fun ⟨n, d, L, D, e', zx, zy⟩ ⟨x, y, i⟩ h => ?_
  have e : T.anon (roundN B5 noLoops bf2 [5,6,7,12,13,14] S0 2000 2000 (mkSt [5,6,7,12,13,14] (keysR S0) 2000 111 (vsG ⟨n, d, L, D, e', zx, zy⟩ ⟨x, y, i⟩) (bsG ⟨n, d, L, D, e', zx, zy⟩ ⟨x, y, i⟩))) = rtG n d L D e' zx zy x y i := by kernel_rfl
  rw [← T.eval_anon (t := roundN _ _ _ _ _ _ _ _), e]
  clear e
  simp only [invG, Bool.and_eq_true, decide_eq_true_eq] at h
  obtain ⟨⟨⟨⟨⟨⟨⟨⟨⟨⟨⟨rfl, rfl⟩, h3⟩, h4⟩, h5⟩, h6⟩, h7⟩, h8⟩, h9⟩, h10⟩, h11⟩, h12⟩ := h
  simp only [nxtG, outG]
  unfold rtG
  rw [wrap64_in (n := L + D) (by omega) (by omega)]
  by_cases hc : i < L + D
  · rw [if_pos hc]
    refine ⟨fun b hb => ?_, fun h => by cases h⟩
    obtain rfl := Option.some.inj hb
    have ha := admG h3 h5 h7 hc
    have hb : 1 ≤ bOut L D i ∧ bOut L D i ≤ 20 := by unfold bOut; split <;> omega
    have hw : 0 ≤ wOut D i ∧ wOut D i ≤ 20 := by unfold wOut; split <;> omega
    rw [wrap64_in (n := i + 1) (by omega) (by omega)]
    refine tev_then (decide_eq_true hc) (tev_then (okB_is h9 h10 (by omega) (by omega) (by omega) (by omega)) (tev_else (by rw [h11, beq_eq_false_iff_ne]; omega) (tev_else ?_ rfl)))
    rw [h11, h12, ha]
    by_cases q : i < D
    · rw [if_pos q, decide_eq_true q]; rfl
    · rw [if_neg q, decide_eq_false q]; rfl
  · rw [if_neg hc]
    refine ⟨fun b hb => (by cases hb), fun _ r hr => ?_⟩
    obtain rfl := Option.some.inj hr
    exact ⟨by simp, tev_else (decide_eq_false hc) rfl⟩
noncomputable def flist : List (Nat × LSpec) := [(6, famWN [5,6,7,8] S0 1000 1000 111 decF invF nxtF outF), (14, famWN [5,6,7,12,13,14] S0 2000 2000 111 decG invG nxtG outG)]
theorem ffind : findL flist 6 = some (famWN [5,6,7,8] S0 1000 1000 111 decF invF nxtF outF) := rfl
theorem gfind : findL flist 14 = some (famWN [5,6,7,12,13,14] S0 2000 2000 111 decG invG nxtG outG) := rfl
theorem freg : firstReg bf1 = some 6 := by kernel_rfl
theorem greg : firstReg bf2 = some 14 := by kernel_rfl
theorem flps_ok : ∀ a ∈ loopsIn (codeOf Try.prog 9), ∀ sp, byReg flist a = some sp → LoopOk B5 a sp := by
  have e : loopsIn (codeOf Try.prog 9) = [bf1, bf2] := by kernel_rfl
  rw [e]
  intro a ha
  rcases List.mem_cons.1 ha with h | ha
  · rw [h]; exact byReg_mem freg ffind lpF_ok
  · rcases List.mem_cons.1 ha with h | ha
    · rw [h]; exact byReg_mem greg gfind lpG_ok
    · cases ha
end Go.Proofs.Ytacdadifjgppbaa.Brk
