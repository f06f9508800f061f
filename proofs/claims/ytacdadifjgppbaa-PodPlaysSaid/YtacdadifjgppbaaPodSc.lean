/- Layer 8: the loops of PodSteady. -/
import Derived.Test.YtacdadifjgppbaaPodSb
import Derived.Test.YtacdadifjgppbaaEngM
namespace Go.Proofs.Ytacdadifjgppbaa.Pod
open Go.Eng Go.RowKit Go.Flt Lod Brk
set_option linter.unusedVariables false
set_option linter.unusedSimpArgs false
def dec1 : List V → List Blk → Option (PS × AS)
  | [.sub 0 1 0 n, .s (.int .i64 k), .ptr 1 0, .s (.int .i64 i)], [.lst false t0 [.int .i64] g, .cells t1 [.s (.int .i64 id), .ptr 2 0, .s (.int .i64 m), .s (.int .i64 t), .s (.int .i64 u), .s (.int .i64 s)], .cells t2 [.s (.int .i64 L), .s (.int .i64 D), .s (.cx .f64 x y)]] =>
    if t0 = 3 then if t1 = 78 then if t2 = 76 then some (⟨g, n, k, id, m, L, D⟩, ⟨x, y, t, u, s, i⟩) else none else none else none
  | _, _ => none
theorem dec1_ok (l : List V) (b : List Blk) (d : PS × AS) (h : dec1 l b = some d) : l = vs1 d.1 d.2 ∧ b = bs1 d.1 d.2 := by
  unfold dec1 at h
  split at h
  · split at h
    · rename_i ht
      split at h
      · rename_i ht1
        split at h
        · rename_i ht2
          subst ht ht1 ht2
          cases h
          exact ⟨rfl, rfl⟩
        · cases h
      · cases h
    · cases h
  · cases h
def dec2 : List V → List Blk → Option (PS × AT)
  | [.sub 0 1 0 n, .s (.int .i64 k), .ptr 1 0, .s (.int .i64 now), .s (.int .i64 i)], [.lst false t0 [.int .i64] g, .cells t1 [.s (.int .i64 id), .ptr 2 0, .s (.int .i64 m), .s (.int .i64 t), .s (.int .i64 u), .s (.int .i64 s)], .cells t2 [.s (.int .i64 L), .s (.int .i64 D), .s (.cx .f64 x y)]] =>
    if t0 = 3 then if t1 = 78 then if t2 = 76 then some (⟨g, n, k, id, m, L, D⟩, ⟨x, y, t, u, s, now, i⟩) else none else none else none
  | _, _ => none
theorem dec2_ok (l : List V) (b : List Blk) (d : PS × AT) (h : dec2 l b = some d) : l = vs2 d.1 d.2 ∧ b = bs2 d.1 d.2 := by
  unfold dec2 at h
  split at h
  · split at h
    · rename_i ht
      split at h
      · rename_i ht1
        split at h
        · rename_i ht2
          subst ht ht1 ht2
          cases h
          exact ⟨rfl, rfl⟩
        · cases h
      · cases h
    · cases h
  · cases h
noncomputable def rd1 (p : PS) (a : AS) : T (Ex × St) := rt1 p.g p.n p.k p.id p.m p.L p.D a.x a.y a.t a.u a.s a.i
noncomputable def rd2 (p : PS) (a : AT) : T (Ex × St) := rt2 p.g p.n p.k p.id p.m p.L p.D a.x a.y a.t a.u a.s a.now a.i
theorem run1 (p : PS) (a : AS) : T.anon (roundN D5 noLoops ps1 [2,7,8,9] SS 1000 1000 (mkSt [2,7,8,9] (keysR SS) 1000 78 (vs1 p a) (bs1 p a))) = rd1 p a := by kernel_rfl
theorem run2 (p : PS) (a : AT) : T.anon (roundN D5 noLoops ps2 [2,7,8,12,13] SS 1000 1000 (mkSt [2,7,8,12,13] (keysR SS) 1000 78 (vs2 p a) (bs2 p a))) = rd2 p a := by kernel_rfl
def okS (p : PS) : Prop := p.id = 0 ∧ p.m = 0 ∧ p.D = 20 ∧ 1 ≤ p.L ∧ p.L ≤ 20 ∧ 0 ≤ p.k ∧ p.k ≤ 20 ∧ p.n = p.g.length
def ok1 (p : PS) (a : AS) : Prop := okS p ∧ a.t = 0 ∧ a.u = 0 ∧ a.s = 0 ∧ 0 ≤ a.i ∧ a.i ≤ p.k ∧ isW a.x = true ∧ isW a.y = true ∧ valW a.x = bIn p.L a.i ∧ valW a.y = wIn p.L a.i
def go1 (p : PS) (a : AS) : Bool := decide (a.i < p.k)
theorem okR_of {m t u s L D : Int} {x y : Nat} (hx : isW x = true) (hy : isW y = true) (h1 : 0 ≤ L ∧ L ≤ 2000) (h2 : 0 ≤ D ∧ D ≤ 2000) (h3 : 0 ≤ valW x ∧ valW x ≤ 2000) (h4 : 0 ≤ valW y ∧ valW y ≤ 2000) (h : 0 ≤ m ∧ m ≤ t ∧ t ≤ u ∧ u ≤ 1099511627776 ∧ 0 ≤ s ∧ s ≤ 4000 * (u - t)) : okR m t u s L D x y = true := by
  unfold okR okT
  rw [okB_is hx hy h1 h2 h3 h4, decide_eq_true h]; rfl
theorem step1 (p : PS) (a : AS) (h : ok1 p a) (hg : go1 p a = true) : ∃ b, stepC ok1 rd1 F1 (fun p a => (p.k - a.i).toNat) p a b := by
  obtain ⟨g, n, k, id, m, L, D⟩ := p
  obtain ⟨x, y, t, u, s, i⟩ := a
  obtain ⟨⟨h1, h2, h3, h4, h5, h6, h7, h8⟩, g1, g2, g3, g4, g5, g6, g7, g8, g9⟩ := h
  dsimp only at *
  subst h1 h2 h3 g1 g2 g3
  have hi : i < k := of_decide_eq_true hg
  have hw : IntKind.wrap .i64 (i + 1) = i + 1 := wrap64_in (by omega) (by omega)
  unfold bIn at g8
  unfold wIn at g9
  have kR : okR 0 0 0 0 L 20 x y = true := okR_of g6 g7 (by omega) (by omega) (by rw [g8]; split <;> omega) (by rw [g9]; split <;> omega) (by decide)
  have kB : okB L 20 x y = true := okB_is g6 g7 (by omega) (by omega) (by rw [g8]; split <;> omega) (by rw [g9]; split <;> omega)
  have kb : bad 0 0 = false := bad_is (by decide)
  have hs : (0 : Int) + (valW x + valW y) * (0 - 0) = 0 := by simp
  by_cases q : i < L
  · rw [if_pos q] at g8 g9
    refine ⟨⟨fW (valW x + 1), fW (valW y), 0, 0, 0 + (valW x + valW y) * (0 - 0), IntKind.wrap .i64 (i + 1)⟩, tev_then (decide_eq_true hi) (tev_then kR (tev_else kb (tev_then kB (tev_then (decide_eq_true (by rw [g8]; exact q)) (tev_else rfl rfl))))), ⟨⟨rfl, rfl, rfl, h4, h5, h6, h7, h8⟩, rfl, rfl, hs, ?_, ?_, isW_fW _, isW_fW _, ?_, ?_⟩, ?_⟩
    all_goals dsimp only
    all_goals rw [hw]
    · omega
    · omega
    · rw [vfw (by omega) (by omega), g8]; unfold bIn; split <;> omega
    · rw [vfw (by omega) (by omega), g9]; unfold wIn; split <;> omega
    · omega
  · rw [if_neg q] at g8 g9
    refine ⟨⟨fW (valW x), fW (valW y + 1), 0, 0, 0 + (valW x + valW y) * (0 - 0), IntKind.wrap .i64 (i + 1)⟩, tev_then (decide_eq_true hi) (tev_then kR (tev_else kb (tev_then kB (tev_else (decide_eq_false (by rw [g8]; exact Int.lt_irrefl _)) (tev_then (decide_eq_true (show valW y < 20 by omega)) (tev_else rfl rfl)))))), ⟨⟨rfl, rfl, rfl, h4, h5, h6, h7, h8⟩, rfl, rfl, hs, ?_, ?_, isW_fW _, isW_fW _, ?_, ?_⟩, ?_⟩
    all_goals dsimp only
    all_goals rw [hw]
    · omega
    · omega
    · rw [vfw (by omega) (by omega), g8]; unfold bIn; split <;> omega
    · rw [vfw (by omega) (by omega), g9]; unfold wIn; split <;> omega
    · omega
theorem ex1 (p : PS) (a : AS) (h : ok1 p a) (hg : go1 p a = false) : (rd1 p a).eval = some (.exit 0, F1 p a) := tev_else hg rfl
theorem lp1_ok : LoopOk D5 ps1 (famC [2,7,8,9] SS 1000 1000 78 dec1 ok1 go1 rd1 F1 (fun p a => (p.k - a.i).toNat) (.exit 0)) :=
  famC_ok (vs := vs1) (bs := bs1) D5_ok mixed (noLoops_ok _) dec1_ok (by simp) (fun _ _ => rfl) run1 step1 ex1
def ok2 (p : PS) (a : AT) : Prop := okS p ∧ a.t = a.now ∧ a.u = a.now ∧ a.s = 0 ∧ 0 ≤ a.now ∧ a.now ≤ 50 * a.i ∧ 0 ≤ a.i ∧ a.i ≤ 30 ∧ isW a.x = true ∧ isW a.y = true ∧ valW a.x + valW a.y = p.k ∧ 0 ≤ valW a.x ∧ 0 ≤ valW a.y
def go2 (p : PS) (a : AT) : Bool := bif decide (a.i < p.n) then decide (a.i < 30) else false
theorem step2 (p : PS) (a : AT) (h : ok2 p a) (hg : go2 p a = true) : ∃ b, stepC ok2 rd2 F2 (fun p a => (30 - a.i).toNat) p a b := by
  obtain ⟨g, n, k, id, m, L, D⟩ := p
  obtain ⟨x, y, t', t, s, now, i⟩ := a
  obtain ⟨⟨h1, h2, h3, h4, h5, h6, h7, h8⟩, g1, g2, g3, g4, g5, g6, g7, g8, g9, g10, g11, g12⟩ := h
  dsimp only at *
  subst h1 h2 h3 g1 g2 g3 h8 g10
  have hg0 := hg
  unfold go2 at hg
  rw [cond_and] at hg
  simp only [Bool.and_eq_true, decide_eq_true_eq] at hg
  have hw : IntKind.wrap .i64 (i + 1) = i + 1 := wrap64_in (by omega) (by omega)
  have hd := umod (gI g i) (m := 50) (by decide)
  have hd2 : IntKind.wrap .i64 (Int.tmod (IntKind.wrap .u64 (gI g i)) 50) = Int.tmod (IntKind.wrap .u64 (gI g i)) 50 := wrap64_in (by omega) (by omega)
  have e : rd2 ⟨g, g.length, valW x + valW y, 0, 0, L, 20⟩ ⟨x, y, t, t, 0, t, i⟩ = rt2 g g.length (valW x + valW y) 0 0 L 20 x y t t 0 t i := rfl
  refine ⟨⟨x, y, t + Int.tmod (IntKind.wrap .u64 (gI g i)) 50, t + Int.tmod (IntKind.wrap .u64 (gI g i)) 50, 0, t + Int.tmod (IntKind.wrap .u64 (gI g i)) 50, i + 1⟩, ?_, ⟨⟨rfl, rfl, rfl, h4, h5, h6, h7, rfl⟩, rfl, rfl, rfl, by dsimp only; omega, by dsimp only; omega, by dsimp only; omega, by dsimp only; omega, g8, g9, rfl, g11, g12⟩, by dsimp only; omega⟩
  rw [e]
  unfold rt2
  rw [hd2]
  generalize Int.tmod (IntKind.wrap .u64 (gI g i)) 50 = d at *
  have hT : IntKind.wrap .i64 (t + d) = t + d := wrap64_in (by omega) (by omega)
  have a1 : t + d - t = d := by omega
  have a2 : IntKind.wrap .i64 d = d := wrap64_in (by omega) (by omega)
  have a3 : t + d - 0 = t + d := by omega
  rw [hT, a1, a2, a3, hT, hw]
  have kR : okR 0 t t 0 L 20 x y = true := okR_of g8 g9 (by omega) (by omega) (by omega) (by omega) (by omega)
  have hp : 0 ≤ (valW x + valW y) * d ∧ (valW x + valW y) * d ≤ 20 * d := ⟨Int.mul_nonneg (by omega) (by omega), Int.mul_le_mul_of_nonneg_right (by omega) (by omega)⟩
  have b1 : IntKind.wrap .i64 (1000 * (valW x + valW y)) = 1000 * (valW x + valW y) := wrap64_in (by omega) (by omega)
  have b2 : IntKind.wrap .i64 ((valW x + valW y) * 1000) = (valW x + valW y) * 1000 := wrap64_in (by omega) (by omega)
  have b3 : IntKind.wrap .i64 ((0 + (valW x + valW y) * d) * 1000) = (valW x + valW y) * d * 1000 := by rw [Int.zero_add]; exact wrap64_in (by omega) (by omega)
  rw [b1, b2, b3]
  refine tev_then hg0 (tev_then ?_ (tev_then ?_ (tev_else rfl (tev_then kR (tev_else (bad_is (by omega)) (tev_then (by rw [g8, g9]; rfl) ?_))))))
  · rw [decide_eq_true g6, decide_eq_true hg.1, decide_eq_true (show 0 + i.toNat < g.length by omega)]; rfl
  · exact decide_eq_true (by omega)
  by_cases q : t < t + d
  · refine tev_then (decide_eq_true q) (tev_then (decide_eq_true ⟨by omega, by omega, by omega⟩) (tev_else ?_ rfl))
    have q1 : Int.tdiv ((valW x + valW y) * d * 1000) d = 1000 * (valW x + valW y) := by
      rw [show (valW x + valW y) * d * 1000 = 1000 * (valW x + valW y) * d by rw [Int.mul_comm, Int.mul_assoc]]
      exact Int.mul_tdiv_cancel _ (by omega)
    rw [q1]
    simp
  · refine tev_else (decide_eq_false q) (tev_else ?_ rfl)
    rw [Int.mul_comm (valW x + valW y) 1000]
    simp
theorem ex2 (p : PS) (a : AT) (h : ok2 p a) (hg : go2 p a = false) : (rd2 p a).eval = some (.exit 2, F2 p a) := tev_else hg rfl
theorem lp2_ok : LoopOk D5 ps2 (famC [2,7,8,12,13] SS 1000 1000 78 dec2 ok2 go2 rd2 F2 (fun p a => (30 - a.i).toNat) (.exit 2)) :=
  famC_ok (vs := vs2) (bs := bs2) D5_ok mixed (noLoops_ok _) dec2_ok (by simp) (fun _ _ => rfl) run2 step2 ex2
end Go.Proofs.Ytacdadifjgppbaa.Pod
