/- Layer 7: the rounds of BreakerPlays. -/
import Derived.Test.YtacdadifjgppbaaBrkAc
namespace Go.Proofs.Ytacdadifjgppbaa.Brk
open Go.Eng Go.RowKit Go.Flt Lod
set_option linter.unusedVariables false
set_option linter.unusedSimpArgs false
theorem pEnter_ok {p : PP} {L D : Int} {x y : Nat} {b w i : Int} (h : okP L D x y b w) (hi : 0 ≤ i ∧ i ≤ 1000) :
    ∃ X Y b' w', okP L D X Y b' w' ∧ (pEnter p L D x y L D b w i).eval = some (.normal, FP p ⟨L, D, X, Y, L, D, b', w', i + 1⟩) := by
  have h0 := h
  obtain ⟨h1, h2, rfl, rfl, h5, h6, h7, h8, h9, h10, h11, h12, h13⟩ := h
  have hk : okB L D x y = true := okB_is h1 h2 (by omega) (by omega) (by omega) (by omega)
  by_cases q : valW x < L
  · have hc : inc (valW x) = valW x + 1 := wrap64_in (by omega) (by omega)
    have ok : okP L D (fW (valW x + 1)) (fW (valW y)) (inc (valW x)) (valW y) := by
      unfold okP; rw [vfw (t := valW x + 1) (by omega) (by omega), vfw (t := valW y) (by omega) (by omega), hc]
      exact ⟨isW_fW _, isW_fW _, rfl, rfl, h5, h6, h7, h8, by omega, by omega, h11, h12, by omega⟩
    exact ⟨_, _, _, _, ok, tev_then hk (tev_then (decide_eq_true q) (tev_then (decide_eq_true q) (cmpP_ok rfl ok hi)))⟩
  by_cases r : valW y < D
  · have hc : inc (valW y) = valW y + 1 := wrap64_in (by omega) (by omega)
    have ok : okP L D (fW (valW x)) (fW (valW y + 1)) (valW x) (inc (valW y)) := by
      unfold okP; rw [vfw (t := valW x) (by omega) (by omega), vfw (t := valW y + 1) (by omega) (by omega), hc]
      exact ⟨isW_fW _, isW_fW _, rfl, rfl, h5, h6, h7, h8, h9, h10, by omega, by omega, by omega⟩
    exact ⟨_, _, _, _, ok, tev_then hk (tev_else (decide_eq_false q) (tev_then (decide_eq_true r) (tev_else (decide_eq_false q) (tev_then (decide_eq_true r) (cmpP_ok rfl ok hi)))))⟩
  · exact ⟨_, _, _, _, h0, tev_then hk (tev_else (decide_eq_false q) (tev_else (decide_eq_false r) (tev_else (decide_eq_false q) (tev_else (decide_eq_false r) (cmpP_ok rfl h0 hi)))))⟩
theorem pLeave_ok {p : PP} {L D : Int} {x y : Nat} {b w i : Int} (h : okP L D x y b w) (hi : 0 ≤ i ∧ i ≤ 1000) :
    ∃ X Y b' w', okP L D X Y b' w' ∧ (pLeave p L D x y L D b w i).eval = some (.normal, FP p ⟨L, D, X, Y, L, D, b', w', i + 1⟩) := by
  have h0 := h
  obtain ⟨h1, h2, rfl, rfl, h5, h6, h7, h8, h9, h10, h11, h12, h13⟩ := h
  have hk : okB L D x y = true := okB_is h1 h2 (by omega) (by omega) (by omega) (by omega)
  by_cases q : valW x = 0
  · have q1 : (valW x == 0) = true := by rw [q]; rfl
    exact ⟨_, _, _, _, h0, tev_then hk (tev_then q1 (tev_then q1 (cmpP_ok rfl h0 hi)))⟩
  · have q1 : (valW x == 0) = false := by rw [beq_eq_false_iff_ne]; exact q
    have hc : dec1 (valW x) = valW x - 1 := wrap64_in (by omega) (by omega)
    have hc2 : inc (dec1 (valW x)) = valW x := by rw [hc]; exact (wrap64_in (by omega) (by omega)).trans (by omega)
    by_cases r : 0 < valW y ∧ valW x - 1 < L
    · have ha : adm L (valW x - 1) (valW y) = 1 := by
        have := h13 r.1
        unfold adm fr; repeat' split
        all_goals omega
      have hd : dec1 (valW y) = valW y - 1 := wrap64_in (by omega) (by omega)
      have ok : okP L D (fW (valW x - 1 + adm L (valW x - 1) (valW y))) (fW (valW y - adm L (valW x - 1) (valW y))) (inc (dec1 (valW x))) (dec1 (valW y)) := by
        rw [ha, hc2, hd]
        unfold okP; rw [vfw (t := valW x - 1 + 1) (by omega) (by omega), vfw (t := valW y - 1) (by omega) (by omega)]
        exact ⟨isW_fW _, isW_fW _, by omega, rfl, h5, h6, h7, h8, h9, h10, by omega, by omega, by omega⟩
      exact ⟨_, _, _, _, ok, tev_then hk (tev_else q1 (tev_else q1 (tev_then (by rw [hc, decide_eq_true r.1, decide_eq_true r.2]; rfl) (cmpP_ok (by rw [ha]; rfl) ok hi))))⟩
    · have ha : adm L (valW x - 1) (valW y) = 0 := by
        unfold adm fr; repeat' split
        all_goals omega
      have ok : okP L D (fW (valW x - 1 + adm L (valW x - 1) (valW y))) (fW (valW y - adm L (valW x - 1) (valW y))) (dec1 (valW x)) (valW y) := by
        rw [ha, hc]
        unfold okP; rw [vfw (t := valW x - 1 + 0) (by omega) (by omega), vfw (t := valW y - 0) (by omega) (by omega)]
        exact ⟨isW_fW _, isW_fW _, by omega, by omega, h5, h6, h7, h8, by omega, by omega, h11, h12, by omega⟩
      refine ⟨_, _, _, _, ok, tev_then hk (tev_else q1 (tev_else q1 (tev_else ?_ (cmpP_ok (by rw [ha]; rfl) ok hi))))⟩
      rw [hc]
      by_cases r1 : 0 < valW y
      · rw [decide_eq_true r1, decide_eq_false (show ¬ valW x - 1 < L from fun z => r ⟨r1, z⟩)]; rfl
      · rw [decide_eq_false r1]; rfl
theorem pQuit_ok {p : PP} {L D : Int} {x y : Nat} {b w i : Int} (h : okP L D x y b w) (hi : 0 ≤ i ∧ i ≤ 1000) :
    ∃ X Y b' w', okP L D X Y b' w' ∧ (pQuit p L D x y L D b w i).eval = some (.normal, FP p ⟨L, D, X, Y, L, D, b', w', i + 1⟩) := by
  have h0 := h
  obtain ⟨h1, h2, rfl, rfl, h5, h6, h7, h8, h9, h10, h11, h12, h13⟩ := h
  have hk : okB L D x y = true := okB_is h1 h2 (by omega) (by omega) (by omega) (by omega)
  by_cases q : valW y = 0
  · have q1 : (valW y == 0) = true := by rw [q]; rfl
    exact ⟨_, _, _, _, h0, tev_then hk (tev_then q1 (tev_then q1 (cmpP_ok rfl h0 hi)))⟩
  · have q1 : (valW y == 0) = false := by rw [beq_eq_false_iff_ne]; exact q
    have hd : dec1 (valW y) = valW y - 1 := wrap64_in (by omega) (by omega)
    have ok : okP L D (fW (valW x)) (fW (valW y - 1)) (valW x) (dec1 (valW y)) := by
      unfold okP; rw [vfw (t := valW x) (by omega) (by omega), vfw (t := valW y - 1) (by omega) (by omega), hd]
      exact ⟨isW_fW _, isW_fW _, rfl, rfl, h5, h6, h7, h8, h9, h10, by omega, by omega, by omega⟩
    exact ⟨_, _, _, _, ok, tev_then hk (tev_else q1 (tev_else q1 (cmpP_ok rfl ok hi)))⟩
theorem idxP_ok {p : PP} {i : Int} {t : T (Ex × St)} {r : Ex × St} (h1 : 0 ≤ i) (h2 : i < p.k) (h3 : p.k ≤ p.g.length) (ht : t.eval = some r) : (idxP p i t).eval = some r := by
  have c2 : decide (0 + Int.toNat i < p.g.length) = true := decide_eq_true (by omega)
  exact tev_then (by rw [decide_eq_true h1, decide_eq_true h2, c2]; rfl) (tev_then c2 ht)
theorem pLimit_ok {p : PP} {n L D : Int} {x y : Nat} {b w i : Int} (h : okP L D x y b w) (hi : 0 ≤ i ∧ i ≤ 1000) (h2' : i < p.k) (h3' : p.k ≤ p.g.length) :
    ∃ L' X Y b' w', okP L' D X Y b' w' ∧ (pLimit p n L D x y L D b w i).eval = some (.normal, FP p ⟨L', D, X, Y, L', D, b', w', i + 1⟩) := by
  have h0 := h
  obtain ⟨h1, h2, rfl, rfl, h5, h6, h7, h8, h9, h10, h11, h12, h13⟩ := h
  have hk : okB L D x y = true := okB_is h1 h2 (by omega) (by omega) (by omega) (by omega)
  by_cases q : 0 ≤ n ∧ n ≤ 1000
  · have hl : limB n = true := by unfold limB; rw [decide_eq_true q.1, decide_eq_true q.2]; rfl
    have hr : rK n (valW x) (valW y) = adm n (valW x) (valW y) := by
      unfold rK upw adm fr
      rw [wrap64_in (n := n - valW x) (by omega) (by omega)]
    have ha : 0 ≤ adm n (valW x) (valW y) ∧ adm n (valW x) (valW y) ≤ valW y ∧ valW x + adm n (valW x) (valW y) ≤ 1000 ∧ (0 < valW y - adm n (valW x) (valW y) → n ≤ valW x + adm n (valW x) (valW y)) := by
      unfold adm fr; repeat' split
      all_goals omega
    have ok : okP n D (fW (valW x + adm n (valW x) (valW y))) (fW (valW y - adm n (valW x) (valW y))) (IntKind.wrap .i64 (valW x + rK n (valW x) (valW y))) (IntKind.wrap .i64 (valW y - rK n (valW x) (valW y))) := by
      rw [hr]
      generalize adm n (valW x) (valW y) = q' at *
      rw [wrap64_in (n := valW x + q') (by omega) (by omega), wrap64_in (n := valW y - q') (by omega) (by omega)]
      unfold okP; rw [vfw (t := valW x + q') (by omega) (by omega), vfw (t := valW y - q') (by omega) (by omega)]
      exact ⟨isW_fW _, isW_fW _, rfl, rfl, q.1, q.2, h7, h8, by omega, by omega, by omega, by omega, ha.2.2.2⟩
    refine ⟨_, _, _, _, _, ok, idxP_ok hi.1 h2' h3' (tev_then hk (tev_then hl (idxP_ok hi.1 h2' h3' (tev_else ?_ (cmpP_ok ?_ ok hi)))))⟩
    · rw [decide_eq_false (show ¬ n < 0 by omega), decide_eq_false (show ¬ 1000 < n by omega)]; rfl
    · rw [hr, bne_self_eq_false]; rfl
  · have hl : limB n = false := by
      unfold limB
      by_cases z : 0 ≤ n
      · rw [decide_eq_true z, decide_eq_false (show ¬ n ≤ 1000 from fun z' => q ⟨z, z'⟩)]; rfl
      · rw [decide_eq_false z]; rfl
    refine ⟨_, _, _, _, _, h0, idxP_ok hi.1 h2' h3' (tev_then hk (tev_else hl (idxP_ok hi.1 h2' h3' (tev_then ?_ (cmpP_ok rfl h0 hi)))))⟩
    by_cases z : n < 0
    · rw [decide_eq_true z]; rfl
    · rw [decide_eq_false z, decide_eq_true (show 1000 < n by omega)]; rfl
def decP : List V → List Blk → Option (PP × AP)
  | [.sub 0 2 0 k, .ptr 1 0, .ptr 9 0, .s (.int .i64 i)], [.lst false t1 [.int .i64, .int .i64] g, .cells t [.s (.int .i64 L), .s (.int .i64 D), .s (.cx .f64 x y)], .cells t2 [.s (.int .i64 M), .s (.int .i64 Q), .s (.int .i64 b), .s (.int .i64 w)]] =>
    if t1 = 47 ∧ t = 76 ∧ t2 = 50 then some (⟨g, k⟩, ⟨L, D, x, y, M, Q, b, w, i⟩) else none
  | _, _ => none
theorem decP_ok (l : List V) (b : List Blk) (d : PP × AP) (h : decP l b = some d) : l = vsP d.1 d.2 ∧ b = bsP d.1 d.2 := by
  unfold decP at h
  split at h
  · split at h
    · rename_i ht
      obtain ⟨rfl, rfl, rfl⟩ := ht
      cases h
      exact ⟨rfl, rfl⟩
    · cases h
  · cases h
def okT (p : PP) (a : AP) : Prop := a.M = a.L ∧ a.Q = a.D ∧ 0 ≤ a.i ∧ p.k ≤ 150 ∧ p.k ≤ p.g.length ∧ okP a.L a.D a.x a.y a.b a.w
instance (p : PP) (a : AP) : Decidable (okT p a) := inferInstanceAs (Decidable (_ ∧ _))
def invP (p : PP) (a : AP) : Bool := decide (okT p a)
def stepP (p : PP) (a b : AP) : Prop := (rtP p a.L a.D a.x a.y a.M a.Q a.b a.w a.i).eval = some (.normal, FP p b) ∧ okT p b ∧ b.i = a.i + 1
theorem stepP_ex {p : PP} {a : AP} (h : okT p a) (hk : a.i < p.k) : ∃ b, stepP p a b := by
  obtain ⟨L, D, x, y, M, Q, b, w, i⟩ := a
  obtain ⟨h1, h2, h4, h5, h6, h7⟩ := h
  dsimp only at h1 h2 h4 h5 h6 h7 hk
  subst h1 h2
  have hi : 0 ≤ i ∧ i ≤ 1000 := ⟨h4, by omega⟩
  have fin : ∀ {L' : Int} {X Y : Nat} {b' w' : Int}, okP L' Q X Y b' w' → okT p ⟨L', Q, X, Y, L', Q, b', w', i + 1⟩ := fun ok => ⟨rfl, rfl, by show 0 ≤ i + 1; omega, h5, h6, ok⟩
  by_cases k1 : kdH p.g i < 3
  · obtain ⟨X, Y, b', w', ok, e⟩ := pEnter_ok (p := p) h7 hi
    exact ⟨_, tev_then (decide_eq_true hk) (idxP_ok h4 hk h6 (tev_then (decide_eq_true k1) e)), fin ok, rfl⟩
  by_cases k2 : kdH p.g i < 6
  · obtain ⟨X, Y, b', w', ok, e⟩ := pLeave_ok (p := p) h7 hi
    exact ⟨_, tev_then (decide_eq_true hk) (idxP_ok h4 hk h6 (tev_else (decide_eq_false k1) (tev_then (decide_eq_true k2) e))), fin ok, rfl⟩
  by_cases k3 : kdH p.g i = 6
  · obtain ⟨X, Y, b', w', ok, e⟩ := pQuit_ok (p := p) h7 hi
    exact ⟨_, tev_then (decide_eq_true hk) (idxP_ok h4 hk h6 (tev_else (decide_eq_false k1) (tev_else (decide_eq_false k2) (tev_then (by rw [k3]; rfl) e)))), fin ok, rfl⟩
  · obtain ⟨L', X, Y, b', w', ok, e⟩ := pLimit_ok (p := p) (n := (g2 p.g i).2) h7 hi hk h6
    exact ⟨_, tev_then (decide_eq_true hk) (idxP_ok h4 hk h6 (tev_else (decide_eq_false k1) (tev_else (decide_eq_false k2) (tev_else (by rw [beq_eq_false_iff_ne]; exact k3) e)))), fin ok, rfl⟩
open Classical in
noncomputable def nxtP (p : PP) (a : AP) : Option AP := if h : a.i < p.k ∧ ∃ b, stepP p a b then some (Classical.choose h.2) else none
noncomputable def outP (p : PP) (a : AP) : T (Ex × St) := .ret (.exit 0, FP p a)
theorem stP (p : PP) (a b : AP) (h : invP p a = true) (e : nxtP p a = some b) : invP p b = true ∧ (p.k - b.i).toNat < (p.k - a.i).toNat := by
  unfold nxtP at e
  split at e
  · rename_i hc
    obtain rfl := Option.some.inj e
    obtain ⟨-, s2, s3⟩ := Classical.choose_spec hc.2
    refine ⟨decide_eq_true s2, ?_⟩
    rw [s3]; omega
  · cases e
theorem lpP_ok : LoopOk B7 bp1 (famWN [2,7,8,9] SP 1000 1000 152 decP invP nxtP outP) := by
  refine famWN_ok (vs := vsP) (bs := bsP) B7_ok mixed (noLoops_ok _) decP_ok (fun p a => (p.k - a.i).toNat) stP fun p a h => ?_
  have e : T.anon (roundN B7 noLoops bp1 [2,7,8,9] SP 1000 1000 (mkSt [2,7,8,9] (keysR SP) 1000 152 (vsP p a) (bsP p a))) = rtP p a.L a.D a.x a.y a.M a.Q a.b a.w a.i := rtP_run p.g p.k a.L a.D a.x a.y a.M a.Q a.b a.w a.i
  rw [← T.eval_anon (t := roundN _ _ _ _ _ _ _ _), e]
  clear e
  have ho : okT p a := of_decide_eq_true h
  refine ⟨fun b hb => ?_, fun hn r hr => ?_⟩
  · unfold nxtP at hb
    split at hb
    · rename_i hc
      obtain rfl := Option.some.inj hb
      exact (Classical.choose_spec hc.2).1
    · cases hb
  · obtain rfl := Option.some.inj hr
    refine ⟨by simp, tev_else ?_ rfl⟩
    unfold nxtP at hn
    split at hn
    · cases hn
    · rename_i hc
      cases q1 : decide (a.i < (p.k : Int))
      · rfl
      · exact absurd ⟨of_decide_eq_true q1, stepP_ex ho (of_decide_eq_true q1)⟩ hc
noncomputable def plist : List (Nat × LSpec) := [(9, famWN [2,7,8,9] SP 1000 1000 152 decP invP nxtP outP)]
theorem pfind : findL plist 9 = some (famWN [2,7,8,9] SP 1000 1000 152 decP invP nxtP outP) := rfl
theorem preg : firstReg bp1 = some 9 := by kernel_rfl
theorem plps_ok : ∀ a ∈ loopsIn (codeOf Try.prog 7), ∀ sp, byReg plist a = some sp → LoopOk B7 a sp := by
  have e : loopsIn (codeOf Try.prog 7) = [bp1] := by kernel_rfl
  rw [e]
  intro a ha
  rcases List.mem_cons.1 ha with h | ha
  · rw [h]; exact byReg_mem preg pfind lpP_ok
  · cases ha
end Go.Proofs.Ytacdadifjgppbaa.Brk
