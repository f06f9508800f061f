/- Layer 7: the loop of BreakerHolds, its contract. -/
import Derived.Test.YtacdadifjgppbaaBrkY
namespace Go.Proofs.Ytacdadifjgppbaa.Brk
open Go.Eng Go.RowKit Go.Flt Lod
set_option linter.unusedVariables false
set_option linter.unusedSimpArgs false
def decH : List V → List Blk → Option (PH × AH)
  | [.sub 0 2 0 k, .s (.int .i64 n), .s (.int .i64 d), .ptr 1 0, .s (.int .i64 c), .s (.int .i64 w), .s (.int .i64 i)], [.lst false t1 [.int .i64, .int .i64] g, .cells t [.s (.int .i64 L), .s (.int .i64 D), .s (.cx .f64 x y)]] =>
    if t1 = 47 ∧ t = 76 then some (⟨g, k, d, D⟩, ⟨n, L, x, y, c, w, i⟩) else none
  | _, _ => none
theorem decH_ok (l : List V) (b : List Blk) (d : PH × AH) (h : decH l b = some d) : l = vsH d.1 d.2 ∧ b = bsH d.1 d.2 := by
  unfold decH at h
  split at h
  · split at h
    · rename_i ht
      obtain ⟨rfl, rfl⟩ := ht
      cases h
      exact ⟨rfl, rfl⟩
    · cases h
  · cases h
def okS (p : PH) (a : AH) : Prop := a.L = a.n ∧ p.D = p.d ∧ a.w = valW a.x ∧ 0 ≤ a.i ∧ a.i ≤ 150 ∧ p.k ≤ p.g.length ∧ okH a.n p.d a.x a.y a.c
instance (p : PH) (a : AH) : Decidable (okS p a) := inferInstanceAs (Decidable (_ ∧ _))
def invH (p : PH) (a : AH) : Bool := decide (okS p a)
def stepR (p : PH) (a b : AH) : Prop := (rtZ p a.n a.L a.x a.y a.c a.w a.i).eval = some (.normal, FH p b) ∧ okS p b ∧ b.i = a.i + 1
theorem mH_in (g : List (Int × Int)) (i : Int) : 0 ≤ mH g i ∧ mH g i ≤ 20 := by
  have := modU_range (g2 g i).2 (m := 21) (by decide)
  unfold mH; rw [modU (n := (g2 g i).2) (by decide) (by decide)]; omega
theorem step_ex {p : PH} {a : AH} (h : okS p a) (hk : a.i < p.k) (hc : a.i < 150) : ∃ b, stepR p a b := by
  obtain ⟨g, k, d, D⟩ := p
  obtain ⟨n, L, x, y, c, w, i⟩ := a
  obtain ⟨h1, h2, h3, h4, h5, h6, h7⟩ := h
  dsimp only at h1 h2 h3 h4 h5 h6 h7 hk hc
  subst h1 h2 h3
  have hi : 0 ≤ i ∧ i ≤ 1000 := ⟨h4, by omega⟩
  have c0 : (bif decide (i < (k : Int)) then decide (i < 150) else false) = true := by rw [decide_eq_true hk, decide_eq_true hc]; rfl
  have c2 : decide (0 + Int.toNat i < g.length) = true := decide_eq_true (by omega)
  have c1 : (decide (0 ≤ i) && (decide (i < (k : Int)) && decide (0 + Int.toNat i < g.length))) = true := by rw [decide_eq_true h4, decide_eq_true hk, c2]; rfl
  have fin : ∀ {m : Int} {X Y : Nat} {c' : Int}, okH m D X Y c' → okS ⟨g, k, D, D⟩ ⟨m, m, X, Y, c', valW X, i + 1⟩ := fun ok => ⟨rfl, rfl, rfl, by show 0 ≤ i + 1; omega, by show i + 1 ≤ 150; omega, h6, ok⟩
  by_cases k1 : kdH g i < 3
  · obtain ⟨X, Y, c', ok, e⟩ := enter_ok (g := g) (k := k) h7 hi
    exact ⟨_, tev_then c0 (tev_then c1 (tev_then c2 (tev_then (decide_eq_true k1) e))), fin ok, rfl⟩
  by_cases k2 : kdH g i < 6
  · obtain ⟨X, Y, c', ok, e⟩ := leave_ok (g := g) (k := k) h7 hi
    exact ⟨_, tev_then c0 (tev_then c1 (tev_then c2 (tev_else (decide_eq_false k1) (tev_then (decide_eq_true k2) e)))), fin ok, rfl⟩
  by_cases k3 : kdH g i = 6
  · obtain ⟨X, Y, c', ok, e⟩ := quit_ok (g := g) (k := k) h7 hi
    exact ⟨_, tev_then c0 (tev_then c1 (tev_then c2 (tev_else (decide_eq_false k1) (tev_else (decide_eq_false k2) (tev_then (by rw [k3]; rfl) e))))), fin ok, rfl⟩
  · obtain ⟨X, Y, c', ok, e⟩ := limit_ok (g := g) (k := k) h7 (mH_in g i) hi
    exact ⟨_, tev_then c0 (tev_then c1 (tev_then c2 (tev_else (decide_eq_false k1) (tev_else (decide_eq_false k2) (tev_else (by rw [beq_eq_false_iff_ne]; exact k3) (tev_then c1 (tev_then c2 (tev_else rfl e)))))))), fin ok, rfl⟩
open Classical in
noncomputable def nxtH (p : PH) (a : AH) : Option AH := if h : a.i < p.k ∧ a.i < 150 ∧ ∃ b, stepR p a b then some (Classical.choose h.2.2) else none
noncomputable def outH (p : PH) (a : AH) : T (Ex × St) := .ret (.exit 0, FH p a)
theorem stH (p : PH) (a b : AH) (h : invH p a = true) (e : nxtH p a = some b) : invH p b = true ∧ (150 - b.i).toNat < (150 - a.i).toNat := by
  unfold nxtH at e
  split at e
  · rename_i hc
    obtain rfl := Option.some.inj e
    obtain ⟨-, s2, s3⟩ := Classical.choose_spec hc.2.2
    refine ⟨decide_eq_true s2, ?_⟩
    rw [s3]; omega
  · cases e
theorem lpH_ok : LoopOk B6 bh1 (famWN [2,7,8,9,10,11,12] SH 1000 1000 148 decH invH nxtH outH) := by
  refine famWN_ok (vs := vsH) (bs := bsH) B6_ok mixed (noLoops_ok _) decH_ok (fun p a => (150 - a.i).toNat) stH fun p a h => ?_
  have e : T.anon (roundN B6 noLoops bh1 [2,7,8,9,10,11,12] SH 1000 1000 (mkSt [2,7,8,9,10,11,12] (keysR SH) 1000 148 (vsH p a) (bsH p a))) = rtZ p a.n a.L a.x a.y a.c a.w a.i := rt_run p.g p.k p.d p.D a.n a.L a.x a.y a.c a.w a.i
  rw [← T.eval_anon (t := roundN _ _ _ _ _ _ _ _), e]
  clear e
  have ho : okS p a := of_decide_eq_true h
  refine ⟨fun b hb => ?_, fun hn r hr => ?_⟩
  · unfold nxtH at hb
    split at hb
    · rename_i hc
      obtain rfl := Option.some.inj hb
      exact (Classical.choose_spec hc.2.2).1
    · cases hb
  · obtain rfl := Option.some.inj hr
    refine ⟨by simp, tev_else ?_ rfl⟩
    unfold nxtH at hn
    split at hn
    · cases hn
    · rename_i hc
      cases q1 : decide (a.i < (p.k : Int))
      · rfl
      · cases q2 : decide (a.i < 150)
        · rfl
        · exact absurd ⟨of_decide_eq_true q1, of_decide_eq_true q2, step_ex ho (of_decide_eq_true q1) (of_decide_eq_true q2)⟩ hc
noncomputable def hlist : List (Nat × LSpec) := [(8, famWN [2,7,8,9,10,11,12] SH 1000 1000 148 decH invH nxtH outH)]
theorem hfind : findL hlist 8 = some (famWN [2,7,8,9,10,11,12] SH 1000 1000 148 decH invH nxtH outH) := rfl
theorem hreg : firstReg bh1 = some 8 := by kernel_rfl
theorem hlps_ok : ∀ a ∈ loopsIn (codeOf Try.prog 8), ∀ sp, byReg hlist a = some sp → LoopOk B6 a sp := by
  have e : loopsIn (codeOf Try.prog 8) = [bh1] := by kernel_rfl
  rw [e]
  intro a ha
  rcases List.mem_cons.1 ha with h | ha
  · rw [h]; exact byReg_mem hreg hfind lpH_ok
  · cases ha
end Go.Proofs.Ytacdadifjgppbaa.Brk
