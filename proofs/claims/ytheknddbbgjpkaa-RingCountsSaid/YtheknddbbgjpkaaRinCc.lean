/- Layer 5: RingCounts: its outer round. -/
import Derived.Test.YtheknddbbgjpkaaRinCb
namespace Go.Proofs.Ytheknddbbgjpkaa.Rin
open Go.Eng Go.RowKit Mil
set_option linter.unusedVariables false
set_option linter.unusedSimpArgs false
def sRg (p : PRg) (a : ARg) : RS := ⟨p.w, p.g, p.n, a.nw, a.ov, a.l⟩
def xRg (p : PRg) (a : ARg) : Int := IntKind.wrap .i64 (Int.tmod (IntKind.wrap .u64 (vI p.q a.i)) 1000000000)
def vRg (p : PRg) (a : ARg) : List Int := List.take a.m a.v ++ [xRg p a]
noncomputable def s1Rg (p : PRg) (a : ARg) : RS := (sRg p a).put a.i (vI (vRg p a) a.i)
noncomputable def s2Rg (p : PRg) (a : ARg) : RS := (s1Rg p a).sum a.i
noncomputable def s3Rg (p : PRg) (a : ARg) : RS := (s2Rg p a).sum a.i
def loC (w i : Int) : Int := if IntKind.wrap .i64 (IntKind.wrap .i64 (i - w) + 1) > 0 then IntKind.wrap .i64 (IntKind.wrap .i64 (i - w) + 1) else 0
noncomputable def pRg (p : PRg) (a : ARg) : PRh := ⟨p.kq, p.w0, a.m + [xRg p a].length, a.i, p.q, p.w, p.g, p.n, (s1Rg p a).nw, (s1Rg p a).ov, (s1Rg p a).l, vRg p a, loC p.w0 a.i⟩
noncomputable def eRg (p : PRg) (a : ARg) : ARh := endW (nxtC okRh goRh rdRh FRh muRh (pRg p a)) ⟨0, 0, loC p.w0 a.i⟩
noncomputable def cRg (p : PRg) (a : ARg) : Bool := bif ((s1Rg p a).sumA a.i).s != (eRg p a).want then true else ((s1Rg p a).sumA a.i).c != (eRg p a).c
theorem wayRg (p : PRg) (a : ARg) : T.path ([true, true, true, false, true, true, true] ++ ([true, false, true] ++ ([false, true] ++ ([true, false, true] ++ ([false] ++ ([true, false, true] ++ [false, false, false])))))) (rdRg p a) =
  some ([(bif decide (a.i < (p.kq : Int)) then decide (a.i < 150) else false, true), (idR p.q p.kq a.i, true), (ldR p.q a.i, true), ((1000000000 : Int) == 0, false), (apC a.m a.v (xRg p a), true), (idR (vRg p a) (a.m + [xRg p a].length) a.i, true), (ldR (vRg p a) a.i, true)] ++ (putC (sRg p a) a.i (vI (vRg p a) a.i) ++ ([((0 : Int) != 0, false), (invC okRh (pRg p a) ⟨0, 0, loC p.w0 a.i⟩, true)] ++ (sumC (s1Rg p a) a.i ++ ([(cRg p a, false)] ++
    (sumC (s2Rg p a) a.i ++ [(cRg p a, false), ((eRg p a).c == 0, false), (bif cRg p a then true else (s2Rg p a).mean a.i != IntKind.wrap .i64 (Int.tdiv (eRg p a).want (eRg p a).c), false)]))))),
   (.normal, FRg p ⟨a.m + [xRg p a].length, IntKind.wrap .i64 (a.i + 1), (s3Rg p a).nw, (s3Rg p a).ov, (s3Rg p a).l, vRg p a⟩)) := by kernel_rfl
theorem wayRgx (p : PRg) (a : ARg) : T.path [false] (rdRg p a) = some ([(bif decide (a.i < (p.kq : Int)) then decide (a.i < 150) else false, false)], (.exit 0, FRg p a)) := by kernel_rfl
structure okRg (p : PRg) (a : ARg) : Prop where
  kq : p.kq = p.q.length
  g1 : p.g = 1
  w1 : 1 ≤ p.w
  w2 : p.w ≤ 60
  ww : p.w0 = p.w
  i0 : 0 ≤ a.i
  i1 : a.i ≤ 150
  m : a.m = a.v.length
  mi : (a.v.length : Int) = a.i
  vs : ∀ y ∈ a.v, 0 ≤ y ∧ y < 1000000000
  ov : a.ov = false
  nw : a.nw = a.i - 1
  hs : HoldsR (sRg p a) (recF 0 a.v)
def goRg (p : PRg) (a : ARg) : Bool := bif decide (a.i < (p.kq : Int)) then decide (a.i < 150) else false
def muRg (p : PRg) (a : ARg) : Nat := (150 - a.i).toNat
theorem stepRg (p : PRg) (a : ARg) (h : okRg p a) (hg : goRg p a = true) : ∃ b, stepC okRg rdRg FRg muRg p a b := by
  obtain ⟨hkq, g1, w1, w2, ww, i0, i1, hm, mi, hv, hov, hnw, hs⟩ := h
  have hg0 : (decide (a.i < (p.kq : Int)) && decide (a.i < 150)) = true := by rw [← cond_and]; exact hg
  simp only [Bool.and_eq_true, decide_eq_true_eq] at hg0
  obtain ⟨hi1, hi2⟩ := hg0
  have e1 : IntKind.wrap .i64 (a.i + 1) = a.i + 1 := wrap64_in (by omega) (by omega)
  obtain ⟨x1, x2⟩ := idR_is (g := p.q) (k := p.kq) (i := a.i) hkq i0 hi1
  have hX : 0 ≤ xRg p a ∧ xRg p a < 1000000000 := modI _ (by omega) (by omega)
  have hvr : vRg p a = a.v ++ [xRg p a] := by unfold vRg; rw [hm, List.take_length]
  have hlen : (vRg p a).length = a.v.length + 1 := by rw [hvr]; simp
  obtain ⟨y1, y2⟩ := idR_is (g := vRg p a) (k := a.m + [xRg p a].length) (i := a.i) (by rw [hlen, hm]; rfl) i0 (by simp; omega)
  have hvi : vI (vRg p a) a.i = xRg p a := by
    have hj : a.v.length < (vRg p a).length := by omega
    rw [show vI (vRg p a) a.i = (vRg p a)[a.v.length] from getD0 (by omega) hj]
    simp [hvr]
  have hvs : ∀ y ∈ vRg p a, 0 ≤ y ∧ y < 1000000000 := by
    rw [hvr]
    intro y hy
    rcases List.mem_append.1 hy with hy | hy
    · exact hv y hy
    · rw [List.mem_singleton] at hy; rw [hy]; exact hX
  have d1 : ∀ t : Int, Int.tdiv t p.g = t := fun t => by rw [g1]; exact Int.tdiv_one t
  obtain ⟨c1, h1⟩ := hs.put (t := a.i) (v := vI (vRg p a) a.i) i0 (by omega) (by rw [hvi]; omega) (by rw [hvi]; omega) (by rw [recF_len]; omega)
  have mx : mxR a.nw a.i = a.i := mxR_r (by omega)
  have hn : 0 < p.n := hs.rep.n0
  have hnw1 : ((nN p.w 1 : Nat) : Int) = p.w := nN_one w1
  have hn1 : (p.n : Int) = p.w := by have := hs.sn; rw [show (sRg p a).n = p.n from rfl, show (sRg p a).w = p.w from rfl, show (sRg p a).g = p.g from rfl, g1] at this; omega
  rw [putRs_in (by show mxR a.nw (Int.tdiv a.i p.g) - (p.n : Nat) < Int.tdiv a.i p.g; rw [d1, mx]; omega), show Int.tdiv a.i (sRg p a).g = a.i from d1 _] at h1
  have h1 : HoldsR (s1Rg p a) (recF 0 (vRg p a)) := by
    rw [hvr, recF_app, show (0 : Int) + (a.v.length : Int) = a.i by omega]
    rw [hvi] at h1
    unfold s1Rg
    rw [hvi]
    exact h1
  have nw1 : (s1Rg p a).nw = a.i := by show mxR a.nw (Int.tdiv a.i p.g) = a.i; rw [d1, mx]
  obtain ⟨c2, h2, v2⟩ := h1.sum (t := a.i) i0 (by omega)
  obtain ⟨c3, h3, v3⟩ := h2.sum (t := a.i) i0 (by omega)
  have hlo : loC p.w0 a.i = if 0 > a.i - p.w + 1 then 0 else a.i - p.w + 1 := by
    unfold loC
    rw [ww, wrap64_in (n := a.i - p.w) (by omega) (by omega), wrap64_in (n := a.i - p.w + 1) (by omega) (by omega)]
    split <;> split <;> omega
  have hfr : frR p.n (s1Rg p a).nw (Int.tdiv a.i p.g) = loC p.w0 a.i := by
    rw [hlo, d1, nw1]
    unfold frR
    rw [mxR_l (Int.le_refl _), hn1]
  have lo0 : 0 ≤ loC p.w0 a.i ∧ loC p.w0 a.i ≤ a.i := by rw [hlo]; split <;> omega
  have okh : okRh (pRg p a) ⟨0, 0, loC p.w0 a.i⟩ := by
    refine ⟨?_, ?_, ?_, hvs, lo0.1, Int.le_refl _, Int.le_max_left _ _, ?_, ?_⟩
    · show a.m + 1 = (vRg p a).length; omega
    · show a.i < ((a.m + 1 : Nat) : Int); omega
    · show a.m + 1 ≤ 150; omega
    · show 0 = sv (wn (loC p.w0 a.i) (loC p.w0 a.i) _); rw [wn_self]; rfl
    · show 0 = ((wn (loC p.w0 a.i) (loC p.w0 a.i) _).length : Int); rw [wn_self]; rfl
  obtain ⟨f1, f2⟩ := endC stepRh okh
  have fj : (eRg p a).j = a.i + 1 := by
    have q1 : (eRg p a).j ≤ max (loC p.w0 a.i) (a.i + 1) := f1.j2
    have q2 : ¬ (eRg p a).j ≤ a.i := of_decide_eq_false f2
    omega
  have fw : (eRg p a).want = sv (wn (loC p.w0 a.i) (a.i + 1) (recF 0 (vRg p a))) := by
    have : (eRg p a).want = sv (wn (loC p.w0 a.i) (eRg p a).j (recF 0 (vRg p a))) := f1.want
    rw [fj] at this; exact this
  have fc : (eRg p a).c = ((wn (loC p.w0 a.i) (a.i + 1) (recF 0 (vRg p a))).length : Int) := by
    have : (eRg p a).c = ((wn (loC p.w0 a.i) (eRg p a).j (recF 0 (vRg p a))).length : Int) := f1.c
    rw [fj] at this; exact this
  obtain ⟨b1, b2, b3⟩ := wn_bd (lo := loC p.w0 a.i) (hi := a.i + 1) hvs (by omega)
  obtain ⟨u1, u2, u3⟩ := smV_s v2
  obtain ⟨t1, t2, t3⟩ := smV_s v3
  have g2 : (s1Rg p a).g = p.g := rfl
  have g3 : (s1Rg p a).n = p.n := rfl
  rw [g2, g3, hfr, d1] at u1 u2 u3
  have g4 : (s2Rg p a).g = p.g := rfl
  have g5 : (s2Rg p a).n = p.n := rfl
  have g6 : (s2Rg p a).nw = (s1Rg p a).nw := rfl
  have t1 : ((s2Rg p a).sumA a.i).s = _ := t1
  have t2 : ((s2Rg p a).sumA a.i).c = _ := t2
  have t3 : ((s2Rg p a).sumA a.i).k = _ := t3
  rw [show frR (RS.sum (s1Rg p a) a.i).n (RS.sum (s1Rg p a) a.i).nw (Int.tdiv a.i (RS.sum (s1Rg p a) a.i).g) = loC p.w0 a.i from hfr, show Int.tdiv a.i (RS.sum (s1Rg p a) a.i).g = a.i from d1 _] at t1 t2 t3
  have cut : Mil.cutV (sv (wn (loC p.w0 a.i) (a.i + 1) (recF 0 (vRg p a)))) = sv (wn (loC p.w0 a.i) (a.i + 1) (recF 0 (vRg p a))) := cut_small b1 (by omega)
  have hk : decide (tpI < sv (wn (loC p.w0 a.i) (a.i + 1) (recF 0 (vRg p a)))) = false := by unfold tpI; exact decide_eq_false (by omega)
  have cc : cRg p a = false := by
    unfold cRg
    rw [u1, u2, fw, fc, cut]; simp
  have pos : 1 ≤ ((wn (loC p.w0 a.i) (a.i + 1) (recF 0 (vRg p a))).length : Int) := by
    obtain ⟨_, n2⟩ := wn_next lo0.2 (recF 0 (vRg p a))
    have hb := recF_bk 0 (vRg p a) a.v.length (by omega)
    rw [show (0 : Int) + (a.v.length : Int) = a.i by omega] at hb
    rw [hb] at n2
    rw [n2]; simp; omega
  have hmean : (s2Rg p a).mean a.i = IntKind.wrap .i64 (Int.tdiv (eRg p a).want (eRg p a).c) := by
    unfold RS.mean mnV
    rw [t1, t2, cut, fw, fc, show (((wn (loC p.w0 a.i) (a.i + 1) (recF 0 (vRg p a))).length : Int) == 0) = false by rw [beq_eq_false_iff_ne]; omega]; rfl
  have big : ((1000000000 : Int) == 0) = false := by kernel_rfl
  refine ⟨_, T.path_eval (wayRg p a) (allSay_append ⟨hg, x1, x2, big, apC_is _ hm (by omega), y1, y2, trivial⟩ (allSay_append c1 (allSay_append ⟨rfl, invC_is okh, trivial⟩ (allSay_append c2 (allSay_append ⟨cc, trivial⟩ (allSay_append c3 ⟨cc, by rw [fc, beq_eq_false_iff_ne]; omega, by rw [cc, hmean]; simp, trivial⟩)))))), ⟨hkq, g1, w1, w2, ww, ?_, ?_, ?_, ?_, hvs, ?_, ?_, h3⟩, ?_⟩
  · show 0 ≤ IntKind.wrap .i64 (a.i + 1); rw [e1]; omega
  · show IntKind.wrap .i64 (a.i + 1) ≤ 150; rw [e1]; omega
  · show a.m + 1 = (vRg p a).length; omega
  · show ((vRg p a).length : Int) = IntKind.wrap .i64 (a.i + 1); rw [e1, hlen]; simp; omega
  · show (bif (bif a.ov then true else ((s1Rg p a).sumA a.i).k) then true else ((s2Rg p a).sumA a.i).k) = false
    rw [hov, u3, t3, hk]; rfl
  · show (s1Rg p a).nw = IntKind.wrap .i64 (a.i + 1) - 1; rw [e1, nw1]; omega
  · show (150 - IntKind.wrap .i64 (a.i + 1)).toNat < (150 - a.i).toNat; rw [e1]; omega
theorem exRg (p : PRg) (a : ARg) (h : okRg p a) (hg : goRg p a = false) : (rdRg p a).eval = some (.exit 0, FRg p a) := T.path_eval (wayRgx p a) ⟨hg, trivial⟩
noncomputable def famRg : LSpec := famC [1,5,6,7,8] SRg 1000 1001 98 decRg okRg goRg rdRg FRg muRg (.exit 0)
theorem lpRg_gen {c : Code} (hl : LoopsOkS RL (byReg [(rgRh, famRh)]) c) (hrun : ∀ p a, T.anon (roundN RL (byReg [(rgRh, famRh)]) c [1,5,6,7,8] SRg 1000 1001 (mkSt [1,5,6,7,8] (keysR SRg) 1001 98 (vsRg p a) (bsRg p a))) = rdRg p a) : LoopOk RL c famRg := famC_ok (vs := vsRg) (bs := bsRg) RL_ok mixed hl.ok decRg_ok (by simp) (fun _ _ => rfl) hrun stepRg exRg
theorem lpRg_ok : LoopOk RL lpRg famRg := lpRg_gen rgIn (fun _ _ => rfl)
noncomputable def cntR (a : Int) (q : List Int) : T V := execS RL (byReg [(rgRg, famRg)]) 13 [iv a, .orow 2 [.int .i64] q]
end Go.Proofs.Ytheknddbbgjpkaa.Rin
