import Derived.Test.YtebibmioiigplaaGreatGV
import Derived.Test.YtebibmioiigplaaGreatGW
/- Layer 17: DecidePlays: what stays true. -/
namespace Go.Proofs.YtebibmioiigplaaGreat.Dec
open Go.Eng Go.RowKit Mil Rin
set_option linter.unusedVariables false
set_option linter.unusedSimpArgs false
set_option maxRecDepth 100000
structure PairO (d : DcS) (dd : DdS) : Prop where
  g1 : d.gm = dd.d.g
  g2 : d.gm = dd.e.g
  ov : (d.om || d.s.ov || d.q.ov) = (dd.d.ov || dd.e.ov)
theorem dcsV_inj2 {t s q w e t' s' q' w' e' : Int} {p p' : Bool} (h : dcsV t s q w p e = dcsV t' s' q' w' p' e') : ((t, s, q, w, p, e) : D6) = (t', s', q', w', p', e') := by
  unfold dcsV at h
  simp only [Eng.iv, Eng.bv, V.agg.injEq, List.cons.injEq, V.s.injEq, S.int.injEq, S.bool.injEq, true_and, and_true] at h
  obtain ⟨rfl, rfl, rfl, rfl, rfl, rfl⟩ := h
  rfl
theorem nD6_same (x : D6) : nD6 x x = false := by unfold nD6; simp
theorem neI (z : Int) : (z != z) = false := by simp
theorem cmp_all {x y : D6} {e : Int} {d : DcS} {dd : DdS} {m : Nat} (h : x = y) (hp : PairD d dd m) (ho : PairO d dd) : allSay (cmp x y e d dd) := by
  subst h
  have e1 : f1 x x e = false := by unfold f1; rw [nD6_same]; exact neI e
  have e2 : f2 x x e d dd = false := by unfold f2; rw [e1, hp.si]; exact neI _
  have e3 : f3 x x e d dd = false := by unfold f3; rw [e2, hp.mo]; exact neI _
  have e4 : f4 x x e d dd = false := by
    unfold f4
    rw [e3, Met.ovP_is hp.s.h.rep.n0 hp.q.h.rep.n0, ho.ov]
    cases dd.d.ov <;> cases dd.e.ov <;> rfl
  exact ⟨e1, e2, e3, e3, e4, trivial⟩
theorem PairD.mono {d : DcS} {dd : DdS} {m : Nat} (h : PairD d dd m) : PairD d dd (m + 1) := ⟨h.c, h.si, h.mo, h.la, h.sp, h.s.mono, h.q.mono, BothL_mono h.b (by omega)⟩
theorem PairO.put {d : DcS} {dd : DdS} (h : PairO d dd) (c1 c2 : Bool) (t v : Int) : PairO (d.put t v) (dd.put c1 c2 t v) := by
  refine ⟨?_, ?_, ?_⟩
  · show d.gm = (bif c1 then dd.d else dd.d.put t v).g
    cases c1
    · exact h.g1
    · exact h.g1
  · show d.gm = (bif c2 then dd.e else dd.e.put t v).g
    cases c2
    · exact h.g2
    · exact h.g2
  · show (d.om || d.s.ov || d.q.ov) = ((bif c1 then dd.d else dd.d.put t v).ov || (bif c2 then dd.e else dd.e.put t v).ov)
    rw [h.ov]; cases c1 <;> cases c2 <;> rfl
theorem PairO.next {d : DcS} {dd : DdS} {m : Nat} (h : PairO d dd) (hp : PairD d dd m) (b : Bool) {t : Int} (t0 : 0 ≤ t) (t1 : t ≤ 1099511627776) (r : Int) : PairO (nxD b d t r) (rxD b dd t r) := by
  obtain ⟨_, _, _, _, X, a5, a6⟩ := hp.s.mean (t := t) (by omega)
  obtain ⟨_, _, _, _, Y, b5, b6⟩ := hp.q.mean (t := t) (by omega)
  rw [decide_eq_false (show ¬ t < 0 by omega)] at a5 b5
  have a5 : (d.s.sum t).ov = (d.s.ov || X) := a5
  have b5 : (d.q.sum t).ov = (d.q.ov || Y) := b5
  refine ⟨h.g1, h.g2, ?_⟩
  show (d.om || (d.s.sum t).ov || (d.q.sum t).ov) = ((dd.d.sum t).ov || (dd.e.sum t).ov)
  have hov := h.ov
  rw [a5, a6, b5, b6]
  revert hov
  cases d.om <;> cases d.s.ov <;> cases d.q.ov <;> cases dd.d.ov <;> cases dd.e.ov <;> cases X <;> cases Y <;> simp
theorem tailDp {d : DcS} {dd : DdS} {m k : Nat} {t r : Int} (hp : PairD d dd m) (hm : m ≤ 20000) (ho : PairO d dd) (hg : DcG d k) (hk : k ≤ 99998) (hl : d.la ≤ t) (t1 : t ≤ 1099511627776) (r0 : 0 ≤ r) (r1 : r ≤ 100) :
    ∃ b, allSay (tlP b d dd t r) ∧ PairD (nxD b d t r) (rxD b dd t r) (m + 1) ∧ PairO (nxD b d t r) (rxD b dd t r) ∧ DcG (nxD b d t r) (k + 1) := by
  obtain ⟨b, q1, q2, q3, q4⟩ := hp.next hm hg hl t1 r0 r1
  have la := hg.la
  have ba := badA17_false hl t1 r0 r1
  have o2 := ho.next hp b (t := t) (by omega) t1 r
  refine ⟨b, allSay_append ⟨ba, Dly.pB_is ⟨hg.mono hk, ba⟩, q2.symm, trivial⟩ (allSay_append q1 (allSay_append (cmp_all (dcsV_inj2 q3).symm q4 o2) ⟨rfl, trivial⟩)), q4, o2, hg.next hk ba b⟩
theorem badA17_iff {d : DcS} {t r : Int} (hb : badA17 d t r = false) : d.la ≤ t ∧ t ≤ 1099511627776 ∧ 0 ≤ r ∧ r ≤ 100 := by
  unfold badA17 at hb
  by_cases h1 : t < d.la
  · rw [decide_eq_true h1] at hb; cases hb
  · by_cases h2 : 1099511627776 < t
    · rw [decide_eq_false h1, decide_eq_true h2] at hb; cases hb
    · by_cases h3 : r < 0
      · rw [decide_eq_false h1, decide_eq_false h2, decide_eq_true h3] at hb; cases hb
      · rw [decide_eq_false h1, decide_eq_false h2, decide_eq_false h3] at hb
        have := of_decide_eq_false hb
        omega
theorem ring_len {s : RS} {d : DS} {m : Nat} (h : Met.RD s d m) (hm : m < 1000000) : ∃ rs, HoldsR s rs ∧ rs.length < 1000000 := by
  refine ⟨_, h.h, ?_⟩
  have := h.len
  have e : ∀ l : List (Int × Int), (recB d.g l).length = l.length := fun l => by unfold recB; simp
  show (recB d.g d.l).length < 1000000
  rw [e]
  have : d.l.length ≤ m := this
  omega
structure InD (d : DcS) (dd : DdS) (now : Int) (i : Nat) : Prop where
  p : PairD d dd (2 * i)
  o : PairO d dd
  g : DcG d i
  n0 : d.la ≤ now
  n1 : now ≤ 1099511627776
theorem modJ (a : Int) {m : Int} (hm : 0 < m) (h2 : m ≤ 9223372036854775807) : 0 ≤ wI (Int.tmod (IntKind.wrap .u64 a) m) ∧ wI (Int.tmod (IntKind.wrap .u64 a) m) < m := modI a hm h2
theorem now_bd {now : Int} (x : O17) (h0 : 0 ≤ now) (h1 : now ≤ 1099511627776) : now ≤ nwD now x ∧ nwD now x ≤ 1099511627776 := by
  have h := modJ x.2.1 (m := 4) (by omega) (by omega)
  unfold nwD
  revert h
  generalize wI (Int.tmod (IntKind.wrap .u64 x.2.1) 4) = y
  intro h
  have e : wI (now + y) = now + y := wrap64_in (by omega) (by omega)
  rw [e]
  split <;> omega
end Go.Proofs.YtebibmioiigplaaGreat.Dec

/- Layer 17: DecidePlays: the loop. -/
namespace Go.Proofs.YtebibmioiigplaaGreat.Dec
open Go.Eng Go.RowKit Mil Rin
set_option linter.unusedVariables false
set_option linter.unusedSimpArgs false
set_option maxRecDepth 100000
def okDp (p : PDp) (a : ADp) : Prop := ∃ (d : DcS) (dd : DdS) (now : Int) (i : Nat), a = stDp d dd now i ∧ p.k = p.o.length ∧ p.k ≤ 100 ∧ i ≤ p.k ∧ InD d dd now i
def goDp (p : PDp) (a : ADp) : Bool := decide (a.i < (p.k : Int))
def muDp (p : PDp) (a : ADp) : Nat := (p.k - a.i).toNat
theorem DcG.put {d : DcS} {dd : DdS} {m k : Nat} {t v : Int} (h : DcG d k) (hp : PairD (d.put t v) dd m) : DcG (d.put t v) k := ⟨h.may, ⟨_, hp.s.h⟩, ⟨_, hp.q.h⟩, h.sp0, h.sp1, h.n, h.n1, h.h, h.si, h.sl, h.la, h.al⟩
theorem dy_all {c : Conf.Cf} (h : 0 ≤ c.delay ∧ c.delay ≤ 600) : dyP c = false ∧ dyD c = false := by
  unfold dyP dyD
  rw [decide_eq_true h.1, decide_eq_true h.2, decide_eq_false (show ¬ c.delay < 0 by omega), decide_eq_false (show ¬ 600 < c.delay by omega)]
  exact ⟨rfl, rfl⟩
theorem chg_all {d : DcS} {dd : DdS} {m k : Nat} {c : Conf.Cf} (hp : PairD d dd m) (hm : m < 10000) (ho : PairO d dd) (hg : DcG d k) (hc : Conf.mayB c = true) (eg : c.grain = d.gm) :
    allSay (resC d.s c.stable) ∧ allSay (resC d.q c.panic) ∧ allSay (Met.rdC dd.d c.stable) ∧ allSay (Met.rdC dd.e c.panic) ∧ PairD (chgP d c) (chgD dd c) m ∧ PairO (chgP d c) (chgD dd c) ∧ DcG (chgP d c) k := by
  have may := Conf.may_of hc
  have q1 := may.stable
  have q2 := may.panic
  have q3 := may.grain
  have q4 := may.delay
  have eg1 := eg.trans ho.g1
  have eg2 := eg.trans ho.g2
  obtain ⟨a1, a2, a3⟩ := hp.s.res hm (x := c.stable) (by rw [← eg1]; omega) (by omega)
  obtain ⟨b1, b2, b3⟩ := hp.q.res hm (x := c.panic) (by rw [← eg2]; omega) (by omega)
  have emo : moC c dd.mo = moC c d.mo := by rw [hp.mo]
  exact ⟨a1, b1, a2, b2, ⟨rfl, hp.si, emo, hp.la, rfl, a3, b3, ⟨hp.b.h, by show 0 ≤ c.delay; omega, by show c.delay ≤ 600; omega, hp.b.n, hp.b.m⟩⟩, ⟨ho.g1, ho.g2, ho.ov⟩, ⟨hc, ⟨_, a3.h⟩, ⟨_, b3.h⟩, by show 0 ≤ c.delay; omega, by show c.delay ≤ 600; omega, hg.n, hg.n1, hg.h, hg.si, hg.sl, hg.la, hg.al⟩⟩
theorem new_all {d : DcS} {dd : DdS} {m k : Nat} {c : Conf.Cf} (hp : PairD d dd m) (ho : PairO d dd) (hg : DcG d k) (hc : Conf.mayB c = true) :
    badN c.stable c.grain = false ∧ badN c.panic c.grain = false ∧ PairD (newP d c) (newD dd c) m ∧ PairO (newP d c) (newD dd c) ∧ DcG (newP d c) k := by
  have may := Conf.may_of hc
  have q1 := may.stable
  have q2 := may.panic
  have q3 := may.grain
  have q4 := may.delay
  have z1 : Met.RD (RS.new c.stable c.grain) ⟨c.stable, c.grain, 0, -1, bif dd.d.ov then true else dd.e.ov, []⟩ 0 := BothR.new (by omega) (by omega) (by omega)
  have z2 : Met.RD (RS.new c.panic c.grain) ⟨c.panic, c.grain, 0, -1, false, []⟩ 0 := BothR.new (by omega) (by omega) (by omega)
  have emo : moC c dd.mo = moC c d.mo := by rw [hp.mo]
  refine ⟨badN_false (by omega) (by omega) (by omega), badN_false (by omega) (by omega) (by omega), ⟨rfl, hp.si, emo, hp.la, rfl, Met.bup z1 (by omega), Met.bup z2 (by omega), ⟨hp.b.h, by show 0 ≤ c.delay; omega, by show c.delay ≤ 600; omega, hp.b.n, hp.b.m⟩⟩, ⟨rfl, rfl, ?_⟩, ⟨hc, ⟨_, z1.h⟩, ⟨_, z2.h⟩, by show 0 ≤ c.delay; omega, by show c.delay ≤ 600; omega, hg.n, hg.n1, hg.h, hg.si, hg.sl, hg.la, hg.al⟩⟩
  show (Met.ovP d.om d.s d.q || false || false) = ((bif dd.d.ov then true else dd.e.ov) || false)
  rw [Met.ovP_is hp.s.h.rep.n0 hp.q.h.rep.n0, ho.ov]
  cases dd.d.ov <;> cases dd.e.ov <;> rfl
theorem stepDp (p : PDp) (a : ADp) (h : okDp p a) (hg : goDp p a = true) : ∃ b, stepC okDp rdDp FDp muDp p a b := by
  obtain ⟨d, dd, now, i, rfl, hk, k1, ik, hI⟩ := h
  have hg0 : decide ((i : Int) < (p.k : Int)) = true := hg
  have hi : (i : Int) < (p.k : Int) := of_decide_eq_true hg0
  have hw : wI ((i : Int) + 1) = ((i + 1 : Nat) : Int) := wrap64_in (by omega) (by omega)
  obtain ⟨x1, x2⟩ := idR_is (g := p.o) (k := p.k) (i := (i : Int)) hk (by omega) hi
  have hH : allSay (hdD p i) := ⟨hg0, x1, x2, rfl, by kernel_rfl, trivial⟩
  obtain ⟨hp, ho, hG, n0, n1⟩ := hI
  have la := hG.la
  have w0 := wayR0 p d dd now i _ rfl
  have wR := fun b => wayR1 b p d dd now i _ rfl
  have wP := fun b c1 c2 => wayP b c1 c2 p d dd now i _ rfl _ _ _ rfl rfl rfl
  have wK0 := fun b => wayK0 b p d dd now i _ rfl _ _ rfl rfl
  have wK1 := fun b => wayK1 b p d dd now i _ rfl _ _ rfl rfl
  have wK2 := fun b => wayK2 b p d dd now i _ rfl _ _ rfl rfl
  obtain ⟨t0, t1⟩ := now_bd (xO17 p.o i) (show 0 ≤ now by omega) n1
  have hr := modJ (xO17 p.o i).2.2.1 (m := 101) (by omega) (by omega)
  have hv := modJ (xO17 p.o i).2.2.2.2.1 (m := 2000000) (by omega) (by omega)
  have er : rD17 (xO17 p.o i) = wI (Int.tmod (IntKind.wrap .u64 (xO17 p.o i).2.2.1) 101) := rfl
  have ev : vD17 (xO17 p.o i) = wI (Int.tmod (IntKind.wrap .u64 (xO17 p.o i).2.2.2.2.1) 2000000) := rfl
  rw [← er] at hr
  rw [← ev] at hv
  clear er ev
  generalize xO17 p.o i = x at *
  generalize nwD now x = t at *
  generalize rD17 x = r at *
  generalize vD17 x = v at *
  have go : ∀ {c : List (Bool × Bool)} {ch : List Bool} {d' : DcS} {dd' : DdS} {now' : Int}, T.path ch (rdDp p (stDp d dd now i)) = some (c, (.normal, FDp p (stDp d' dd' now' (wI ((i : Int) + 1))))) → allSay c → InD d' dd' now' (i + 1) → ∃ b, stepC okDp rdDp FDp muDp p (stDp d dd now i) b := by
    intro c ch d' dd' now' hp hc b
    rw [hw] at hp
    refine ⟨_, T.path_eval hp hc, ⟨d', dd', now', i + 1, rfl, hk, k1, by omega, b⟩, ?_⟩
    show ((p.k : Int) - ((i + 1 : Nat) : Int)).toNat < ((p.k : Int) - (i : Int)).toNat; omega
  have hm : 2 * i < 9000 := by omega
  cases k6 : decide (kD x < 6) with
  | true =>
    obtain ⟨c1, c2, p1, p2, hp2⟩ := hp.put (t := t) (v := v) (by omega) (by omega) (by omega) hv.1 (by omega)
    have hG2 := DcG.put hG hp2
    obtain ⟨b, tl, a1, a2, a3⟩ := tailDp hp2 (by omega) (ho.put c1 c2 t v) hG2 (by omega) (t := t) (r := r) (by show d.la ≤ t; omega) t1 hr.1 (by omega)
    have okp : Dly.pB (okP17 d t v) = true := Dly.pB_is ⟨badA_false.2 ⟨by omega, by omega, hv.1⟩, by omega, ring_len hp.s (by omega), ring_len hp.q (by omega)⟩
    exact go (wP b c1 c2) (allSay_append hH (allSay_append ⟨k6, by kernel_rfl, okp, trivial⟩ (allSay_append p1 (allSay_append p2 (allSay_append ⟨rfl, trivial⟩ tl))))) ⟨a1, a2, a3, Int.le_refl _, t1⟩
  | false =>
    cases k7 : kD x == 6 with
    | true =>
      cases hb : badA17 d x.2.2.2.1 x.2.2.1 with
      | true =>
        have hb2 : badR17 dd x.2.2.2.1 x.2.2.1 = true := by
          unfold badR17
          rw [hp.la]; exact hb
        exact go w0 (allSay_append hH (allSay_append ⟨k6, k7, hb, hb2, trivial⟩ (allSay_append (cmp_all rfl hp ho) ⟨rfl, trivial⟩))) ⟨hp.mono.mono, ho, hG.mono (by omega), by omega, t1⟩
      | false =>
        obtain ⟨y1, y2, y3, y4⟩ := badA17_iff hb
        obtain ⟨b, tl, a1, a2, a3⟩ := tailDp hp (by omega) ho hG (by omega) y1 y2 y3 y4
        exact go (wR b) (allSay_append hH (allSay_append ⟨k6, k7, trivial⟩ tl)) ⟨a1.mono, a2, a3, Int.le_refl _, y2⟩
    | false =>
      cases hc : Conf.mayB (cf17 x) with
      | false =>
        have hc' : (!Conf.mayB (cf17 x)) = true := by rw [hc]; rfl
        obtain ⟨b, tl, a1, a2, a3⟩ := tailDp hp (by omega) ho hG (by omega) (t := t) (r := r) (by omega) t1 hr.1 (by omega)
        exact go (wK0 b) (allSay_append hH (allSay_append ⟨k6, k7, hc', hc', rfl, rfl, trivial⟩ tl)) ⟨a1.mono, a2, a3, Int.le_refl _, t1⟩
      | true =>
        have hc' : (!Conf.mayB (cf17 x)) = false := by rw [hc]; rfl
        have dl := (Conf.may_of hc).delay
        obtain ⟨dy1, dy2⟩ := dy_all (c := cf17 x) (by omega)
        cases hgr : (cf17 x).grain == d.gm with
        | true =>
          have eg : (cf17 x).grain = d.gm := beq_iff_eq.1 hgr
          have ne : ((cf17 x).grain != dd.d.g) = false := by rw [eg.trans ho.g1]; exact neI _
          obtain ⟨r1, r2, r3, r4, hp2, ho2, hG2⟩ := chg_all hp (by omega) ho hG hc eg
          obtain ⟨b, tl, a1, a2, a3⟩ := tailDp hp2 (by omega) ho2 hG2 (by omega) (t := t) (r := r) (by show d.la ≤ t; omega) t1 hr.1 (by omega)
          exact go (wK1 b) (allSay_append hH (allSay_append ⟨k6, k7, hc', hc', hgr, trivial⟩ (allSay_append r1 (allSay_append r2 (allSay_append ⟨dy1, hc', ne, trivial⟩ (allSay_append r3 (allSay_append r4 (allSay_append ⟨rfl, dy2, rfl, trivial⟩ tl)))))))) ⟨a1.mono, a2, a3, Int.le_refl _, t1⟩
        | false =>
          have ne : ((cf17 x).grain != dd.d.g) = true := by
            unfold bne
            rw [← ho.g1, hgr]; rfl
          obtain ⟨b1, b2, hp2, ho2, hG2⟩ := new_all hp ho hG hc
          obtain ⟨b, tl, a1, a2, a3⟩ := tailDp hp2 (by omega) ho2 hG2 (by omega) (t := t) (r := r) (by show d.la ≤ t; omega) t1 hr.1 (by omega)
          exact go (wK2 b) (allSay_append hH (allSay_append ⟨k6, k7, hc', hc', hgr, b1, b2, dy1, hc', ne, b1, b2, rfl, dy2, rfl, trivial⟩ tl)) ⟨a1.mono, a2, a3, Int.le_refl _, t1⟩
theorem exDp (p : PDp) (a : ADp) (h : okDp p a) (hg : goDp p a = false) : (rdDp p a).eval = some (.exit 0, FDp p a) := T.path_eval (wayDpx p a) ⟨hg, trivial⟩
noncomputable def famDp : LSpec := famC [1,5,6,7,8] SDp 2000 2020 156 decDp okDp goDp rdDp FDp muDp (.exit 0)
theorem lpDp_ok : LoopOk DP lpDp famDp := famC_ok (vs := vsDp) (bs := bsDp) DP_ok mixed (noLoops_ok _) decDp_ok (by simp) (fun _ _ => rfl) (fun _ _ => rfl) stepDp exDp
noncomputable def dplR (c : Conf.Cf) (l : List O17) : T V := execS DP (byReg [(rgDp, famDp)]) 3 [Conf.confV c, .orow 31 KP l]
end Go.Proofs.YtebibmioiigplaaGreat.Dec

/- Layer 17: DecidePlays. -/
namespace Go.Proofs.YtebibmioiigplaaGreat.Dec
open Go.Eng Go.RowKit Mil Rin
set_option linter.unusedVariables false
set_option linter.unusedSimpArgs false
set_option maxRecDepth 100000
def ddN17 (c : Conf.Cf) : DdS := ⟨c, ⟨c.stable, c.grain, 0, -1, false, []⟩, ⟨c.panic, c.grain, 0, -1, false, []⟩, -1, 0, c.delay, [], 0⟩
def pP17 (l : List O17) : PDp := ⟨l.length, l⟩
theorem dpl_0 (c : Conf.Cf) (l : List O17) : T.path [false, true] (T.anon (dplR c l)) = some ([(Conf.mayB c, false), (!Conf.mayB c, true)], .tt) := by kernel_rfl
theorem dpl_1 (c : Conf.Cf) (l : List O17) : T.path [true, false, false, false, false, false, true] (T.anon (dplR c l)) = some ([(Conf.mayB c, true), (!Conf.mayB c, false), (!Conf.mayB c, false), (badN c.stable c.grain, false), (badN c.panic c.grain, false), (dyD c, false), (decide (100 < (l.length : Int)), true)], .tt) := by kernel_rfl
theorem dpl_2 (c : Conf.Cf) (l : List O17) : T.path [true, false, false, false, false, false, false, true] (T.anon (dplR c l)) = some ([(Conf.mayB c, true), (!Conf.mayB c, false), (!Conf.mayB c, false), (badN c.stable c.grain, false), (badN c.panic c.grain, false), (dyD c, false), (decide (100 < (l.length : Int)), false), (invC okDp (pP17 l) (stDp (DcS.new c) (ddN17 c) 0 0), true)], .tt) := by kernel_rfl
theorem dpl_run (c : Conf.Cf) (l : List O17) : (dplR c l).eval = some .tt := by
  rw [← T.eval_anon (t := dplR c l)]
  cases hc : Conf.mayB c with
  | false =>
    have hc' : (!Conf.mayB c) = true := by rw [hc]; rfl
    exact T.path_eval (dpl_0 c l) ⟨hc, hc', trivial⟩
  | true =>
    have hc' : (!Conf.mayB c) = false := by rw [hc]; rfl
    have may := Conf.may_of hc
    have q1 := may.stable
    have q2 := may.panic
    have q3 := may.grain
    have q4 := may.delay
    have n1 : badN c.stable c.grain = false := badN_false (by omega) (by omega) (by omega)
    have n2 : badN c.panic c.grain = false := badN_false (by omega) (by omega) (by omega)
    have dy := (dy_all (c := c) (by omega)).2
    by_cases hl : 100 < (l.length : Int)
    · exact T.path_eval (dpl_1 c l) ⟨hc, hc', hc', n1, n2, dy, decide_eq_true hl, trivial⟩
    · have o : okDp (pP17 l) (stDp (DcS.new c) (ddN17 c) 0 0) := ⟨DcS.new c, ddN17 c, 0, 0, rfl, rfl, by show l.length ≤ 100; omega, Nat.zero_le _, ⟨PairD.new hc, ⟨rfl, rfl, rfl⟩, (DcR.new hc 0).g, Int.le_refl _, by omega⟩⟩
      exact T.path_eval (dpl_2 c l) ⟨hc, hc', hc', n1, n2, dy, decide_eq_false hl, invC_is o, trivial⟩
theorem dpl_walk (c : Conf.Cf) (_ : c.Ok) (l : List O17) (_ : l.length ≤ maxLen) (_ : ∀ x ∈ l, Law.GoodRow KP x) (x : Value) (W : World) (hx : holdsP 0 W (.orow 31 KP l) x) :
    Calls Tryz.prog 3 #[.agg #[.int .i64 c.target, .int .i64 c.util, .int .i64 c.stable, .int .i64 c.panic, .int .i64 c.grain, .int .i64 c.threshold, .int .i64 c.up, .int .i64 c.down, .int .i64 c.min, .int .i64 c.max, .int .i64 c.initial, .int .i64 c.grace, .int .i64 c.delay, .int .i64 c.burst, .int .i64 c.limit, .int .i64 c.queue, .int .i64 c.timeout, .int .i64 c.ready, .int .i64 c.subset, .int .i64 c.sample], x] W fun e w' => e = .returned (.bool true) ∧ Below W.heap.size W w' :=
  Law.law_rows (args := [Conf.confV c, .orow 31 KP l]) (xs := [.agg #[.int .i64 c.target, .int .i64 c.util, .int .i64 c.stable, .int .i64 c.panic, .int .i64 c.grain, .int .i64 c.threshold, .int .i64 c.up, .int .i64 c.down, .int .i64 c.min, .int .i64 c.max, .int .i64 c.initial, .int .i64 c.grace, .int .i64 c.delay, .int .i64 c.burst, .int .i64 c.limit, .int .i64 c.queue, .int .i64 c.timeout, .int .i64 c.ready, .int .i64 c.subset, .int .i64 c.sample], x]) (execS_loops (Λ := byReg [(rgDp, famDp)]) DP_ok mixed Tryz.func3 (by kernel_rfl) (by kernel_rfl) (one_lp (by kernel_rfl) rgDp_is lpDp_ok)) rfl (.inl (dpl_run c l)) W ⟨rfl, hx, trivial⟩
end Go.Proofs.YtebibmioiigplaaGreat.Dec

