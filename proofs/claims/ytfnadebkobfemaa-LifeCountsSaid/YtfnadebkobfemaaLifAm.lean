/- Layer 21: LifeCounts. -/
import Derived.Test.YtfnadebkobfemaaLifAl
namespace Go.Proofs.Ytfnadebkobfemaa.Lif
open Go.Eng Go.RowKit
set_option linter.unusedVariables false
set_option linter.unusedSimpArgs false
def ccW (p : PCc) (a : ACc) : Int := IntKind.wrap .i64 (Int.tmod (IntKind.wrap .u64 (gI p.g a.i)) 31)
def ccL1 (p : PCc) (a : ACc) : List R4 := scaleL a.m a.l (ccW p a) a.i
def ccM1 (p : PCc) (a : ACc) : Int := scaleM a.m a.l (ccW p a)
def ccL2 (p : PCc) (a : ACc) : List R4 := ripeL a.i 0 (ccL1 p a)
def ccK (p : PCc) (a : ACc) : Bool → Int
  | true => gI p.h a.i
  | false => 0
def ccP (p : PCc) (a : ACc) (e : Bool) : PCa := ⟨p.g, p.kg, p.h, p.kh, a.i, ccK p a e, (rdy (ccL2 p a)).length, rdy (ccL2 p a), ccM1 p a, a.b, ccL2 p a⟩
def ccA (p : PCc) (a : ACc) : ACa := ⟨a.b, (ccL1 p a).length, ccL2 p a, 0⟩
noncomputable def ccE (p : PCc) (a : ACc) (e : Bool) : ACa := endW (nxtC okCa goCa rdCa FCa muCa (ccP p a e)) (ccA p a)
noncomputable def ccX (p : PCc) (a : ACc) (e : Bool) : Int := IntKind.wrap .i64 (Int.tmod (IntKind.wrap .u64 (Int.tdiv (IntKind.wrap .u64 (ccK p a e)) 2)) (IntKind.wrap .u64 ((ccE p a e).l.length : Int)))
noncomputable def ccO (p : PCc) (a : ACc) (e : Bool) : R4 := g4 (ccE p a e).l (ccX p a e)
noncomputable def ccV (p : PCc) (a : ACc) (e : Bool) : Int × List R4 := leaP (ccO p a e).1 (ccE p a e).l
def ccB (p : PCc) (a : ACc) (b : Int) (n : Nat) (l : List R4) : PCb := ⟨p.g, p.kg, p.h, p.kh, a.i, b, l.length, l, ccM1 p a, n, l⟩
noncomputable def ccF (p : PCc) (a : ACc) (b : Int) (n : Nat) (l : List R4) : ACb := endW (nxtC okCb goCb rdCb FCb muCb (ccB p a b n l)) ⟨0, -1, 0⟩
def ccG (p : PCc) (a : ACc) : Bool := bif decide (a.i < (p.kg : Int)) then decide (a.i < 40) else false
def ccC : Bool → List Bool
  | true => [true, true, true]
  | false => [false]
def ccD (p : PCc) (a : ACc) : Bool → List (Bool × Bool)
  | true => [(decide (a.i < (p.kh : Int)), true), (idR p.h p.kh a.i, true), (ldR p.h a.i, true)]
  | false => [(decide (a.i < (p.kh : Int)), false)]
noncomputable def ccH (p : PCc) (a : ACc) (e : Bool) : List (Bool × Bool) := [(ccG p a, true), (idR p.g p.kg a.i, true), (ldR p.g a.i, true), ((31 : Int) == 0, false), (okSc a.m a.n a.l, true), (outS (ccW p a) a.i, false), ((0 : Int) != 0, false), (okN (ccL1 p a).length (ccL1 p a), true), (bif (0 : Int) != 0 then true else (cnt (ccL1 p a) : Int) != ccW p a, false), (okN (ccL1 p a).length (ccL1 p a) && okTb (ccL1 p a), true), (okN (ccL1 p a).length (ccL2 p a), true)] ++ (ccD p a e ++ [(invC okCa (ccP p a e) (ccA p a), true), (okN (ccE p a e).n (ccE p a e).l, true)])
def ccQ (e : Bool) : List Bool := [true, true, true, false, true, false, false, true, false, true, true] ++ (ccC e ++ [true, true])
noncomputable def ccOdd (p : PCc) (a : ACc) (e : Bool) : Bool := bif decide (0 < ((ccE p a e).l.length : Int)) then bits .and .i64 (ccK p a e) 1 == 1 else false
theorem wayCc0 (p : PCc) (a : ACc) (e : Bool) : T.path (ccQ e ++ [false, true, true, false]) (rdCc p a) = some (ccH p a e ++ [(ccOdd p a e, false), (okN (ccE p a e).n (ccE p a e).l, true), (invC okCb (ccB p a (ccE p a e).b (ccE p a e).n (ccE p a e).l) ⟨0, -1, 0⟩, true), ((ccF p a (ccE p a e).b (ccE p a e).n (ccE p a e).l).s != (ccE p a e).b, false)], (.normal, FCc p ⟨(ccE p a e).b, IntKind.wrap .i64 (a.i + 1), ccM1 p a, (ccE p a e).n, (ccE p a e).l⟩)) := by cases e <;> kernel_rfl
def ccY (b : Int) : Bool → Int
  | true => IntKind.wrap .i64 (b - 1)
  | false => b
theorem wayCc1 (p : PCc) (a : ACc) (e f : Bool) : T.path (ccQ e ++ [true, false, false, true, true, true, false, f, true, true, false]) (rdCc p a) = some (ccH p a e ++ [(ccOdd p a e, true), ((2 : Int) == 0, false), (IntKind.wrap .u64 ((ccE p a e).l.length : Int) == 0, false), (idR (ccE p a e).l (ccE p a e).l.length (ccX p a e), true), (ldR (ccE p a e).l (ccX p a e), true), (okN (ccE p a e).n (ccE p a e).l, true), (!(((ccV p a e).1 == 0) == decide (0 < (ccO p a e).2.2.1)), false), (decide (0 < (ccO p a e).2.2.1), f),
    (okN (ccV p a e).2.length (ccV p a e).2, true), (invC okCb (ccB p a (ccY (ccE p a e).b f) (ccV p a e).2.length (ccV p a e).2) ⟨0, -1, 0⟩, true), ((ccF p a (ccY (ccE p a e).b f) (ccV p a e).2.length (ccV p a e).2).s != ccY (ccE p a e).b f, false)], (.normal, FCc p ⟨ccY (ccE p a e).b f, IntKind.wrap .i64 (a.i + 1), ccM1 p a, (ccV p a e).2.length, (ccV p a e).2⟩)) := by cases e <;> cases f <;> kernel_rfl
theorem wayCcx (p : PCc) (a : ACc) : T.path [false] (rdCc p a) = some ([(ccG p a, false)], (.exit 0, FCc p a)) := by kernel_rfl
def okCc (p : PCc) (a : ACc) : Prop := p.kg = p.g.length ∧ p.kh = p.h.length ∧ 0 ≤ a.i ∧ a.i ≤ 40 ∧ 0 ≤ a.m ∧ a.m ≤ 30 * a.i ∧ a.n = a.l.length ∧ (a.l.length : Int) ≤ 30 * a.i ∧ a.b ≤ 6 * a.i ∧ LInv a.l a.m a.b
def goCc (p : PCc) (a : ACc) : Bool := ccG p a
def muCc (p : PCc) (a : ACc) : Nat := (40 - a.i).toNat
theorem cb_end {p : PCc} {a : ACc} {b : Int} {l : List R4} (h1 : l.length ≤ 10000) (h2 : LInv l (ccM1 p a) b) (h3 : b ≤ 100000) : invC okCb (ccB p a b l.length l) ⟨0, -1, 0⟩ = true ∧ ((ccF p a b l.length l).s != b) = false := by
  have o : okCb (ccB p a b l.length l) ⟨0, -1, 0⟩ := by
    refine ⟨rfl, h1, h2, h3, Int.le_refl _, by show (0 : Int) ≤ (l.length : Int); omega, rfl, ?_⟩
    show (-1 : Int) < ((l[(0 : Int).toNat]?).map (·.1)).getD (-1 + 1)
    cases hl : l[(0 : Int).toNat]? with
    | none => show (-1 : Int) < -1 + 1; omega
    | some x =>
      have := (h2.rng x (List.mem_of_getElem? hl)).1
      show -1 < x.1
      omega
  obtain ⟨k1, k2⟩ := endC stepCb o
  obtain ⟨_, _, _, _, q5, q6, q7, _⟩ := k1
  have k2' : ¬ (ccF p a b l.length l).j < (l.length : Int) := of_decide_eq_false k2
  have q7' : (ccF p a b l.length l).s = sumB (l.take (ccF p a b l.length l).j.toNat) := q7
  rw [List.take_of_length_le (by omega), h2.sm] at q7'
  exact ⟨invC_is o, by rw [q7']; simp⟩
theorem stepCc (p : PCc) (a : ACc) (h : okCc p a) (hg : goCc p a = true) : ∃ b, stepC okCc rdCc FCc muCc p a b := by
  obtain ⟨h1, h2, h3, h4, h5, h6, h7, h8, h9, h10⟩ := id h
  have hg0 : (decide (a.i < (p.kg : Int)) && decide (a.i < 40)) = true := by rw [← cond_and]; exact hg
  simp only [Bool.and_eq_true, decide_eq_true_eq] at hg0
  obtain ⟨hi, hi40⟩ := hg0
  have hw : IntKind.wrap .i64 (a.i + 1) = a.i + 1 := wrap64_in (by omega) (by omega)
  obtain ⟨x1, x2⟩ := idR_is (g := p.g) (k := p.kg) (i := a.i) h1 h3 hi
  have hN : 0 ≤ ccW p a ∧ ccW p a < 31 := by unfold ccW; rw [modU (by omega) (by omega)]; exact modU_range _ (by omega)
  obtain ⟨s1, s2, s3⟩ := h10.scale h5 (want := ccW p a) (now := a.i) hN.1 h3 (by omega)
  have s1 : LInv (ccL1 p a) (ccM1 p a) a.b := s1
  have s2 : (cnt (ccL1 p a) : Int) = ccW p a := s2
  have s3 : (ccL1 p a).length ≤ a.l.length + (ccW p a).toNat := s3
  have r1 : LInv (ccL2 p a) (ccM1 p a) a.b := s1.ripe a.i 0
  have r2 : (ccL2 p a).length = (ccL1 p a).length := ripeL_len _ _ _
  have hM : 0 ≤ ccM1 p a ∧ ccM1 p a ≤ a.m + 30 := by unfold ccM1 scaleM; omega
  have oN : okN a.n a.l = true := decide_eq_true ⟨h7, by omega⟩
  have oS : okSc a.m a.n a.l = true := by
    unfold okSc; rw [oN, decide_eq_true (show a.l.length ≤ 10000 ∧ 0 ≤ a.m ∧ a.m ≤ 1000000000 by omega)]; rfl
  have oO : outS (ccW p a) a.i = false := by
    unfold outS
    rw [decide_eq_false (show ¬ ccW p a < 0 by omega), decide_eq_false (show ¬ 100 < ccW p a by omega), decide_eq_false (show ¬ a.i < 0 by omega), decide_eq_false (show ¬ 1099511627776 < a.i by omega)]; rfl
  have o1 : okN (ccL1 p a).length (ccL1 p a) = true := okN_of (by omega)
  have o2 : okN (ccL1 p a).length (ccL2 p a) = true := decide_eq_true ⟨r2.symm, by omega⟩
  have oT : okTb (ccL1 p a) = true := okTb_of s1.ot
  have hb0 := sumB_nn (l := a.l) fun p hp => (h10.bz p hp).1
  rw [h10.sm] at hb0
  have hrl := rdy_le (ccL2 p a)
  have main : ∀ e : Bool, allSay (ccD p a e) → ∃ b, stepC okCc rdCc FCc muCc p a b := by
    intro e hd
    have oA : okCa (ccP p a e) (ccA p a) := ⟨rfl, by show (rdy (ccL2 p a)).length ≤ 100000; omega, hb0, by show a.b ≤ 1000; omega, Int.le_refl _, by show (0 : Int) ≤ 6; omega, r2.symm, by show (ccL2 p a).length ≤ 10000; omega, rfl, rfl, by show a.b ≤ a.b + 0; omega, r1⟩
    obtain ⟨k1, _⟩ := endC stepCa oA
    obtain ⟨_, _, _, _, q5, q6, q7, q8, q9, _, q11, q12⟩ := k1
    have q6 : (ccE p a e).j ≤ 6 := q6
    have q7 : (ccE p a e).n = (ccE p a e).l.length := q7
    have q9 : (ccE p a e).l.length = (ccL2 p a).length := q9
    have q11 : (ccE p a e).b ≤ a.b + (ccE p a e).j := q11
    have q12 : LInv (ccE p a e).l (ccM1 p a) (ccE p a e).b := q12
    have hbE := sumB_nn (l := (ccE p a e).l) fun p hp => (q12.bz p hp).1
    rw [q12.sm] at hbE
    have oE : okN (ccE p a e).n (ccE p a e).l = true := decide_eq_true ⟨q7, by omega⟩
    have pre : allSay (ccH p a e) := allSay_append ⟨hg, x1, x2, rfl, oS, oO, rfl, o1, by rw [s2]; simp, by rw [o1, oT]; rfl, o2, trivial⟩ (allSay_append hd ⟨invC_is oA, oE, trivial⟩)
    have mu : (40 - IntKind.wrap .i64 (a.i + 1)).toNat < (40 - a.i).toNat := by rw [hw]; omega
    have fin : ∀ (b : Int) (l : List R4), LInv l (ccM1 p a) b → b ≤ (ccE p a e).b → l.length ≤ (ccE p a e).l.length → okCc p ⟨b, IntKind.wrap .i64 (a.i + 1), ccM1 p a, l.length, l⟩ := fun b l f1 f2 f3 =>
      ⟨h1, h2, by show 0 ≤ IntKind.wrap .i64 (a.i + 1); rw [hw]; omega, by show IntKind.wrap .i64 (a.i + 1) ≤ 40; rw [hw]; omega, hM.1, by show ccM1 p a ≤ 30 * IntKind.wrap .i64 (a.i + 1); rw [hw]; omega, rfl, by show (l.length : Int) ≤ 30 * IntKind.wrap .i64 (a.i + 1); rw [hw]; omega, by show b ≤ 6 * IntKind.wrap .i64 (a.i + 1); rw [hw]; omega, f1⟩
    cases ho : ccOdd p a e
    · have c := cb_end (p := p) (a := a) (b := (ccE p a e).b) (l := (ccE p a e).l) (by omega) q12 (by omega)
      rw [← q7] at c
      have f := fin (ccE p a e).b (ccE p a e).l q12 (Int.le_refl _) (Nat.le_refl _)
      rw [← q7] at f
      exact ⟨_, T.path_eval (wayCc0 p a e) (allSay_append pre ⟨ho, oE, c.1, c.2, trivial⟩), f, mu⟩
    · have hlen : 0 < (ccE p a e).l.length := by
        unfold ccOdd at ho
        rw [cond_and, Bool.and_eq_true] at ho
        have := of_decide_eq_true ho.1; omega
      have hu : IntKind.wrap .u64 ((ccE p a e).l.length : Int) = (ccE p a e).l.length := by rw [wrapu64]; omega
      have hk : 0 ≤ IntKind.wrap .u64 (ccK p a e) ∧ IntKind.wrap .u64 (ccK p a e) < 18446744073709551616 := by rw [wrapu64]; omega
      have hx : 0 ≤ ccX p a e ∧ ccX p a e < (ccE p a e).l.length := by
        unfold ccX
        rw [hu, modU (by omega) (by omega)]
        exact modU_range _ (by omega)
      have hj : (ccX p a e).toNat < (ccE p a e).l.length := by omega
      obtain ⟨y1, y2⟩ := idR_is (g := (ccE p a e).l) (k := (ccE p a e).l.length) (i := ccX p a e) rfl hx.1 hx.2
      have hO : ccO p a e = (ccE p a e).l[(ccX p a e).toNat] := g4_at hj
      obtain ⟨v1, v2, v3⟩ := q12.lea (by omega) hj
      have hV : ccV p a e = leaP (ccE p a e).l[(ccX p a e).toNat].1 (ccE p a e).l := by unfold ccV; rw [hO]
      rw [← hV] at v1 v2 v3
      rw [← hO] at v1 v2
      have oV : okN (ccV p a e).2.length (ccV p a e).2 = true := okN_of (by omega)
      have hb1 := busy_le (fun p hp => (q12.bz p hp).1) hj
      rw [q12.sm, ← hO] at hb1
      have hy : ∀ f : Bool, decide (0 < (ccO p a e).2.2.1) = f → ccY (ccE p a e).b f = if 0 < (ccO p a e).2.2.1 then (ccE p a e).b - 1 else (ccE p a e).b := by
        intro f hf
        cases f
        · rw [if_neg (of_decide_eq_false hf)]; rfl
        · rw [if_pos (of_decide_eq_true hf)]
          exact wrap64_in (by have := of_decide_eq_true hf; omega) (by omega)
      have hle : ccY (ccE p a e).b (decide (0 < (ccO p a e).2.2.1)) ≤ (ccE p a e).b := by rw [hy _ rfl]; split <;> omega
      rw [← hy _ rfl] at v2
      have c := cb_end (p := p) (a := a) (l := (ccV p a e).2) (by omega) v2 (by omega)
      exact ⟨_, T.path_eval (wayCc1 p a e (decide (0 < (ccO p a e).2.2.1))) (allSay_append pre ⟨ho, rfl, by rw [hu, beq_eq_false_iff_ne]; omega, y1, y2, oE, by rw [v1]; simp, rfl, oV, c.1, c.2, trivial⟩), fin _ _ v2 hle v3, mu⟩
  by_cases hh : a.i < (p.kh : Int)
  · obtain ⟨z1, z2⟩ := idR_is (g := p.h) (k := p.kh) (i := a.i) h2 h3 hh
    exact main true ⟨decide_eq_true hh, z1, z2, trivial⟩
  · exact main false ⟨decide_eq_false hh, trivial⟩
theorem exCc (p : PCc) (a : ACc) (h : okCc p a) (hg : goCc p a = false) : (rdCc p a).eval = some (.exit 0, FCc p a) := T.path_eval (wayCcx p a) ⟨hg, trivial⟩
noncomputable def famCc : LSpec := famC [0,1,5,6,7] SCc 2000 2001 171 decCc okCc goCc rdCc FCc muCc (.exit 0)
theorem lpCc_gen {c : Code} (hl : LoopsOkS JL (byReg [(rgCa, famCa), (rgCb, famCb)]) c) (hrun : ∀ p a, T.anon (roundN JL (byReg [(rgCa, famCa), (rgCb, famCb)]) c [0,1,5,6,7] SCc 2000 2001 (mkSt [0,1,5,6,7] (keysR SCc) 2001 171 (vsCc p a) (bsCc p a))) = rdCc p a) : LoopOk JL c famCc := famC_ok (vs := vsCc) (bs := bsCc) JL_ok mixed hl.ok decCc_ok (by simp) (fun _ _ => rfl) hrun stepCc exCc
theorem lpCc_ok : LoopOk JL lpCc famCc := lpCc_gen ccIn (fun _ _ => rfl)
theorem wayCcA (g h : List Int) : T.path [true] (execS JL (byReg [(rgCc, famCc)]) 6 [.orow 3 [.int .i64] g, .orow 3 [.int .i64] h]) = some ([(invC okCc ⟨g, g.length, h, h.length⟩ ⟨0, 0, 0, 0, []⟩, true)], .tt) := by kernel_rfl
theorem lifeCounts_walk (g : List Int) (_ : g.length ≤ maxLen) (_ : ∀ x ∈ g, (Lit.int .i64 x).wf = true) (x : Value) (h : List Int) (_ : h.length ≤ maxLen) (_ : ∀ x ∈ h, (Lit.int .i64 x).wf = true) (y : Value) (w : World) (hx : holdsP 0 w (.orow 3 [.int .i64] g) x) (hy : holdsP 0 w (.orow 3 [.int .i64] h) y) :
    Calls Try.prog 6 #[x, y] w fun e w' => e = .returned (.bool true) ∧ Below w.heap.size w w' := by
  refine Law.law_rows (args := [.orow 3 [.int .i64] g, .orow 3 [.int .i64] h]) (xs := [x, y]) (execS_loops (Λ := byReg [(rgCc, famCc)]) JL_ok mixed Try.func6 (by kernel_rfl) (by kernel_rfl) (one_lp (c := lpCc) (by kernel_rfl) rgCc_is lpCc_ok)) rfl (.inl ?_) w ⟨hx, hy, trivial⟩
  have h0 : okCc ⟨g, g.length, h, h.length⟩ ⟨0, 0, 0, 0, []⟩ := ⟨rfl, rfl, Int.le_refl _, by show (0 : Int) ≤ 40; omega, Int.le_refl _, Int.le_refl _, rfl, Int.le_refl _, Int.le_refl _, ⟨List.Pairwise.nil, (by intro p hp; cases hp), (by intro p hp; cases hp), rfl, (by intro p hp; cases hp)⟩⟩
  exact T.path_eval (wayCcA g h) ⟨invC_is h0, trivial⟩
end Go.Proofs.Ytfnadebkobfemaa.Lif
