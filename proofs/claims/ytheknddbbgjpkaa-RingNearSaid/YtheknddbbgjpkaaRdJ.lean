/- Layer 5: RingNear. -/
import Derived.Test.YtheknddbbgjpkaaRdH
namespace Go.Proofs.Ytheknddbbgjpkaa.Rin
open Go.Eng Go.RowKit Mil
set_option linter.unusedVariables false
set_option linter.unusedSimpArgs false
noncomputable def lpRn : Code := loopAt Try.prog 11 0
structure PRn where (q : Nat) (o : List (Int × Int × Int × Int)) (w0 : Int) (g0 : Int)
structure ARn where (w : Int) (g : Int) (n : Nat) (nw : Int) (ov : Bool) (l : List OB) (wd : Int) (gd : Int) (nd : Nat) (nwd : Int) (ovd : Bool) (ld : List (Int × Int)) (now : Int) (i : Int)
abbrev SRn : List (Nat × Src) := [(0, .same), (1, .same), (2000, .cell 1 2), (9, .same), (2001, .cell 9 2)]
def vsRn (p : PRn) (a : ARn) : List V := [.sub 0 4 0 p.q, iv p.w0, iv p.g0, .ptr 1 0, .ptr 9 0, iv a.now, iv a.i]
def bsRn (p : PRn) (a : ARn) : List Blk := [.lst false 72 [.int .i64, .int .i64, .int .i64, .int .i64] p.o, .cells 138 [iv a.w, iv a.g, .sub 2000 1 0 a.n, iv a.nw, bv a.ov], .bx 20 141 145 [.int .i64, .int .i64, .bool] a.l [] none, .cells 78 [iv a.wd, iv a.gd, .sub 2001 2 0 a.nd, iv a.nwd, bv a.ovd], .lst true 86 [.int .i64, .int .i64] a.ld]
noncomputable def FRn (p : PRn) (a : ARn) : St := mkSt [2,7,8,9,10,11,12] (keysR SRn) 2002 148 (vsRn p a) (bsRn p a)
noncomputable def rdRn (p : PRn) (a : ARn) : T (Ex × St) := T.anon (roundN RQ noLoops lpRn [2,7,8,9,10,11,12] SRn 2000 2002 (mkSt [2,7,8,9,10,11,12] (keysR SRn) 2002 148 (vsRn p a) (bsRn p a)))
def decRn : List V → List Blk → Option (PRn × ARn)
  | [.sub 0 4 0 q, .s (.int .i64 w0), .s (.int .i64 g0), .ptr 1 0, .ptr 9 0, .s (.int .i64 now), .s (.int .i64 i)], [.lst false tt0 [.int .i64, .int .i64, .int .i64, .int .i64] o, .cells tt1 [.s (.int .i64 w), .s (.int .i64 g), .sub 2000 1 0 n, .s (.int .i64 nw), .s (.bool ov)], .bx tt2 tt3 tt4 [.int .i64, .int .i64, .bool] l [] none, .cells tt5 [.s (.int .i64 wd), .s (.int .i64 gd), .sub 2001 2 0 nd, .s (.int .i64 nwd), .s (.bool ovd)], .lst true tt6 [.int .i64, .int .i64] ld] =>
    if tt0 = 72 then if tt1 = 138 then if tt2 = 20 then if tt3 = 141 then if tt4 = 145 then if tt5 = 78 then if tt6 = 86 then some (⟨q, o, w0, g0⟩, ⟨w, g, n, nw, ov, l, wd, gd, nd, nwd, ovd, ld, now, i⟩) else none else none else none else none else none else none else none
  | _, _ => none
theorem decRn_ok (l : List V) (b : List Blk) (d : PRn × ARn) (h : decRn l b = some d) : l = vsRn d.1 d.2 ∧ b = bsRn d.1 d.2 := by
  unfold decRn at h
  split at h
  · obtain ⟨e0, h⟩ := ite_some0 h
    obtain ⟨e1, h⟩ := ite_some0 h
    obtain ⟨e2, h⟩ := ite_some0 h
    obtain ⟨e3, h⟩ := ite_some0 h
    obtain ⟨e4, h⟩ := ite_some0 h
    obtain ⟨e5, h⟩ := ite_some0 h
    obtain ⟨e6, h⟩ := ite_some0 h
    subst e0 e1 e2 e3 e4 e5 e6
    cases h
    exact ⟨rfl, rfl⟩
  · cases h
noncomputable def rgRn : Nat := (firstReg lpRn).getD 0
theorem rgRn_is : firstReg lpRn = some rgRn := by kernel_rfl
def stN (s : RS) (d : DS) (now i : Int) : ARn := ⟨s.w, s.g, s.n, s.nw, s.ov, s.l, d.w, d.g, d.n, d.nw, d.ov, d.l, now, i⟩
abbrev O4 := Int × Int × Int × Int
abbrev wU (n : Int) : Int := IntKind.wrap .u64 n
def nO (now : Int) (x : O4) : Int := wI (now + wI (Int.tmod (wU x.2.2.1) 5))
def tO (N w : Int) (x : O4) : Int := if wI (N - wI (Int.tmod (wU (Int.tdiv (wU x.2.2.1) 5)) (wU (wI (2 * w))))) > 0 then wI (N - wI (Int.tmod (wU (Int.tdiv (wU x.2.2.1) 5)) (wU (wI (2 * w))))) else 0
def vO (x : O4) : Int := wI (Int.tmod (wU x.2.2.2) 1000000)
def sO (N : Int) (x : O4) : Int := wI (N + bits .and .i64 x.1 3)
def rO (g : Int) (x : O4) : Int := wI (g + wI (Int.tmod (wU x.2.1) 60))
def hdN (p : PRn) (i : Int) : List (Bool × Bool) := [(decide (i < (p.q : Int)), true), (idR p.o p.q i, true), (ldR p.o i, true), ((5 : Int) == 0, false), ((5 : Int) == 0, false), (wU (wI (2 * p.w0)) == 0, false), ((1000000 : Int) == 0, false)]
noncomputable def d1N (b : Bool) (d : DS) (t v : Int) : DS := bif b then d else d.put t v
noncomputable def reC (e : Bool) (s : RS) (d : DS) (n : Int) : List (Bool × Bool) := bif e then ((60 : Int) == 0, false) :: (resC s n ++ [(badX n d.g, false), (pB (OkD n d.g d.nw d.l ∧ d.n = d.l.length), true), ((0 : Int) != 0, false)]) else []
noncomputable def cmN (s : RS) (d : DS) (ts : Int) : Bool := cmS (s.sumA ts).s (s.sumA ts).c d ts
noncomputable def sN3 (s : RS) (t v ts : Int) : RS := ((s.put t v).sum ts).sum t
noncomputable def dN3 (b : Bool) (d : DS) (t v ts : Int) : DS := ((d1N b d t v).sum ts).sum t
theorem wayRn (b e : Bool) (p : PRn) (s : RS) (d : DS) (now i N t v ts n : Int) (hN : nO now (xO p.o i) = N) (ht : tO N p.w0 (xO p.o i) = t) (hv : vO (xO p.o i) = v) (hs : sO N (xO p.o i) = ts) (hn : rO p.g0 (xO p.o i) = n) :
    T.path ([true, true, true, false, false, false, false] ++ ([true, false, true] ++ ([false, true, b, false] ++ ([true, false, true, true, false, true, false, true, false, true, false, e] ++ (bif e then [false, true, false, true, false, true, false] else []))))) (rdRn p (stN s d now i)) =
    some (hdN p i ++ (putC s t v ++ (putDC d t v b ++ (((0 : Int) != 0, false) :: (sumC (s.put t v) ts ++ (okDC (d1N b d t v) ts ++ ((cmN (s.put t v) (d1N b d t v) ts, false) :: (sumC ((s.put t v).sum ts) t ++ ((cmN (s.put t v) (d1N b d t v) ts, false) :: (okDC ((d1N b d t v).sum ts) t ++
      (((bif cmN (s.put t v) (d1N b d t v) ts then true else ((s.put t v).sum ts).mean t != mnV (smS (d1N b d t v) t) (smN (d1N b d t v) t)), false) :: ((bits .and .i64 (xO p.o i).1 31 == 31, e) :: reC e (sN3 s t v ts) (dN3 b d t v ts) n))))))))))),
      (.normal, FRn p (stN (bif e then (sN3 s t v ts).res n else sN3 s t v ts) (bif e then (dN3 b d t v ts).res n else dN3 b d t v ts) N (IntKind.wrap .i64 (i + 1))))) := by
  subst hN; subst ht; subst hv; subst hs; subst hn
  cases b <;> cases e
  · kernel_rfl
  · kernel_rfl
  · kernel_rfl
  · kernel_rfl
theorem wayRnx (p : PRn) (a : ARn) : T.path [false] (rdRn p a) = some ([(decide (a.i < (p.q : Int)), false)], (.exit 0, FRn p a)) := by kernel_rfl
theorem bits3 (x : Int) : 0 ≤ bits .and .i64 x 3 ∧ bits .and .i64 x 3 ≤ 3 := by
  have h : ((BitVec.ofInt 64 x &&& BitVec.ofInt 64 3 : BitVec 64)).toNat ≤ 3 := by
    rw [BitVec.toNat_and]
    exact Nat.and_le_right
  have e : bits .and .i64 x 3 = IntKind.wrap .i64 (((BitVec.ofInt 64 x &&& BitVec.ofInt 64 3 : BitVec 64)).toNat : Int) := rfl
  rw [e, wrap64_in (by omega) (by omega)]
  omega
def sOn (a : ARn) : RS := ⟨a.w, a.g, a.n, a.nw, a.ov, a.l⟩
def dOn (a : ARn) : DS := ⟨a.wd, a.gd, a.nd, a.nwd, a.ovd, a.ld⟩
structure okRn (p : PRn) (a : ARn) : Prop where
  n : p.q = p.o.length
  n1 : p.q ≤ 120
  w0 : 1 ≤ p.w0
  w1 : p.w0 ≤ 40
  g0 : 1 ≤ p.g0
  g1 : p.g0 ≤ p.w0
  i0 : 0 ≤ a.i
  i1 : a.i ≤ p.q
  t0 : 0 ≤ a.now
  t1 : a.now ≤ 4 * a.i
  gd : a.gd = p.g0
  b : BothR (sOn a) (dOn a) a.i.toNat
def goRn (p : PRn) (a : ARn) : Bool := decide (a.i < (p.q : Int))
def muRn (p : PRn) (a : ARn) : Nat := (p.q - a.i).toNat
theorem nO_bd {now : Int} (x : O4) (h0 : 0 ≤ now) (h1 : now ≤ 100000) : now ≤ nO now x ∧ nO now x ≤ now + 4 := by
  have h : 0 ≤ wI (Int.tmod (wU x.2.2.1) 5) ∧ wI (Int.tmod (wU x.2.2.1) 5) < 5 := modI x.2.2.1 (m := 5) (by omega) (by omega)
  unfold nO
  generalize wI (Int.tmod (wU x.2.2.1) 5) = z at h ⊢
  rw [show wI (now + z) = now + z from wrap64_in (by omega) (by omega)]; omega
theorem tO_bd {N w : Int} (x : O4) (h0 : 0 ≤ N) (h1 : N ≤ 100000) (w0 : 1 ≤ w) (w1 : w ≤ 40) : 0 ≤ tO N w x ∧ tO N w x ≤ N := by
  have e : wU (wI (2 * w)) = 2 * w := by
    rw [show wI (2 * w) = 2 * w from wrap64_in (by omega) (by omega)]; exact wrapu (by omega) (by omega)
  have h : 0 ≤ wI (Int.tmod (wU (Int.tdiv (wU x.2.2.1) 5)) (2 * w)) ∧ wI (Int.tmod (wU (Int.tdiv (wU x.2.2.1) 5)) (2 * w)) < 2 * w := modI (Int.tdiv (wU x.2.2.1) 5) (m := 2 * w) (by omega) (by omega)
  unfold tO
  rw [e]
  generalize wI (Int.tmod (wU (Int.tdiv (wU x.2.2.1) 5)) (2 * w)) = z at h ⊢
  rw [show wI (N - z) = N - z from wrap64_in (by omega) (by omega)]
  split <;> omega
theorem vO_bd (x : O4) : 0 ≤ vO x ∧ vO x < 1000000 := modI x.2.2.2 (by omega) (by omega)
theorem sO_bd {N : Int} (x : O4) (h0 : 0 ≤ N) (h1 : N ≤ 100000) : N ≤ sO N x ∧ sO N x ≤ N + 3 := by
  have h := bits3 x.1
  unfold sO
  generalize bits .and .i64 x.1 3 = z at h ⊢
  rw [show wI (N + z) = N + z from wrap64_in (by omega) (by omega)]; omega
theorem rO_bd {g : Int} (x : O4) (h0 : 1 ≤ g) (h1 : g ≤ 40) : g ≤ rO g x ∧ rO g x ≤ g + 59 := by
  have h : 0 ≤ wI (Int.tmod (wU x.2.1) 60) ∧ wI (Int.tmod (wU x.2.1) 60) < 60 := modI x.2.1 (m := 60) (by omega) (by omega)
  unfold rO
  generalize wI (Int.tmod (wU x.2.1) 60) = z at h ⊢
  rw [show wI (g + z) = g + z from wrap64_in (by omega) (by omega)]; omega
theorem stepRn (p : PRn) (a : ARn) (h : okRn p a) (hg : goRn p a = true) : ∃ b, stepC okRn rdRn FRn muRn p a b := by
  obtain ⟨hn, hn1, w0, w1, g0, g1, i0, i1, t0, t1, gd, hb⟩ := h
  have hi : a.i < (p.q : Int) := of_decide_eq_true hg
  have hw : IntKind.wrap .i64 (a.i + 1) = a.i + 1 := wrap64_in (by omega) (by omega)
  obtain ⟨r1, r2⟩ := idR_is (g := p.o) (k := p.q) (i := a.i) hn i0 hi
  have e2w : wU (wI (2 * p.w0)) = 2 * p.w0 := by
    rw [show wI (2 * p.w0) = 2 * p.w0 from wrap64_in (by omega) (by omega)]; exact wrapu (by omega) (by omega)
  have hH : allSay (hdN p a.i) := ⟨hg, r1, r2, rfl, rfl, by rw [e2w, beq_eq_false_iff_ne]; omega, by kernel_rfl, trivial⟩
  have hm : a.i.toNat < 10000 := by omega
  obtain ⟨N0, N1⟩ := nO_bd (now := a.now) (xO p.o a.i) t0 (by omega)
  have way := fun b e => wayRn b e p (sOn a) (dOn a) a.now a.i _ _ _ _ _ rfl rfl rfl rfl rfl
  revert way N0 N1
  generalize nO a.now (xO p.o a.i) = N
  intro N0 N1 way
  obtain ⟨T0, T1⟩ := tO_bd (N := N) (w := p.w0) (xO p.o a.i) (by omega) (by omega) w0 w1
  obtain ⟨V0, V1⟩ := vO_bd (xO p.o a.i)
  obtain ⟨S0, S1⟩ := sO_bd (N := N) (xO p.o a.i) (by omega) (by omega)
  obtain ⟨R0, R1⟩ := rO_bd (g := p.g0) (xO p.o a.i) g0 (by omega)
  revert way T0 T1 V0 V1 S0 S1 R0 R1
  generalize tO N p.w0 (xO p.o a.i) = t
  generalize vO (xO p.o a.i) = v
  generalize sO N (xO p.o a.i) = ts
  generalize rO p.g0 (xO p.o a.i) = n
  generalize (bits .and .i64 (xO p.o a.i).1 31 == 31) = c
  intro way T0 T1 V0 V1 S0 S1 R0 R1
  obtain ⟨c1, q⟩ := hb.put hm (t := t) (v := v) T0 (by omega) V0 (by omega)
  have q : ∃ b, allSay (putDC (dOn a) t v b) ∧ BothR ((sOn a).put t v) (d1N b (dOn a) t v) (a.i.toNat + 1) ∧ (d1N b (dOn a) t v).g = (dOn a).g := by
    rcases q with ⟨_, c2, b⟩ | ⟨_, c2, b⟩
    · exact ⟨true, c2, b.mono, rfl⟩
    · exact ⟨false, c2, b, rfl⟩
  obtain ⟨b, c2, b1, eg⟩ := q
  obtain ⟨c3, c4, s1, s2, b2⟩ := b1.sum (t := ts) (by omega) (by omega)
  obtain ⟨c5, c6, s3, s4, b3⟩ := b2.sum (t := t) T0 (by omega)
  have cm : cmN ((sOn a).put t v) (d1N b (dOn a) t v) ts = false := cmS_eq s1 s2
  have cp : (bif cmN ((sOn a).put t v) (d1N b (dOn a) t v) ts then true else (((sOn a).put t v).sum ts).mean t != mnV (smS (d1N b (dOn a) t v) t) (smN (d1N b (dOn a) t v) t)) = false := by
    rw [cm]; unfold RS.mean; rw [s3, s4]; exact neZ _
  have g3 : (dN3 b (dOn a) t v ts).g = p.g0 := eg.trans gd
  have fin : ∀ s d, BothR s d (a.i.toNat + 1) → d.g = p.g0 → okRn p (stN s d N (IntKind.wrap .i64 (a.i + 1))) ∧ muRn p (stN s d N (IntKind.wrap .i64 (a.i + 1))) < muRn p a := by
    intro s d b hd
    have e : (stN s d N (IntKind.wrap .i64 (a.i + 1))).i = a.i + 1 := hw
    refine ⟨⟨hn, hn1, w0, w1, g0, g1, by rw [e]; omega, by rw [e]; omega, by show 0 ≤ N; omega, by rw [e]; show N ≤ _; omega, hd, ?_⟩, ?_⟩
    · show BothR s d (IntKind.wrap .i64 (a.i + 1)).toNat
      rw [hw, show (a.i + 1).toNat = a.i.toNat + 1 by omega]; exact b
    · show (p.q - IntKind.wrap .i64 (a.i + 1)).toNat < (p.q - a.i).toNat
      rw [hw]; omega
  have e00 : ((0 : Int) != 0) = false := rfl
  cases hc : c with
  | false =>
    obtain ⟨k1, k2⟩ := fin _ _ b3 g3
    exact ⟨_, T.path_eval (way b false) (allSay_append hH (allSay_append c1 (allSay_append c2 ⟨e00, allSay_append c3 (allSay_append c4 ⟨cm, allSay_append c5 ⟨cm, allSay_append c6 ⟨cp, hc, trivial⟩⟩⟩)⟩))), k1, k2⟩
  | true =>
    obtain ⟨c7, c8, b4⟩ := b3.res (x := n) (by omega) (by show (dN3 b (dOn a) t v ts).g ≤ n; rw [g3]; omega) (by omega)
    obtain ⟨k1, k2⟩ := fin _ _ b4 g3
    exact ⟨_, T.path_eval (way b true) (allSay_append hH (allSay_append c1 (allSay_append c2 ⟨e00, allSay_append c3 (allSay_append c4 ⟨cm, allSay_append c5 ⟨cm, allSay_append c6 ⟨cp, hc, by kernel_rfl, allSay_append c7 ⟨badX_false.2 ⟨by show (dN3 b (dOn a) t v ts).g ≤ n; rw [g3]; omega, by omega⟩, pB_is c8, e00, trivial⟩⟩⟩⟩)⟩))), k1, k2⟩
theorem exRn (p : PRn) (a : ARn) (h : okRn p a) (hg : goRn p a = false) : (rdRn p a).eval = some (.exit 0, FRn p a) := T.path_eval (wayRnx p a) ⟨hg, trivial⟩
noncomputable def famRn : LSpec := famC [2,7,8,9,10,11,12] SRn 2000 2002 148 decRn okRn goRn rdRn FRn muRn (.exit 0)
theorem lpRn_ok : LoopOk RQ lpRn famRn := famC_ok (vs := vsRn) (bs := bsRn) RQ_ok mixed (noLoops_ok _) decRn_ok (by simp) (fun _ _ => rfl) (fun _ _ => rfl) stepRn exRn
noncomputable def nearR (a b : Int) (l : List (Int × Int × Int × Int)) : T V := execS RQ (byReg [(rgRn, famRn)]) 11 [iv a, iv b, .orow 72 [.int .i64, .int .i64, .int .i64, .int .i64] l]
def pN (l : List O4) (w g : Int) : PRn := ⟨l.length, l, w, g⟩
def aN (w g : Int) : ARn := stN (RS.new w g) ⟨w, g, 0, -1, false, []⟩ 0 0
theorem wayNr1 (a b : Int) (l : List O4) (w g : Int) (hw : wI (1 + wI (Int.tmod (wU a) 40)) = w) (hg : wI (1 + wI (Int.tmod (wU b) (wU w))) = g) : T.path [false, false, false, false, true] (T.anon (nearR a b l)) =
    some ([((40 : Int) == 0, false), (wU w == 0, false), (badN w g, false), (badN w g, false), (decide (120 < (l.length : Int)), true)], .tt) := by subst hw; subst hg; kernel_rfl
theorem wayNr2 (a b : Int) (l : List O4) (w g : Int) (hw : wI (1 + wI (Int.tmod (wU a) 40)) = w) (hg : wI (1 + wI (Int.tmod (wU b) (wU w))) = g) : T.path [false, false, false, false, false, true] (T.anon (nearR a b l)) =
    some ([((40 : Int) == 0, false), (wU w == 0, false), (badN w g, false), (badN w g, false), (decide (120 < (l.length : Int)), false), (invC okRn (pN l w g) (aN w g), true)], .tt) := by subst hw; subst hg; kernel_rfl
theorem near_run (a b : Int) (l : List O4) : (nearR a b l).eval = some .tt := by
  rw [← T.eval_anon (t := nearR a b l)]
  have hA : 0 ≤ wI (Int.tmod (wU a) 40) ∧ wI (Int.tmod (wU a) 40) < 40 := modI a (by omega) (by omega)
  have w1 := wayNr1 a b l _ _ rfl rfl
  have w2 := wayNr2 a b l _ _ rfl rfl
  have e1 : wI (1 + wI (Int.tmod (wU a) 40)) = 1 + wI (Int.tmod (wU a) 40) := wrap64_in (by omega) (by omega)
  rw [e1] at w1 w2
  revert hA w1 w2
  generalize wI (Int.tmod (wU a) 40) = z
  intro hA w1 w2
  have hw : 1 ≤ 1 + z ∧ 1 + z ≤ 40 := by omega
  revert hw w1 w2
  generalize 1 + z = w
  intro w1 w2 hw
  have ew : wU w = w := wrapu (by omega) (by omega)
  rw [ew] at w1 w2
  have hB : 0 ≤ wI (Int.tmod (wU b) w) ∧ wI (Int.tmod (wU b) w) < w := modI b (by omega) (by omega)
  have e2 : wI (1 + wI (Int.tmod (wU b) w)) = 1 + wI (Int.tmod (wU b) w) := wrap64_in (by omega) (by omega)
  rw [e2] at w1 w2
  revert hB w1 w2
  generalize wI (Int.tmod (wU b) w) = y
  intro w1 w2 hB
  have bn : badN w (1 + y) = false := badN_false.2 ⟨by omega, by omega, by omega⟩
  have z0 : (w == 0) = false := by rw [beq_eq_false_iff_ne]; omega
  by_cases hl : 120 < (l.length : Int)
  · exact T.path_eval w1 ⟨by kernel_rfl, z0, bn, bn, decide_eq_true hl, trivial⟩
  · have o : okRn (pN l w (1 + y)) (aN w (1 + y)) := ⟨rfl, by show l.length ≤ 120; omega, hw.1, hw.2, by show 1 ≤ 1 + y; omega, by show 1 + y ≤ w; omega, Int.le_refl 0, by show (0 : Int) ≤ (l.length : Int); omega, Int.le_refl 0, Int.le_refl 0, rfl, BothR.new (w := w) (g := 1 + y) (by omega) (by omega) (by omega)⟩
    exact T.path_eval w2 ⟨by kernel_rfl, z0, bn, bn, decide_eq_false hl, invC_is o, trivial⟩
theorem near_walk (a : Int) (_ : (Lit.int .i64 a).wf = true) (b : Int) (_ : (Lit.int .i64 b).wf = true) (l : List (Int × Int × Int × Int)) (_ : l.length ≤ maxLen) (hwf : ∀ x ∈ l, (Lit.int .i64 x.1).wf = true ∧ (Lit.int .i64 x.2.1).wf = true ∧ (Lit.int .i64 x.2.2.1).wf = true ∧ (Lit.int .i64 x.2.2.2).wf = true) (x : Value) (w : World) (hx : holdsP 0 w (.orow 72 [.int .i64, .int .i64, .int .i64, .int .i64] l) x) :
    Calls Try.prog 11 #[.int .i64 a, .int .i64 b, x] w fun e w' => e = .returned (.bool true) ∧ Below w.heap.size w w' :=
  Law.law_rows (args := [iv a, iv b, .orow 72 [.int .i64, .int .i64, .int .i64, .int .i64] l]) (xs := [.int .i64 a, .int .i64 b, x]) (execS_loops (Λ := byReg [(rgRn, famRn)]) RQ_ok mixed Try.func11 (by kernel_rfl) (by kernel_rfl) (one_lp (by kernel_rfl) rgRn_is lpRn_ok)) rfl (.inl (near_run a b l)) w ⟨rfl, rfl, hx, trivial⟩
end Go.Proofs.Ytheknddbbgjpkaa.Rin
