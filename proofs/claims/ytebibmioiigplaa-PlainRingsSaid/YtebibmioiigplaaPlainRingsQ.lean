import Derived.Test.YtebibmioiigplaaGI
/- Layer 6: PlainAsks. -/
namespace Go.Proofs.Ytebibmioiigplaa.Pla
open Go.Eng Go.RowKit Mil Rin
set_option linter.unusedVariables false
set_option linter.unusedSimpArgs false
def aB (a b : Bool) : Bool := bif a then b else false
def lsA (l : List TV) : List (Bool × Bool) := [(decide (0 + l.length ≤ l.length), true), (decide ((tkA l).length ≤ 100000), true)]
def tlA (l : List TV) (c : Bool) : List (Bool × Bool) := (c, true) :: (lsA l ++ (lsA l ++ ((aB c (newV (tkA l) == newV (tkA l)), true) :: (lsA l ++ lsA l))))
def endA (l : List TV) (v : Int) (c : Bool) : V := bv (aB (aB c (newV (tkA l) == newV (tkA l))) (styB v (tkA l) == styB v (tkA l)))
noncomputable def sA (l : List TV) (w g t : Int) : Int := Mil.cutV (sv (plV w g t (tkA l)))
noncomputable def nA (l : List TV) (w g t : Int) : Int := ((plV w g t (tkA l)).length : Int)
noncomputable def eqA (l : List TV) (w g t : Int) : Bool := aB (sA l w g t == sA l w g t) (nA l w g t == nA l w g t)
def bdA (l : List TV) : List (Bool × Bool) := [(decide (60 < (l.length : Int)), false), (decide (0 + l.length ≤ l.length), true)]
noncomputable def bcA (l : List TV) (w g t : Int) : List (Bool × Bool) := bdA l ++ [(badS w g t, false), (pB (okL (tkA l) t), true), (decide (0 + l.length ≤ l.length), true), (badS w g t, false), (pB (okL (tkA l) t ∧ (tkA l).length < 100000), true)]
theorem wayA0 (l : List TV) (w g t v : Int) : T.path [true] (T.anon (askR l w g t v)) = some ([(decide (60 < (l.length : Int)), true)], .tt) := by kernel_rfl
theorem wayA1 (l : List TV) (w g t v : Int) : T.path [false, true, true, true, true, true, false, true, true, true, true, true, true, true, true, true, true, true, true, true] (T.anon (askR l w g t v)) =
    some (bdA l ++ ([(badS w g t, true), (decide (0 + l.length ≤ l.length), true), (badS w g t, true), (pB (okL (tkA l) t ∧ (tkA l).length < 100000), true), (decide ((0 : Int) < 0), false), (aB ((0 : Int) == 0) ((0 : Int) == 0), true), (decide (0 + l.length ≤ l.length), true), (badS w g t, true)] ++ tlA l (aB (aB ((0 : Int) == 0) ((0 : Int) == 0)) ((0 : Int) == 0))), endA l v (aB (aB ((0 : Int) == 0) ((0 : Int) == 0)) ((0 : Int) == 0))) := by kernel_rfl
theorem wayA2 (l : List TV) (w g t v : Int) : T.path [false, true, false, true, true, false, true, false, true, true, false, true, true, true, true, true, true, true, true, true, true, true] (T.anon (askR l w g t v)) =
    some (bcA l w g t ++ ([(decide (0 < nA l w g t), false), (eqA l w g t, true), (decide (0 + l.length ≤ l.length), true), (badS w g t, false), (pB (okL (tkA l) t), true)] ++ tlA l (aB (eqA l w g t) (mnV (sA l w g t) (nA l w g t) == 0))), endA l v (aB (eqA l w g t) (mnV (sA l w g t) (nA l w g t) == 0))) := by kernel_rfl
theorem wayA3 (l : List TV) (w g t v : Int) : T.path [false, true, false, true, true, false, true, true, false, true, true, false, true, true, true, true, true, true, true, true, true, true, true] (T.anon (askR l w g t v)) =
    some (bcA l w g t ++ ([(decide (0 < nA l w g t), true), (nA l w g t == 0, false), (eqA l w g t, true), (decide (0 + l.length ≤ l.length), true), (badS w g t, false), (pB (okL (tkA l) t), true)] ++ tlA l (aB (eqA l w g t) (mnV (sA l w g t) (nA l w g t) == wI (Int.tdiv (sA l w g t) (nA l w g t))))), endA l v (aB (eqA l w g t) (mnV (sA l w g t) (nA l w g t) == wI (Int.tdiv (sA l w g t) (nA l w g t))))) := by kernel_rfl
theorem beqB (b : Bool) : (b == b) = true := by cases b <;> rfl
theorem ask_run (l : List TV) (hv : ∀ x ∈ l, (Lit.int .i64 x.1).wf = true ∧ (Lit.int .i64 x.2).wf = true) (w g t : Int) (ht : (Lit.int .i64 t).wf = true) (v : Int) : (askR l w g t v).eval = some .tt ∨ (askR l w g t v).eval = some (.s (.bool true)) := by
  rw [← T.eval_anon (t := askR l w g t v)]
  by_cases h60 : 60 < (l.length : Int)
  · exact .inl (T.path_eval (wayA0 l w g t v) ⟨decide_eq_true h60, trivial⟩)
  · refine .inr ?_
    have ol : okL l t := ⟨by omega, (wf64 ht).2, fun x hx => (wf64 (hv x hx).2).2⟩
    have d1 : decide (60 < (l.length : Int)) = false := decide_eq_false h60
    have d2 : decide (0 + l.length ≤ l.length) = true := decide_eq_true (by omega)
    have d3 : decide ((tkA l).length ≤ 100000) = true := by rw [tkA_is]; exact decide_eq_true ol.1
    have p1 : pB (okL (tkA l) t) = true := by rw [tkA_is]; exact pB_is ol
    have p2 : pB (okL (tkA l) t ∧ (tkA l).length < 100000) = true := by rw [tkA_is]; exact pB_is ⟨ol, by omega⟩
    have ls : allSay (lsA l) := ⟨d2, d3, trivial⟩
    have nn : (newV (tkA l) == newV (tkA l)) = true := beqI _
    have tl : ∀ c, c = true → allSay (tlA l c) := fun c hc => ⟨hc, allSay_append ls (allSay_append ls ⟨by rw [hc, nn]; rfl, allSay_append ls ls⟩)⟩
    have en : ∀ c, c = true → endA l v c = .s (.bool true) := fun c hc => by unfold endA; rw [hc, nn, beqB]; rfl
    cases hb : badS w g t with
    | true =>
      have hc : aB (aB ((0 : Int) == 0) ((0 : Int) == 0)) ((0 : Int) == 0) = true := rfl
      exact (T.path_eval (wayA1 l w g t v) (allSay_append ⟨d1, d2, trivial⟩ (allSay_append ⟨hb, d2, hb, p2, rfl, rfl, d2, hb, trivial⟩ (tl _ hc)))).trans (congrArg some (en _ hc))
    | false =>
      have eq : eqA l w g t = true := by unfold eqA; rw [beqI, beqI]; rfl
      have bc : allSay (bcA l w g t) := allSay_append ⟨d1, d2, trivial⟩ ⟨hb, p1, d2, hb, p2, trivial⟩
      cases hn : decide (0 < nA l w g t) with
      | false =>
        have hz : (nA l w g t == 0) = true := by
          have := of_decide_eq_false hn
          unfold nA at this ⊢
          rw [beq_iff_eq]; omega
        have hc : aB (eqA l w g t) (mnV (sA l w g t) (nA l w g t) == 0) = true := by unfold mnV; rw [eq, hz]; rfl
        exact (T.path_eval (wayA2 l w g t v) (allSay_append bc (allSay_append ⟨hn, eq, d2, hb, p1, trivial⟩ (tl _ hc)))).trans (congrArg some (en _ hc))
      | true =>
        have hz : (nA l w g t == 0) = false := by
          have := of_decide_eq_true hn
          rw [beq_eq_false_iff_ne]; omega
        have hc : aB (eqA l w g t) (mnV (sA l w g t) (nA l w g t) == wI (Int.tdiv (sA l w g t) (nA l w g t))) = true := by
          unfold mnV; rw [eq, hz]; exact beqI _
        exact (T.path_eval (wayA3 l w g t v) (allSay_append bc (allSay_append ⟨hn, hz, eq, d2, hb, p1, trivial⟩ (tl _ hc)))).trans (congrArg some (en _ hc))
theorem ask_walk (l : List TV) (_ : l.length ≤ maxLen) (hv : ∀ x ∈ l, (Lit.int .i64 x.1).wf = true ∧ (Lit.int .i64 x.2).wf = true) (x : Value) (w : Int) (_ : (Lit.int .i64 w).wf = true) (g : Int) (_ : (Lit.int .i64 g).wf = true) (t : Int) (ht : (Lit.int .i64 t).wf = true) (v : Int) (_ : (Lit.int .i64 v).wf = true) (W : World) (hx : holdsP 0 W (.orow 35 [.int .i64, .int .i64] l) x) :
    Calls Try.prog 3 #[x, .int .i64 w, .int .i64 g, .int .i64 t, .int .i64 v] W fun e w' => e = .returned (.bool true) ∧ Below W.heap.size W w' :=
  Law.law_rows (args := [.orow 35 KR2 l, Eng.iv w, Eng.iv g, Eng.iv t, Eng.iv v]) (xs := [x, .int .i64 w, .int .i64 g, .int .i64 t, .int .i64 v]) (execS_plain P9_ok mixed Try.func3 (by kernel_rfl) (by kernel_rfl)) rfl (ask_run l hv w g t ht v) W ⟨hx, rfl, rfl, rfl, rfl, trivial⟩
end Go.Proofs.Ytebibmioiigplaa.Pla

/- Layer 6: PlainRings: its loop. -/
namespace Go.Proofs.Ytebibmioiigplaa.Pla
open Go.Eng Go.RowKit Mil Rin
set_option linter.unusedVariables false
set_option linter.unusedSimpArgs false
noncomputable def PR : Cfg := ⟨Try.prog, lookG [(30, .obj newS), (31, .obj putS), (32, .obj sumS), (33, .obj meanS), (23, .val sumC6), (25, .val meaC6), (22, .val yesR)], EB, 0⟩
theorem PR_ok : PR.Ok := Cfg.ok ⟨newS_ok, putS_ok, sumS_ok, meanS_ok, sumC6_ok, meaC6_ok, told6_ok, trivial⟩ EB_ok
noncomputable def lpPr : Code := loopAt Try.prog 4 0
structure PPr where (k : Nat) (o : List (Int × Int)) (nr : Int) (w0 : Int) (g0 : Int)
structure APr where (w : Int) (g : Int) (n : Nat) (nw : Int) (ov : Bool) (l : List OB) (i : Int)
abbrev SPr : List (Nat × Src) := [(0, .same), (9, .same), (2000, .cell 9 2)]
def vsPr (p : PPr) (a : APr) : List V := [.sub 0 2 0 p.k, iv p.nr, iv p.w0, iv p.g0, .ptr 9 0, iv a.i]
def bsPr (p : PPr) (a : APr) : List Blk := [.lst false 35 [.int .i64, .int .i64] p.o, .cells 123 [iv a.w, iv a.g, .sub 2000 1 0 a.n, iv a.nw, bv a.ov], .bx 20 126 130 [.int .i64, .int .i64, .bool] a.l [] none]
noncomputable def FPr (p : PPr) (a : APr) : St := mkSt [0,3,9,10,11,12] (keysR SPr) 2001 127 (vsPr p a) (bsPr p a)
noncomputable def rdPr (p : PPr) (a : APr) : T (Ex × St) := T.anon (roundN PR noLoops lpPr [0,3,9,10,11,12] SPr 2000 2001 (mkSt [0,3,9,10,11,12] (keysR SPr) 2001 127 (vsPr p a) (bsPr p a)))
def decPr : List V → List Blk → Option (PPr × APr)
  | [.sub 0 2 0 k, .s (.int .i64 nr), .s (.int .i64 w0), .s (.int .i64 g0), .ptr 9 0, .s (.int .i64 i)], [.lst false tt0 [.int .i64, .int .i64] o, .cells tt1 [.s (.int .i64 w), .s (.int .i64 g), .sub 2000 1 0 n, .s (.int .i64 nw), .s (.bool ov)], .bx tt2 tt3 tt4 [.int .i64, .int .i64, .bool] l [] none] =>
    if tt0 = 35 then if tt1 = 123 then if tt2 = 20 then if tt3 = 126 then if tt4 = 130 then some (⟨k, o, nr, w0, g0⟩, ⟨w, g, n, nw, ov, l, i⟩) else none else none else none else none else none
  | _, _ => none
theorem decPr_ok (l : List V) (b : List Blk) (d : PPr × APr) (h : decPr l b = some d) : l = vsPr d.1 d.2 ∧ b = bsPr d.1 d.2 := by
  unfold decPr at h
  split at h
  · obtain ⟨e0, h⟩ := ite_some0 h
    obtain ⟨e1, h⟩ := ite_some0 h
    obtain ⟨e2, h⟩ := ite_some0 h
    obtain ⟨e3, h⟩ := ite_some0 h
    obtain ⟨e4, h⟩ := ite_some0 h
    subst e0 e1 e2 e3 e4
    cases h
    exact ⟨rfl, rfl⟩
  · cases h
noncomputable def rgPr : Nat := (firstReg lpPr).getD 0
theorem rgPr_is : firstReg lpPr = some rgPr := by kernel_rfl
end Go.Proofs.Ytebibmioiigplaa.Pla

/- Layer 6: PlainRings. -/
namespace Go.Proofs.Ytebibmioiigplaa.Pla
open Go.Eng Go.RowKit Mil Rin
set_option linter.unusedVariables false
set_option linter.unusedSimpArgs false
def stPr (s : RS) (i : Int) : APr := ⟨s.w, s.g, s.n, s.nw, s.ov, s.l, i⟩
noncomputable def pbS (b : Bool) (s : RS) (x : TV) : RS := bif b then s else s.put x.1 x.2
noncomputable def pbC (b : Bool) (s : RS) (x : TV) : List (Bool × Bool) := bif b then [(decide (0 < s.n), true), (badA x.1 x.2, true)] else Rin.putC s x.1 x.2
def tPr (e : Bool) (nr : Int) (x : TV) : Int := bif e then x.1 else wI (wI (x.1 + wI (Int.tmod (wU nr) 7)) - 3)
def i2 (p : PPr) (i : Int) : List (Bool × Bool) := [(idR p.o p.k i, true), (ldR p.o i, true)]
def eB (x : TV) : Bool := bif decide (1099511627776 < x.1) then true else decide (x.1 < -1099511627776)
def gI2 (p : PPr) (i : Int) (x : TV) : List (Bool × Bool) := [(bif (decide (1099511627776 < x.1)) == false && true then idR p.o p.k i else true, true), (bif (decide (1099511627776 < x.1)) == false && true then ldR p.o i else true, true)]
noncomputable def smC (z : Bool) (s : RS) (t : Int) : List (Bool × Bool) := bif z then [(decide (0 < s.n), true), (decide (t < 0), true)] else sumC s t
noncomputable def smR (z : Bool) (s : RS) (t : Int) : RS := bif z then s else s.sum t
def frP (p : PPr) (i : Int) : List TV := List.take (Int.toNat (wI (i + 1)) - Int.toNat 0) (List.drop (Int.toNat 0) p.o)
def sl1 (p : PPr) (i : Int) : Bool := decide ((0 : Int) ≤ 0) && (decide (0 ≤ wI (i + 1)) && (decide (wI (i + 1) ≤ (p.k : Int)) && decide (p.k ≤ p.o.length)))
def sl2 (p : PPr) (i : Int) : Bool := decide (Int.toNat 0 + (Int.toNat (wI (i + 1)) - Int.toNat 0) ≤ p.o.length)
noncomputable def plC (z : Bool) (p : PPr) (i t : Int) : List (Bool × Bool) := bif z then [(badS p.w0 p.g0 t, true)] else [(badS p.w0 p.g0 t, false), (pB (okL (frP p i) t), true)]
noncomputable def sR (z : Bool) (s : RS) (t : Int) : Int := bif z then 0 else (s.sumA t).s
noncomputable def nR (z : Bool) (s : RS) (t : Int) : Int := bif z then 0 else (s.sumA t).c
noncomputable def mR (z : Bool) (s : RS) (t : Int) : Int := bif z then 0 else s.mean t
noncomputable def sP (z : Bool) (p : PPr) (i t : Int) : Int := bif z then 0 else Mil.cutV (sv (plV p.w0 p.g0 t (frP p i)))
noncomputable def nP (z : Bool) (p : PPr) (i t : Int) : Int := bif z then 0 else ((plV p.w0 p.g0 t (frP p i)).length : Int)
noncomputable def mP (z : Bool) (p : PPr) (i t : Int) : Int := bif z then 0 else mnV (Mil.cutV (sv (plV p.w0 p.g0 t (frP p i)))) ((plV p.w0 p.g0 t (frP p i)).length : Int)
noncomputable def cmP (z : Bool) (p : PPr) (s : RS) (i t : Int) : Bool := bif sR z s t != sP z p i t then true else nR z s t != nP z p i t
def w2 (z : Bool) : List Bool := bif z then [true, true] else [true, false, true]
def w3 (z : Bool) : List Bool := bif z then [true] else [false, true]
theorem wayPr (b e z : Bool) (p : PPr) (s : RS) (i : Int) (x : TV) (t : Int) (hx : xF p.o i = x) (ht : tPr e p.nr x = t) :
    T.path ([true, true, true, true, true] ++ (w2 b ++ ([true, true, false, true, true, true, true, e] ++ ((bif e then [true, true] else []) ++ (w2 z ++ ([true, true] ++ (w3 z ++ ([false] ++ (w2 z ++ ([true, false, true] ++ (w3 z ++ [false]))))))))))) (rdPr p (stPr s i)) =
    some ([(decide (i < (p.k : Int)), true)] ++ (i2 p i ++ (i2 p i ++ (pbC b s x ++ (i2 p i ++ ([((7 : Int) == 0, false)] ++ (i2 p i ++ (gI2 p i x ++ ([(eB x, e)] ++ ((bif e then i2 p i else []) ++ (smC z (pbS b s x) t ++ ([(sl1 p i, true), (sl2 p i, true)] ++ (plC z p i t ++ ([(cmP z p (pbS b s x) i t, false)] ++ (smC z (smR z (pbS b s x) t) t ++ ([(bif (cmP z p (pbS b s x) i t) == false && true then sl1 p i else true, true), (cmP z p (pbS b s x) i t, false), (sl2 p i, true)] ++ (plC z p i t ++ ([((bif cmP z p (pbS b s x) i t then true else mR z (smR z (pbS b s x) t) t != mP z p i t), false)]))))))))))))))))),
     (.normal, FPr p (stPr (smR z (smR z (pbS b s x) t) t) (wI (i + 1))))) := by
  subst hx; subst ht
  cases b <;> cases e <;> cases z
  · kernel_rfl
  · kernel_rfl
  · kernel_rfl
  · kernel_rfl
  · kernel_rfl
  · kernel_rfl
  · kernel_rfl
  · kernel_rfl
theorem wayPrx (p : PPr) (a : APr) : T.path [false] (rdPr p a) = some ([(decide (a.i < (p.k : Int)), false)], (.exit 0, FPr p a)) := by kernel_rfl
end Go.Proofs.Ytebibmioiigplaa.Pla

/- Layer 6: PlainRings: its rounds, the law. -/
namespace Go.Proofs.Ytebibmioiigplaa.Pla
open Go.Eng Go.RowKit Mil Rin
set_option linter.unusedVariables false
set_option linter.unusedSimpArgs false
def sPr (a : APr) : RS := ⟨a.w, a.g, a.n, a.nw, a.ov, a.l⟩
structure okPr (p : PPr) (a : APr) : Prop where
  k : p.k = p.o.length
  k1 : p.k ≤ 60
  wf : ∀ x ∈ p.o, (Lit.int .i64 x.1).wf = true ∧ (Lit.int .i64 x.2).wf = true
  g1 : 1 ≤ p.g0
  g2 : p.g0 ≤ p.w0
  w1 : p.w0 ≤ 40
  i0 : 0 ≤ a.i
  i1 : a.i ≤ p.k
  b : ∃ d, BothR (sPr a) d a.i.toNat ∧ DocR p.w0 p.g0 (p.o.take a.i.toNat) d
def goPr (p : PPr) (a : APr) : Bool := decide (a.i < (p.k : Int))
def muPr (p : PPr) (a : APr) : Nat := (p.k - a.i).toNat
theorem wrapMost (n : Int) : wI n ≤ 9223372036854775807 := by
  show IntKind.wrap .i64 n ≤ 9223372036854775807
  unfold IntKind.wrap
  simp [IntKind.signed, IntKind.bits]
  split <;> omega
theorem eB_bad {x : TV} (h : eB x = true) : badA x.1 x.2 = true := by
  unfold eB at h
  cases hb : badA x.1 x.2 with
  | true => rfl
  | false =>
    obtain ⟨t0, t1, v0⟩ := badA_false.1 hb
    rw [decide_eq_false (by omega), decide_eq_false (by omega)] at h; cases h
theorem stepPr (p : PPr) (a : APr) (h : okPr p a) (hg : goPr p a = true) : ∃ b, stepC okPr rdPr FPr muPr p a b := by
  obtain ⟨hk, k1, wf, g1, g2, w1, i0, i1, d, hb, hd⟩ := h
  have hi : a.i < (p.k : Int) := of_decide_eq_true hg
  have hw : wI (a.i + 1) = a.i + 1 := wrap64_in (by omega) (by omega)
  obtain ⟨x1, x2⟩ := idR_is (g := p.o) (k := p.k) (i := a.i) hk i0 hi
  have hlt : a.i.toNat < p.o.length := by omega
  have hx := xF_at i0 hlt
  have tk := take_next i0 hlt
  obtain ⟨f1, f2⟩ := wf _ (List.getElem_mem hlt)
  have n0 : decide (0 < (sPr a).n) = true := decide_eq_true hb.h.rep.n0
  have I2 : allSay (i2 p a.i) := ⟨x1, x2, trivial⟩
  have fr : frP p a.i = p.o.take (a.i + 1).toNat := by
    unfold frP
    rw [hw, show Int.toNat 0 = 0 from rfl, List.drop_zero, Nat.sub_zero]
  have S1 : sl1 p a.i = true := by
    unfold sl1
    rw [hw, decide_eq_true (show (0 : Int) ≤ 0 by omega), decide_eq_true (show 0 ≤ a.i + 1 by omega), decide_eq_true (show a.i + 1 ≤ (p.k : Int) by omega), decide_eq_true (show p.k ≤ p.o.length by omega)]; rfl
  have S2 : sl2 p a.i = true := by
    unfold sl2
    rw [hw, show Int.toNat 0 = 0 from rfl]; exact decide_eq_true (by omega)
  have way := fun b z => wayPr b (eB (xF p.o a.i)) z p (sPr a) a.i _ _ rfl rfl
  rw [hx] at way
  generalize p.o[a.i.toNat] = x at *
  -- the put
  have put : ∃ b d1, allSay (pbC b (sPr a) x) ∧ BothR (pbS b (sPr a) x) d1 (a.i.toNat + 1) ∧ DocR p.w0 p.g0 (p.o.take (a.i + 1).toNat) d1 := by
    cases hbad : badA x.1 x.2 with
    | true => exact ⟨true, d, ⟨n0, hbad, trivial⟩, hb.mono, by rw [tk]; exact hd.bad hbad⟩
    | false =>
      obtain ⟨t0, t1, v0⟩ := badA_false.1 hbad
      obtain ⟨c1, q⟩ := hb.put (by omega) t0 t1 v0 (wf64 f2).2
      rcases q with ⟨hq, _, b⟩ | ⟨_, _, b⟩
      · refine ⟨false, d, c1, b.mono, ?_⟩
        have hq := of_decide_eq_true hq
        rw [hd.fg, hd.fw] at hq
        rw [tk]; exact hd.late g1 hbad hq (nN_pos g1 g2 (by omega))
      · exact ⟨false, d.put x.1 x.2, c1, b, by rw [tk]; exact hd.put g1 hb.n hbad⟩
  obtain ⟨b, d1, c1, hb1, hd1⟩ := put
  have fin : ∀ s d', BothR s d' (a.i.toNat + 1) → DocR p.w0 p.g0 (p.o.take (a.i + 1).toNat) d' → okPr p (stPr s (wI (a.i + 1))) ∧ muPr p (stPr s (wI (a.i + 1))) < muPr p a := by
    intro s d' h1 h2
    have e : (stPr s (wI (a.i + 1))).i = a.i + 1 := hw
    refine ⟨⟨hk, k1, wf, g1, g2, w1, by rw [e]; omega, by rw [e]; omega, d', ?_, ?_⟩, ?_⟩
    · show BothR s d' (wI (a.i + 1)).toNat
      rw [hw, show (a.i + 1).toNat = a.i.toNat + 1 by omega]; exact h1
    · show DocR p.w0 p.g0 (p.o.take (wI (a.i + 1)).toNat) d'
      rw [hw]; exact h2
    · show (p.k - wI (a.i + 1)).toNat < (p.k - a.i).toNat; rw [hw]; omega
  have t1 : tPr (eB x) p.nr x ≤ 9223372036854775807 := by
    unfold tPr
    cases eB x with
    | true => exact (wf64 f1).2
    | false => exact wrapMost _
  have bN : badN p.w0 p.g0 = false := badN_false.2 ⟨g1, g2, by omega⟩
  have G2 : allSay (gI2 p a.i x) := ⟨by rw [x1]; cases decide (1099511627776 < x.1) <;> rfl, by rw [x2]; cases decide (1099511627776 < x.1) <;> rfl, trivial⟩
  have E2 : allSay (bif eB x then i2 p a.i else []) := by cases eB x with
    | true => exact I2
    | false => trivial
  have oL : pB (okL (frP p a.i) (tPr (eB x) p.nr x)) = true := pB_is ⟨by rw [fr, List.length_take]; omega, t1, fun y hy => by rw [fr] at hy; exact (wf64 (wf y (List.mem_of_mem_take hy)).2).2⟩
  revert way t1 oL
  generalize tPr (eB x) p.nr x = t
  intro way t1 oL
  have n1 : decide (0 < (pbS b (sPr a) x).n) = true := decide_eq_true hb1.h.rep.n0
  have go : ∀ z s', allSay (smC z (pbS b (sPr a) x) t) → allSay (plC z p a.i t) → cmP z p (pbS b (sPr a) x) a.i t = false → allSay (smC z (smR z (pbS b (sPr a) x) t) t) → (mR z (smR z (pbS b (sPr a) x) t) t != mP z p a.i t) = false → smR z (smR z (pbS b (sPr a) x) t) t = s' → (∃ d', BothR s' d' (a.i.toNat + 1) ∧ DocR p.w0 p.g0 (p.o.take (a.i + 1).toNat) d') → ∃ b, stepC okPr rdPr FPr muPr p a b := by
    intro z s' h1 h2 h3 h4 h5 h6 h7
    obtain ⟨d', h7, h8⟩ := h7
    obtain ⟨k1, k2⟩ := fin s' d' h7 h8
    subst h6
    exact ⟨_, T.path_eval (way b z) (allSay_append ⟨hg, trivial⟩ (allSay_append I2 (allSay_append I2 (allSay_append c1 (allSay_append I2 (allSay_append ⟨by kernel_rfl, trivial⟩ (allSay_append I2 (allSay_append G2 (allSay_append ⟨rfl, trivial⟩ (allSay_append E2 (allSay_append h1 (allSay_append ⟨S1, S2, trivial⟩ (allSay_append h2 (allSay_append ⟨h3, trivial⟩ (allSay_append h4 (allSay_append ⟨by rw [h3, S1]; rfl, h3, S2, trivial⟩ (allSay_append h2 ⟨by rw [h3]; exact h5, trivial⟩))))))))))))))))), k1, k2⟩
  cases ht : decide (t < 0) with
  | true =>
    have bS : badS p.w0 p.g0 t = true := by unfold badS; rw [bN]; exact ht
    exact go true _ ⟨n1, ht, trivial⟩ ⟨bS, trivial⟩ rfl ⟨n1, ht, trivial⟩ rfl rfl ⟨d1, hb1, hd1⟩
  | false =>
    have t0 : 0 ≤ t := by have := of_decide_eq_false ht; omega
    have bS : badS p.w0 p.g0 t = false := by unfold badS; rw [bN]; exact ht
    obtain ⟨q1, q2, s1, s2, b2⟩ := hb1.sum t0 t1
    obtain ⟨q3, q4, s3, s4, b3⟩ := b2.sum t0 t1
    have eW := hd1.sum g1 t0
    have z1 : smS d1 t = Mil.cutV (sv (plV p.w0 p.g0 t (frP p a.i))) := by unfold smS; rw [eW, fr]
    have z2 : smN d1 t = ((plV p.w0 p.g0 t (frP p a.i)).length : Int) := by unfold smN; rw [eW, fr]
    have z3 : smS (d1.sum t) t = smS d1 t := rfl
    have z4 : smN (d1.sum t) t = smN d1 t := rfl
    refine go false _ q1 ⟨bS, oL, trivial⟩ ?_ q3 ?_ rfl ⟨(d1.sum t).sum t, b3, ⟨hd1.fw, hd1.fg, hd1.fn, hd1.fl⟩⟩
    · show (bif ((pbS b (sPr a) x).sumA t).s != Mil.cutV (sv (plV p.w0 p.g0 t (frP p a.i))) then true else ((pbS b (sPr a) x).sumA t).c != ((plV p.w0 p.g0 t (frP p a.i)).length : Int)) = false
      rw [s1, s2, z1, z2]
      simp
    · show (((pbS b (sPr a) x).sum t).mean t != mnV (Mil.cutV (sv (plV p.w0 p.g0 t (frP p a.i)))) ((plV p.w0 p.g0 t (frP p a.i)).length : Int)) = false
      unfold RS.mean
      rw [s3, s4, z3, z4, z1, z2]
      simp
theorem exPr (p : PPr) (a : APr) (h : okPr p a) (hg : goPr p a = false) : (rdPr p a).eval = some (.exit 0, FPr p a) := T.path_eval (wayPrx p a) ⟨hg, trivial⟩
noncomputable def famPr : LSpec := famC [0,3,9,10,11,12] SPr 2000 2001 127 decPr okPr goPr rdPr FPr muPr (.exit 0)
theorem lpPr_ok : LoopOk PR lpPr famPr := famC_ok (vs := vsPr) (bs := bsPr) PR_ok mixed (noLoops_ok _) decPr_ok (by simp) (fun _ _ => rfl) (fun _ _ => rfl) stepPr exPr
noncomputable def rngR (l : List TV) (a b n : Int) : T V := execS PR (byReg [(rgPr, famPr)]) 4 [.orow 35 KR2 l, Eng.iv a, Eng.iv b, Eng.iv n]
def pPr (l : List TV) (w g n : Int) : PPr := ⟨l.length, l, n, w, g⟩
theorem wayR0 (l : List TV) (a b n : Int) : T.path [true] (T.anon (rngR l a b n)) = some ([(decide (60 < (l.length : Int)), true)], .tt) := by kernel_rfl
theorem wayR1 (l : List TV) (a b n w g : Int) (hw : wI (1 + wI (Int.tmod (wU a) 40)) = w) (hg : wI (1 + wI (Int.tmod (wU b) (wU w))) = g) : T.path [false, false, false, false, true] (T.anon (rngR l a b n)) =
    some ([(decide (60 < (l.length : Int)), false), ((40 : Int) == 0, false), (wU w == 0, false), (badN w g, false), (invC okPr (pPr l w g n) (stPr (RS.new w g) 0), true)], .tt) := by subst hw; subst hg; kernel_rfl
theorem rng_run (l : List TV) (hv : ∀ x ∈ l, (Lit.int .i64 x.1).wf = true ∧ (Lit.int .i64 x.2).wf = true) (a b n : Int) : (rngR l a b n).eval = some .tt := by
  rw [← T.eval_anon (t := rngR l a b n)]
  by_cases hl : 60 < (l.length : Int)
  · exact T.path_eval (wayR0 l a b n) ⟨decide_eq_true hl, trivial⟩
  · have hA : 0 ≤ wI (Int.tmod (wU a) 40) ∧ wI (Int.tmod (wU a) 40) < 40 := modI a (by omega) (by omega)
    have w1 := wayR1 l a b n _ _ rfl rfl
    have e1 : wI (1 + wI (Int.tmod (wU a) 40)) = 1 + wI (Int.tmod (wU a) 40) := wrap64_in (by omega) (by omega)
    rw [e1] at w1
    revert hA w1
    generalize wI (Int.tmod (wU a) 40) = z
    intro hA w1
    have hw : 1 ≤ 1 + z ∧ 1 + z ≤ 40 := by omega
    revert hw w1
    generalize 1 + z = w
    intro w1 hw
    have ew : wU w = w := wrapu (by omega) (by omega)
    rw [ew] at w1
    have hB : 0 ≤ wI (Int.tmod (wU b) w) ∧ wI (Int.tmod (wU b) w) < w := modI b (by omega) (by omega)
    have e2 : wI (1 + wI (Int.tmod (wU b) w)) = 1 + wI (Int.tmod (wU b) w) := wrap64_in (by omega) (by omega)
    rw [e2] at w1
    revert hB w1
    generalize wI (Int.tmod (wU b) w) = y
    intro w1 hB
    have bn : badN w (1 + y) = false := badN_false.2 ⟨by omega, by omega, by omega⟩
    have z0 : (w == 0) = false := by rw [beq_eq_false_iff_ne]; omega
    have o : okPr (pPr l w (1 + y) n) (stPr (RS.new w (1 + y)) 0) := ⟨rfl, by show l.length ≤ 60; omega, hv, by show 1 ≤ 1 + y; omega, by show 1 + y ≤ w; omega, hw.2, Int.le_refl 0, by show (0 : Int) ≤ (l.length : Int); omega, _, BothR.new (w := w) (g := 1 + y) (by omega) (by omega) (by omega), DocR.new⟩
    exact T.path_eval w1 ⟨decide_eq_false hl, by kernel_rfl, z0, bn, invC_is o, trivial⟩
theorem rng_walk (l : List TV) (_ : l.length ≤ maxLen) (hv : ∀ x ∈ l, (Lit.int .i64 x.1).wf = true ∧ (Lit.int .i64 x.2).wf = true) (x : Value) (w : Int) (_ : (Lit.int .i64 w).wf = true) (g : Int) (_ : (Lit.int .i64 g).wf = true) (t : Int) (ht : (Lit.int .i64 t).wf = true) (W : World) (hx : holdsP 0 W (.orow 35 [.int .i64, .int .i64] l) x) :
    Calls Try.prog 4 #[x, .int .i64 w, .int .i64 g, .int .i64 t] W fun e w' => e = .returned (.bool true) ∧ Below W.heap.size W w' :=
  Law.law_rows (args := [.orow 35 KR2 l, Eng.iv w, Eng.iv g, Eng.iv t]) (xs := [x, .int .i64 w, .int .i64 g, .int .i64 t]) (execS_loops (Λ := byReg [(rgPr, famPr)]) PR_ok mixed Try.func4 (by kernel_rfl) (by kernel_rfl) (one_lp (by kernel_rfl) rgPr_is lpPr_ok)) rfl (.inl (rng_run l hv w g t)) W ⟨hx, rfl, rfl, rfl, trivial⟩
end Go.Proofs.Ytebibmioiigplaa.Pla

