/- Layer 5: the ring's Sum. -/
import Derived.Test.YtheknddbbgjpkaaRinD
import Derived.Test.YtheknddbbgjpkaaRinR
namespace Go.Proofs.Ytheknddbbgjpkaa.Rin
open Go.Eng Go.RowKit Mil
set_option linter.unusedVariables false
set_option linter.unusedSimpArgs false
def mnR (a b : Int) : Int := if b < a then b else a
def joinR (x y : RB) : RB := (Mil.cutV (x.1 + y.1), IntKind.wrap .i64 (x.2.1 + y.2.1), bif (bif x.2.2 then true else y.2.2) then true else Mil.cutE (x.1 + y.1) == 2)
theorem wayRb0 (p : PRb) (a : ARb) : T.path [true, false, true, true, false] (rdRb p a) = some ([(decide (a.j ≤ mnR p.la p.nw), true), ((p.n : Int) == 0, false), (bndR p.n a.l a.j, true), (decide (plc p.n a.j < a.l.length), true), (isBox (ks := KB) a.l (plc p.n a.j), false)], (.normal, FRb p ⟨a.l, a.s, a.c, a.k, IntKind.wrap .i64 (a.j + 1)⟩)) := by kernel_rfl
theorem wayRb1 (p : PRb) (a : ARb) : T.path [true, false, true, true, true, true] (rdRb p a) = some ([(decide (a.j ≤ mnR p.la p.nw), true), ((p.n : Int) == 0, false), (bndR p.n a.l a.j, true), (decide (plc p.n a.j < a.l.length), true), (isBox (ks := KB) a.l (plc p.n a.j), true), (Sta.inR a.s && Sta.inR (boxAt KB a.l (plc p.n a.j)).1, true)],
    (.normal, FRb p ⟨a.l.set (plc p.n a.j) (some (boxAt KB a.l (plc p.n a.j))), (joinR (a.s, a.c, a.k) (boxAt KB a.l (plc p.n a.j))).1, (joinR (a.s, a.c, a.k) (boxAt KB a.l (plc p.n a.j))).2.1, (joinR (a.s, a.c, a.k) (boxAt KB a.l (plc p.n a.j))).2.2, IntKind.wrap .i64 (a.j + 1)⟩)) := by kernel_rfl
theorem wayRbx (p : PRb) (a : ARb) : T.path [false] (rdRb p a) = some ([(decide (a.j ≤ mnR p.la p.nw), false)], (.exit 0, FRb p a)) := by kernel_rfl
/-- what stands in the buckets from lo to hi - 1 -/
def smV (lo hi : Int) (rs : List Rec) : RB := (Mil.cutV (sv (wn lo hi rs)), ((wn lo hi rs).length : Int), decide (tpI < sv (wn lo hi rs)))
structure okRb (p : PRb) (a : ARb) : Prop where
  rep : ∃ rs, RepR p.n p.nw p.l0 rs
  la0 : 0 ≤ p.la
  la1 : p.la ≤ 9223372036854775807
  j0 : 0 ≤ p.j0
  j1 : p.nw - p.n < p.j0
  j2 : p.j0 ≤ 9223372036854775807
  j3 : p.j0 ≤ a.j
  j4 : a.j ≤ max p.j0 (mnR p.la p.nw + 1)
  al : a.l = p.l0
  sum : ∀ rs, RepR p.n p.nw p.l0 rs → ((a.s, a.c, a.k) : RB) = smV p.j0 a.j rs
def goRb (p : PRb) (a : ARb) : Bool := decide (a.j ≤ mnR p.la p.nw)
def muRb (p : PRb) (a : ARb) : Nat := (mnR p.la p.nw + 1 - a.j).toNat
theorem mnR_le {a b : Int} : mnR a b ≤ a ∧ mnR a b ≤ b := by unfold mnR; split <;> omega
theorem joinR_box {lo j : Int} {rs : List Rec} {x : Rec} {r : List Rec} (h0 : 0 ≤ sv (wn lo j rs)) (h1 : 0 ≤ sv (bk j rs)) (hl : (wn lo j rs).length + (bk j rs).length ≤ 10000000) (hlo : lo ≤ j) (hx : bk j rs = x :: r) :
    joinR (smV lo j rs) (Mil.cutV (sv (bk j rs)), ((bk j rs).length : Int), decide (tpI < sv (bk j rs))) = smV lo (j + 1) rs := by
  obtain ⟨e1, e2⟩ := wn_next hlo rs
  unfold joinR smV
  refine Prod.ext ?_ (Prod.ext ?_ ?_)
  · show Mil.cutV (Mil.cutV _ + Mil.cutV _) = Mil.cutV _
    rw [cutV_cut h0 h1, e1]
  · show IntKind.wrap .i64 (((wn lo j rs).length : Int) + ((bk j rs).length : Int)) = _
    rw [wrap64_in (by omega) (by omega), e2]; simp
  · show (bif (bif decide (tpI < sv (wn lo j rs)) then true else decide (tpI < sv (bk j rs))) then true else Mil.cutE (Mil.cutV (sv (wn lo j rs)) + Mil.cutV (sv (bk j rs))) == 2) = decide (tpI < sv (wn lo (j + 1) rs))
    rw [e1, ← cutE_cut h0 h1]
    cases decide (tpI < sv (wn lo j rs)) <;> cases decide (tpI < sv (bk j rs)) <;> rfl
theorem stepRb (p : PRb) (a : ARb) (h : okRb p a) (hg : goRb p a = true) : ∃ b, stepC okRb rdRb FRb muRb p a b := by
  obtain ⟨l, s, c, k, j⟩ := a
  obtain ⟨⟨rs, hr⟩, la0, la1, j0, j1, j2, j3, j4, al, hs⟩ := h
  simp only at j3 j4 al hs
  subst al
  have hj : j ≤ mnR p.la p.nw := of_decide_eq_true hg
  obtain ⟨m1, m2⟩ := mnR_le (a := p.la) (b := p.nw)
  have w1 := hr.w1
  have hn := hr.n0
  have hw : IntKind.wrap .i64 (j + 1) = j + 1 := wrap64_in (by omega) (by omega)
  obtain ⟨b1, b2⟩ := bndR_is (l := p.l0) hn (show 0 ≤ j by omega) hr.ln
  have n00 : ((p.n : Int) == 0) = false := by rw [beq_eq_false_iff_ne]; omega
  have cell : ∀ rs, RepR p.n p.nw p.l0 rs → p.l0.getD (plc p.n j) none = boxO (bk j rs) := fun rs hr => hr.cells j (by omega) (by omega) (by omega)
  have mu : (mnR p.la p.nw + 1 - IntKind.wrap .i64 (j + 1)).toNat < (mnR p.la p.nw + 1 - j).toNat := by rw [hw]; omega
  have k3 : p.j0 ≤ IntKind.wrap .i64 (j + 1) := by rw [hw]; omega
  have k4 : IntKind.wrap .i64 (j + 1) ≤ max p.j0 (mnR p.la p.nw + 1) := by rw [hw]; omega
  cases hx : isBox (ks := KB) p.l0 (plc p.n j) with
  | false =>
    refine ⟨_, T.path_eval (wayRb0 p ⟨p.l0, s, c, k, j⟩) ⟨hg, n00, b1, b2, hx, trivial⟩, ⟨⟨rs, hr⟩, la0, la1, j0, j1, j2, k3, k4, rfl, fun rs hr => ?_⟩, mu⟩
    show ((s, c, k) : RB) = smV p.j0 (IntKind.wrap .i64 (j + 1)) rs
    have e := cell rs hr
    have e0 := isBox_false (of_decide_eq_true b2) hx
    rw [List.getD_eq_getElem?_getD, e0] at e
    have hb : bk j rs = [] := by
      cases q : bk j rs with
      | nil => rfl
      | cons x r => rw [q] at e; cases e
    obtain ⟨e1, e2⟩ := wn_next j3 rs
    rw [hb, sv_nil, Int.add_zero] at e1
    rw [hb, List.length_nil, Nat.add_zero] at e2
    rw [hw, hs rs hr]
    unfold smV
    rw [e1, e2]
  | true =>
    have e0 := isBox_true hx
    have hbox : ∀ rs, RepR p.n p.nw p.l0 rs → ∃ x r, bk j rs = x :: r ∧ boxAt KB p.l0 (plc p.n j) = ((Mil.cutV (sv (bk j rs)), ((bk j rs).length : Int), decide (tpI < sv (bk j rs))) : RB) := by
      intro rs hr
      have e := cell rs hr
      rw [List.getD_eq_getElem?_getD, e0] at e
      cases q : bk j rs with
      | nil => rw [q] at e; cases e
      | cons x r => rw [q] at e; exact ⟨x, r, rfl, Option.some.inj e⟩
    obtain ⟨x, r, hb, hbx⟩ := hbox rs hr
    have s0 := (hr.wnn p.j0 j).1
    have s1 := (hr.bkn j).1
    have hR : (Sta.inR s && Sta.inR (boxAt KB p.l0 (plc p.n j)).1) = true := by
      have q1 := cutV_in s0
      have q2 := cutV_in s1
      have e1 : s = Mil.cutV (sv (wn p.j0 j rs)) := congrArg (fun x : RB => x.1) (hs rs hr)
      rw [hbx, e1, Sta.inR_iff.2 ⟨by omega, q1.2⟩]
      show (true && Sta.inR (Mil.cutV (sv (bk j rs)))) = true
      rw [Sta.inR_iff.2 ⟨by omega, q2.2⟩]; rfl
    have el : p.l0.set (plc p.n j) (some (boxAt KB p.l0 (plc p.n j))) = p.l0 := set_same _ _ _ e0
    have hw2 := wayRb1 p ⟨p.l0, s, c, k, j⟩
    simp only [el] at hw2
    refine ⟨_, T.path_eval hw2 ⟨hg, n00, b1, b2, hx, hR, trivial⟩, ⟨⟨rs, hr⟩, la0, la1, j0, j1, j2, k3, k4, rfl, fun rs hr => ?_⟩, mu⟩
    obtain ⟨x, r, hb, hbx⟩ := hbox rs hr
    show joinR (s, c, k) (boxAt KB p.l0 (plc p.n j)) = smV p.j0 (IntKind.wrap .i64 (j + 1)) rs
    have := hr.len
    have := (hr.wnn p.j0 j).2
    have := (hr.bkn j).2
    rw [hw, hbx, hs rs hr, joinR_box (hr.wnn p.j0 j).1 (hr.bkn j).1 (by omega) j3 hb]
theorem exRb (p : PRb) (a : ARb) (h : okRb p a) (hg : goRb p a = false) : (rdRb p a).eval = some (.exit 0, FRb p a) := T.path_eval (wayRbx p a) ⟨hg, trivial⟩
noncomputable def famRb : LSpec := famC [0,6,8,9] SRb 200 200 81 decRb okRb goRb rdRb FRb muRb (.exit 0)
theorem lpRb_ok : LoopOk R5 lpRb famRb := famC_ok (vs := vsRb) (bs := bsRb) R5_ok mixed (noLoops_ok _) decRb_ok (by simp) (fun _ _ => rfl) (fun _ _ => rfl) stepRb exRb
noncomputable def sumR0 : Eng.Obj := execO R5 (byReg [(rgRb, famRb)]) 45
theorem sumR0_ok : ObjOk Try.prog 45 sumR0 := execO_loops R5_ok mixed Try.func45 (by kernel_rfl) (by kernel_rfl) (one_lp (by kernel_rfl) rgRb_is lpRb_ok)
end Go.Proofs.Ytheknddbbgjpkaa.Rin
