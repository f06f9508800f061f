/- Layer 20: QueuePlays, the ways of its round. -/
import Derived.Test.YtenifknkahogjaaQueBe
namespace Go.Proofs.Ytenifknkahogjaa.Que
open Go.Eng Go.RowKit
set_option linter.unusedVariables false
set_option linter.unusedSimpArgs false
noncomputable def eRA (d : Int) (u : Option Int) (n : Nat) (l : List (Int × Int)) : AR := endW (nxtC okRA goRA rdRA FRA muRA ⟨d, u, n, l⟩) ⟨[], 0, 0⟩
noncomputable def eRT (p : PT) : AT := endW (nxtC okRT goRT rdRT FRT muRT p) ⟨[], 0, [], 0, 0⟩
def tk (j : Nat) (W : List Int) : List Int := List.take j (List.drop 0 W)
noncomputable def intC (j : Nat) (W : List Int) (k : Nat) (X : List Int) : List (Bool × Bool) := [(decide (0 + j ≤ W.length) && decide (0 + k ≤ X.length), true), (((tk j W).length : Int) != ((tk k X).length : Int), false), (invC okRI ⟨tk j W, tk k X, (tk j W).length, (tk k X).length⟩ ⟨0⟩, true)]
noncomputable def tailC (d : Int) (u : Option Int) (n : Nat) (l : List (Int × Int)) (m : Nat) (r : List (Int × Int)) (d' : Int) (u' : Option Int) : List (Bool × Bool) :=
  (mkB n, true) :: (invC okA (pA d u n l) (a0 n), true) :: (invC okRA ⟨d', u', m, r⟩ ⟨[], 0, 0⟩, true) :: intC (eA (pA d u n l)).j (eA (pA d u n l)).W (eRA d' u' m r).j (eRA d' u' m r).W
def tl : List Bool := [true, true, true, true, false, true]
def kdQ (o : R5) : Int := bits BinOp.and IntKind.i64 o.1 7
def putC (o : R5) (u : Option Int) : Bool := bif decide (o.2.1 < 0) then true else lateT o.2.2.2.1 u
def slC {α : Type} (n : Nat) (l : List α) : Bool := decide ((0 : Int) ≤ 1) && (decide ((1 : Int) ≤ (n : Int)) && (decide ((n : Int) ≤ (n : Int)) && decide (n ≤ l.length)))
def hdC (p : PQ) (a : AQ) : List (Bool × Bool) := [(decide (a.i < (p.k : Int)), true), (idR p.g p.k a.i, true), (ldR p.g a.i, true)]
theorem wayQp1 (p : PQ) (a : AQ) : T.path ([true, true, true, true, true, true, false] ++ tl) (rdQ p a) = some (hdC p a ++ (decide (kdQ (g5w p.g a.i) < 3), true) :: (putC (g5w p.g a.i) a.u, true) :: (putC (g5w p.g a.i) a.u', true) :: ((1 : Int) != 1, false) :: tailC a.d a.u a.n a.l a.n' a.l' a.d' a.u', (.normal, FQ p ⟨a.d, a.u, a.n, a.l, a.n', a.l', IntKind.wrap .i64 (a.i + 1), a.d', a.u'⟩)) := by
  obtain ⟨d, u, n, l, m, r, i, d', u'⟩ := a
  cases u <;> cases u' <;> kernel_rfl
theorem wayQp2 (p : PQ) (a : AQ) : T.path ([true, true, true, true, false, true, false, true, false] ++ tl) (rdQ p a) = some (hdC p a ++ (decide (kdQ (g5w p.g a.i) < 3), true) :: (putC (g5w p.g a.i) a.u, false) :: (decide (a.d ≤ (a.n : Int)), true) :: (putC (g5w p.g a.i) a.u', false) :: (decide (a.d' ≤ (a.n' : Int)), true) :: ((6 : Int) != 6, false) :: tailC a.d a.u a.n a.l a.n' a.l' a.d' a.u', (.normal, FQ p ⟨a.d, a.u, a.n, a.l, a.n', a.l', IntKind.wrap .i64 (a.i + 1), a.d', a.u'⟩)) := by
  obtain ⟨d, u, n, l, m, r, i, d', u'⟩ := a
  cases u <;> cases u' <;> kernel_rfl
def wq (o : R5) : Int × Int := (o.2.1, o.2.2.2.1)
theorem wayQp3 (p : PQ) (a : AQ) : T.path ([true, true, true, true, false, false, true, false, false, true, false] ++ tl) (rdQ p a) = some (hdC p a ++ (decide (kdQ (g5w p.g a.i) < 3), true) :: (putC (g5w p.g a.i) a.u, false) :: (decide (a.d ≤ (a.n : Int)), false) :: (apC a.n a.l (wq (g5w p.g a.i)), true) :: (putC (g5w p.g a.i) a.u', false) :: (decide (a.d' ≤ (a.n' : Int)), false) :: (apC a.n' a.l' (wq (g5w p.g a.i)), true) :: ((0 : Int) != 0, false) ::
  tailC a.d (some (g5w p.g a.i).2.2.2.1) (a.n + [wq (g5w p.g a.i)].length) (List.take a.n a.l ++ [wq (g5w p.g a.i)]) (a.n' + [wq (g5w p.g a.i)].length) (List.take a.n' a.l' ++ [wq (g5w p.g a.i)]) a.d' (some (g5w p.g a.i).2.2.2.1),
  (.normal, FQ p ⟨a.d, some (g5w p.g a.i).2.2.2.1, a.n + [wq (g5w p.g a.i)].length, List.take a.n a.l ++ [wq (g5w p.g a.i)], a.n' + [wq (g5w p.g a.i)].length, List.take a.n' a.l' ++ [wq (g5w p.g a.i)], IntKind.wrap .i64 (a.i + 1), a.d', some (g5w p.g a.i).2.2.2.1⟩)) := by
  obtain ⟨d, u, n, l, m, r, i, d', u'⟩ := a
  cases u <;> cases u' <;> kernel_rfl
theorem wayQt1 (p : PQ) (a : AQ) : T.path ([true, true, true, false, true, true, true, false] ++ tl) (rdQ p a) = some (hdC p a ++ (decide (kdQ (g5w p.g a.i) < 3), false) :: (decide (kdQ (g5w p.g a.i) < 5), true) :: ((a.n : Int) == 0, true) :: ((a.n' : Int) == 0, true) :: ((bif (0 : Int) != 0 then true else !(false == false)), false) :: tailC a.d a.u a.n a.l a.n' a.l' a.d' a.u', (.normal, FQ p ⟨a.d, a.u, a.n, a.l, a.n', a.l', IntKind.wrap .i64 (a.i + 1), a.d', a.u'⟩)) := by
  obtain ⟨d, u, n, l, m, r, i, d', u'⟩ := a
  cases u <;> cases u' <;> kernel_rfl
def tn (n : Nat) : Nat := Int.toNat (n : Int) - Int.toNat 1
def td (n : Nat) (l : List (Int × Int)) : List (Int × Int) := (l.drop (Int.toNat 1)).take (Int.toNat (n : Int) - Int.toNat 1)
theorem wayQt2 (p : PQ) (a : AQ) : T.path ([true, true, true, false, true, false, true, true, true, false, true, true, true, false] ++ tl) (rdQ p a) = some (hdC p a ++ (decide (kdQ (g5w p.g a.i) < 3), false) :: (decide (kdQ (g5w p.g a.i) < 5), true) :: ((a.n : Int) == 0, false) :: (idR a.l a.n 0, true) :: (ldR a.l 0, true) :: (slC a.n a.l, true) :: ((a.n' : Int) == 0, false) :: (idR a.l' a.n' 0, true) :: (ldR a.l' 0, true) :: (slC a.n' a.l', true) ::
  ((bif (g2w a.l 0).1 != (g2w a.l' 0).1 then true else !(true == true)), false) :: tailC a.d a.u (tn a.n) (td a.n a.l) (tn a.n') (td a.n' a.l') a.d' a.u', (.normal, FQ p ⟨a.d, a.u, tn a.n, td a.n a.l, tn a.n', td a.n' a.l', IntKind.wrap .i64 (a.i + 1), a.d', a.u'⟩)) := by
  obtain ⟨d, u, n, l, m, r, i, d', u'⟩ := a
  cases u <;> cases u' <;> kernel_rfl
def pLQ (p : PQ) (a : AQ) : PL := ⟨a.d, a.u, (g5w p.g a.i).2.2.2.1, (g5w p.g a.i).2.2.2.2⟩
def pTQ (p : PQ) (a : AQ) : PT := ⟨a.d', a.u', a.n', a.l', (g5w p.g a.i).2.2.2.1, (g5w p.g a.i).2.2.2.2⟩
theorem wayQl (p : PQ) (a : AQ) : T.path ([true, true, true, false, false, true, true, true, true, false, true] ++ tl) (rdQ p a) = some (hdC p a ++ (decide (kdQ (g5w p.g a.i) < 3), false) :: (decide (kdQ (g5w p.g a.i) < 5), false) :: (decide (kdQ (g5w p.g a.i) < 7), true) :: (invC okL (pLQ p a) ⟨a.n, a.l, [], 0⟩, true) :: (invC okRT (pTQ p a) ⟨[], 0, [], 0, 0⟩, true) ::
  (intC (eL (pLQ p a) a.n a.l).j (eL (pLQ p a) a.n a.l).W (eRT (pTQ p a)).j (eRT (pTQ p a)).W ++ tailC a.d a.u (eL (pLQ p a) a.n a.l).n (eL (pLQ p a) a.n a.l).l (eRT (pTQ p a)).k (eRT (pTQ p a)).X a.d' a.u'),
  (.normal, FQ p ⟨a.d, a.u, (eL (pLQ p a) a.n a.l).n, (eL (pLQ p a) a.n a.l).l, (eRT (pTQ p a)).k, (eRT (pTQ p a)).X, IntKind.wrap .i64 (a.i + 1), a.d', a.u'⟩)) := by
  obtain ⟨d, u, n, l, m, r, i, d', u'⟩ := a
  cases u <;> cases u' <;> kernel_rfl
def dC1 (o : R5) : Bool := !bif decide (0 ≤ o.2.2.1) then decide (o.2.2.1 ≤ 200) else false
def dC2 (o : R5) : Bool := bif decide (o.2.2.1 < 0) then true else decide (200 < o.2.2.1)
theorem wayQd (p : PQ) (a : AQ) (e : Bool) : T.path ([true, true, true, false, false, false, e, e, false] ++ tl) (rdQ p a) = some (hdC p a ++ (decide (kdQ (g5w p.g a.i) < 3), false) :: (decide (kdQ (g5w p.g a.i) < 5), false) :: (decide (kdQ (g5w p.g a.i) < 7), false) :: (dC1 (g5w p.g a.i), e) :: (dC2 (g5w p.g a.i), e) :: (bif e then (1 : Int) != 1 else (0 : Int) != 0, false) ::
  tailC (bif e then a.d else (g5w p.g a.i).2.2.1) a.u a.n a.l a.n' a.l' (bif e then a.d' else (g5w p.g a.i).2.2.1) a.u', (.normal, FQ p ⟨bif e then a.d else (g5w p.g a.i).2.2.1, a.u, a.n, a.l, a.n', a.l', IntKind.wrap .i64 (a.i + 1), bif e then a.d' else (g5w p.g a.i).2.2.1, a.u'⟩)) := by
  obtain ⟨d, u, n, l, m, r, i, d', u'⟩ := a
  cases u <;> cases u' <;> cases e <;> kernel_rfl
theorem wayQx (p : PQ) (a : AQ) : T.path [false] (rdQ p a) = some ([(decide (a.i < (p.k : Int)), false)], (.exit 0, FQ p a)) := by
  obtain ⟨d, u, n, l, m, r, i, d', u'⟩ := a
  cases u <;> cases u' <;> kernel_rfl
end Go.Proofs.Ytenifknkahogjaa.Que
