/- Layer 5: RingPlays: its rounds' ways. -/
import Derived.Test.YtheknddbbgjpkaaRdE
namespace Go.Proofs.Ytheknddbbgjpkaa.Rin
open Go.Eng Go.RowKit Mil
set_option linter.unusedVariables false
set_option linter.unusedSimpArgs false
structure DS where
  w : Int
  g : Int
  n : Nat
  nw : Int
  ov : Bool
  l : List TV
def stP (s : RS) (d : DS) (i : Int) : ARp := ⟨s.w, s.g, s.n, s.nw, s.ov, s.l, d.w, d.g, d.n, d.nw, d.ov, d.l, i⟩
def xO (o : List (Int × Int × Int × Int)) (i : Int) : Int × Int × Int × Int := o.getD (0 + i.toNat) (0, 0, 0, 0)
def kO (x : Int × Int × Int × Int) : Int := bits .and .i64 x.1 7
noncomputable def DS.put (d : DS) (t v : Int) : DS := ⟨d.w, d.g, (keepD d.w d.g d.n (mxR d.nw (Int.tdiv t d.g)) d.l (t, v)).length, mxR d.nw (Int.tdiv t d.g), d.ov, keepD d.w d.g d.n (mxR d.nw (Int.tdiv t d.g)) d.l (t, v)⟩
noncomputable def DS.sum (d : DS) (t : Int) : DS := ⟨d.w, d.g, d.n, d.nw, d.ov || decide (tpI < sv (wD d.w d.g t d.l)), d.l⟩
noncomputable def DS.res (d : DS) (x : Int) : DS := ⟨x, d.g, (d.l.filter (kpD x d.g d.nw)).length, d.nw, d.ov, d.l.filter (kpD x d.g d.nw)⟩
noncomputable def putDC (d : DS) (t v : Int) (b : Bool) : List (Bool × Bool) := [(badA t v, false), (pB (gdD d.w d.g d.n d.nw d.l t v), true), (decide ((nN d.w d.g : Nat) ≤ d.nw - Int.tdiv t d.g), b)]
noncomputable def okDC (d : DS) (t : Int) : List (Bool × Bool) := [(pB (OkD d.w d.g d.nw d.l ∧ d.n = d.l.length ∧ t ≤ 9223372036854775807), true)]
def hdP (p : PRp) (i : Int) : List (Bool × Bool) := [(decide (i < (p.q : Int)), true), (idR p.o p.q i, true), (ldR p.o i, true)]
def difB (s : RS) (d : DS) : Bool := bif bif s.w != d.w then true else (s.n : Int) != nnI d.w d.g then true else !(bif decide (0 < (s.n : Int)) then s.ov else false) == d.ov
def tlP (s : RS) (d : DS) : List (Bool × Bool) := [(decide (0 < (s.n : Int)), true), (s.w != d.w, false), (d.g == 0, false), (difB s d, false)]
noncomputable def smN (d : DS) (t : Int) : Int := ((wD d.w d.g t d.l).length : Int)
noncomputable def smS (d : DS) (t : Int) : Int := Mil.cutV (sv (wD d.w d.g t d.l))
noncomputable def cmS (a b : Int) (d : DS) (t : Int) : Bool := bif a != smS d t then true else b != smN d t
theorem wayRp1 (p : PRp) (s : RS) (d : DS) (i : Int) : T.path [true, true, true, true, true, true, true, false, true, false, false, false] (rdRp p (stP s d i)) =
    some (hdP p i ++ ([(decide (kO (xO p.o i) < 5), true), (decide (0 < s.n), true), (badA (xO p.o i).2.2.1 (xO p.o i).2.2.2, true), (badA (xO p.o i).2.2.1 (xO p.o i).2.2.2, true), ((1 : Int) != 1, false)] ++ tlP s d), (.normal, FRp p (stP s d (IntKind.wrap .i64 (i + 1))))) := by kernel_rfl
theorem wayRp2 (p : PRp) (s : RS) (d : DS) (i : Int) : T.path [true, true, true, true, true, false, true, false, true, true, false, true, false, false, false] (rdRp p (stP s d i)) =
    some (hdP p i ++ ((decide (kO (xO p.o i) < 5), true) :: (putC s (xO p.o i).2.2.1 (xO p.o i).2.2.2 ++ (putDC d (xO p.o i).2.2.1 (xO p.o i).2.2.2 true ++ (((0 : Int) != 0, false) :: tlP (s.put (xO p.o i).2.2.1 (xO p.o i).2.2.2) d)))), (.normal, FRp p (stP (s.put (xO p.o i).2.2.1 (xO p.o i).2.2.2) d (IntKind.wrap .i64 (i + 1))))) := by kernel_rfl
theorem wayRp3 (p : PRp) (s : RS) (d : DS) (i : Int) : T.path [true, true, true, true, true, false, true, false, true, false, false, true, false, false, false] (rdRp p (stP s d i)) =
    some (hdP p i ++ ((decide (kO (xO p.o i) < 5), true) :: (putC s (xO p.o i).2.2.1 (xO p.o i).2.2.2 ++ (putDC d (xO p.o i).2.2.1 (xO p.o i).2.2.2 false ++ (((0 : Int) != 0, false) :: tlP (s.put (xO p.o i).2.2.1 (xO p.o i).2.2.2) (d.put (xO p.o i).2.2.1 (xO p.o i).2.2.2))))), (.normal, FRp p (stP (s.put (xO p.o i).2.2.1 (xO p.o i).2.2.2) (d.put (xO p.o i).2.2.1 (xO p.o i).2.2.2) (IntKind.wrap .i64 (i + 1))))) := by kernel_rfl
theorem wayRp4 (p : PRp) (s : RS) (d : DS) (i : Int) : T.path [true, true, true, false, true, true, true, true, false, true, true, false, true, false, true, false, false, false] (rdRp p (stP s d i)) =
    some (hdP p i ++ ([(decide (kO (xO p.o i) < 5), false), (decide (kO (xO p.o i) < 7), true), (decide (0 < s.n), true), (decide ((xO p.o i).2.2.1 < 0), true)] ++ (okDC d (xO p.o i).2.2.1 ++ ([(cmS 0 0 d (xO p.o i).2.2.1, false), (decide (0 < s.n), true), (decide ((xO p.o i).2.2.1 < 0), true), (cmS 0 0 d (xO p.o i).2.2.1, false)] ++
      (okDC (d.sum (xO p.o i).2.2.1) (xO p.o i).2.2.1 ++ (((bif cmS 0 0 d (xO p.o i).2.2.1 then true else 0 != mnV (smS d (xO p.o i).2.2.1) (smN d (xO p.o i).2.2.1)), false) :: tlP s ((d.sum (xO p.o i).2.2.1).sum (xO p.o i).2.2.1)))))), (.normal, FRp p (stP s ((d.sum (xO p.o i).2.2.1).sum (xO p.o i).2.2.1) (IntKind.wrap .i64 (i + 1))))) := by kernel_rfl
theorem wayRp5 (p : PRp) (s : RS) (d : DS) (i : Int) : T.path [true, true, true, false, true, true, false, true, true, false, true, false, true, false, true, false, true, false, false, false] (rdRp p (stP s d i)) =
    some (hdP p i ++ ([(decide (kO (xO p.o i) < 5), false), (decide (kO (xO p.o i) < 7), true)] ++ (sumC s (xO p.o i).2.2.1 ++ (okDC d (xO p.o i).2.2.1 ++ ((cmS (s.sumA (xO p.o i).2.2.1).s (s.sumA (xO p.o i).2.2.1).c d (xO p.o i).2.2.1, false) :: (sumC (s.sum (xO p.o i).2.2.1) (xO p.o i).2.2.1 ++ ((cmS (s.sumA (xO p.o i).2.2.1).s (s.sumA (xO p.o i).2.2.1).c d (xO p.o i).2.2.1, false) ::
      (okDC (d.sum (xO p.o i).2.2.1) (xO p.o i).2.2.1 ++ (((bif cmS (s.sumA (xO p.o i).2.2.1).s (s.sumA (xO p.o i).2.2.1).c d (xO p.o i).2.2.1 then true else (s.sum (xO p.o i).2.2.1).mean (xO p.o i).2.2.1 != mnV (smS d (xO p.o i).2.2.1) (smN d (xO p.o i).2.2.1)), false) :: tlP ((s.sum (xO p.o i).2.2.1).sum (xO p.o i).2.2.1) ((d.sum (xO p.o i).2.2.1).sum (xO p.o i).2.2.1))))))))),
      (.normal, FRp p (stP ((s.sum (xO p.o i).2.2.1).sum (xO p.o i).2.2.1) ((d.sum (xO p.o i).2.2.1).sum (xO p.o i).2.2.1) (IntKind.wrap .i64 (i + 1))))) := by kernel_rfl
theorem wayRp6 (p : PRp) (s : RS) (d : DS) (i : Int) : T.path [true, true, true, false, false, true, true, true, false, true, false, false, false] (rdRp p (stP s d i)) =
    some (hdP p i ++ ([(decide (kO (xO p.o i) < 5), false), (decide (kO (xO p.o i) < 7), false), (decide (0 < s.n), true), (badX (xO p.o i).2.1 s.g, true), (badX (xO p.o i).2.1 d.g, true), ((1 : Int) != 1, false)] ++ tlP s d), (.normal, FRp p (stP s d (IntKind.wrap .i64 (i + 1))))) := by kernel_rfl
theorem wayRp7 (p : PRp) (s : RS) (d : DS) (i : Int) : T.path [true, true, true, false, false, true, false, true, false, true, false, true, false, false, false] (rdRp p (stP s d i)) =
    some (hdP p i ++ ([(decide (kO (xO p.o i) < 5), false), (decide (kO (xO p.o i) < 7), false)] ++ (resC s (xO p.o i).2.1 ++ ([(badX (xO p.o i).2.1 d.g, false), (pB (OkD (xO p.o i).2.1 d.g d.nw d.l ∧ d.n = d.l.length), true), ((0 : Int) != 0, false)] ++ tlP (s.res (xO p.o i).2.1) (d.res (xO p.o i).2.1)))),
      (.normal, FRp p (stP (s.res (xO p.o i).2.1) (d.res (xO p.o i).2.1) (IntKind.wrap .i64 (i + 1))))) := by kernel_rfl
theorem wayRpx (p : PRp) (a : ARp) : T.path [false] (rdRp p a) = some ([(decide (a.i < (p.q : Int)), false)], (.exit 0, FRp p a)) := by kernel_rfl
end Go.Proofs.Ytheknddbbgjpkaa.Rin
