/- Layer 20: QueueFirst: ways through its outer round (Put, Take). -/
import Derived.Test.YtfnadebkobfemaaQueCd
namespace Go.Proofs.Ytfnadebkobfemaa.Que
open Go.Eng Go.RowKit
set_option linter.unusedVariables false
set_option linter.unusedSimpArgs false
def fbK (p : PFb) (i : Int) : Int := Int.tmod (IntKind.wrap .u64 (gI p.g i)) 4
def fbG (p : PFb) (i : Int) : Bool := bif decide (i < (p.kg : Int)) then decide (i < 120) else false
def fbH (p : PFb) (i : Int) : List (Bool × Bool) := [(fbG p i, true), (idR p.g p.kg i, true), (ldR p.g i, true), ((4 : Int) == 0, false)]
def fbE : Bool → List Bool
  | true => [true, true]
  | false => [false, true]
def fbC (x : Int) : Bool → List (Bool × Bool)
  | true => [(x == 0, true), (x == 0, true)]
  | false => [(x == 0, false), (x == 1, true)]
def fbP (x i : Int) : Option Int → Bool
  | none => bif decide (x < 0) then true else false
  | some t => bif decide (x < 0) then true else decide (i < t)
def fbA (x y i : Int) (c : List Int) (o : Option Int) (n : Nat) (l : List (Int × Int)) : AFb := ⟨x, y, i, c, lastV o, n, l⟩
theorem wayF0 (p : PFb) (x y i : Int) (c : List Int) (o : Option Int) (n : Nat) (l : List (Int × Int)) (e : Bool) : T.path ([true, true, true, false] ++ (fbE e ++ [false, false, true, false, true, true, true])) (rdFb p (fbA x y i c o n l)) = some (fbH p i ++ (fbC (fbK p i) e ++ [(fbP x i o, false), (decide (p.d ≤ (n : Int)), false), (apC n l (x, i), true), (!((0 : Int) == 0) == decide (IntKind.wrap .i64 (x - y) < 50), false), ((0 : Int) == 0, true), (c130 c x, true), (decide (x.toNat < c.length), true)]),
    (.normal, FFb p (fbA (IntKind.wrap .i64 (x + 1)) y (IntKind.wrap .i64 (i + 1)) (c.set x.toNat i) (some i) (n + [((x, i) : Int × Int)].length) (List.take n l ++ [((x, i) : Int × Int)])))) := by cases o <;> cases e <;> kernel_rfl
theorem wayF1 (p : PFb) (x y i : Int) (c : List Int) (o : Option Int) (n : Nat) (l : List (Int × Int)) (e : Bool) : T.path ([true, true, true, false] ++ (fbE e ++ [false, true, false, false])) (rdFb p (fbA x y i c o n l)) = some (fbH p i ++ (fbC (fbK p i) e ++ [(fbP x i o, false), (decide (p.d ≤ (n : Int)), true), (!((6 : Int) == 0) == decide (IntKind.wrap .i64 (x - y) < 50), false), ((6 : Int) == 0, false)]),
    (.normal, FFb p (fbA x y (IntKind.wrap .i64 (i + 1)) c o n l))) := by cases o <;> cases e <;> kernel_rfl
theorem wayF2 (p : PFb) (x y i : Int) (c : List Int) (o : Option Int) (n : Nat) (l : List (Int × Int)) : T.path ([true, true, true, false] ++ ([false, false, true] ++ [true, false])) (rdFb p (fbA x y i c o n l)) = some (fbH p i ++ ([(fbK p i == 0, false), (fbK p i == 1, false), (fbK p i == 2, true)] ++ [((n : Int) == 0, true), (bif !(false == decide (y < x)) then true else false, false)]),
    (.normal, FFb p (fbA x y (IntKind.wrap .i64 (i + 1)) c o n l))) := by cases o <;> kernel_rfl
theorem wayF3 (p : PFb) (x y i : Int) (c : List Int) (o : Option Int) (n : Nat) (l : List (Int × Int)) : T.path ([true, true, true, false] ++ ([false, false, true] ++ [false, true, true, true, false])) (rdFb p (fbA x y i c o n l)) = some (fbH p i ++ ([(fbK p i == 0, false), (fbK p i == 1, false), (fbK p i == 2, true)] ++ [((n : Int) == 0, false), (decide ((0 : Int) ≤ 0) && (decide ((0 : Int) < (n : Int)) && decide (0 + Int.toNat 0 < l.length)), true), (decide (0 + Int.toNat 0 < l.length), true), (decide ((0 : Int) ≤ 1) && (decide ((1 : Int) ≤ (n : Int)) && (decide ((n : Int) ≤ (n : Int)) && decide (n ≤ l.length))), true), (bif !(true == decide (y < x)) then true else (g2w l 0).1 != y, false)]),
    (.normal, FFb p (fbA x (IntKind.wrap .i64 (y + 1)) (IntKind.wrap .i64 (i + 1)) c o (Int.toNat (n : Int) - Int.toNat 1) ((l.drop (Int.toNat 1)).take (Int.toNat (n : Int) - Int.toNat 1))))) := by cases o <;> kernel_rfl
def fbT (p : PFb) : Int := IntKind.wrap .i64 (Int.tmod (IntKind.wrap .u64 p.age) 20)
noncomputable def fbL (p : PFb) (i : Int) (o : Option Int) (n : Nat) (l : List (Int × Int)) : AL := eL ⟨p.d, o, i, fbT p⟩ n l
noncomputable def fbQ (p : PFb) (x y i : Int) (c : List Int) (o : Option Int) (n : Nat) (l : List (Int × Int)) : PFa := ⟨p.g, p.kg, p.age, p.d, x, i, c, lastV o, (fbL p i o n l).n, (fbL p i o n l).l, fbT p, (fbL p i o n l).W, (fbL p i o n l).j, y⟩
noncomputable def fbF (p : PFb) (x y i : Int) (c : List Int) (o : Option Int) (n : Nat) (l : List (Int × Int)) : AFa := endW (nxtC okFa goFa rdFa FFa muFa (fbQ p x y i c o n l)) ⟨y, 0⟩
def fbU (g c : Bool) : Bool := bif g == true && true then c else true
theorem wayF4 (p : PFb) (x y i : Int) (c : List Int) (o : Option Int) (n : Nat) (l : List (Int × Int)) : T.path ([true, true, true, false] ++ ([false, false, false] ++ [false, true, true, true, true, false])) (rdFb p (fbA x y i c o n l)) = some (fbH p i ++ ([(fbK p i == 0, false), (fbK p i == 1, false), (fbK p i == 2, false)] ++ [((20 : Int) == 0, false), (invC okL ⟨p.d, o, i, fbT p⟩ ⟨n, l, [], 0⟩, true), (invC okFa (fbQ p x y i c o n l) ⟨y, 0⟩, true), (fbU (decide ((fbF p x y i c o n l).y < x)) (c130 c (fbF p x y i c o n l).y), true), (fbU (decide ((fbF p x y i c o n l).y < x)) (decide ((fbF p x y i c o n l).y.toNat < c.length)), true), (bif decide ((fbF p x y i c o n l).y < x) then decide (fbT p ≤ IntKind.wrap .i64 (i - cI c (fbF p x y i c o n l).y)) else false, false)]),
    (.normal, FFb p (fbA x (fbF p x y i c o n l).y (IntKind.wrap .i64 (i + 1)) c o (fbL p i o n l).n (fbL p i o n l).l))) := by cases o <;> kernel_rfl
theorem wayFx (p : PFb) (x y i : Int) (c : List Int) (o : Option Int) (n : Nat) (l : List (Int × Int)) : T.path [false] (rdFb p (fbA x y i c o n l)) = some ([(fbG p i, false)], (.exit 0, FFb p (fbA x y i c o n l))) := by cases o <;> kernel_rfl
end Go.Proofs.Ytfnadebkobfemaa.Que
