import Derived.Test.YtndcealgackgiaaDoorHG
/- Layer 4: TextOrders: the law run. -/
namespace Go.Proofs.YtndcealgackgiaaDoor.Txt
open Go.Eng Go.RowKit
set_option linter.unusedVariables false
set_option linter.unusedSimpArgs false
set_option maxRecDepth 100000
noncomputable def OX : Cfg := ⟨Tryd.prog, lookG [(7, .val yesT), (6, .val Conf.dfltS), (5, .val parS)], [25, tellK, cutK], 8⟩
theorem OX_ok : OX.Ok := Cfg.ok ⟨tldT_ok, Conf.refdflt_ok, parS_ok, trivial⟩ ⟨⟨by kernel_rfl, by kernel_rfl⟩, ⟨by kernel_rfl, by kernel_rfl⟩, ⟨by kernel_rfl, by kernel_rfl⟩, trivial⟩
noncomputable def ordX : Eng.Spec := execS OX (rounds OX 6 1) 3
theorem ordX_ok : SpecOk Tryd.prog 3 ordX := execS_rounds OX_ok mixed 6 1 Tryd.func3 (by kernel_rfl) (by kernel_rfl)
end Go.Proofs.YtndcealgackgiaaDoor.Txt

/- Layer 4: TextOrders: ways of the law's run, by chains of told numbers. -/
namespace Go.Proofs.YtndcealgackgiaaDoor.Txt
open Go.Eng Go.RowKit
set_option linter.unusedVariables false
set_option linter.unusedSimpArgs false
set_option maxRecDepth 100000
/-- n conditions that the text itself tells -/
def skp {α : Type} : Nat → T α → T α
  | 0, t => t
  | n + 1, .ite none c x y => skp n (bif c then x else y)
  | _ + 1, _ => .fail
/-- j times not so, then so -/
def chS {α : Type} : Nat → Nat → T α → Option (List (Bool × Bool) × T α)
  | 0, n, .ite none c x _ => some ([(c, true)], skp n x)
  | j + 1, n, .ite none c _ y => match chS j n y with
    | some r => some ((c, false) :: r.1, r.2)
    | none => none
  | _, _, _ => none
def pw {α : Type} : List (Nat × Nat) → T α → Option (List (Bool × Bool) × α)
  | [], .ret a => some ([], a)
  | [], _ => none
  | x :: w, t => match chS x.1 x.2 t with
    | some r => (match pw w r.2 with
      | some q => some (r.1 ++ q.1, q.2)
      | none => none)
    | none => none
theorem skp_eval {α : Type} {v : α} : ∀ {n : Nat} {t : T α}, (skp n t).eval = some v → t.eval = some v
  | 0, t, h => h
  | n + 1, .ite none c x y, h => by
    have := skp_eval (n := n) h
    cases c
    · exact this
    · exact this
  | n + 1, .ite (some _) _ _ _, h => by cases h
  | n + 1, .ret _, h => by cases h
  | n + 1, .fail, h => by cases h
theorem chS_eval {α : Type} {v : α} : ∀ {j n : Nat} {t : T α} {r : List (Bool × Bool) × T α}, chS j n t = some r → allSay r.1 → r.2.eval = some v → t.eval = some v
  | 0, n, .ite none c x y, r, h, ha, hv => by
    simp only [chS, Option.some.injEq] at h
    subst h
    have hc : c = true := ha.1
    subst hc
    exact skp_eval (n := n) (t := x) hv
  | j + 1, n, .ite none c x y, r, h, ha, hv => by
    unfold chS at h
    split at h
    · rename_i r' hr'
      simp only [Option.some.injEq] at h
      subst h
      have hc : c = false := ha.1
      subst hc
      exact chS_eval (j := j) (t := y) hr' ha.2 hv
    · cases h
  | 0, n, .ite (some _) _ _ _, r, h, _, _ => by cases h
  | 0, n, .ret _, r, h, _, _ => by cases h
  | 0, n, .fail, r, h, _, _ => by cases h
  | j + 1, n, .ite (some _) _ _ _, r, h, _, _ => by cases h
  | j + 1, n, .ret _, r, h, _, _ => by cases h
  | j + 1, n, .fail, r, h, _, _ => by cases h
theorem allSay_split : ∀ {a b : List (Bool × Bool)}, allSay (a ++ b) → allSay a ∧ allSay b
  | [], b, h => ⟨trivial, h⟩
  | x :: a, b, h => by
    obtain ⟨h1, h2⟩ := h
    obtain ⟨h3, h4⟩ := allSay_split (a := a) h2
    exact ⟨⟨h1, h3⟩, h4⟩
theorem pw_eval {α : Type} {v : α} : ∀ {w : List (Nat × Nat)} {t : T α} {cs : List (Bool × Bool)}, pw w t = some (cs, v) → allSay cs → t.eval = some v
  | [], .ret a, cs, h, _ => by
    simp only [pw, Option.some.injEq, Prod.mk.injEq] at h
    rw [← h.2]; rfl
  | [], .ite _ _ _ _, cs, h, _ => by cases h
  | [], .fail, cs, h, _ => by cases h
  | x :: w, t, cs, h, ha => by
    unfold pw at h
    split at h
    · rename_i r hr
      split at h
      · rename_i q hq
        simp only [Option.some.injEq, Prod.mk.injEq] at h
        obtain ⟨rfl, rfl⟩ := h
        obtain ⟨h1, h2⟩ := allSay_split ha
        exact chS_eval hr h1 (pw_eval (w := w) (cs := q.1) hq h2)
      · cases h
    · cases h
/-- X is i + j, asked from i on -/
def chn (X : Int) : Nat → Nat → List (Bool × Bool)
  | i, 0 => [(decide (X = (i : Int)), true)]
  | i, j + 1 => (decide (X = (i : Int)), false) :: chn X (i + 1) j
theorem chn_say {X : Int} : ∀ {i j : Nat}, X = ((i + j : Nat) : Int) → allSay (chn X i j)
  | i, 0, h => ⟨decide_eq_true h, trivial⟩
  | i, j + 1, h => ⟨decide_eq_false (by omega), chn_say (by omega)⟩
def x0 (k : Int) : Int := Int.tmod (IntKind.wrap .u64 k) (IntKind.wrap .u64 4)
def k1 (k : Int) : Int := IntKind.wrap .u64 (Int.tdiv (IntKind.wrap .u64 k) (IntKind.wrap .u64 4))
def x1 (k : Int) : Int := Int.tmod (k1 k) (IntKind.wrap .u64 3)
def k2 (k : Int) : Int := IntKind.wrap .u64 (Int.tdiv (k1 k) (IntKind.wrap .u64 3))
def x2 (k : Int) : Int := Int.tmod (k2 k) (IntKind.wrap .u64 2)
def k3 (k : Int) : Int := IntKind.wrap .u64 (Int.tdiv (k2 k) (IntKind.wrap .u64 2))
def x3 (k : Int) : Int := Int.tmod (k3 k) (IntKind.wrap .u64 1)
def y8 (w : Int) : Int := Int.tmod (IntKind.wrap .u64 w) (IntKind.wrap .u64 8)
def z5 (a : Int) : Int := Int.tmod (IntKind.wrap .u64 a) (IntKind.wrap .u64 5)
def cnd (k a w : Int) (j0 j1 j2 jw ja : Nat) : List (Bool × Bool) := chn (x0 k) 0 j0 ++ (chn (x1 k) 0 j1 ++ (chn (x2 k) 0 j2 ++ (chn (x3 k) 0 0 ++ (chn (y8 w) 0 jw ++ (chn (z5 a) 0 ja ++ [])))))
/-- the way of these -/
noncomputable def ordW (k a w : Int) (p : List (Nat × Nat)) (jw ja : Nat) : Option (List (Bool × Bool) × V) := pw (p ++ [(jw, 1), (ja, 36)]) (skp 1 (T.anon (ordX [iv k, iv a, iv w])))
def ordE (k a w : Int) (j0 j1 j2 jw ja : Nat) : Option (List (Bool × Bool) × V) := some (cnd k a w j0 j1 j2 jw ja, .s (.bool true))
/-- how many conditions lie between the chains, in each order -/
def pre (r : Nat) : List (Nat × Nat) := ([[(0,7),(0,8),(0,8),(0,8)],[(1,9),(0,8),(0,8),(0,8)],[(2,11),(0,8),(0,8),(0,8)],[(3,13),(0,7),(0,8),(0,8)],[(0,7),(1,8),(0,8),(0,8)],[(1,9),(1,8),(0,8),(0,8)],[(2,11),(1,8),(0,8),(0,8)],[(3,13),(1,9),(0,8),(0,8)],[(0,7),(2,8),(0,8),(0,8)],[(1,9),(2,8),(0,8),(0,8)],[(2,11),(2,8),(0,8),(0,8)],[(3,13),(2,11),(0,7),(0,8)],[(0,7),(0,8),(1,8),(0,8)],[(1,9),(0,8),(1,8),(0,8)],[(2,11),(0,8),(1,8),(0,8)],[(3,13),(0,7),(1,8),(0,8)],[(0,7),(1,8),(1,8),(0,8)],[(1,9),(1,8),(1,8),(0,8)],[(2,11),(1,8),(1,8),(0,8)],[(3,13),(1,9),(1,8),(0,8)],[(0,7),(2,8),(1,8),(0,8)],[(1,9),(2,8),(1,8),(0,8)],[(2,11),(2,8),(1,8),(0,8)],[(3,13),(2,11),(1,9),(0,7)]] : List (List (Nat × Nat))).getD r []
noncomputable def tabL (k a w : Int) (r ja : Nat) : List (Option (List (Bool × Bool) × V)) := (List.range 8).map fun q => ordW k a w (pre r) q ja
noncomputable def tabR (k a w : Int) (r ja : Nat) : List (Option (List (Bool × Bool) × V)) := (List.range 8).map fun q => ordE k a w (r % 4) (r / 4 % 3) (r / 12) q ja
end Go.Proofs.YtndcealgackgiaaDoor.Txt

