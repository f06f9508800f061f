/- Layer 7: the breaker's functions, run by the machine; the few that told asks. -/
import Derived.Test.YtacdadifjgppbaaLodD
import Derived.Test.YtacdadifjgppbaaEngL
namespace Go.Proofs.Ytacdadifjgppbaa.Brk
open Go.Eng Go.RowKit Go.Flt Lod
set_option linter.unusedVariables false
set_option linter.unusedSimpArgs false
noncomputable def mayB : Eng.Spec := execS P0 noLoops 60
theorem mayB_ok : SpecOk Try.prog 60 mayB := execS_plain P0_ok mixed Try.func60 (by kernel_rfl) (by kernel_rfl)
noncomputable def B1 : Cfg := ⟨Try.prog, lookG [(60, .val mayB), (19, .val ofC), (23, .val busyC), (24, .val waitC), (20, .val moveC)], [], 0⟩
theorem B1_ok : B1.Ok := Cfg.ok ⟨mayB_ok, ofC_ok, busyC_ok, waitC_ok, moveC_ok, trivial⟩ trivial
noncomputable def newB : Eng.Obj := execO B1 noLoops 28
theorem newB_ok : ObjOk Try.prog 28 newB := execO_plain B1_ok mixed Try.func28 (by kernel_rfl) (by kernel_rfl)
noncomputable def freeB : Eng.Obj := execO B1 noLoops 33
theorem freeB_ok : ObjOk Try.prog 33 freeB := execO_plain B1_ok mixed Try.func33 (by kernel_rfl) (by kernel_rfl)
noncomputable def loadB : Eng.Obj := execO B1 noLoops 40
theorem loadB_ok : ObjOk Try.prog 40 loadB := execO_plain B1_ok mixed Try.func40 (by kernel_rfl) (by kernel_rfl)
noncomputable def quitB : Eng.Obj := execO B1 noLoops 30
theorem quitB_ok : ObjOk Try.prog 30 quitB := execO_plain B1_ok mixed Try.func30 (by kernel_rfl) (by kernel_rfl)
def inS (n : Int) : Bool := decide (0 ≤ n) && decide (n ≤ 2000)
/-- a breaker's cells -/
def okB (L D : Int) (x y : Nat) : Bool := inS L && inS D && (isW x && inS (valW x)) && (isW y && inS (valW y))
def fr (L b : Int) : Int := if 0 > L - b then 0 else L - b
def bkB (L D : Int) (x y : Nat) : Blk := .cells 76 [iv L, iv D, cx x y]
def cellsB {α : Type} (l : List V) (f : Int → Int → Nat → Nat → T α) : T α :=
  match l with
  | [.s (.int .i64 L), .s (.int .i64 D), .s (.cx .f64 x y)] => f L D x y
  | _ => .fail
theorem cellsB_some {α : Type} {l : List V} {f : Int → Int → Nat → Nat → T α} {r : α} (e : (cellsB l f).eval = some r) : ∃ L D x y, l = [iv L, iv D, cx x y] ∧ (f L D x y).eval = some r := by
  unfold cellsB at e
  split at e
  · exact ⟨_, _, _, _, rfl, e⟩
  · cases e
def nilArgs {α : Type} (l : List V) (t : T α) : T α :=
  match l with
  | [] => t
  | _ => .fail
theorem nilArgs_some {α : Type} {l : List V} {t : T α} {r : α} (e : (nilArgs l t).eval = some r) : l = [] ∧ t.eval = some r := by
  unfold nilArgs at e
  split at e
  · exact ⟨rfl, e⟩
  · cases e
def freeG : List V → List V → T V := fun l args => nilArgs args (cellsB l fun L D x y => .ite none (okB L D x y) (.ret (iv (fr L (valW x)))) .fail)
theorem free_run (L D : Int) (x y : Nat) : T.anon (freeB [.ptr 0 0] [(0, bkB L D x y)]) = T.ite none (isW x) (.ret (iv (if 0 > IntKind.wrap .i64 (L - valW x) then 0 else IntKind.wrap .i64 (L - valW x)), [(0, bkB L D x y)])) .fail := by kernel_rfl
theorem freeG_ok : GetOk Try.prog 33 76 freeG := by
  refine freeB_ok.get _ _ fun l args v hl ha h hv => ?_
  obtain ⟨rfl, h⟩ := nilArgs_some (show (nilArgs args _).eval = some v from h)
  obtain ⟨L, D, x, y, rfl, h⟩ := cellsB_some h
  obtain ⟨hk, h⟩ := guard_eval h
  obtain rfl := Option.some.inj h
  simp only [okB, inS, Bool.and_eq_true, decide_eq_true_eq] at hk
  rw [← T.eval_anon (t := freeB _ _)]
  refine Eq.trans (congrArg T.eval (free_run L D x y)) (tev_then hk.1.2.1 ?_)
  rw [wrap64_in (n := L - valW x) (by omega) (by omega)]
  rfl
def loadG : List V → List V → T V := fun l args => nilArgs args (cellsB l fun L D x y => .ret (cx x y))
theorem loadG_ok : GetOk Try.prog 40 76 loadG := by
  refine loadB_ok.get _ _ fun l args v hl ha h hv => ?_
  obtain ⟨rfl, h⟩ := nilArgs_some (show (nilArgs args _).eval = some v from h)
  obtain ⟨L, D, x, y, rfl, h⟩ := cellsB_some h
  obtain rfl := Option.some.inj h
  have e : T.anon (loadB [.ptr 0 0] [(0, bkB L D x y)]) = .ret (cx x y, [(0, bkB L D x y)]) := by kernel_rfl
  rw [← T.eval_anon (t := loadB _ _)]
  exact congrArg T.eval e
noncomputable def B2 : Cfg := ⟨Try.prog, lookG [(60, .val mayB), (19, .val ofC), (23, .val busyC), (24, .val waitC), (20, .val moveC), (33, .get 76 freeG)], [], 0⟩
theorem B2_ok : B2.Ok := Cfg.ok ⟨mayB_ok, ofC_ok, busyC_ok, waitC_ok, moveC_ok, freeG_ok, trivial⟩ trivial
noncomputable def enterB : Eng.Obj := execO B2 noLoops 29
theorem enterB_ok : ObjOk Try.prog 29 enterB := execO_plain B2_ok mixed Try.func29 (by kernel_rfl) (by kernel_rfl)
noncomputable def admitB : Eng.Obj := execO B2 noLoops 61
theorem admitB_ok : ObjOk Try.prog 61 admitB := execO_plain B2_ok mixed Try.func61 (by kernel_rfl) (by kernel_rfl)
noncomputable def B3 : Cfg := ⟨Try.prog, lookG [(60, .val mayB), (19, .val ofC), (23, .val busyC), (24, .val waitC), (20, .val moveC), (33, .get 76 freeG), (61, .obj admitB)], [], 0⟩
theorem B3_ok : B3.Ok := Cfg.ok ⟨mayB_ok, ofC_ok, busyC_ok, waitC_ok, moveC_ok, freeG_ok, admitB_ok, trivial⟩ trivial
noncomputable def leaveB : Eng.Obj := execO B3 noLoops 36
theorem leaveB_ok : ObjOk Try.prog 36 leaveB := execO_plain B3_ok mixed Try.func36 (by kernel_rfl) (by kernel_rfl)
noncomputable def limitB : Eng.Obj := execO B3 noLoops 31
theorem limitB_ok : ObjOk Try.prog 31 limitB := execO_plain B3_ok mixed Try.func31 (by kernel_rfl) (by kernel_rfl)
noncomputable def B4 : Cfg := ⟨Try.prog, lookG [(28, .obj newB.plain), (33, .obj freeB.plain), (40, .obj loadB.plain), (30, .obj quitB.plain), (29, .obj enterB.plain), (36, .obj leaveB.plain), (31, .obj limitB.plain)], [], 0⟩
theorem B4_ok : B4.Ok := Cfg.ok ⟨newB_ok.plain, freeB_ok.plain, loadB_ok.plain, quitB_ok.plain, enterB_ok.plain, leaveB_ok.plain, limitB_ok.plain, trivial⟩ trivial
end Go.Proofs.Ytacdadifjgppbaa.Brk
