/- Layer 7: the document's own breaker, run by the machine. -/
import Derived.Test.YtacdadifjgppbaaBrkY
namespace Go.Proofs.Ytacdadifjgppbaa.Brk
open Go.Eng Go.RowKit Go.Flt Lod
set_option linter.unusedVariables false
set_option linter.unusedSimpArgs false
noncomputable def R0 : Cfg := ⟨Try.prog, lookG [], [], 0⟩
theorem R0_ok : R0.Ok := Cfg.ok trivial trivial
noncomputable def rNew : Eng.Obj := execO R0 noLoops 34
theorem rNew_ok : ObjOk Try.prog 34 rNew := execO_plain R0_ok mixed Try.func34 (by kernel_rfl) (by kernel_rfl)
noncomputable def rEnter : Eng.Obj := execO R0 noLoops 35
theorem rEnter_ok : ObjOk Try.prog 35 rEnter := execO_plain R0_ok mixed Try.func35 (by kernel_rfl) (by kernel_rfl)
noncomputable def rLeave : Eng.Obj := execO R0 noLoops 37
theorem rLeave_ok : ObjOk Try.prog 37 rLeave := execO_plain R0_ok mixed Try.func37 (by kernel_rfl) (by kernel_rfl)
noncomputable def rQuit : Eng.Obj := execO R0 noLoops 38
theorem rQuit_ok : ObjOk Try.prog 38 rQuit := execO_plain R0_ok mixed Try.func38 (by kernel_rfl) (by kernel_rfl)
noncomputable def rLimit : Eng.Obj := execO R0 noLoops 39
theorem rLimit_ok : ObjOk Try.prog 39 rLimit := execO_plain R0_ok mixed Try.func39 (by kernel_rfl) (by kernel_rfl)
noncomputable def rFree : Eng.Obj := execO R0 noLoops 42
theorem rFree_ok : ObjOk Try.prog 42 rFree := execO_plain R0_ok mixed Try.func42 (by kernel_rfl) (by kernel_rfl)
noncomputable def cutR : Eng.Spec := execS R0 noLoops 62
theorem cutR_ok : SpecOk Try.prog 62 cutR := execS_plain R0_ok mixed Try.func62 (by kernel_rfl) (by kernel_rfl)
noncomputable def R1 : Cfg := ⟨Try.prog, lookG [(62, .val cutR)], [], 0⟩
theorem R1_ok : R1.Ok := Cfg.ok ⟨cutR_ok, trivial⟩ trivial
noncomputable def ofR : Eng.Spec := execS R1 noLoops 41
theorem ofR_ok : SpecOk Try.prog 41 ofR := execS_plain R1_ok mixed Try.func41 (by kernel_rfl) (by kernel_rfl)
def rbB (L D b w : Int) : Blk := .cells 50 [iv L, iv D, iv b, iv w]
def ofRC : Eng.Spec
  | [.s (.int .i64 a), .s (.int .i64 b)] => .ret (cx (fW a) (fW b))
  | _ => .fail
theorem ofRC_ok : SpecOk Try.prog 41 ofRC := by
  refine ofR_ok.of_den fun args v hfl h => ?_
  clear hfl
  unfold ofRC at h
  split at h
  · rename_i a b
    obtain rfl := Option.some.inj h
    have e : T.anon (ofR [iv a, iv b]) = .ret (cx (floatOfInt .f64 (wi a)) (floatOfInt .f64 (wi b))) := by kernel_rfl
    refine ⟨cx (fW a) (fW b), ?_, ⟨rfl, rfl⟩, rfl⟩
    rw [← T.eval_anon]
    refine Eq.trans (congrArg T.eval e) ?_
    rw [floatOf_wi, floatOf_wi]; rfl
  · cases h
def upw (a : Int) : Int := if 0 > IntKind.wrap .i64 a then 0 else IntKind.wrap .i64 a
def cells4 {α : Type} (l : List V) (f : Int → Int → Int → Int → T α) : T α :=
  match l with
  | [.s (.int .i64 L), .s (.int .i64 D), .s (.int .i64 b), .s (.int .i64 w)] => f L D b w
  | _ => .fail
theorem cells4_some {α : Type} {l : List V} {f : Int → Int → Int → Int → T α} {r : α} (e : (cells4 l f).eval = some r) : ∃ L D x y, l = [iv L, iv D, iv x, iv y] ∧ (f L D x y).eval = some r := by
  unfold cells4 at e
  split at e
  · exact ⟨_, _, _, _, rfl, e⟩
  · cases e
def rFreeG : List V → List V → T V := fun l args => nilArgs args (cells4 l fun L D b w => .ret (iv (upw (L - b))))
theorem rFreeG_ok : GetOk Try.prog 42 50 rFreeG := by
  refine rFree_ok.get _ _ fun l args v hl ha h hv => ?_
  obtain ⟨rfl, h⟩ := nilArgs_some (show (nilArgs args _).eval = some v from h)
  obtain ⟨L, D, x, y, rfl, h⟩ := cells4_some h
  obtain rfl := Option.some.inj h
  have e : T.anon (rFree [.ptr 0 0] [(0, rbB L D x y)]) = .ret (iv (upw (L - x)), [(0, rbB L D x y)]) := by kernel_rfl
  rw [← T.eval_anon (t := rFree _ _)]
  exact congrArg T.eval e
noncomputable def B7 : Cfg := ⟨Try.prog, lookG [(32, .val yesD), (28, .obj newB), (33, .get 76 freeG), (40, .get 76 loadG), (30, .obj quitC), (29, .obj enterC), (36, .obj leaveC), (31, .obj limitC),
  (34, .obj rNew), (35, .obj rEnter), (37, .obj rLeave), (38, .obj rQuit), (39, .obj rLimit), (42, .get 50 rFreeG), (41, .val ofRC)], [], 0⟩
theorem B7_ok : B7.Ok := Cfg.ok ⟨told_ok, newB_ok, freeG_ok, loadG_ok, quitC_ok, enterC_ok, leaveC_ok, limitC_ok, rNew_ok, rEnter_ok, rLeave_ok, rQuit_ok, rLimit_ok, rFreeG_ok, ofRC_ok, trivial⟩ trivial
noncomputable def bp1 : Code := loopAt Try.prog 7 0
abbrev SP : List (Nat × Src) := [(0, .same), (1, .same), (9, .same)]
structure PP where (g : List (Int × Int)) (k : Nat)
structure AP where (L D : Int) (x y : Nat) (M Q b w i : Int)
def vsP (p : PP) (a : AP) : List V := [.sub 0 2 0 p.k, .ptr 1 0, .ptr 9 0, iv a.i]
def bsP (p : PP) (a : AP) : List Blk := [opB p.g, bkB a.L a.D a.x a.y, rbB a.M a.Q a.b a.w]
noncomputable def FP (p : PP) (a : AP) : St := mkSt [2,7,8,9] [0,1,9] 1000 152 (vsP p a) (bsP p a)
end Go.Proofs.Ytacdadifjgppbaa.Brk
