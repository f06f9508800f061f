/- Layer 5: the document's ring: its small functions. -/
import Derived.Test.YtheknddbbgjpkaaRinM
namespace Go.Proofs.Ytheknddbbgjpkaa.Rin
open Go.Eng Go.RowKit Mil
set_option linter.unusedVariables false
set_option linter.unusedSimpArgs false
abbrev KR : List K := [.int .i64, .int .i64]
def dB (w g : Int) (v : V) (nw : Int) (ov : Bool) : Blk := .cells 78 [iv w, iv g, v, iv nw, bv ov]
def dH (w g : Int) (n : Nat) (nw : Int) (ov : Bool) (l : List Rec) : Heap := [(0, dB w g (.sub 1 2 0 n) nw ov), (1, .lst true 86 KR l)]
noncomputable def nD0 : Eng.Obj := execO R0 noLoops 55
theorem nD0_ok : ObjOk Try.prog 55 nD0 := execO_plain R0_ok mixed Try.func55 (by kernel_rfl) (by kernel_rfl)
noncomputable def bkD0 : Eng.Obj := execO R0 noLoops 95
theorem bkD0_ok : ObjOk Try.prog 95 bkD0 := execO_plain R0_ok mixed Try.func95 (by kernel_rfl) (by kernel_rfl)
noncomputable def newD0 : Eng.Obj := execO R0 noLoops 47
theorem newD0_ok : ObjOk Try.prog 47 newD0 := execO_plain R0_ok mixed Try.func47 (by kernel_rfl) (by kernel_rfl)
def nnI (w g : Int) : Int := IntKind.wrap .i64 (Int.tdiv (IntKind.wrap .i64 (IntKind.wrap .i64 (w + g) - 1)) g)
def nS : List V → Heap → T V
  | [.ptr 0 0], [(0, .cells 78 [.s (.int .i64 w), .s (.int .i64 g), .sub 1 2 0 _, .s (.int .i64 _), .s (.bool _)]), (1, .lst true _ _ _)] => .ite none (g == 0) .fail (.ret (.s (.int .i64 (nnI w g))))
  | _, _ => .fail
theorem nWay (w g : Int) (n : Nat) (nw : Int) (ov c : Bool) : T.path [false] (T.anon (nD0 [.ptr 0 0] [(0, .ro 78 [iv w, iv g, .sub 1 2 0 n, iv nw, bv ov]), (1, .leaf c)])) = some ([(g == 0, false)], (iv (nnI w g), [])) := by kernel_rfl
theorem nS_ok : SeeOk Try.prog 55 nS := nD0_ok.peep nS fun args hp v h _ c => by
  unfold nS at h
  split at h
  · rename_i w g n nw ov _ _ _
    rw [T.eval] at h
    cases hg : g == 0 with
    | true => rw [hg] at h; cases h
    | false =>
      rw [hg] at h
      obtain rfl := Option.some.inj h
      rw [← T.eval_anon (t := nD0 _ _)]
      exact T.path_eval (nWay w g n nw ov (c 1)) ⟨hg, trivial⟩
  · cases h
def bkS : List V → Heap → T V
  | [.ptr 0 0, .s (.int .i64 t)], [(0, .cells 78 [.s (.int .i64 _), .s (.int .i64 g), .sub 1 2 0 _, .s (.int .i64 _), .s (.bool _)]), (1, .lst true _ _ _)] => .ite none (g == 0) .fail (.ret (.s (.int .i64 (IntKind.wrap .i64 (Int.tdiv t g)))))
  | _, _ => .fail
theorem bWay (t w g : Int) (n : Nat) (nw : Int) (ov c : Bool) : T.path [false] (T.anon (bkD0 [.ptr 0 0, iv t] [(0, .ro 78 [iv w, iv g, .sub 1 2 0 n, iv nw, bv ov]), (1, .leaf c)])) = some ([(g == 0, false)], (iv (IntKind.wrap .i64 (Int.tdiv t g)), [])) := by kernel_rfl
theorem bkS_ok : SeeOk Try.prog 95 bkS := bkD0_ok.peep bkS fun args hp v h _ c => by
  unfold bkS at h
  split at h
  · rename_i t w g n nw ov _ _ _
    rw [T.eval] at h
    cases hg : g == 0 with
    | true => rw [hg] at h; cases h
    | false =>
      rw [hg] at h
      obtain rfl := Option.some.inj h
      rw [← T.eval_anon (t := bkD0 _ _)]
      exact T.path_eval (bWay t w g n nw ov (c 1)) ⟨hg, trivial⟩
  · cases h
noncomputable def D1 : Cfg := ⟨Try.prog, lookG [(55, .see nS), (95, .see bkS)], [], 0⟩
theorem D1_ok : D1.Ok := Cfg.ok ⟨nS_ok, bkS_ok, trivial⟩ trivial
end Go.Proofs.Ytheknddbbgjpkaa.Rin
