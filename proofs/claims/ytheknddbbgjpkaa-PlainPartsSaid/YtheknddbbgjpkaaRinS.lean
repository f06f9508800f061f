/- Layer 5: the ring's small functions, run by the machine. -/
import Derived.Test.YtheknddbbgjpkaaEngV
import Derived.Test.YtheknddbbgjpkaaStaA
namespace Go.Proofs.Ytheknddbbgjpkaa.Rin
open Go.Eng Go.RowKit Mil
set_option linter.unusedVariables false
set_option linter.unusedSimpArgs false
theorem mixed : Try.prog.follows .mixedOrders = true := Checked.mixed Try.checked
abbrev KB : List K := [.int .i64, .int .i64, .bool]
abbrev RB := Int × Int × Bool
abbrev OB := Option (Row KB)
def ringB (w g : Int) (n : Nat) (nw : Int) (ov : Bool) : Blk := .cells 138 [iv w, iv g, .sub 1 1 0 n, iv nw, bv ov]
def bxB (l : List OB) (g : List Nat) (x : Option (Nat × Nat)) : Blk := .bx 20 141 145 KB l g x
def ringH (w g : Int) (n : Nat) (nw : Int) (ov : Bool) (l : List OB) : Heap := [(0, ringB w g n nw ov), (1, bxB l [] none)]
noncomputable def R0 : Cfg := ⟨Try.prog, lookG [], [], 0⟩
theorem R0_ok : R0.Ok := Cfg.ok trivial trivial
noncomputable def madeR0 : Eng.Obj := execO R0 noLoops 90
theorem madeR0_ok : ObjOk Try.prog 90 madeR0 := execO_plain R0_ok mixed Try.func90 (by kernel_rfl) (by kernel_rfl)
noncomputable def sizeR0 : Eng.Obj := execO R0 noLoops 92
theorem sizeR0_ok : ObjOk Try.prog 92 sizeR0 := execO_plain R0_ok mixed Try.func92 (by kernel_rfl) (by kernel_rfl)
noncomputable def bucketsR : Eng.Spec := execS R0 noLoops 89
theorem bucketsR_ok : SpecOk Try.prog 89 bucketsR := execS_plain R0_ok mixed Try.func89 (by kernel_rfl) (by kernel_rfl)
noncomputable def R1 : Cfg := ⟨Try.prog, lookG [(99, .val Sta.addS)], [], 0⟩
theorem R1_ok : R1.Ok := Cfg.ok ⟨Sta.add_ok, trivial⟩ trivial
noncomputable def joinR0 : Eng.Obj := execO R1 noLoops 94
theorem joinR0_ok : ObjOk Try.prog 94 joinR0 := execO_plain R1_ok mixed Try.func94 (by kernel_rfl) (by kernel_rfl)
noncomputable def EB : List TypeId := [boxK, 141]
theorem EB_ok : EOk Try.prog EB := ⟨⟨by kernel_rfl, by kernel_rfl⟩, ⟨by kernel_rfl, by kernel_rfl⟩, trivial⟩
noncomputable def R2 : Cfg := ⟨Try.prog, lookG [(89, .val bucketsR)], EB, 0⟩
theorem R2_ok : R2.Ok := Cfg.ok ⟨bucketsR_ok, trivial⟩ EB_ok
noncomputable def newR0 : Eng.Obj := execO R2 noLoops 43
theorem newR0_ok : ObjOk Try.prog 43 newR0 := execO_plain R2_ok mixed Try.func43 (by kernel_rfl) (by kernel_rfl)
/-- (of a ring's struct) how many cells it has -/
def sizeS : List V → Heap → T V
  | [.ptr 0 0], [(0, .cells 138 [_, _, .sub 1 1 0 n, _, _]), (1, .bx _ _ _ _ _ _ _)] => .ret (.s (.int .i64 n))
  | _, _ => .fail
theorem sizeS_ok : SeeOk Try.prog 92 sizeS := sizeR0_ok.peep sizeS fun args hp v h _ c => by
  unfold sizeS at h
  split at h
  · obtain rfl := Option.some.inj h; kernel_rfl
  · cases h
def madeS : List V → Heap → T V
  | [.ptr 0 0], [(0, .cells 138 [_, _, .sub 1 1 0 n, _, _]), (1, .bx _ _ _ _ _ _ _)] => .ret (.s (.bool (decide (0 < (n : Int)))))
  | [.ptr 0 0], [(0, .ro 138 [.s (.int .i64 _), .s (.int .i64 _), .sub 1 1 0 n, .s (.int .i64 _), .s (.bool _)]), (1, .leaf _)] => .ret (.s (.bool (decide (0 < (n : Int)))))
  | [.nilPtr], [] => .ret .ff
  | _, _ => .fail
theorem madeS_ok : SeeOk Try.prog 90 madeS := madeR0_ok.peep madeS fun args hp v h _ c => by
  unfold madeS at h
  split at h
  · obtain rfl := Option.some.inj h; kernel_rfl
  · obtain rfl := Option.some.inj h; kernel_rfl
  · obtain rfl := Option.some.inj h; kernel_rfl
  · cases h
noncomputable def R3 : Cfg := ⟨Try.prog, lookG [(92, .see sizeS)], [], 0⟩
theorem R3_ok : R3.Ok := Cfg.ok ⟨sizeS_ok, trivial⟩ trivial
noncomputable def bucketR0 : Eng.Obj := execO R3 noLoops 93
theorem bucketR0_ok : ObjOk Try.prog 93 bucketR0 := execO_plain R3_ok mixed Try.func93 (by kernel_rfl) (by kernel_rfl)
end Go.Proofs.Ytheknddbbgjpkaa.Rin
