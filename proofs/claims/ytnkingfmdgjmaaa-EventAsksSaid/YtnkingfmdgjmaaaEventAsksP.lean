/- The statement 'EventAsks' of the given rows: for every input the law answers true, and each argument reads behind the call as it read before. No condition but the row's own. -/
import Derived.Test.YtnkingfmdgjmaaaRows
import Derived.Test.YtnkingfmdgjmaaaEventAsksQ
import Derived.WalkKit
import Derived.ProofKit
import Derived.OpenShut
import Derived.ChangeOld
import Derived.Below
namespace Go.Proofs.Ytnkingfmdgjmaaa.eventAsks
open Go.ChangeShapes Go.WideShapes Go.ChangeAt Go.RowKit
set_option linter.unusedVariables false
theorem own : ownKnob Try.prog.godebug = none := by kernel_rfl
theorem laid : laidOutB Try.prog = true := by kernel_rfl
theorem walk (a0 : List (Int × Int × ByteArray)) (z0 : a0.length ≤ maxLen) (w0 : ∀ x ∈ a0, Law.Tx.GoodRow [.int .i64, .int .i64, .str] x) (x0 : Value) (a1 : List (Int)) (z1 : a1.length ≤ maxLen) (w1 : ∀ x ∈ a1, Law.Tx.GoodRow [.int .u8] x) (x1 : Value) (w : World) (hx0 : Eng.holdsP 0 w (.orow 34 [.int .i64, .int .i64, .str] a0) x0) (hx1 : Eng.holdsP 0 w (.orow 5 [.int .u8] a1) x1) : Calls Try.prog 5 #[x0, x1] w fun e w' => e = .returned (.bool true) ∧ Below w.heap.size w w' :=
  Evt.ask_walk a0 z0 w0 x0 a1 z1 w1 x1 w hx0 hx1
set_option maxRecDepth 100000 in
theorem lifted (os : Os) (started : os.Started) (H : Type) (enc : TypeId × Value → H) :
    ReturnsInHanded {} Try.checked os 5 .any (Rows.eventAsksSpec.pre6 enc Try.prog Try.f5 Rows.eventAsksRow.domain false) (Rows.eventAsksSpec.post enc Try.prog Try.f5 false true false false) := by
  refine returnsInHanded_of_change (C := Try.checked) own started (by kernel_rfl) Try.func5
    (ChangeSpec.witness6 (enc := enc) (C := Try.checked) false ⟨#[], #[.slice none 0 0, .slice none 0 0], []⟩ 8 (by kernel_rfl) (by kernel_rfl) (by kernel_rfl) (by kernel_rfl)) ?_
  intro W base args ds gs before hval0 hW hcnd _
  have hval : ∀ (j : Nat) t v, Try.f5.params[j]? = some t → args[j]? = some v → Value.okWide Try.prog W .any base t v := hval0
  have hW' := hW
  obtain ⟨p, q, hA0, hV, rfl, hfz, hnd⟩ := hW
  have hA : DataW.TrodAll enc Try.prog W 0 (fun _ => true) true Try.f5.params.toList args.toList ds p := hA0
  rw [Try.params5] at hA hval
  obtain ⟨v0, vs0, d0, ds0, p0, q0, hargs, rfl, rfl, h0, r0⟩ := trodAll_cons hA
  obtain ⟨v1, vs1, d1, ds1, p1, q1, rfl, rfl, rfl, h1, r1⟩ := trodAll_cons r0
  obtain ⟨rfl, rfl, rfl⟩ := trodAll_nil r1
  obtain rfl : args = #[v0, v1] := by cases args; simp_all
  obtain ⟨rfl, rfl⟩ := trodVars_none hV
  obtain ⟨a0, z0, w0, hx0⟩ := Law.Tx.open_plain (ks := [.int .i64, .int .i64, .str]) 3 Try.underlying38 (by kernel_rfl) (by kernel_rfl) (hval 0 38 v0 rfl rfl) h0
  obtain ⟨a1, z1, w1, hx1⟩ := Law.Tx.open_plain (ks := [.int .u8]) 3 Try.underlying35 (by kernel_rfl) (by kernel_rfl) (hval 1 35 v1 rfl rfl) h1
  clear hA0 hval0
  refine (walk a0 z0 w0 v0 a1 z1 w1 v1 W hx0 hx1).mono fun e W' ⟨he, hg⟩ => ?_
  subst he
  exact ⟨_, rfl, Law.law_post false true false laid (by kernel_rfl) rfl Try.underlying4 rfl hW' rfl rfl rfl hg⟩
theorem c1 : Rows.eventAsksRow.wf (OpenSpec.ofChange Rows.eventAsksSpec) = true := by kernel_rfl
theorem c3 : mapsRowed Try.prog = true := by kernel_rfl
theorem c10 : (Rows.eventAsksRow.inPlace == Try.prog.inPlace 5) = true := by kernel_rfl
theorem c11 : (Rows.eventAsksRow.unfollowed == Try.prog.unfollowed 5) = true := by kernel_rfl
theorem c12 : (Rows.eventAsksRow.recurses == Try.prog.recurses 5) = true := by kernel_rfl
theorem c13 : (Rows.eventAsksRow.named == Try.prog.varsNamed 5) = true := by kernel_rfl
theorem c23 : (Rows.eventAsksRow.plainKeys == Try.prog.plainKeys) = true := by kernel_rfl
theorem c7 : (Try.prog.stops == []) = true := by kernel_rfl
theorem c9 : (Try.prog.stopKnobs == []) = true := by kernel_rfl
theorem c24 : Try.prog.stopsHeard = true := by kernel_rfl
set_option maxRecDepth 100000 in
theorem words : Try.prog.initOrder.toList = List.map Char.ofNat [104, 97, 114, 110, 101, 115, 115, 32, 55, 48, 101, 55, 48, 51, 53, 54, 56, 100, 100, 49, 98, 53, 54, 97, 99, 48, 56, 50, 50, 97, 50, 102, 97, 101, 98, 50, 51, 102, 99, 99, 56, 56, 48, 54, 50, 50, 101, 97, 51, 50, 55, 53, 102, 48, 54, 101, 48, 99, 101, 57, 98, 54, 52, 50, 54, 50, 51, 56, 97, 97, 102, 56, 32, 99, 117, 116, 32, 97, 116, 32, 115, 112, 105, 110, 110, 97, 107, 101, 114, 47, 115, 112, 105, 110, 110, 97, 107, 101, 114, 108, 97, 119, 57, 46, 83, 116, 97, 116, 77, 97, 110, 121, 32, 115, 112, 105, 110, 110, 97, 107, 101, 114, 47, 115, 112, 105, 110, 110, 97, 107, 101, 114, 108, 97, 119, 50, 51, 46, 69, 118, 101, 110, 116, 66, 111, 117, 110, 100, 115, 32, 115, 112, 105, 110, 110, 97, 107, 101, 114, 47, 115, 112, 105, 110, 110, 97, 107, 101, 114, 108, 97, 119, 50, 51, 46, 69, 118, 101, 110, 116, 65, 115, 107, 115, 32, 115, 112, 105, 110, 110, 97, 107, 101, 114, 47, 115, 112, 105, 110, 110, 97, 107, 101, 114, 108, 97, 119, 50, 51, 46, 69, 118, 101, 110, 116, 66, 97, 99, 107, 32, 115, 112, 105, 110, 110, 97, 107, 101, 114, 47, 115, 112, 105, 110, 110, 97, 107, 101, 114, 108, 97, 119, 50, 51, 46, 69, 118, 101, 110, 116, 82, 97, 119] := by
  have e : Try.prog.initOrder = String.ofList (List.map Char.ofNat [104, 97, 114, 110, 101, 115, 115, 32, 55, 48, 101, 55, 48, 51, 53, 54, 56, 100, 100, 49, 98, 53, 54, 97, 99, 48, 56, 50, 50, 97, 50, 102, 97, 101, 98, 50, 51, 102, 99, 99, 56, 56, 48, 54, 50, 50, 101, 97, 51, 50, 55, 53, 102, 48, 54, 101, 48, 99, 101, 57, 98, 54, 52, 50, 54, 50, 51, 56, 97, 97, 102, 56, 32, 99, 117, 116, 32, 97, 116, 32, 115, 112, 105, 110, 110, 97, 107, 101, 114, 47, 115, 112, 105, 110, 110, 97, 107, 101, 114, 108, 97, 119, 57, 46, 83, 116, 97, 116, 77, 97, 110, 121, 32, 115, 112, 105, 110, 110, 97, 107, 101, 114, 47, 115, 112, 105, 110, 110, 97, 107, 101, 114, 108, 97, 119, 50, 51, 46, 69, 118, 101, 110, 116, 66, 111, 117, 110, 100, 115, 32, 115, 112, 105, 110, 110, 97, 107, 101, 114, 47, 115, 112, 105, 110, 110, 97, 107, 101, 114, 108, 97, 119, 50, 51, 46, 69, 118, 101, 110, 116, 65, 115, 107, 115, 32, 115, 112, 105, 110, 110, 97, 107, 101, 114, 47, 115, 112, 105, 110, 110, 97, 107, 101, 114, 108, 97, 119, 50, 51, 46, 69, 118, 101, 110, 116, 66, 97, 99, 107, 32, 115, 112, 105, 110, 110, 97, 107, 101, 114, 47, 115, 112, 105, 110, 110, 97, 107, 101, 114, 108, 97, 119, 50, 51, 46, 69, 118, 101, 110, 116, 82, 97, 119]) := by kernel_rfl
  rw [e]; exact String.toList_ofList
set_option maxRecDepth 100000 in
theorem ws : behindMainWord (wordsSigns Try.prog.initOrder.toList) = [List.map Char.ofNat [99, 117, 116], List.map Char.ofNat [97, 116], List.map Char.ofNat [115, 112, 105, 110, 110, 97, 107, 101, 114, 47, 115, 112, 105, 110, 110, 97, 107, 101, 114, 108, 97, 119, 57, 46, 83, 116, 97, 116, 77, 97, 110, 121], List.map Char.ofNat [115, 112, 105, 110, 110, 97, 107, 101, 114, 47, 115, 112, 105, 110, 110, 97, 107, 101, 114, 108, 97, 119, 50, 51, 46, 69, 118, 101, 110, 116, 66, 111, 117, 110, 100, 115], List.map Char.ofNat [115, 112, 105, 110, 110, 97, 107, 101, 114, 47, 115, 112, 105, 110, 110, 97, 107, 101, 114, 108, 97, 119, 50, 51, 46, 69, 118, 101, 110, 116, 65, 115, 107, 115], List.map Char.ofNat [115, 112, 105, 110, 110, 97, 107, 101, 114, 47, 115, 112, 105, 110, 110, 97, 107, 101, 114, 108, 97, 119, 50, 51, 46, 69, 118, 101, 110, 116, 66, 97, 99, 107], List.map Char.ofNat [115, 112, 105, 110, 110, 97, 107, 101, 114, 47, 115, 112, 105, 110, 110, 97, 107, 101, 114, 108, 97, 119, 50, 51, 46, 69, 118, 101, 110, 116, 82, 97, 119]] := by
  rw [words]; kernel_rfl
theorem make_of {P : Program} {r : List (List Char)} (h : behindMainWord (wordsSigns P.initOrder.toList) = List.map Char.ofNat [99, 117, 116] :: r) : P.make = some .cut := by
  unfold Program.make; rw [h]; rfl
theorem may_of {P : Program} {r : List (List Char)} (h : behindMainWord (wordsSigns P.initOrder.toList) = List.map Char.ofNat [99, 117, 116] :: r) (hs : stripLifts liftWords (List.map Char.ofNat [99, 117, 116] :: r) = ([], List.map Char.ofNat [99, 117, 116] :: r)) (h1 : P.laysLater = false) (h2 : P.bearsReflect = false) (h3 : P.doorFits [] = true) : P.mayEnter = true := by
  unfold Program.mayEnter; rw [h]; simp only [hs, h1, h2, h3]; rfl
theorem may1 : Try.prog.laysLater = false := by kernel_rfl
theorem may2 : Try.prog.bearsReflect = false := by kernel_rfl
theorem may3 : Try.prog.doorFits [] = true := by kernel_rfl
theorem c25 : Try.prog.mayEnter = true := may_of ws (by kernel_rfl) may1 may2 may3
theorem hl : Try.prog.headLifts = [] := by
  unfold Program.headLifts; rw [ws]; kernel_rfl
theorem c26 : (Rows.eventAsksRow.lifted == Try.prog.liftsFinal) = true := by
  unfold Program.liftsFinal; rw [ws, hl]; kernel_rfl
theorem c27 : (Try.prog.make == some Rows.eventAsksRow.make) = true := by
  rw [make_of ws]; kernel_rfl
theorem closed : joinedFacts Try.prog 5 Try.f5 Rows.eventAsksSpec Rows.eventAsksRow = true := by
  simp only [joinedFacts, Bool.and_eq_true]
  and_intros
  all_goals first | with_reducible exact c1 | with_reducible exact laid | with_reducible exact c3 | with_reducible exact c10 | with_reducible exact c11 | with_reducible exact c12 | with_reducible exact c13 | with_reducible exact c23 | with_reducible exact c7 | with_reducible exact c9 | with_reducible exact c24 | with_reducible exact c25 | with_reducible exact c26 | with_reducible exact c27 | kernel_rfl
theorem over : Rows.eventAsksRow.holds Try.pinned (OpenSpec.ofChange Rows.eventAsksSpec) :=
  OpenClaim.holds_of_wide 5 Try.f5 rfl rfl rfl rfl rfl rfl rfl ⟨rfl, rfl, rfl, rfl, rfl⟩ rfl rfl rfl rfl rfl (by kernel_rfl) Try.func5 closed
    (of_decide_eq_true (by kernel_rfl)) (by unfold Func.isWrapper; first | (rw [if_pos (by decide +kernel)]; kernel_rfl) | (rw [if_neg (by decide +kernel)]; exact ⟨rfl, rfl⟩))
    (fun os started H enc _ => lifted os started H enc)
theorem proved : Rows.EventAsksSaid :=
  over
end Go.Proofs.Ytnkingfmdgjmaaa.eventAsks
