/- The statement 'TopQueue' of the given rows: for every input the law answers true, and each argument reads behind the call as it read before. No condition but the row's own. -/
import Derived.Test.YtgpgppncblldiaaGreatDoorRows
import Derived.Test.YtgpgppncblldiaaGreatDoorTopQueueQ
import Derived.Test.YtgpgppncblldiaaGreatDoorTie
import Derived.Test.YtgpgppncblldiaaGreatDoorCards
import Derived.SevenTiedAt
import Derived.WalkKit
import Derived.ProofKit
import Derived.OpenShut
import Derived.ChangeOld
import Derived.Below
namespace Go.Proofs.YtgpgppncblldiaaGreatDoor.topQueue
open Go.ChangeShapes Go.WideShapes Go.ChangeAt Go.RowKit
set_option linter.unusedVariables false
theorem own : ownKnob Tryz.prog.godebug = none := by kernel_rfl
theorem laid : laidOutB Tryz.prog = true := by kernel_rfl
theorem walk (a0 : Int) (w0 : (Lit.int .i64 a0).wf = true) (a1 : Int) (w1 : (Lit.int .i64 a1).wf = true) (a2 : Int) (w2 : (Lit.int .i64 a2).wf = true) (w : World) (hG : Eng.Glob w)  : Calls Tryz.prog 6 #[.int .i64 a0, .int .i64 a1, .int .i64 a2] w fun e w' => e = .returned (.bool true) ∧ Below w.heap.size w w' :=
  Sys.que_walk a0 w0 a1 w1 a2 w2 w hG 
set_option maxRecDepth 100000 in
theorem lifted (os : Os) (started : os.Started) (H : Type) (enc : TypeId × Value → H) :
    ReturnsInHanded {} Tryz.checked os 6 .any (fun w args => (Rows.topQueueSpec.pre enc Tryz.prog Tryz.f6 Rows.topQueueRow.domain false w args ∧ laidMetH Tryz.prog Rows.topQueueRow.laid w) ∧ sizedMet enc Tryz.prog Tryz.f6 (OpenSpec.ofChange Rows.topQueueSpec) false w args) (Rows.topQueueSpec.post enc Tryz.prog Tryz.f6 false true false false) := by
  refine Law.Gl.of_change_and (C := Tryz.checked) (X := fun w _ => laidMetH Tryz.prog Rows.topQueueRow.laid w) (fun _ _ _ hh h => h.of_heap hh) own started (by kernel_rfl) Tryz.func6
    (ChangeSpec.witness_shaped (enc := enc) (C := Tryz.checked) (os := os) (X := fun w _ => laidMetH Tryz.prog Rows.topQueueRow.laid w) false (World.laidAll Tryz.prog os Rows.topQueueRow.laid) #[.int .i64 0, .int .i64 0, .int .i64 0] 8 (World.laidAll_os _ _ _)
      (World.shaped_of_ZipB (by kernel_rfl) (by kernel_rfl)) (by kernel_rfl) (by kernel_rfl) (by kernel_rfl)
      (by rw [MakeChecks.laidMetH_plain _ _ _ (by kernel_rfl)]; exact laidMet_laidAll _ (by kernel_rfl) (by kernel_rfl))) ?_
  intro W base args ds gs before hval0 hW hL hsh
  have hval : ∀ (j : Nat) t v, Tryz.f6.params[j]? = some t → args[j]? = some v → Value.okWide Tryz.prog W .any base t v := hval0
  have hW' := hW
  obtain ⟨p, q, hA0, hV, rfl, hfz, hnd⟩ := hW
  have hA : DataW.TrodAll enc Tryz.prog W 0 (fun _ => true) true Tryz.f6.params.toList args.toList ds p := hA0
  rw [Tryz.params6] at hA hval
  have hG : Eng.Glob W := Law.Gl.glob hL hsh
  obtain ⟨v0, vs0, d0, ds0, p0, q0, hargs, rfl, rfl, h0, r0⟩ := trodAll_cons hA
  obtain ⟨v1, vs1, d1, ds1, p1, q1, rfl, rfl, rfl, h1, r1⟩ := trodAll_cons r0
  obtain ⟨v2, vs2, d2, ds2, p2, q2, rfl, rfl, rfl, h2, r2⟩ := trodAll_cons r1
  obtain ⟨rfl, rfl, rfl⟩ := trodAll_nil r2
  obtain rfl : args = #[v0, v1, v2] := by cases args; simp_all
  obtain ⟨rfl, rfl⟩ := trodVars_none hV
  obtain ⟨a0, rfl, rfl, rfl, w0⟩ := open_int Tryz.underlying3 (hval 0 3 v0 rfl rfl) h0
  obtain ⟨a1, rfl, rfl, rfl, w1⟩ := open_int Tryz.underlying3 (hval 1 3 v1 rfl rfl) h1
  obtain ⟨a2, rfl, rfl, rfl, w2⟩ := open_int Tryz.underlying3 (hval 2 3 v2 rfl rfl) h2
  clear hA0 hval0
  refine (walk a0 w0 a1 w1 a2 w2 W hG ).mono fun e W' ⟨he, hg⟩ => ?_
  subst he
  exact ⟨_, rfl, Law.law_post false true false laid (by kernel_rfl) rfl Tryz.underlying4 rfl hW' rfl rfl rfl hg⟩
theorem c1 : Rows.topQueueRow.wf (OpenSpec.ofChange Rows.topQueueSpec) = true := by kernel_rfl
theorem c3 : mapsRowed Tryz.prog = true := by kernel_rfl
theorem c10 : (Rows.topQueueRow.inPlace == Tryz.prog.inPlace 6) = true := by kernel_rfl
theorem c11 : (Rows.topQueueRow.unfollowed == Tryz.prog.unfollowed 6) = true := by kernel_rfl
theorem c12 : (Rows.topQueueRow.recurses == Tryz.prog.recurses 6) = true := by kernel_rfl
theorem c13 : (Rows.topQueueRow.named == Tryz.prog.varsNamed 6) = true := by kernel_rfl
theorem c23 : (Rows.topQueueRow.plainKeys == Tryz.prog.plainKeys) = true := by kernel_rfl
theorem c7 : (Tryz.prog.stops == []) = true := by kernel_rfl
theorem c9 : (Tryz.prog.stopKnobs == []) = true := by kernel_rfl
theorem c24 : Tryz.prog.stopsHeard = true := by kernel_rfl
set_option maxRecDepth 100000 in
theorem words : Tryz.prog.initOrder.toList = List.map Char.ofNat [104, 97, 114, 110, 101, 115, 115, 32, 49, 56, 52, 98, 48, 51, 101, 53, 57, 57, 49, 52, 98, 97, 100, 101, 102, 51, 51, 54, 48, 56, 48, 97, 53, 50, 53, 56, 99, 99, 49, 55, 48, 55, 53, 50, 57, 57, 50, 100, 102, 97, 99, 49, 49, 101, 55, 51, 49, 49, 52, 98, 49, 55, 55, 97, 100, 98, 55, 54, 101, 101, 54, 48, 32, 99, 117, 116, 32, 97, 116, 32, 115, 112, 105, 110, 110, 97, 107, 101, 114, 47, 115, 112, 105, 110, 110, 97, 107, 101, 114, 116, 111, 112, 46, 84, 111, 112, 65, 108, 119, 97, 121, 115, 32, 115, 112, 105, 110, 110, 97, 107, 101, 114, 47, 115, 112, 105, 110, 110, 97, 107, 101, 114, 116, 111, 112, 46, 84, 111, 112, 71, 114, 97, 99, 101, 32, 115, 112, 105, 110, 110, 97, 107, 101, 114, 47, 115, 112, 105, 110, 110, 97, 107, 101, 114, 116, 111, 112, 46, 84, 111, 112, 90, 101, 114, 111, 32, 115, 112, 105, 110, 110, 97, 107, 101, 114, 47, 115, 112, 105, 110, 110, 97, 107, 101, 114, 116, 111, 112, 46, 84, 111, 112, 81, 117, 101, 117, 101] := by
  have e : Tryz.prog.initOrder = String.ofList (List.map Char.ofNat [104, 97, 114, 110, 101, 115, 115, 32, 49, 56, 52, 98, 48, 51, 101, 53, 57, 57, 49, 52, 98, 97, 100, 101, 102, 51, 51, 54, 48, 56, 48, 97, 53, 50, 53, 56, 99, 99, 49, 55, 48, 55, 53, 50, 57, 57, 50, 100, 102, 97, 99, 49, 49, 101, 55, 51, 49, 49, 52, 98, 49, 55, 55, 97, 100, 98, 55, 54, 101, 101, 54, 48, 32, 99, 117, 116, 32, 97, 116, 32, 115, 112, 105, 110, 110, 97, 107, 101, 114, 47, 115, 112, 105, 110, 110, 97, 107, 101, 114, 116, 111, 112, 46, 84, 111, 112, 65, 108, 119, 97, 121, 115, 32, 115, 112, 105, 110, 110, 97, 107, 101, 114, 47, 115, 112, 105, 110, 110, 97, 107, 101, 114, 116, 111, 112, 46, 84, 111, 112, 71, 114, 97, 99, 101, 32, 115, 112, 105, 110, 110, 97, 107, 101, 114, 47, 115, 112, 105, 110, 110, 97, 107, 101, 114, 116, 111, 112, 46, 84, 111, 112, 90, 101, 114, 111, 32, 115, 112, 105, 110, 110, 97, 107, 101, 114, 47, 115, 112, 105, 110, 110, 97, 107, 101, 114, 116, 111, 112, 46, 84, 111, 112, 81, 117, 101, 117, 101]) := by kernel_rfl
  rw [e]; exact String.toList_ofList
set_option maxRecDepth 100000 in
theorem ws : behindMainWord (wordsSigns Tryz.prog.initOrder.toList) = [List.map Char.ofNat [99, 117, 116], List.map Char.ofNat [97, 116], List.map Char.ofNat [115, 112, 105, 110, 110, 97, 107, 101, 114, 47, 115, 112, 105, 110, 110, 97, 107, 101, 114, 116, 111, 112, 46, 84, 111, 112, 65, 108, 119, 97, 121, 115], List.map Char.ofNat [115, 112, 105, 110, 110, 97, 107, 101, 114, 47, 115, 112, 105, 110, 110, 97, 107, 101, 114, 116, 111, 112, 46, 84, 111, 112, 71, 114, 97, 99, 101], List.map Char.ofNat [115, 112, 105, 110, 110, 97, 107, 101, 114, 47, 115, 112, 105, 110, 110, 97, 107, 101, 114, 116, 111, 112, 46, 84, 111, 112, 90, 101, 114, 111], List.map Char.ofNat [115, 112, 105, 110, 110, 97, 107, 101, 114, 47, 115, 112, 105, 110, 110, 97, 107, 101, 114, 116, 111, 112, 46, 84, 111, 112, 81, 117, 101, 117, 101]] := by
  rw [words]; kernel_rfl
theorem make_of {P : Program} {r : List (List Char)} (h : behindMainWord (wordsSigns P.initOrder.toList) = List.map Char.ofNat [99, 117, 116] :: r) : P.make = some .cut := by
  unfold Program.make; rw [h]; rfl
theorem may_of {P : Program} {r : List (List Char)} (h : behindMainWord (wordsSigns P.initOrder.toList) = List.map Char.ofNat [99, 117, 116] :: r) (hs : stripLifts liftWords (List.map Char.ofNat [99, 117, 116] :: r) = ([], List.map Char.ofNat [99, 117, 116] :: r)) (h1 : P.laysLater = false) (h2 : P.bearsReflect = false) (h3 : P.doorFits [] = true) : P.mayEnter = true := by
  unfold Program.mayEnter; rw [h]; simp only [hs, h1, h2, h3]; rfl
theorem may1 : Tryz.prog.laysLater = false := by kernel_rfl
theorem may2 : Tryz.prog.bearsReflect = false := by kernel_rfl
theorem may3 : Tryz.prog.doorFits [] = true := by kernel_rfl
theorem c25 : Tryz.prog.mayEnter = true := may_of ws (by kernel_rfl) may1 may2 may3
theorem hl : Tryz.prog.headLifts = [] := by
  unfold Program.headLifts; rw [ws]; kernel_rfl
theorem c26 : (Rows.topQueueRow.lifted == Tryz.prog.liftsFinal) = true := by
  unfold Program.liftsFinal; rw [ws, hl]; kernel_rfl
theorem c27 : (Tryz.prog.make == some Rows.topQueueRow.make) = true := by
  rw [make_of ws]; kernel_rfl
theorem closed : joinedFacts Tryz.prog 6 Tryz.f6 Rows.topQueueSpec Rows.topQueueRow = true := by
  simp only [joinedFacts, Bool.and_eq_true]
  and_intros
  all_goals first | with_reducible exact c1 | with_reducible exact laid | with_reducible exact c3 | with_reducible exact c10 | with_reducible exact c11 | with_reducible exact c12 | with_reducible exact c13 | with_reducible exact c23 | with_reducible exact c7 | with_reducible exact c9 | with_reducible exact c24 | with_reducible exact c25 | with_reducible exact c26 | with_reducible exact c27 | kernel_rfl
theorem over : Rows.topQueueRow.holds Tryz.pinned (OpenSpec.ofChange Rows.topQueueSpec) :=
  OpenClaim.holds_of_wide 6 Tryz.f6 rfl rfl rfl rfl rfl rfl rfl ⟨rfl, rfl, rfl, rfl, rfl⟩ rfl rfl rfl rfl rfl (by kernel_rfl) Tryz.func6 closed
    (of_decide_eq_true (by kernel_rfl)) (by unfold Func.isWrapper; first | (rw [if_pos (by decide +kernel)]; kernel_rfl) | (rw [if_neg (by decide +kernel)]; exact ⟨rfl, rfl⟩))
    (fun os started H enc _ => lifted os started H enc)
theorem proved : Rows.TopQueueCardSaid :=
  Claim7.holds_tied_plain_at .later [] [.data, .pinned] true (true, "184b03e59914badef336080a5258cc170752992dfac11e73114b177adb76ee60") true over (fun _ h => by cases h) (by kernel_rfl) (fun _ h => by cases h) topQueue_row_tie rfl ⟨rfl, rfl⟩ (by kernel_rfl) rfl
    (fun f fn hf hfn => by
      obtain rfl : f = 6 := Option.some.inj ((show Tryz.prog.funcNamed "spinnaker/spinnakertop.TopQueue" = some 6 by kernel_rfl).symm.trans hf) |>.symm
      obtain rfl : fn = Tryz.f6 := (Option.some.inj (Tryz.func6.symm.trans hfn)).symm
      exact ⟨by kernel_rfl, fun j t ht => by
        rw [Tryz.params6] at ht
        have hm : t ∈ [3, 3, 3] := by simpa using Array.mem_of_getElem? ht
        have hall : ([3, 3, 3].all fun u => !Tryz.prog.wantsStandIn u) = true := by kernel_rfl
        exact (show Tryz.prog.wantsStandIn t = false by simpa using List.all_eq_true.1 hall t hm)⟩)
    (by kernel_rfl)
end Go.Proofs.YtgpgppncblldiaaGreatDoor.topQueue
