/- The statement 'TopServes' of the given rows: for every input the law answers true, and each argument reads behind the call as it read before. No condition but the row's own. -/
import Derived.Test.YtefkegpbpaoadaaGreatDoorRows
import Derived.Test.YtefkegpbpaoadaaGreatDoorTopServesQ
import Derived.Test.YtefkegpbpaoadaaGreatDoorTie
import Derived.Test.YtefkegpbpaoadaaGreatDoorCards
import Derived.SevenTiedAt
import Derived.WalkKit
import Derived.ProofKit
import Derived.OpenShut
import Derived.ChangeOld
import Derived.Below
namespace Go.Proofs.YtefkegpbpaoadaaGreatDoor.topServes
open Go.ChangeShapes Go.WideShapes Go.ChangeAt Go.RowKit
set_option linter.unusedVariables false
theorem own : ownKnob Tryz.prog.godebug = none := by kernel_rfl
theorem laid : laidOutB Tryz.prog = true := by kernel_rfl
theorem walk (a0 : Conf.Cf) (w0 : a0.Ok) (a1 : List (Int × Int × ByteArray)) (z1 : a1.length ≤ maxLen) (w1 : ∀ x ∈ a1, Law.Tx.GoodRow [.int .i64, .int .i64, .str] x) (x1 : Value) (w : World) (hG : Eng.Glob w) (hx1 : Eng.holdsP 0 w (.orow 32 [.int .i64, .int .i64, .str] a1) x1) : Calls Tryz.prog 3 #[.agg #[.int .i64 a0.target, .int .i64 a0.util, .int .i64 a0.stable, .int .i64 a0.panic, .int .i64 a0.grain, .int .i64 a0.threshold, .int .i64 a0.up, .int .i64 a0.down, .int .i64 a0.min, .int .i64 a0.max, .int .i64 a0.initial, .int .i64 a0.grace, .int .i64 a0.delay, .int .i64 a0.burst, .int .i64 a0.limit, .int .i64 a0.queue, .int .i64 a0.timeout, .int .i64 a0.ready, .int .i64 a0.subset, .int .i64 a0.sample], x1] w fun e w' => e = .returned (.bool true) ∧ Below w.heap.size w w' :=
  Sys.ser_walk a0 w0 a1 z1 w1 x1 w hG hx1
set_option maxRecDepth 100000 in
theorem lifted (os : Os) (started : os.Started) (H : Type) (enc : TypeId × Value → H) :
    ReturnsInHanded {} Tryz.checked os 3 .any (fun w args => (Rows.topServesSpec.pre enc Tryz.prog Tryz.f3 Rows.topServesRow.domain false w args ∧ laidMetH Tryz.prog Rows.topServesRow.laid w) ∧ sizedMet enc Tryz.prog Tryz.f3 (OpenSpec.ofChange Rows.topServesSpec) false w args) (Rows.topServesSpec.post enc Tryz.prog Tryz.f3 false true false false) := by
  refine Law.Gl.of_change_and (C := Tryz.checked) (X := fun w _ => laidMetH Tryz.prog Rows.topServesRow.laid w) (fun _ _ _ hh h => h.of_heap hh) own started (by kernel_rfl) Tryz.func3
    (ChangeSpec.witness_shaped (enc := enc) (C := Tryz.checked) (os := os) (X := fun w _ => laidMetH Tryz.prog Rows.topServesRow.laid w) false (World.laidAll Tryz.prog os Rows.topServesRow.laid) #[.agg #[.int .i64 0, .int .i64 0, .int .i64 0, .int .i64 0, .int .i64 0, .int .i64 0, .int .i64 0, .int .i64 0, .int .i64 0, .int .i64 0, .int .i64 0, .int .i64 0, .int .i64 0, .int .i64 0, .int .i64 0, .int .i64 0, .int .i64 0, .int .i64 0, .int .i64 0, .int .i64 0], .slice none 0 0] 8 (World.laidAll_os _ _ _)
      (World.shaped_of_ZipB (by kernel_rfl) (by kernel_rfl)) (by kernel_rfl) (by kernel_rfl) (by kernel_rfl)
      (by rw [MakeChecks.laidMetH_plain _ _ _ (by kernel_rfl)]; exact laidMet_laidAll _ (by kernel_rfl) (by kernel_rfl))) ?_
  intro W base args ds gs before hval0 hW hL hsh
  have hval : ∀ (j : Nat) t v, Tryz.f3.params[j]? = some t → args[j]? = some v → Value.okWide Tryz.prog W .any base t v := hval0
  have hW' := hW
  obtain ⟨p, q, hA0, hV, rfl, hfz, hnd⟩ := hW
  have hA : DataW.TrodAll enc Tryz.prog W 0 (fun _ => true) true Tryz.f3.params.toList args.toList ds p := hA0
  rw [Tryz.params3] at hA hval
  have hG : Eng.Glob W := Law.Gl.glob hL hsh
  obtain ⟨v0, vs0, d0, ds0, p0, q0, hargs, rfl, rfl, h0, r0⟩ := trodAll_cons hA
  obtain ⟨v1, vs1, d1, ds1, p1, q1, rfl, rfl, rfl, h1, r1⟩ := trodAll_cons r0
  obtain ⟨rfl, rfl, rfl⟩ := trodAll_nil r1
  obtain rfl : args = #[v0, v1] := by cases args; simp_all
  obtain ⟨rfl, rfl⟩ := trodVars_none hV
  obtain ⟨a0, rfl, w0⟩ := Law.open_conf Tryz.underlying23 (by kernel_rfl) (by kernel_rfl) (by kernel_rfl) (by kernel_rfl) (hval 0 23 v0 rfl rfl) h0
  obtain ⟨a1, z1, w1, hx1⟩ := Law.Tx.open_plain (ks := [.int .i64, .int .i64, .str]) 3 Tryz.underlying24 (by kernel_rfl) (by kernel_rfl) (hval 1 24 v1 rfl rfl) h1
  clear hA0 hval0
  refine (walk a0 w0 a1 z1 w1 v1 W hG hx1).mono fun e W' ⟨he, hg⟩ => ?_
  subst he
  exact ⟨_, rfl, Law.law_post false true false laid (by kernel_rfl) rfl Tryz.underlying4 rfl hW' rfl rfl rfl hg⟩
theorem c1 : Rows.topServesRow.wf (OpenSpec.ofChange Rows.topServesSpec) = true := by kernel_rfl
theorem c3 : mapsRowed Tryz.prog = true := by kernel_rfl
theorem c10 : (Rows.topServesRow.inPlace == Tryz.prog.inPlace 3) = true := by kernel_rfl
theorem c11 : (Rows.topServesRow.unfollowed == Tryz.prog.unfollowed 3) = true := by kernel_rfl
theorem c12 : (Rows.topServesRow.recurses == Tryz.prog.recurses 3) = true := by kernel_rfl
theorem c13 : (Rows.topServesRow.named == Tryz.prog.varsNamed 3) = true := by kernel_rfl
theorem c23 : (Rows.topServesRow.plainKeys == Tryz.prog.plainKeys) = true := by kernel_rfl
theorem c7 : (Tryz.prog.stops == []) = true := by kernel_rfl
theorem c9 : (Tryz.prog.stopKnobs == []) = true := by kernel_rfl
theorem c24 : Tryz.prog.stopsHeard = true := by kernel_rfl
set_option maxRecDepth 100000 in
theorem words : Tryz.prog.initOrder.toList = List.map Char.ofNat [104, 97, 114, 110, 101, 115, 115, 32, 50, 56, 52, 54, 53, 97, 54, 48, 97, 48, 49, 52, 54, 97, 52, 56, 98, 98, 57, 97, 100, 57, 101, 97, 97, 56, 52, 48, 100, 100, 57, 56, 52, 52, 51, 48, 50, 98, 102, 49, 48, 100, 102, 97, 49, 97, 98, 53, 98, 52, 99, 49, 101, 98, 101, 54, 101, 99, 55, 54, 49, 101, 56, 54, 32, 99, 117, 116, 32, 97, 116, 32, 115, 112, 105, 110, 110, 97, 107, 101, 114, 47, 115, 112, 105, 110, 110, 97, 107, 101, 114, 116, 111, 112, 46, 84, 111, 112, 83, 101, 114, 118, 101, 115, 32, 115, 112, 105, 110, 110, 97, 107, 101, 114, 47, 115, 112, 105, 110, 110, 97, 107, 101, 114, 108, 97, 119, 50, 52, 46, 83, 121, 115, 76, 105, 109, 105, 116, 115] := by
  have e : Tryz.prog.initOrder = String.ofList (List.map Char.ofNat [104, 97, 114, 110, 101, 115, 115, 32, 50, 56, 52, 54, 53, 97, 54, 48, 97, 48, 49, 52, 54, 97, 52, 56, 98, 98, 57, 97, 100, 57, 101, 97, 97, 56, 52, 48, 100, 100, 57, 56, 52, 52, 51, 48, 50, 98, 102, 49, 48, 100, 102, 97, 49, 97, 98, 53, 98, 52, 99, 49, 101, 98, 101, 54, 101, 99, 55, 54, 49, 101, 56, 54, 32, 99, 117, 116, 32, 97, 116, 32, 115, 112, 105, 110, 110, 97, 107, 101, 114, 47, 115, 112, 105, 110, 110, 97, 107, 101, 114, 116, 111, 112, 46, 84, 111, 112, 83, 101, 114, 118, 101, 115, 32, 115, 112, 105, 110, 110, 97, 107, 101, 114, 47, 115, 112, 105, 110, 110, 97, 107, 101, 114, 108, 97, 119, 50, 52, 46, 83, 121, 115, 76, 105, 109, 105, 116, 115]) := by kernel_rfl
  rw [e]; exact String.toList_ofList
set_option maxRecDepth 100000 in
theorem ws : behindMainWord (wordsSigns Tryz.prog.initOrder.toList) = [List.map Char.ofNat [99, 117, 116], List.map Char.ofNat [97, 116], List.map Char.ofNat [115, 112, 105, 110, 110, 97, 107, 101, 114, 47, 115, 112, 105, 110, 110, 97, 107, 101, 114, 116, 111, 112, 46, 84, 111, 112, 83, 101, 114, 118, 101, 115], List.map Char.ofNat [115, 112, 105, 110, 110, 97, 107, 101, 114, 47, 115, 112, 105, 110, 110, 97, 107, 101, 114, 108, 97, 119, 50, 52, 46, 83, 121, 115, 76, 105, 109, 105, 116, 115]] := by
  rw [words]; kernel_rfl
theorem make_of {P : Program} {r : List (List Char)} (h : behindMainWord (wordsSigns P.initOrder.toList) = List.map Char.ofNat [99, 117, 116] :: r) : P.make = some .cut := by
  unfold Program.make; rw [h]; rfl
theorem may_of {P : Program} {r : List (List Char)} (h : behindMainWord (wordsSigns P.initOrder.toList) = List.map Char.ofNat [99, 117, 116] :: r) (hs : stripLifts liftWords (List.map Char.ofNat [99, 117, 116] :: r) = ([], List.map Char.ofNat [99, 117, 116] :: r)) (h1 : P.laysLater = false) (h2 : P.bearsReflect = false) (h3 : P.doorFits [] = true) : P.mayEnter = true := by
  unfold Program.mayEnter; rw [h]; simp only [hs, h1, h2, h3]; rfl
theorem may1 : Tryz.prog.laysLater = false := by kernel_rfl
theorem may2 : Tryz.prog.bearsReflect = false := by kernel_rfl
theorem may3 : Tryz.prog.doorFits [] = true := by kernel_rfl
theorem c25 : Tryz.prog.mayEnter = true := may_of ws (by kernel_rfl) may1 may2 may3
theorem hl : Tryz.prog.headLifts = [] := by
  unfold Program.headLifts; rw [ws]; kernel_rfl
theorem c26 : (Rows.topServesRow.lifted == Tryz.prog.liftsFinal) = true := by
  unfold Program.liftsFinal; rw [ws, hl]; kernel_rfl
theorem c27 : (Tryz.prog.make == some Rows.topServesRow.make) = true := by
  rw [make_of ws]; kernel_rfl
theorem closed : joinedFacts Tryz.prog 3 Tryz.f3 Rows.topServesSpec Rows.topServesRow = true := by
  simp only [joinedFacts, Bool.and_eq_true]
  and_intros
  all_goals first | with_reducible exact c1 | with_reducible exact laid | with_reducible exact c3 | with_reducible exact c10 | with_reducible exact c11 | with_reducible exact c12 | with_reducible exact c13 | with_reducible exact c23 | with_reducible exact c7 | with_reducible exact c9 | with_reducible exact c24 | with_reducible exact c25 | with_reducible exact c26 | with_reducible exact c27 | kernel_rfl
theorem over : Rows.topServesRow.holds Tryz.pinned (OpenSpec.ofChange Rows.topServesSpec) :=
  OpenClaim.holds_of_wide 3 Tryz.f3 rfl rfl rfl rfl rfl rfl rfl ⟨rfl, rfl, rfl, rfl, rfl⟩ rfl rfl rfl rfl rfl (by kernel_rfl) Tryz.func3 closed
    (of_decide_eq_true (by kernel_rfl)) (by unfold Func.isWrapper; first | (rw [if_pos (by decide +kernel)]; kernel_rfl) | (rw [if_neg (by decide +kernel)]; exact ⟨rfl, rfl⟩))
    (fun os started H enc _ => lifted os started H enc)
theorem proved : Rows.TopServesCardSaid :=
  Claim7.holds_tied_plain_at .later [] [.data, .pinned] true (true, "28465a60a0146a48bb9ad9eaa840dd9844302bf10dfa1ab5b4c1ebe6ec761e86") true over (fun _ h => by cases h) (by kernel_rfl) (fun _ h => by cases h) topServes_row_tie rfl ⟨rfl, rfl⟩ (by kernel_rfl) rfl
    (fun f fn hf hfn => by
      obtain rfl : f = 3 := Option.some.inj ((show Tryz.prog.funcNamed "spinnaker/spinnakertop.TopServes" = some 3 by kernel_rfl).symm.trans hf) |>.symm
      obtain rfl : fn = Tryz.f3 := (Option.some.inj (Tryz.func3.symm.trans hfn)).symm
      exact ⟨by kernel_rfl, fun j t ht => by
        rw [Tryz.params3] at ht
        have hm : t ∈ [23, 24] := by simpa using Array.mem_of_getElem? ht
        have hall : ([23, 24].all fun u => !Tryz.prog.wantsStandIn u) = true := by kernel_rfl
        exact (show Tryz.prog.wantsStandIn t = false by simpa using List.all_eq_true.1 hall t hm)⟩)
    (by kernel_rfl)
end Go.Proofs.YtefkegpbpaoadaaGreatDoor.topServes
