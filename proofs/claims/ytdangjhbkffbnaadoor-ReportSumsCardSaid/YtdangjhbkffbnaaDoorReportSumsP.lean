/- The statement 'ReportSums' of the given rows: for every input the law answers true, and each argument reads behind the call as it read before. No condition but the row's own. -/
import Derived.Test.YtdangjhbkffbnaaDoorRows
import Derived.Test.YtdangjhbkffbnaaDoorReportSumsQ
import Derived.Test.YtdangjhbkffbnaaDoorTie
import Derived.Test.YtdangjhbkffbnaaDoorCards
import Derived.SevenTiedAt
import Derived.WalkKit
import Derived.ProofKit
import Derived.OpenShut
import Derived.ChangeOld
import Derived.Below
namespace Go.Proofs.YtdangjhbkffbnaaDoor.reportSums
open Go.ChangeShapes Go.WideShapes Go.ChangeAt Go.RowKit
set_option linter.unusedVariables false
theorem own : ownKnob Tryd.prog.godebug = none := by kernel_rfl
theorem laid : laidOutB Tryd.prog = true := by kernel_rfl
theorem walk (a0 : List (Int × Int × Bool × Bool × (Option Addr × Nat × Nat) × Int × Int × Int × Int × Int × Int × Int × Int × Int × Bool)) (z0 : a0.length ≤ maxLen) (w0 : ∀ x ∈ a0, Law.Tx.GoodRow [.int .i64, .int .i64, .bool, .bool, .sl, .int .i64, .int .i64, .int .i64, .int .i64, .int .i64, .int .i64, .int .i64, .int .i64, .int .i64, .bool] x) (x0 : Value) (a1 : Int) (w1 : (Lit.int .i64 a1).wf = true) (w : World) (hG : Eng.Glob w) (hx0 : Eng.holdsP 0 w (.orow 44 [.int .i64, .int .i64, .bool, .bool, .sl, .int .i64, .int .i64, .int .i64, .int .i64, .int .i64, .int .i64, .int .i64, .int .i64, .int .i64, .bool] a0) x0) : Calls Tryd.prog 6 #[x0, .int .i64 a1] w fun e w' => e = .returned (.bool true) ∧ Below w.heap.size w w' :=
  Rep.rs_walk a0 z0 w0 x0 a1 w1 w hG hx0
set_option maxRecDepth 100000 in
theorem lifted (os : Os) (started : os.Started) (H : Type) (enc : TypeId × Value → H) :
    ReturnsInHanded {} Tryd.checked os 6 .any (fun w args => (Rows.reportSumsSpec.pre enc Tryd.prog Tryd.f6 Rows.reportSumsRow.domain false w args ∧ laidMetH Tryd.prog Rows.reportSumsRow.laid w) ∧ sizedMet enc Tryd.prog Tryd.f6 (OpenSpec.ofChange Rows.reportSumsSpec) false w args) (Rows.reportSumsSpec.post enc Tryd.prog Tryd.f6 false true false false) := by
  refine Law.Gl.of_change_and (C := Tryd.checked) (X := fun w _ => laidMetH Tryd.prog Rows.reportSumsRow.laid w) (fun _ _ _ hh h => h.of_heap hh) own started (by kernel_rfl) Tryd.func6
    (ChangeSpec.witness_shaped (enc := enc) (C := Tryd.checked) (os := os) (X := fun w _ => laidMetH Tryd.prog Rows.reportSumsRow.laid w) false (World.laidAll Tryd.prog os Rows.reportSumsRow.laid) #[.slice none 0 0, .int .i64 0] 8 (World.laidAll_os _ _ _)
      (World.shaped_of_ZipB (by kernel_rfl) (by kernel_rfl)) (by kernel_rfl) (by kernel_rfl) (by kernel_rfl)
      (by rw [MakeChecks.laidMetH_plain _ _ _ (by kernel_rfl)]; exact laidMet_laidAll _ (by kernel_rfl) (by kernel_rfl))) ?_
  intro W base args ds gs before hval0 hW hL hsh
  have hval : ∀ (j : Nat) t v, Tryd.f6.params[j]? = some t → args[j]? = some v → Value.okWide Tryd.prog W .any base t v := hval0
  have hW' := hW
  obtain ⟨p, q, hA0, hV, rfl, hfz, hnd⟩ := hW
  have hA : DataW.TrodAll enc Tryd.prog W 0 (fun _ => true) true Tryd.f6.params.toList args.toList ds p := hA0
  rw [Tryd.params6] at hA hval
  have hG : Eng.Glob W := Law.Gl.globR hL hsh
  obtain ⟨v0, vs0, d0, ds0, p0, q0, hargs, rfl, rfl, h0, r0⟩ := trodAll_cons hA
  obtain ⟨v1, vs1, d1, ds1, p1, q1, rfl, rfl, rfl, h1, r1⟩ := trodAll_cons r0
  obtain ⟨rfl, rfl, rfl⟩ := trodAll_nil r1
  obtain rfl : args = #[v0, v1] := by cases args; simp_all
  obtain ⟨rfl, rfl⟩ := trodVars_none hV
  obtain ⟨a0, z0, w0, hx0⟩ := Law.Tx.open_plain (ks := [.int .i64, .int .i64, .bool, .bool, .sl, .int .i64, .int .i64, .int .i64, .int .i64, .int .i64, .int .i64, .int .i64, .int .i64, .int .i64, .bool]) 3 Tryd.underlying37 (by kernel_rfl) (by kernel_rfl) (hval 0 37 v0 rfl rfl) h0
  obtain ⟨a1, rfl, rfl, rfl, w1⟩ := open_int Tryd.underlying3 (hval 1 3 v1 rfl rfl) h1
  clear hA0 hval0
  refine (walk a0 z0 w0 v0 a1 w1 W hG hx0).mono fun e W' ⟨he, hg⟩ => ?_
  subst he
  exact ⟨_, rfl, Law.law_post false true false laid (by kernel_rfl) rfl Tryd.underlying4 rfl hW' rfl rfl rfl hg⟩
theorem c1 : Rows.reportSumsRow.wf (OpenSpec.ofChange Rows.reportSumsSpec) = true := by kernel_rfl
theorem c3 : mapsRowed Tryd.prog = true := by kernel_rfl
theorem c10 : (Rows.reportSumsRow.inPlace == Tryd.prog.inPlace 6) = true := by kernel_rfl
theorem c11 : (Rows.reportSumsRow.unfollowed == Tryd.prog.unfollowed 6) = true := by kernel_rfl
theorem c12 : (Rows.reportSumsRow.recurses == Tryd.prog.recurses 6) = true := by kernel_rfl
theorem c13 : (Rows.reportSumsRow.named == Tryd.prog.varsNamed 6) = true := by kernel_rfl
theorem c23 : (Rows.reportSumsRow.plainKeys == Tryd.prog.plainKeys) = true := by kernel_rfl
theorem c7 : (Tryd.prog.stops == []) = true := by kernel_rfl
theorem c9 : (Tryd.prog.stopKnobs == []) = true := by kernel_rfl
theorem c24 : Tryd.prog.stopsHeard = true := by kernel_rfl
set_option maxRecDepth 100000 in
theorem words : Tryd.prog.initOrder.toList = List.map Char.ofNat [104, 97, 114, 110, 101, 115, 115, 32, 54, 52, 52, 51, 57, 100, 51, 98, 51, 50, 51, 55, 51, 55, 52, 100, 57, 48, 97, 97, 51, 97, 55, 57, 100, 53, 54, 51, 98, 102, 55, 55, 48, 50, 50, 50, 49, 97, 48, 48, 101, 57, 97, 49, 48, 54, 54, 48, 99, 55, 53, 53, 56, 48, 56, 98, 99, 99, 56, 52, 53, 53, 49, 102, 32, 99, 117, 116, 32, 97, 116, 32, 115, 112, 105, 110, 110, 97, 107, 101, 114, 47, 115, 112, 105, 110, 110, 97, 107, 101, 114, 108, 97, 119, 52, 46, 84, 101, 120, 116, 65, 115, 107, 115, 32, 115, 112, 105, 110, 110, 97, 107, 101, 114, 47, 115, 112, 105, 110, 110, 97, 107, 101, 114, 108, 97, 119, 52, 46, 84, 101, 120, 116, 79, 114, 100, 101, 114, 115, 32, 115, 112, 105, 110, 110, 97, 107, 101, 114, 47, 115, 112, 105, 110, 110, 97, 107, 101, 114, 108, 97, 119, 50, 55, 46, 82, 101, 112, 111, 114, 116, 65, 115, 107, 115, 32, 115, 112, 105, 110, 110, 97, 107, 101, 114, 47, 115, 112, 105, 110, 110, 97, 107, 101, 114, 108, 97, 119, 50, 55, 46, 82, 101, 112, 111, 114, 116, 83, 117, 109, 115, 32, 115, 112, 105, 110, 110, 97, 107, 101, 114, 47, 115, 112, 105, 110, 110, 97, 107, 101, 114, 108, 97, 119, 50, 55, 46, 82, 101, 112, 111, 114, 116, 67, 111, 117, 110, 116, 115] := by
  have e : Tryd.prog.initOrder = String.ofList (List.map Char.ofNat [104, 97, 114, 110, 101, 115, 115, 32, 54, 52, 52, 51, 57, 100, 51, 98, 51, 50, 51, 55, 51, 55, 52, 100, 57, 48, 97, 97, 51, 97, 55, 57, 100, 53, 54, 51, 98, 102, 55, 55, 48, 50, 50, 50, 49, 97, 48, 48, 101, 57, 97, 49, 48, 54, 54, 48, 99, 55, 53, 53, 56, 48, 56, 98, 99, 99, 56, 52, 53, 53, 49, 102, 32, 99, 117, 116, 32, 97, 116, 32, 115, 112, 105, 110, 110, 97, 107, 101, 114, 47, 115, 112, 105, 110, 110, 97, 107, 101, 114, 108, 97, 119, 52, 46, 84, 101, 120, 116, 65, 115, 107, 115, 32, 115, 112, 105, 110, 110, 97, 107, 101, 114, 47, 115, 112, 105, 110, 110, 97, 107, 101, 114, 108, 97, 119, 52, 46, 84, 101, 120, 116, 79, 114, 100, 101, 114, 115, 32, 115, 112, 105, 110, 110, 97, 107, 101, 114, 47, 115, 112, 105, 110, 110, 97, 107, 101, 114, 108, 97, 119, 50, 55, 46, 82, 101, 112, 111, 114, 116, 65, 115, 107, 115, 32, 115, 112, 105, 110, 110, 97, 107, 101, 114, 47, 115, 112, 105, 110, 110, 97, 107, 101, 114, 108, 97, 119, 50, 55, 46, 82, 101, 112, 111, 114, 116, 83, 117, 109, 115, 32, 115, 112, 105, 110, 110, 97, 107, 101, 114, 47, 115, 112, 105, 110, 110, 97, 107, 101, 114, 108, 97, 119, 50, 55, 46, 82, 101, 112, 111, 114, 116, 67, 111, 117, 110, 116, 115]) := by kernel_rfl
  rw [e]; exact String.toList_ofList
set_option maxRecDepth 100000 in
theorem ws : behindMainWord (wordsSigns Tryd.prog.initOrder.toList) = [List.map Char.ofNat [99, 117, 116], List.map Char.ofNat [97, 116], List.map Char.ofNat [115, 112, 105, 110, 110, 97, 107, 101, 114, 47, 115, 112, 105, 110, 110, 97, 107, 101, 114, 108, 97, 119, 52, 46, 84, 101, 120, 116, 65, 115, 107, 115], List.map Char.ofNat [115, 112, 105, 110, 110, 97, 107, 101, 114, 47, 115, 112, 105, 110, 110, 97, 107, 101, 114, 108, 97, 119, 52, 46, 84, 101, 120, 116, 79, 114, 100, 101, 114, 115], List.map Char.ofNat [115, 112, 105, 110, 110, 97, 107, 101, 114, 47, 115, 112, 105, 110, 110, 97, 107, 101, 114, 108, 97, 119, 50, 55, 46, 82, 101, 112, 111, 114, 116, 65, 115, 107, 115], List.map Char.ofNat [115, 112, 105, 110, 110, 97, 107, 101, 114, 47, 115, 112, 105, 110, 110, 97, 107, 101, 114, 108, 97, 119, 50, 55, 46, 82, 101, 112, 111, 114, 116, 83, 117, 109, 115], List.map Char.ofNat [115, 112, 105, 110, 110, 97, 107, 101, 114, 47, 115, 112, 105, 110, 110, 97, 107, 101, 114, 108, 97, 119, 50, 55, 46, 82, 101, 112, 111, 114, 116, 67, 111, 117, 110, 116, 115]] := by
  rw [words]; kernel_rfl
theorem make_of {P : Program} {r : List (List Char)} (h : behindMainWord (wordsSigns P.initOrder.toList) = List.map Char.ofNat [99, 117, 116] :: r) : P.make = some .cut := by
  unfold Program.make; rw [h]; rfl
theorem may_of {P : Program} {r : List (List Char)} (h : behindMainWord (wordsSigns P.initOrder.toList) = List.map Char.ofNat [99, 117, 116] :: r) (hs : stripLifts liftWords (List.map Char.ofNat [99, 117, 116] :: r) = ([], List.map Char.ofNat [99, 117, 116] :: r)) (h1 : P.laysLater = false) (h2 : P.bearsReflect = false) (h3 : P.doorFits [] = true) : P.mayEnter = true := by
  unfold Program.mayEnter; rw [h]; simp only [hs, h1, h2, h3]; rfl
theorem may1 : Tryd.prog.laysLater = false := by kernel_rfl
theorem may2 : Tryd.prog.bearsReflect = false := by kernel_rfl
theorem may3 : Tryd.prog.doorFits [] = true := by kernel_rfl
theorem c25 : Tryd.prog.mayEnter = true := may_of ws (by kernel_rfl) may1 may2 may3
theorem hl : Tryd.prog.headLifts = [] := by
  unfold Program.headLifts; rw [ws]; kernel_rfl
theorem c26 : (Rows.reportSumsRow.lifted == Tryd.prog.liftsFinal) = true := by
  unfold Program.liftsFinal; rw [ws, hl]; kernel_rfl
theorem c27 : (Tryd.prog.make == some Rows.reportSumsRow.make) = true := by
  rw [make_of ws]; kernel_rfl
theorem closed : joinedFacts Tryd.prog 6 Tryd.f6 Rows.reportSumsSpec Rows.reportSumsRow = true := by
  simp only [joinedFacts, Bool.and_eq_true]
  and_intros
  all_goals first | with_reducible exact c1 | with_reducible exact laid | with_reducible exact c3 | with_reducible exact c10 | with_reducible exact c11 | with_reducible exact c12 | with_reducible exact c13 | with_reducible exact c23 | with_reducible exact c7 | with_reducible exact c9 | with_reducible exact c24 | with_reducible exact c25 | with_reducible exact c26 | with_reducible exact c27 | kernel_rfl
theorem over : Rows.reportSumsRow.holds Tryd.pinned (OpenSpec.ofChange Rows.reportSumsSpec) :=
  OpenClaim.holds_of_wide 6 Tryd.f6 rfl rfl rfl rfl rfl rfl rfl ⟨rfl, rfl, rfl, rfl, rfl⟩ rfl rfl rfl rfl rfl (by kernel_rfl) Tryd.func6 closed
    (of_decide_eq_true (by kernel_rfl)) (by unfold Func.isWrapper; first | (rw [if_pos (by decide +kernel)]; kernel_rfl) | (rw [if_neg (by decide +kernel)]; exact ⟨rfl, rfl⟩))
    (fun os started H enc _ => lifted os started H enc)
theorem proved : Rows.ReportSumsCardSaid :=
  Claim7.holds_tied_plain_at .later [] [.data, .data, .data] true (true, "64439d3b3237374d90aa3a79d563bf7702221a00e9a10660c755808bcc84551f") true over (fun _ h => by cases h) (by kernel_rfl) (fun _ h => by cases h) reportSums_row_tie rfl ⟨rfl, rfl⟩ (by kernel_rfl) rfl
    (fun f fn hf hfn => by
      obtain rfl : f = 6 := Option.some.inj ((show Tryd.prog.funcNamed "spinnaker/spinnakerlaw27.ReportSums" = some 6 by kernel_rfl).symm.trans hf) |>.symm
      obtain rfl : fn = Tryd.f6 := (Option.some.inj (Tryd.func6.symm.trans hfn)).symm
      exact ⟨by kernel_rfl, fun j t ht => by
        rw [Tryd.params6] at ht
        have hm : t ∈ [37, 3] := by simpa using Array.mem_of_getElem? ht
        have hall : ([37, 3].all fun u => !Tryd.prog.wantsStandIn u) = true := by kernel_rfl
        exact (show Tryd.prog.wantsStandIn t = false by simpa using List.all_eq_true.1 hall t hm)⟩)
    (by kernel_rfl)
end Go.Proofs.YtdangjhbkffbnaaDoor.reportSums
