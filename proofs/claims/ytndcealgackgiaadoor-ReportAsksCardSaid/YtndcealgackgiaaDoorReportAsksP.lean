/- The statement 'ReportAsks' of the given rows: for every input the law answers true, and each argument reads behind the call as it read before. No condition but the row's own. -/
import Derived.Test.YtndcealgackgiaaDoorRows
import Derived.Test.YtndcealgackgiaaDoorReportAsksQ
import Derived.Test.YtndcealgackgiaaDoorTie
import Derived.Test.YtndcealgackgiaaDoorCards
import Derived.SevenTiedAt
import Derived.WalkKit
import Derived.ProofKit
import Derived.OpenShut
import Derived.ChangeOld
import Derived.Below
namespace Go.Proofs.YtndcealgackgiaaDoor.reportAsks
open Go.ChangeShapes Go.WideShapes Go.ChangeAt Go.RowKit
set_option linter.unusedVariables false
theorem own : ownKnob Tryd.prog.godebug = none := by kernel_rfl
theorem laid : laidOutB Tryd.prog = true := by kernel_rfl
theorem walk (w : World) (hG : Eng.Glob0 w) (a0 : List (Int × Int × Bool × Bool × (Option Addr × Nat × Nat) × Int × Int × Int × Int × Int × Int × Int × Int × Int × Bool)) (z0 : a0.length ≤ maxLen) (w0 : ∀ x ∈ a0, Law.Tx.GoodRow [.int .i64, .int .i64, .bool, .bool, .sl, .int .i64, .int .i64, .int .i64, .int .i64, .int .i64, .int .i64, .int .i64, .int .i64, .int .i64, .bool] x) (q0 : ∀ x ∈ a0, Law.RowsAt [.int .i64, .int .i64, .int .i64, .int .i64] w x.2.2.2.2.1) (x0 : Value) (a1 : List (Int × Int × Int × Int)) (z1 : a1.length ≤ maxLen) (w1 : ∀ x ∈ a1, (Lit.int .i64 x.1).wf = true ∧ (Lit.int .i64 x.2.1).wf = true ∧ (Lit.int .i64 x.2.2.1).wf = true ∧ (Lit.int .i64 x.2.2.2).wf = true) (x1 : Value) (hx0 : Eng.holdsP 0 w (.orow 38 [.int .i64, .int .i64, .bool, .bool, .sl, .int .i64, .int .i64, .int .i64, .int .i64, .int .i64, .int .i64, .int .i64, .int .i64, .int .i64, .bool] a0) x0) (hx1 : Eng.holdsP 0 w (.orow 58 [.int .i64, .int .i64, .int .i64, .int .i64] a1) x1) : Calls Tryd.prog 4 #[x0, x1] w fun e w' => e = .returned (.bool true) ∧ Below w.heap.size w w' := by
  letI : Eng.GW := ⟨w, hG⟩
  exact Rep.ra_walk a0 z0 w0 q0 x0 a1 z1 w1 x1 hx0 hx1
set_option maxRecDepth 100000 in
theorem lifted (os : Os) (started : os.Started) (H : Type) (enc : TypeId × Value → H) :
    ReturnsInHanded {} Tryd.checked os 4 .any (fun w args => (Rows.reportAsksSpec.pre enc Tryd.prog Tryd.f4 Rows.reportAsksRow.domain false w args ∧ laidMetH Tryd.prog Rows.reportAsksRow.laid w) ∧ sizedMet enc Tryd.prog Tryd.f4 (OpenSpec.ofChange Rows.reportAsksSpec) false w args) (Rows.reportAsksSpec.post enc Tryd.prog Tryd.f4 false true false false) := by
  refine Law.Gl.of_change_and (C := Tryd.checked) (X := fun w _ => laidMetH Tryd.prog Rows.reportAsksRow.laid w) (fun _ _ _ hh h => h.of_heap hh) own started (by kernel_rfl) Tryd.func4
    (ChangeSpec.witness_shaped (enc := enc) (C := Tryd.checked) (os := os) (X := fun w _ => laidMetH Tryd.prog Rows.reportAsksRow.laid w) false (World.laidAll Tryd.prog os Rows.reportAsksRow.laid) #[.slice none 0 0, .slice none 0 0] 8 (World.laidAll_os _ _ _)
      (World.shaped_of_ZipB (by kernel_rfl) (by kernel_rfl)) (by kernel_rfl) (by kernel_rfl) (by kernel_rfl)
      (by rw [MakeChecks.laidMetH_plain _ _ _ (by kernel_rfl)]; exact laidMet_laidAll _ (by kernel_rfl) (by kernel_rfl))) ?_
  intro W base args ds gs before hval0 hW hL hsh
  have hval : ∀ (j : Nat) t v, Tryd.f4.params[j]? = some t → args[j]? = some v → Value.okWide Tryd.prog W .any base t v := hval0
  have hW' := hW
  obtain ⟨p, q, hA0, hV, rfl, hfz, hnd⟩ := hW
  have hA : DataW.TrodAll enc Tryd.prog W 0 (fun _ => true) true Tryd.f4.params.toList args.toList ds p := hA0
  rw [Tryd.params4] at hA hval
  have hG : Eng.Glob0 W := Law.Gl.globR hL hsh
  letI : Eng.GW := ⟨W, hG⟩
  obtain ⟨v0, vs0, d0, ds0, p0, q0, hargs, rfl, rfl, h0, r0⟩ := trodAll_cons hA
  obtain ⟨v1, vs1, d1, ds1, p1, q1, rfl, rfl, rfl, h1, r1⟩ := trodAll_cons r0
  obtain ⟨rfl, rfl, rfl⟩ := trodAll_nil r1
  obtain rfl : args = #[v0, v1] := by cases args; simp_all
  obtain ⟨rfl, rfl⟩ := trodVars_none hV
  obtain ⟨a0, z0, w0, q0, hx0⟩ := Law.open_nested (ks := [.int .i64, .int .i64, .bool, .bool, .sl, .int .i64, .int .i64, .int .i64, .int .i64, .int .i64, .int .i64, .int .i64, .int .i64, .int .i64, .bool]) (ki := [.int .i64, .int .i64, .int .i64, .int .i64]) (Q := fun _ _ => True) 3 (o := 4) (i := 4) (p := 56) Tryd.underlying31 (by kernel_rfl) (by kernel_rfl) (by kernel_rfl) (by kernel_rfl) (by kernel_rfl) (fun x => x.2.2.2.2.1) (fun x => rfl) (hval 0 31 v0 rfl rfl) h0
  obtain ⟨a1, z1, w1, hx1⟩ := Law.open_row4s Tryd.underlying32 Tryd.underlying58 (by kernel_rfl) (by kernel_rfl) (by kernel_rfl) (by kernel_rfl) (hval 1 32 v1 rfl rfl) h1
  clear hA0 hval0
  refine (walk W hG a0 z0 w0 q0 v0 a1 z1 w1 v1 hx0 hx1).mono fun e W' ⟨he, hg⟩ => ?_
  subst he
  exact ⟨_, rfl, Law.law_post false true false laid (by kernel_rfl) rfl Tryd.underlying4 rfl hW' rfl rfl rfl hg⟩
theorem c1 : Rows.reportAsksRow.wf (OpenSpec.ofChange Rows.reportAsksSpec) = true := by kernel_rfl
theorem c3 : mapsRowed Tryd.prog = true := by kernel_rfl
theorem c10 : (Rows.reportAsksRow.inPlace == Tryd.prog.inPlace 4) = true := by kernel_rfl
theorem c11 : (Rows.reportAsksRow.unfollowed == Tryd.prog.unfollowed 4) = true := by kernel_rfl
theorem c12 : (Rows.reportAsksRow.recurses == Tryd.prog.recurses 4) = true := by kernel_rfl
theorem c13 : (Rows.reportAsksRow.named == Tryd.prog.varsNamed 4) = true := by kernel_rfl
theorem c23 : (Rows.reportAsksRow.plainKeys == Tryd.prog.plainKeys) = true := by kernel_rfl
theorem c7 : (Tryd.prog.stops == []) = true := by kernel_rfl
theorem c9 : (Tryd.prog.stopKnobs == []) = true := by kernel_rfl
theorem c24 : Tryd.prog.stopsHeard = true := by kernel_rfl
set_option maxRecDepth 100000 in
theorem words : Tryd.prog.initOrder.toList = List.map Char.ofNat [104, 97, 114, 110, 101, 115, 115, 32, 57, 50, 54, 54, 54, 55, 55, 50, 57, 102, 97, 51, 57, 52, 56, 53, 57, 57, 49, 53, 102, 102, 56, 52, 100, 56, 49, 101, 55, 101, 102, 101, 100, 101, 54, 98, 49, 97, 49, 102, 50, 102, 50, 54, 101, 50, 102, 100, 102, 57, 55, 55, 57, 52, 98, 57, 98, 99, 101, 57, 49, 49, 53, 57, 32, 99, 117, 116, 32, 97, 116, 32, 115, 112, 105, 110, 110, 97, 107, 101, 114, 47, 115, 112, 105, 110, 110, 97, 107, 101, 114, 108, 97, 119, 52, 46, 84, 101, 120, 116, 79, 114, 100, 101, 114, 115, 32, 115, 112, 105, 110, 110, 97, 107, 101, 114, 47, 115, 112, 105, 110, 110, 97, 107, 101, 114, 108, 97, 119, 50, 55, 46, 82, 101, 112, 111, 114, 116, 65, 115, 107, 115] := by
  have e : Tryd.prog.initOrder = String.ofList (List.map Char.ofNat [104, 97, 114, 110, 101, 115, 115, 32, 57, 50, 54, 54, 54, 55, 55, 50, 57, 102, 97, 51, 57, 52, 56, 53, 57, 57, 49, 53, 102, 102, 56, 52, 100, 56, 49, 101, 55, 101, 102, 101, 100, 101, 54, 98, 49, 97, 49, 102, 50, 102, 50, 54, 101, 50, 102, 100, 102, 57, 55, 55, 57, 52, 98, 57, 98, 99, 101, 57, 49, 49, 53, 57, 32, 99, 117, 116, 32, 97, 116, 32, 115, 112, 105, 110, 110, 97, 107, 101, 114, 47, 115, 112, 105, 110, 110, 97, 107, 101, 114, 108, 97, 119, 52, 46, 84, 101, 120, 116, 79, 114, 100, 101, 114, 115, 32, 115, 112, 105, 110, 110, 97, 107, 101, 114, 47, 115, 112, 105, 110, 110, 97, 107, 101, 114, 108, 97, 119, 50, 55, 46, 82, 101, 112, 111, 114, 116, 65, 115, 107, 115]) := by kernel_rfl
  rw [e]; exact String.toList_ofList
set_option maxRecDepth 100000 in
theorem ws : behindMainWord (wordsSigns Tryd.prog.initOrder.toList) = [List.map Char.ofNat [99, 117, 116], List.map Char.ofNat [97, 116], List.map Char.ofNat [115, 112, 105, 110, 110, 97, 107, 101, 114, 47, 115, 112, 105, 110, 110, 97, 107, 101, 114, 108, 97, 119, 52, 46, 84, 101, 120, 116, 79, 114, 100, 101, 114, 115], List.map Char.ofNat [115, 112, 105, 110, 110, 97, 107, 101, 114, 47, 115, 112, 105, 110, 110, 97, 107, 101, 114, 108, 97, 119, 50, 55, 46, 82, 101, 112, 111, 114, 116, 65, 115, 107, 115]] := by
  rw [words]; kernel_rfl
theorem make_of {P : Program} {r : List (List Char)} (h : behindMainWord (wordsSigns P.initOrder.toList) = List.map Char.ofNat [99, 117, 116] :: r) : P.make = some .cut := by
  unfold Program.make; rw [h]; rfl
theorem may_of {P : Program} {r : List (List Char)} (h : behindMainWord (wordsSigns P.initOrder.toList) = List.map Char.ofNat [99, 117, 116] :: r) (hs : stripLifts liftWords (List.map Char.ofNat [99, 117, 116] :: r) = ([], List.map Char.ofNat [99, 117, 116] :: r)) (h1 : P.laysLater = false) (h2 : P.bearsReflect = false) (h3 : P.doorFits [] = true) : P.mayEnter = true := by
  unfold Program.mayEnter; rw [h]; simp only [hs, h1, h2, h3]; rfl
theorem may1 : Tryd.prog.laysLater = false := by kernel_rfl
theorem may2 : Tryd.prog.bearsReflect = false := by kernel_rfl
theorem may3 : Tryd.prog.doorFits [] = true := by kernel_rfl
theorem c25 : Tryd.prog.mayEnter = true := may_of ws (by kernel_rfl) may1 may2 may3
theorem hl : Tryd.prog.headLifts = [] := by
  unfold Program.headLifts; rw [ws]; kernel_rfl
theorem c26 : (Rows.reportAsksRow.lifted == Tryd.prog.liftsFinal) = true := by
  unfold Program.liftsFinal; rw [ws, hl]; kernel_rfl
theorem c27 : (Tryd.prog.make == some Rows.reportAsksRow.make) = true := by
  rw [make_of ws]; kernel_rfl
theorem closed : joinedFacts Tryd.prog 4 Tryd.f4 Rows.reportAsksSpec Rows.reportAsksRow = true := by
  simp only [joinedFacts, Bool.and_eq_true]
  and_intros
  all_goals first | with_reducible exact c1 | with_reducible exact laid | with_reducible exact c3 | with_reducible exact c10 | with_reducible exact c11 | with_reducible exact c12 | with_reducible exact c13 | with_reducible exact c23 | with_reducible exact c7 | with_reducible exact c9 | with_reducible exact c24 | with_reducible exact c25 | with_reducible exact c26 | with_reducible exact c27 | kernel_rfl
theorem over : Rows.reportAsksRow.holds Tryd.pinned (OpenSpec.ofChange Rows.reportAsksSpec) :=
  OpenClaim.holds_of_wide 4 Tryd.f4 rfl rfl rfl rfl rfl rfl rfl ⟨rfl, rfl, rfl, rfl, rfl⟩ rfl rfl rfl rfl rfl (by kernel_rfl) Tryd.func4 closed
    (of_decide_eq_true (by kernel_rfl)) (by unfold Func.isWrapper; first | (rw [if_pos (by decide +kernel)]; kernel_rfl) | (rw [if_neg (by decide +kernel)]; exact ⟨rfl, rfl⟩))
    (fun os started H enc _ => lifted os started H enc)
theorem proved : Rows.ReportAsksCardSaid :=
  Claim7.holds_tied_plain_at .later [] [.data, .data, .data] true (true, "926667729fa394859915ff84d81e7efede6b1a1f2f26e2fdf97794b9bce91159") true over (fun _ h => by cases h) (by kernel_rfl) (fun _ h => by cases h) reportAsks_row_tie rfl ⟨rfl, rfl⟩ (by kernel_rfl) rfl
    (fun f fn hf hfn => by
      obtain rfl : f = 4 := Option.some.inj ((show Tryd.prog.funcNamed "spinnaker/spinnakerlaw27.ReportAsks" = some 4 by kernel_rfl).symm.trans hf) |>.symm
      obtain rfl : fn = Tryd.f4 := (Option.some.inj (Tryd.func4.symm.trans hfn)).symm
      exact ⟨by kernel_rfl, fun j t ht => by
        rw [Tryd.params4] at ht
        have hm : t ∈ [31, 32] := by simpa using Array.mem_of_getElem? ht
        have hall : ([31, 32].all fun u => !Tryd.prog.wantsStandIn u) = true := by kernel_rfl
        exact (show Tryd.prog.wantsStandIn t = false by simpa using List.all_eq_true.1 hall t hm)⟩)
    (by kernel_rfl)
end Go.Proofs.YtndcealgackgiaaDoor.reportAsks
