import Derived.Test.YtggakaogidjjbaaGreatDoorL1
import Derived.Test.YtggakaogidjjbaaGreatDoorL2
import Derived.Test.YtggakaogidjjbaaGreatDoorL3
/- Layer 4: the document's Parse of told texts (initial, limit): a contract. -/
namespace Go.Proofs.YtggakaogidjjbaaGreatDoor.Txt
open Go.Eng Go.RowKit
set_option linter.unusedVariables false
set_option linter.unusedSimpArgs false
set_option maxRecDepth 100000
deriving instance DecidableEq for Conf.Cf
theorem tu_all : ∀ a b : Nat, 1 ≤ a → a ≤ 6 → 1 ≤ b → b ≤ 5 → tuA a b = tuR a b := by
  intro a b h1 h2 h3 h4
  match a, h1, h2 with
  | 1, _, _ =>
    match b, h3, h4 with
    | 1, _, _ => exact tu1_1
    | 2, _, _ => exact tu1_2
    | 3, _, _ => exact tu1_3
    | 4, _, _ => exact tu1_4
    | 5, _, _ => exact tu1_5
  | 2, _, _ =>
    match b, h3, h4 with
    | 1, _, _ => exact tu2_1
    | 2, _, _ => exact tu2_2
    | 3, _, _ => exact tu2_3
    | 4, _, _ => exact tu2_4
    | 5, _, _ => exact tu2_5
  | 3, _, _ =>
    match b, h3, h4 with
    | 1, _, _ => exact tu3_1
    | 2, _, _ => exact tu3_2
    | 3, _, _ => exact tu3_3
    | 4, _, _ => exact tu3_4
    | 5, _, _ => exact tu3_5
  | 4, _, _ =>
    match b, h3, h4 with
    | 1, _, _ => exact tu4_1
    | 2, _, _ => exact tu4_2
    | 3, _, _ => exact tu4_3
    | 4, _, _ => exact tu4_4
    | 5, _, _ => exact tu4_5
  | 5, _, _ =>
    match b, h3, h4 with
    | 1, _, _ => exact tu5_1
    | 2, _, _ => exact tu5_2
    | 3, _, _ => exact tu5_3
    | 4, _, _ => exact tu5_4
    | 5, _, _ => exact tu5_5
  | 6, _, _ =>
    match b, h3, h4 with
    | 1, _, _ => exact tu6_1
    | 2, _, _ => exact tu6_2
    | 3, _, _ => exact tu6_3
    | 4, _, _ => exact tu6_4
    | 5, _, _ => exact tu6_5
/-- the numbers of such a text -/
def numU (s : ByteArray) : Option (Nat × Nat) := ((List.range 6).flatMap fun a => (List.range 5).map fun b => (a + 1, b + 1)).find? fun p => txU p.1 p.2 == s.data.toList
def okU (s : ByteArray) : Bool := (numU s).isSome
def cfU (s : ByteArray) : Conf.Cf := ((numU s).map fun p => { Conf.dflt with initial := (p.1 : Int), limit := (p.2 : Int) }).getD Conf.dflt
def parUE : Eng.Spec
  | [x, .s (.str s)] => Conf.asConf x fun c => .ite none (decide (c = Conf.dflt) && okU s) (.ret (.tup [Conf.confV (cfU s), Eng.iv 0, Eng.iv 0])) .fail
  | _ => .fail
theorem parUE_ok : SpecOk Tryz.prog 13 parUE := parU_ok.of_eval fun args v hv => by
  unfold parUE at hv
  split at hv
  · rename_i x s
    obtain ⟨c, rfl, h2⟩ := Conf.asConf_some hv
    obtain ⟨hb, h3⟩ := ite_some h2
    obtain rfl := Option.some.inj h3
    rw [Bool.and_eq_true] at hb
    obtain rfl := of_decide_eq_true hb.1
    have ho := hb.2
    unfold okU at ho
    unfold cfU
    cases hf : numU s with
    | none => rw [hf] at ho; cases ho
    | some p =>
      unfold numU at hf
      have hm := List.mem_of_find?_eq_some hf
      have he : (txU p.1 p.2 == s.data.toList) = true := List.find?_some (p := fun p : Nat × Nat => txU p.1 p.2 == s.data.toList) hf
      have e : txU p.1 p.2 = s.data.toList := by simpa using he
      obtain ⟨a, ha, hm2⟩ := List.mem_flatMap.1 hm
      obtain ⟨b, hb2, rfl⟩ := List.mem_map.1 hm2
      have := tu_all (a + 1) (b + 1) (by omega) (by have := List.mem_range.1 ha; omega) (by omega) (by have := List.mem_range.1 hb2; omega)
      unfold tuA tuR at this
      rw [e] at this
      exact this
  · cases hv
end Go.Proofs.YtggakaogidjjbaaGreatDoor.Txt

