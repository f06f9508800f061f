import Derived.Test.YtggakaogidjjbaaGreatDoorO1
import Derived.Test.YtggakaogidjjbaaGreatDoorO2
import Derived.Test.YtggakaogidjjbaaGreatDoorO3
import Derived.Test.YtggakaogidjjbaaGreatDoorO4
import Derived.Test.YtggakaogidjjbaaGreatDoorO5
/- Layer 4: the document's Parse of told texts (limit, max, timeout): a contract. -/
namespace Go.Proofs.YtggakaogidjjbaaGreatDoor.Txt
open Go.Eng Go.RowKit
set_option linter.unusedVariables false
set_option linter.unusedSimpArgs false
set_option maxRecDepth 100000
deriving instance DecidableEq for Conf.Cf
theorem WO : ∀ t : Nat, 1 ≤ t → t ≤ 50 → twA t = twR t := by
  intro t h1 h2
  match t, h1, h2 with
  | 1, _, _ => exact tw_1
  | 2, _, _ => exact tw_2
  | 3, _, _ => exact tw_3
  | 4, _, _ => exact tw_4
  | 5, _, _ => exact tw_5
  | 6, _, _ => exact tw_6
  | 7, _, _ => exact tw_7
  | 8, _, _ => exact tw_8
  | 9, _, _ => exact tw_9
  | 10, _, _ => exact adg
  | 11, _, _ => exact aa2
  | 12, _, _ => exact aeT
  | 13, _, _ => exact aek
  | 14, _, _ => exact adb
  | 15, _, _ => exact acw
  | 16, _, _ => exact abn
  | 17, _, _ => exact abv
  | 18, _, _ => exact acG
  | 19, _, _ => exact aeG
  | 20, _, _ => exact adY
  | 21, _, _ => exact ad4
  | 22, _, _ => exact acU
  | 23, _, _ => exact acj
  | 24, _, _ => exact ab8
  | 25, _, _ => exact abC
  | 26, _, _ => exact aci
  | 27, _, _ => exact ac9
  | 28, _, _ => exact ade
  | 29, _, _ => exact abK
  | 30, _, _ => exact aa5
  | 31, _, _ => exact acA
  | 32, _, _ => exact acf
  | 33, _, _ => exact ad5
  | 34, _, _ => exact aed
  | 35, _, _ => exact acF
  | 36, _, _ => exact adu
  | 37, _, _ => exact adO
  | 38, _, _ => exact adK
  | 39, _, _ => exact abb
  | 40, _, _ => exact aba
  | 41, _, _ => exact ac4
  | 42, _, _ => exact ado
  | 43, _, _ => exact aa3
  | 44, _, _ => exact abz
  | 45, _, _ => exact acK
  | 46, _, _ => exact aew
  | 47, _, _ => exact aei
  | 48, _, _ => exact abM
  | 49, _, _ => exact aeI
  | 50, _, _ => exact adN
  | n + 51, _, h => omega
def aaQ (s : ByteArray) : Option Nat := (List.range 50).find? fun t => txW (t + 1) == s.data.toList
def okW (s : ByteArray) : Bool := (aaQ s).isSome
def cfW (s : ByteArray) : Conf.Cf := cfT (((aaQ s).getD 0 + 1 : Nat) : Int)
def RV : Eng.Spec
  | [x, .s (.str s)] => Conf.gF x fun c => .ite none (decide (c = Conf.dflt) && okW s) (.ret (.tup [Conf.fh (cfW s), Eng.iv 0, Eng.iv 0])) .fail
  | _ => .fail
theorem G7 : SpecOk Tryz.prog 13 RV := Rp.of_eval fun args v hv => by
  unfold RV at hv
  split at hv
  · rename_i x s
    obtain ⟨c, rfl, h2⟩ := Conf.bI hv
    obtain ⟨hb, h3⟩ := ak h2
    obtain rfl := Option.some.inj h3
    rw [Bool.and_eq_true] at hb
    obtain rfl := of_decide_eq_true hb.1
    have ho := hb.2
    unfold okW at ho
    unfold cfW
    cases hf : aaQ s with
    | none => rw [hf] at ho; cases ho
    | some t =>
      unfold aaQ at hf
      have hm := List.mem_range.1 (List.mem_of_find?_eq_some hf)
      have he : (txW (t + 1) == s.data.toList) = true := List.find?_some (p := fun t : Nat => txW (t + 1) == s.data.toList) hf
      have e : txW (t + 1) = s.data.toList := by simpa using he
      have := WO (t + 1) (by omega) (by omega)
      unfold twA twR at this
      rw [e] at this
      exact this
  · cases hv
end Go.Proofs.YtggakaogidjjbaaGreatDoor.Txt

