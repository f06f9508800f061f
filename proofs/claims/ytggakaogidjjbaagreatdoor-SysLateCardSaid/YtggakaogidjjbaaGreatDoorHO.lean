import Derived.Test.YtggakaogidjjbaaGreatDoorHF
/- Layer 4: lines told: limit, max, timeout; the document's Parse over them. -/
namespace Go.Proofs.YtggakaogidjjbaaGreatDoor.Txt
open Go.Eng Go.RowKit
set_option linter.unusedVariables false
set_option linter.unusedSimpArgs false
set_option maxRecDepth 100000
def Xb (n : Nat) : List UInt8 := [109, 97, 120, 58, 32] ++ Ln n
def bF (n : Nat) : List UInt8 := [116, 105, 109, 101, 111, 117, 116, 58, 32] ++ Ln n
theorem wLim : dz (Yj 1) 14 1 := (by kernel_rfl : (dE [.s (.str ⟨⟨Yj 1⟩⟩)]).eval = some (.tup [Eng.iv 14, Eng.iv 1]))
theorem wMax : dz (Xb 1) 9 1 := (by kernel_rfl : (dE [.s (.str ⟨⟨Xb 1⟩⟩)]).eval = some (.tup [Eng.iv 9, Eng.iv 1]))
theorem acL : dz (bF 1) 16 1 := (by kernel_rfl : (dE [.s (.str ⟨⟨bF 1⟩⟩)]).eval = some (.tup [Eng.iv 16, Eng.iv 1]))
theorem acr : dz (bF 2) 16 2 := (by kernel_rfl : (dE [.s (.str ⟨⟨bF 2⟩⟩)]).eval = some (.tup [Eng.iv 16, Eng.iv 2]))
theorem abR : dz (bF 3) 16 3 := (by kernel_rfl : (dE [.s (.str ⟨⟨bF 3⟩⟩)]).eval = some (.tup [Eng.iv 16, Eng.iv 3]))
theorem adZ : dz (bF 4) 16 4 := (by kernel_rfl : (dE [.s (.str ⟨⟨bF 4⟩⟩)]).eval = some (.tup [Eng.iv 16, Eng.iv 4]))
theorem abh : dz (bF 5) 16 5 := (by kernel_rfl : (dE [.s (.str ⟨⟨bF 5⟩⟩)]).eval = some (.tup [Eng.iv 16, Eng.iv 5]))
theorem abL : dz (bF 6) 16 6 := (by kernel_rfl : (dE [.s (.str ⟨⟨bF 6⟩⟩)]).eval = some (.tup [Eng.iv 16, Eng.iv 6]))
theorem acC : dz (bF 7) 16 7 := (by kernel_rfl : (dE [.s (.str ⟨⟨bF 7⟩⟩)]).eval = some (.tup [Eng.iv 16, Eng.iv 7]))
theorem abq : dz (bF 8) 16 8 := (by kernel_rfl : (dE [.s (.str ⟨⟨bF 8⟩⟩)]).eval = some (.tup [Eng.iv 16, Eng.iv 8]))
theorem aeu : dz (bF 9) 16 9 := (by kernel_rfl : (dE [.s (.str ⟨⟨bF 9⟩⟩)]).eval = some (.tup [Eng.iv 16, Eng.iv 9]))
theorem Tn : dz (bF 10) 16 10 := (by kernel_rfl : (dE [.s (.str ⟨⟨bF 10⟩⟩)]).eval = some (.tup [Eng.iv 16, Eng.iv 10]))
theorem Vj : dz (bF 11) 16 11 := (by kernel_rfl : (dE [.s (.str ⟨⟨bF 11⟩⟩)]).eval = some (.tup [Eng.iv 16, Eng.iv 11]))
theorem XH : dz (bF 12) 16 12 := (by kernel_rfl : (dE [.s (.str ⟨⟨bF 12⟩⟩)]).eval = some (.tup [Eng.iv 16, Eng.iv 12]))
theorem U4 : dz (bF 13) 16 13 := (by kernel_rfl : (dE [.s (.str ⟨⟨bF 13⟩⟩)]).eval = some (.tup [Eng.iv 16, Eng.iv 13]))
theorem VM : dz (bF 14) 16 14 := (by kernel_rfl : (dE [.s (.str ⟨⟨bF 14⟩⟩)]).eval = some (.tup [Eng.iv 16, Eng.iv 14]))
theorem VU : dz (bF 15) 16 15 := (by kernel_rfl : (dE [.s (.str ⟨⟨bF 15⟩⟩)]).eval = some (.tup [Eng.iv 16, Eng.iv 15]))
theorem Vm : dz (bF 16) 16 16 := (by kernel_rfl : (dE [.s (.str ⟨⟨bF 16⟩⟩)]).eval = some (.tup [Eng.iv 16, Eng.iv 16]))
theorem TB : dz (bF 17) 16 17 := (by kernel_rfl : (dE [.s (.str ⟨⟨bF 17⟩⟩)]).eval = some (.tup [Eng.iv 16, Eng.iv 17]))
theorem Tk : dz (bF 18) 16 18 := (by kernel_rfl : (dE [.s (.str ⟨⟨bF 18⟩⟩)]).eval = some (.tup [Eng.iv 16, Eng.iv 18]))
theorem YO : dz (bF 19) 16 19 := (by kernel_rfl : (dE [.s (.str ⟨⟨bF 19⟩⟩)]).eval = some (.tup [Eng.iv 16, Eng.iv 19]))
theorem YL : dz (bF 20) 16 20 := (by kernel_rfl : (dE [.s (.str ⟨⟨bF 20⟩⟩)]).eval = some (.tup [Eng.iv 16, Eng.iv 20]))
theorem UP : dz (bF 21) 16 21 := (by kernel_rfl : (dE [.s (.str ⟨⟨bF 21⟩⟩)]).eval = some (.tup [Eng.iv 16, Eng.iv 21]))
theorem VO : dz (bF 22) 16 22 := (by kernel_rfl : (dE [.s (.str ⟨⟨bF 22⟩⟩)]).eval = some (.tup [Eng.iv 16, Eng.iv 22]))
theorem V1 : dz (bF 23) 16 23 := (by kernel_rfl : (dE [.s (.str ⟨⟨bF 23⟩⟩)]).eval = some (.tup [Eng.iv 16, Eng.iv 23]))
theorem Yp : dz (bF 24) 16 24 := (by kernel_rfl : (dE [.s (.str ⟨⟨bF 24⟩⟩)]).eval = some (.tup [Eng.iv 16, Eng.iv 24]))
theorem Uv : dz (bF 25) 16 25 := (by kernel_rfl : (dE [.s (.str ⟨⟨bF 25⟩⟩)]).eval = some (.tup [Eng.iv 16, Eng.iv 25]))
theorem Yr : dz (bF 26) 16 26 := (by kernel_rfl : (dE [.s (.str ⟨⟨bF 26⟩⟩)]).eval = some (.tup [Eng.iv 16, Eng.iv 26]))
theorem TX : dz (bF 27) 16 27 := (by kernel_rfl : (dE [.s (.str ⟨⟨bF 27⟩⟩)]).eval = some (.tup [Eng.iv 16, Eng.iv 27]))
theorem V5 : dz (bF 28) 16 28 := (by kernel_rfl : (dE [.s (.str ⟨⟨bF 28⟩⟩)]).eval = some (.tup [Eng.iv 16, Eng.iv 28]))
theorem Yg : dz (bF 29) 16 29 := (by kernel_rfl : (dE [.s (.str ⟨⟨bF 29⟩⟩)]).eval = some (.tup [Eng.iv 16, Eng.iv 29]))
theorem T8 : dz (bF 30) 16 30 := (by kernel_rfl : (dE [.s (.str ⟨⟨bF 30⟩⟩)]).eval = some (.tup [Eng.iv 16, Eng.iv 30]))
theorem WW : dz (bF 31) 16 31 := (by kernel_rfl : (dE [.s (.str ⟨⟨bF 31⟩⟩)]).eval = some (.tup [Eng.iv 16, Eng.iv 31]))
theorem Wl : dz (bF 32) 16 32 := (by kernel_rfl : (dE [.s (.str ⟨⟨bF 32⟩⟩)]).eval = some (.tup [Eng.iv 16, Eng.iv 32]))
theorem YE : dz (bF 33) 16 33 := (by kernel_rfl : (dE [.s (.str ⟨⟨bF 33⟩⟩)]).eval = some (.tup [Eng.iv 16, Eng.iv 33]))
theorem Xw : dz (bF 34) 16 34 := (by kernel_rfl : (dE [.s (.str ⟨⟨bF 34⟩⟩)]).eval = some (.tup [Eng.iv 16, Eng.iv 34]))
theorem Ud : dz (bF 35) 16 35 := (by kernel_rfl : (dE [.s (.str ⟨⟨bF 35⟩⟩)]).eval = some (.tup [Eng.iv 16, Eng.iv 35]))
theorem Vx : dz (bF 36) 16 36 := (by kernel_rfl : (dE [.s (.str ⟨⟨bF 36⟩⟩)]).eval = some (.tup [Eng.iv 16, Eng.iv 36]))
theorem WD : dz (bF 37) 16 37 := (by kernel_rfl : (dE [.s (.str ⟨⟨bF 37⟩⟩)]).eval = some (.tup [Eng.iv 16, Eng.iv 37]))
theorem Xk : dz (bF 38) 16 38 := (by kernel_rfl : (dE [.s (.str ⟨⟨bF 38⟩⟩)]).eval = some (.tup [Eng.iv 16, Eng.iv 38]))
theorem XY : dz (bF 39) 16 39 := (by kernel_rfl : (dE [.s (.str ⟨⟨bF 39⟩⟩)]).eval = some (.tup [Eng.iv 16, Eng.iv 39]))
theorem Un : dz (bF 40) 16 40 := (by kernel_rfl : (dE [.s (.str ⟨⟨bF 40⟩⟩)]).eval = some (.tup [Eng.iv 16, Eng.iv 40]))
theorem US : dz (bF 41) 16 41 := (by kernel_rfl : (dE [.s (.str ⟨⟨bF 41⟩⟩)]).eval = some (.tup [Eng.iv 16, Eng.iv 41]))
theorem Tz : dz (bF 42) 16 42 := (by kernel_rfl : (dE [.s (.str ⟨⟨bF 42⟩⟩)]).eval = some (.tup [Eng.iv 16, Eng.iv 42]))
theorem WN : dz (bF 43) 16 43 := (by kernel_rfl : (dE [.s (.str ⟨⟨bF 43⟩⟩)]).eval = some (.tup [Eng.iv 16, Eng.iv 43]))
theorem Vv : dz (bF 44) 16 44 := (by kernel_rfl : (dE [.s (.str ⟨⟨bF 44⟩⟩)]).eval = some (.tup [Eng.iv 16, Eng.iv 44]))
theorem TM : dz (bF 45) 16 45 := (by kernel_rfl : (dE [.s (.str ⟨⟨bF 45⟩⟩)]).eval = some (.tup [Eng.iv 16, Eng.iv 45]))
theorem XC : dz (bF 46) 16 46 := (by kernel_rfl : (dE [.s (.str ⟨⟨bF 46⟩⟩)]).eval = some (.tup [Eng.iv 16, Eng.iv 46]))
theorem VF : dz (bF 47) 16 47 := (by kernel_rfl : (dE [.s (.str ⟨⟨bF 47⟩⟩)]).eval = some (.tup [Eng.iv 16, Eng.iv 47]))
theorem Wj : dz (bF 48) 16 48 := (by kernel_rfl : (dE [.s (.str ⟨⟨bF 48⟩⟩)]).eval = some (.tup [Eng.iv 16, Eng.iv 48]))
theorem X6 : dz (bF 49) 16 49 := (by kernel_rfl : (dE [.s (.str ⟨⟨bF 49⟩⟩)]).eval = some (.tup [Eng.iv 16, Eng.iv 49]))
theorem VZ : dz (bF 50) 16 50 := (by kernel_rfl : (dE [.s (.str ⟨⟨bF 50⟩⟩)]).eval = some (.tup [Eng.iv 16, Eng.iv 50]))
theorem wTim : ∀ t : Nat, 1 ≤ t → t ≤ 50 → dz (bF t) 16 t := by
  intro t h1 h2
  match t, h1, h2 with
  | 1, _, _ => exact acL
  | 2, _, _ => exact acr
  | 3, _, _ => exact abR
  | 4, _, _ => exact adZ
  | 5, _, _ => exact abh
  | 6, _, _ => exact abL
  | 7, _, _ => exact acC
  | 8, _, _ => exact abq
  | 9, _, _ => exact aeu
  | 10, _, _ => exact Tn
  | 11, _, _ => exact Vj
  | 12, _, _ => exact XH
  | 13, _, _ => exact U4
  | 14, _, _ => exact VM
  | 15, _, _ => exact VU
  | 16, _, _ => exact Vm
  | 17, _, _ => exact TB
  | 18, _, _ => exact Tk
  | 19, _, _ => exact YO
  | 20, _, _ => exact YL
  | 21, _, _ => exact UP
  | 22, _, _ => exact VO
  | 23, _, _ => exact V1
  | 24, _, _ => exact Yp
  | 25, _, _ => exact Uv
  | 26, _, _ => exact Yr
  | 27, _, _ => exact TX
  | 28, _, _ => exact V5
  | 29, _, _ => exact Yg
  | 30, _, _ => exact T8
  | 31, _, _ => exact WW
  | 32, _, _ => exact Wl
  | 33, _, _ => exact YE
  | 34, _, _ => exact Xw
  | 35, _, _ => exact Ud
  | 36, _, _ => exact Vx
  | 37, _, _ => exact WD
  | 38, _, _ => exact Xk
  | 39, _, _ => exact XY
  | 40, _, _ => exact Un
  | 41, _, _ => exact US
  | 42, _, _ => exact Tz
  | 43, _, _ => exact WN
  | 44, _, _ => exact Vv
  | 45, _, _ => exact TM
  | 46, _, _ => exact XC
  | 47, _, _ => exact VF
  | 48, _, _ => exact Wj
  | 49, _, _ => exact X6
  | 50, _, _ => exact VZ
  | n + 51, _, h => omega
/-- the line of a number, and its number -/
def lnW (s : List UInt8) : Option (Int × Int) := bif s == Yj 1 then some (14, 1) else bif s == Xb 1 then some (9, 1) else ((List.range 50).find? fun t => bF (t + 1) == s).map fun t => (16, ((t + 1 : Nat) : Int))
def abe : Eng.Spec
  | [.s (.str s)] => opt (lnW s.data.toList) fun p => .ret (.tup [Eng.iv p.1, Eng.iv p.2])
  | _ => .fail
theorem Ql : SpecOk Tryz.prog 28 abe := P2.of_eval fun args v hv => by
  unfold abe at hv
  split at hv
  · rename_i s
    obtain ⟨p, hf, h2⟩ := ab hv
    obtain rfl := Option.some.inj h2
    have key : ∀ l : List UInt8, l = s.data.toList → ∀ a b : Int, dz l a b → (dE [.s (.str s)]).eval = some (.tup [Eng.iv a, Eng.iv b]) := fun l e a b h => by
      unfold dz at h
      rw [e] at h
      exact h
    unfold lnW at hf
    cases c1 : s.data.toList == Yj 1 with
    | true =>
      rw [c1] at hf
      obtain rfl := Option.some.inj hf
      exact key _ (by simpa using (eq_of_beq c1).symm) _ _ wLim
    | false =>
      rw [c1] at hf
      cases c2 : s.data.toList == Xb 1 with
      | true =>
        rw [c2] at hf
        obtain rfl := Option.some.inj hf
        exact key _ (by simpa using (eq_of_beq c2).symm) _ _ wMax
      | false =>
        rw [c2] at hf
        obtain ⟨t, ht, e⟩ := Option.map_eq_some_iff.1 hf
        subst e
        have hm := List.mem_range.1 (List.mem_of_find?_eq_some ht)
        have he : (bF (t + 1) == s.data.toList) = true := List.find?_some (p := fun t : Nat => bF (t + 1) == s.data.toList) ht
        exact key _ (by simpa using he) _ _ (wTim (t + 1) (by omega) (by omega))
  · cases hv
noncomputable def W3 : Cfg := ⟨Tryz.prog, lookG [(27, .val afd), (29, .val af3), (28, .val abe), (30, .val Conf.jN)], [], 0⟩
theorem abX : W3.Ok := Cfg.ok ⟨PE, MX, Ql, Conf.ox, trivial⟩ trivial
noncomputable def afc : Eng.Spec := aB W3 (rounds W3 40 2) 13
theorem Rp : SpecOk Tryz.prog 13 afc := bE abX l6 40 2 Tryz.func13 (by kernel_rfl) (by kernel_rfl)
/-- a text of three such lines -/
def txW (t : Nat) : List UInt8 := Yj 1 ++ ([10] ++ (Xb 1 ++ ([10] ++ bF t)))
noncomputable def twA (t : Nat) : Option V := (afc [Conf.fh Conf.dflt, .s (.str ⟨⟨txW t⟩⟩)]).eval
def cfT (t : Int) : Conf.Cf := { Conf.dflt with limit := 1, max := 1, timeout := t }
def twR (t : Nat) : Option V := some (.tup [Conf.fh (cfT t), Eng.iv 0, Eng.iv 0])
end Go.Proofs.YtggakaogidjjbaaGreatDoor.Txt

