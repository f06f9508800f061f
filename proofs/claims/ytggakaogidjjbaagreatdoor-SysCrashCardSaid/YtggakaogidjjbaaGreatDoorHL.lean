import Derived.Test.YtggakaogidjjbaaGreatDoorHF
/- Layer 4: lines told: initial, limit; the document's Parse over them. -/
namespace Go.Proofs.YtggakaogidjjbaaGreatDoor.Txt
open Go.Eng Go.RowKit
set_option linter.unusedVariables false
set_option linter.unusedSimpArgs false
set_option maxRecDepth 100000
def iniB (n : Nat) : List UInt8 := [105, 110, 105, 116, 105, 97, 108, 58, 32] ++ decB n
theorem iniL1 : isLn (iniB 1) 10 1 := (by kernel_rfl : (linZ [.s (.str ⟨⟨iniB 1⟩⟩)]).eval = some (.tup [Eng.iv 10, Eng.iv 1]))
theorem iniL2 : isLn (iniB 2) 10 2 := (by kernel_rfl : (linZ [.s (.str ⟨⟨iniB 2⟩⟩)]).eval = some (.tup [Eng.iv 10, Eng.iv 2]))
theorem iniL3 : isLn (iniB 3) 10 3 := (by kernel_rfl : (linZ [.s (.str ⟨⟨iniB 3⟩⟩)]).eval = some (.tup [Eng.iv 10, Eng.iv 3]))
theorem iniL4 : isLn (iniB 4) 10 4 := (by kernel_rfl : (linZ [.s (.str ⟨⟨iniB 4⟩⟩)]).eval = some (.tup [Eng.iv 10, Eng.iv 4]))
theorem iniL5 : isLn (iniB 5) 10 5 := (by kernel_rfl : (linZ [.s (.str ⟨⟨iniB 5⟩⟩)]).eval = some (.tup [Eng.iv 10, Eng.iv 5]))
theorem iniL6 : isLn (iniB 6) 10 6 := (by kernel_rfl : (linZ [.s (.str ⟨⟨iniB 6⟩⟩)]).eval = some (.tup [Eng.iv 10, Eng.iv 6]))
theorem limU1 : isLn (limB 1) 14 1 := (by kernel_rfl : (linZ [.s (.str ⟨⟨limB 1⟩⟩)]).eval = some (.tup [Eng.iv 14, Eng.iv 1]))
theorem limU2 : isLn (limB 2) 14 2 := (by kernel_rfl : (linZ [.s (.str ⟨⟨limB 2⟩⟩)]).eval = some (.tup [Eng.iv 14, Eng.iv 2]))
theorem limU3 : isLn (limB 3) 14 3 := (by kernel_rfl : (linZ [.s (.str ⟨⟨limB 3⟩⟩)]).eval = some (.tup [Eng.iv 14, Eng.iv 3]))
theorem limU4 : isLn (limB 4) 14 4 := (by kernel_rfl : (linZ [.s (.str ⟨⟨limB 4⟩⟩)]).eval = some (.tup [Eng.iv 14, Eng.iv 4]))
theorem limU5 : isLn (limB 5) 14 5 := (by kernel_rfl : (linZ [.s (.str ⟨⟨limB 5⟩⟩)]).eval = some (.tup [Eng.iv 14, Eng.iv 5]))
def lnU : List (List UInt8 × Int × Int) := [(iniB 1, 10, 1), (iniB 2, 10, 2), (iniB 3, 10, 3), (iniB 4, 10, 4), (iniB 5, 10, 5), (iniB 6, 10, 6), (limB 1, 14, 1), (limB 2, 14, 2), (limB 3, 14, 3), (limB 4, 14, 4), (limB 5, 14, 5)]
theorem lnU_ok : ∀ p ∈ lnU, isLn p.1 p.2.1 p.2.2 := by
  intro p hp
  simp only [lnU, List.mem_cons, List.not_mem_nil, or_false] at hp
  rcases hp with rfl | rfl | rfl | rfl | rfl | rfl | rfl | rfl | rfl | rfl | rfl
  · exact iniL1
  · exact iniL2
  · exact iniL3
  · exact iniL4
  · exact iniL5
  · exact iniL6
  · exact limU1
  · exact limU2
  · exact limU3
  · exact limU4
  · exact limU5
def linU : Eng.Spec
  | [.s (.str s)] => opt (lnU.find? fun p => p.1 == s.data.toList) fun p => .ret (.tup [Eng.iv p.2.1, Eng.iv p.2.2])
  | _ => .fail
theorem linU_ok : SpecOk Tryz.prog 28 linU := linZ_ok.of_eval fun args v hv => by
  unfold linU at hv
  split at hv
  · rename_i s
    obtain ⟨p, hf, h2⟩ := opt_eval hv
    obtain rfl := Option.some.inj h2
    have hm : p ∈ lnU := List.mem_of_find?_eq_some hf
    have he : (p.1 == s.data.toList) = true := List.find?_some (p := fun p : List UInt8 × Int × Int => p.1 == s.data.toList) hf
    have e : p.1 = s.data.toList := by simpa using he
    have := lnU_ok p hm
    unfold isLn at this
    rw [e] at this
    exact this
  · cases hv
noncomputable def U3 : Cfg := ⟨Tryz.prog, lookG [(27, .val valZ), (29, .val madZ), (28, .val linU), (30, .val Conf.mayS)], [], 0⟩
theorem U3_ok : U3.Ok := Cfg.ok ⟨valZ_ok, madZ_ok, linU_ok, Conf.refmay_ok, trivial⟩ trivial
noncomputable def parU : Eng.Spec := execS U3 (rounds U3 40 2) 13
theorem parU_ok : SpecOk Tryz.prog 13 parU := execS_rounds U3_ok mixedZ 40 2 Tryz.func13 (by kernel_rfl) (by kernel_rfl)
/-- a text of two such lines -/
def txU (a b : Nat) : List UInt8 := iniB a ++ ([10] ++ limB b)
noncomputable def tuA (a b : Nat) : Option V := (parU [Conf.confV Conf.dflt, .s (.str ⟨⟨txU a b⟩⟩)]).eval
def tuR (a b : Nat) : Option V := some (.tup [Conf.confV { Conf.dflt with initial := (a : Int), limit := (b : Int) }, Eng.iv 0, Eng.iv 0])
end Go.Proofs.YtggakaogidjjbaaGreatDoor.Txt

