import Derived.Shelf.SlSortCmp.WholeK
import Derived.Test.YtjjclmgiehnkbaaProg
import Derived.Test.YtjjclmgiehnkbaaChecked
import Derived.Test.YtjjclmgiehnkbaaGE
/- The library's sort that this program calls, told to be the one that the library's contract speaks of. -/
namespace Go.Proofs
open Go.Shelf
def Try.sortRv_ren : Go.Shelf.Ren := ⟨fun | 14 => 30 | 20 => 34 | 21 => 35 | 22 => 36 | 23 => 37 | 24 => 38 | 25 => 39 | 26 => 40 | 27 => 41 | 46 => 46 | 47 => 47 | 48 => 48 | 49 => 49 | 50 => 50 | 15 => 31 | 57 => 51 | 28 => 42 | 29 => 43 | n => n, fun | 24 => 51 | 22 => 46 | 3 => 3 | 25 => 55 | 4 => 4 | 0 => 0 | 46 => 74 | 45 => 73 | 50 => 78 | 66 => 84 | 39 => 25 | 55 => 24 | 70 => 88 | 76 => 94 | 77 => 95 | 53 => 34 | 5 => 5 | 9 => 9 | n => n, fun | n => n⟩
theorem Try.sortRv : Go.Proofs.SlLaysF0.n14 Try.prog Try.sortRv_ren := {
  mixed := by kernel_rfl
  f14 := ⟨Try.f30.name, by decide, Try.func30.trans (congrArg some (by kernel_rfl))⟩
  f15 := Try.func31.trans (congrArg some (by kernel_rfl))
  f20 := ⟨Try.f34.name, by decide, Try.func34.trans (congrArg some (by kernel_rfl))⟩
  f21 := ⟨Try.f35.name, by decide, Try.func35.trans (congrArg some (by kernel_rfl))⟩
  f22 := ⟨Try.f36.name, by decide, Try.func36.trans (congrArg some (by kernel_rfl))⟩
  f23 := ⟨Try.f37.name, by decide, Try.func37.trans (congrArg some (by kernel_rfl))⟩
  f24 := ⟨Try.f38.name, by decide, Try.func38.trans (congrArg some (by kernel_rfl))⟩
  f25 := ⟨Try.f39.name, by decide, Try.func39.trans (congrArg some (by kernel_rfl))⟩
  f26 := ⟨Try.f40.name, by decide, Try.func40.trans (congrArg some (by kernel_rfl))⟩
  f27 := ⟨Try.f41.name, by decide, Try.func41.trans (congrArg some (by kernel_rfl))⟩
  f28 := Try.func42.trans (congrArg some (by kernel_rfl))
  f29 := Try.func43.trans (congrArg some (by kernel_rfl))
  f46 := ⟨Try.f46.name, by decide, Try.func46.trans (congrArg some (by kernel_rfl))⟩
  f47 := Try.func47.trans (congrArg some (by kernel_rfl))
  f48 := Try.func48.trans (congrArg some (by kernel_rfl))
  f49 := ⟨Try.f49.name, by decide, Try.func49.trans (congrArg some (by kernel_rfl))⟩
  f50 := ⟨Try.f50.name, by decide, Try.func50.trans (congrArg some (by kernel_rfl))⟩
  f57 := ⟨Try.f51.name, by decide, Try.func51.trans (congrArg some (by kernel_rfl))⟩
  t0 := Try.underlying0
  a0 := Try.isAgg0
  z0 := Try.sizeOf0
  v0 := Try.zeroValue0
  t3 := Try.underlying3
  a3 := Try.isAgg3
  z3 := Try.sizeOf3
  v3 := Try.zeroValue3
  t4 := Try.underlying4
  a4 := Try.isAgg4
  z4 := Try.sizeOf4
  v4 := Try.zeroValue4
  t5 := Try.underlying5
  a5 := Try.isAgg5
  z5 := Try.sizeOf5
  v5 := Try.zeroValue5
  t9 := Try.underlying9
  a9 := Try.isAgg9
  z9 := Try.sizeOf9
  v9 := Try.zeroValue9
  t22 := Try.underlying46
  a22 := Try.isAgg46
  z22 := Try.sizeOf46
  v22 := Try.zeroValue46
  t25 := Try.underlying55
  a25 := Try.isAgg55
  z25 := Try.sizeOf55
  v25 := Try.zeroValue55
  t39 := Try.underlying25
  a39 := Try.isAgg25
  z39 := Try.sizeOf25
  v39 := Try.zeroValue25
  t45 := Try.underlying73
  a45 := Try.isAgg73
  z45 := Try.sizeOf73
  v45 := Try.zeroValue73
  t46 := Try.underlying74
  a46 := Try.isAgg74
  z46 := Try.sizeOf74
  v46 := Try.zeroValue74
  t50 := Try.underlying78
  a50 := Try.isAgg78
  z50 := Try.sizeOf78
  v50 := Try.zeroValue78
  t53 := Try.underlying34
  a53 := Try.isAgg34
  z53 := Try.sizeOf34
  v53 := Try.zeroValue34
  t55 := Try.underlying24
  a55 := Try.isAgg24
  z55 := Try.sizeOf24
  v55 := Try.zeroValue24
  t66 := Try.underlying84
  a66 := Try.isAgg84
  z66 := Try.sizeOf84
  v66 := Try.zeroValue84
  t70 := Try.underlying88
  a70 := Try.isAgg88
  z70 := Try.sizeOf88
  v70 := Try.zeroValue88
  t76 := Try.underlying94
  a76 := Try.isAgg94
  z76 := Try.sizeOf94
  v76 := Try.zeroValue94
  t77 := Try.underlying95
  a77 := Try.isAgg95
  z77 := Try.sizeOf95
  v77 := Try.zeroValue95 }
end Go.Proofs

/- Layer 18: rivals, their order, heaps, who is among the first: plain facts. No program is named here. -/
namespace Go.Proofs.Ytjjclmgiehnkbaa.Sub
open Go.Eng
set_option linter.unusedVariables false
set_option linter.unusedSimpArgs false
theorem ite_T' {α : Type} {b : Bool} {x : T α} {v : α} (h : (T.ite none b x .fail).eval = some v) : b = true ∧ x.eval = some v := by
  cases b with
  | true => exact ⟨rfl, h⟩
  | false => cases h
abbrev Rv : Type := Int × Int × Int
def lt3 (a b : Rv) : Bool := bif a.1 != b.1 then decide (a.1 < b.1) else bif a.2.1 != b.2.1 then decide (a.2.1 < b.2.1) else decide (a.2.2 < b.2.2)
theorem lt3_iff (a b : Rv) : lt3 a b = true ↔ a.1 < b.1 ∨ (a.1 = b.1 ∧ (a.2.1 < b.2.1 ∨ (a.2.1 = b.2.1 ∧ a.2.2 < b.2.2))) := by
  unfold lt3
  by_cases h : a.1 = b.1
  · rw [bne_eq_false_iff_eq.2 h]
    by_cases h2 : a.2.1 = b.2.1
    · rw [bne_eq_false_iff_eq.2 h2]
      simp only [cond_false, decide_eq_true_eq]
      omega
    · rw [bne_iff_ne.2 h2]
      simp only [cond_false, cond_true, decide_eq_true_eq]
      omega
  · rw [bne_iff_ne.2 h]
    simp only [cond_true, decide_eq_true_eq]
    omega
theorem lt3_iff' (a b : Rv) : lt3 a b = false ↔ ¬ (a.1 < b.1 ∨ (a.1 = b.1 ∧ (a.2.1 < b.2.1 ∨ (a.2.1 = b.2.1 ∧ a.2.2 < b.2.2)))) := by
  rw [← lt3_iff, Bool.not_eq_true]
theorem lt3_irr (a : Rv) : lt3 a a = false := by rw [lt3_iff']; omega
theorem lt3_trans {a b c : Rv} (h : lt3 a b = true) (k : lt3 b c = true) : lt3 a c = true := by rw [lt3_iff] at *; omega
theorem lt3_asym {a b : Rv} (h : lt3 a b = true) : lt3 b a = false := by rw [lt3_iff] at h; rw [lt3_iff']; omega
theorem lt3_tot {a b : Rv} (h : lt3 a b = false) (k : lt3 b a = false) : a = b := by
  rw [lt3_iff'] at *
  obtain ⟨a1, a2, a3⟩ := a
  obtain ⟨b1, b2, b3⟩ := b
  simp only [Prod.mk.injEq]
  simp only at h k
  omega
theorem nlt_trans {a b c : Rv} (h : lt3 a b = false) (k : lt3 b c = false) : lt3 a c = false := by rw [lt3_iff'] at *; omega
/-! ### heaps with the last of them on top -/
def G (l : List Rv) (i : Nat) : Rv := l.getD i (0, 0, 0)
theorem G_at {l : List Rv} {i : Nat} (h : i < l.length) : G l i = l[i] := by
  unfold G
  rw [List.getD_eq_getElem?_getD, List.getElem?_eq_getElem h]; rfl
def Hp (l : List Rv) (n : Nat) : Prop := ∀ k, 0 < k → k < n → lt3 (G l ((k - 1) / 2)) (G l k) = false
theorem Hp.top {l : List Rv} {n : Nat} (h : Hp l n) : ∀ (k : Nat), k < n → lt3 (G l 0) (G l k) = false := by
  intro k
  induction k using Nat.strongRecOn with
  | ind k ih =>
    intro hk
    by_cases q : k = 0
    · rw [q]; exact lt3_irr _
    · exact nlt_trans (ih ((k - 1) / 2) (by omega) (by omega)) (h k (by omega) hk)
def sw (l : List Rv) (i j : Nat) : List Rv := (l.set i (G l j)).set j (G l i)
theorem sw_len (l : List Rv) (i j : Nat) : (sw l i j).length = l.length := by simp [sw]
theorem sw_perm {l : List Rv} {i j : Nat} (hi : i < l.length) (hj : j < l.length) : (sw l i j).Perm l := by
  unfold sw
  rw [G_at hi, G_at hj]
  exact List.set_set_perm hi hj
theorem sw_get {l : List Rv} {i j : Nat} (hi : i < l.length) (hj : j < l.length) (k : Nat) : G (sw l i j) k = if k = j then G l i else if k = i then G l j else G l k := by
  have e : (sw l i j)[k]? = if j = k then some (G l i) else if i = k then some (G l j) else l[k]? := by
    unfold sw
    rw [List.getElem?_set, List.length_set, List.getElem?_set, if_pos hj, if_pos hi]
  show (sw l i j).getD k _ = _
  rw [List.getD_eq_getElem?_getD, e]
  by_cases h1 : k = j
  · subst h1; simp
  · have h1' : ¬ j = k := fun e => h1 e.symm
    simp only [h1, h1', if_false]
    by_cases h2 : k = i
    · subst h2; simp
    · have h2' : ¬ i = k := fun e => h2 e.symm
      simp only [h2, h2', if_false]
      unfold G; rw [List.getD_eq_getElem?_getD]
/-- all is in order but for who stands at j, that may be too great -/
structure UpI (l : List Rv) (n j : Nat) : Prop where
  a : ∀ k, 0 < k → k < n → k ≠ j → lt3 (G l ((k - 1) / 2)) (G l k) = false
  b : ∀ k, 0 < k → k < n → (k - 1) / 2 = j → 0 < j → lt3 (G l ((j - 1) / 2)) (G l k) = false
theorem UpI.done {l : List Rv} {n j : Nat} (h : UpI l n j) (hd : j = 0 ∨ lt3 (G l ((j - 1) / 2)) (G l j) = false) : Hp l n := by
  intro k hk hn
  by_cases q : k = j
  · rcases hd with d | d
    · omega
    · rw [q]; exact d
  · exact h.a k hk hn q
theorem UpI.step {l : List Rv} {n j : Nat} (h : UpI l n j) (hn : n = l.length) (hj : j < n) (h0 : 0 < j) (hl : lt3 (G l ((j - 1) / 2)) (G l j) = true) : UpI (sw l ((j - 1) / 2) j) n ((j - 1) / 2) := by
  have hi : (j - 1) / 2 < l.length := by omega
  have hj' : j < l.length := by omega
  have g := sw_get hi hj'
  have nl := lt3_asym hl
  refine ⟨fun k hk hkn hne => ?_, fun k hk hkn hp hi0 => ?_⟩
  · rw [g, g]
    by_cases e1 : k = j
    · subst e1
      rw [if_neg (by omega), if_pos rfl, if_pos rfl]
      exact nl
    · rw [if_neg e1, if_neg hne]
      by_cases e2 : (k - 1) / 2 = j
      · rw [if_pos e2]
        exact h.b k hk hkn e2 h0
      · rw [if_neg e2]
        by_cases e3 : (k - 1) / 2 = (j - 1) / 2
        · rw [if_pos e3]
          have := h.a k hk hkn e1
          rw [e3] at this
          exact nlt_trans nl this
        · rw [if_neg e3]
          exact h.a k hk hkn e1
  · rw [g, g]
    rw [if_neg (show ¬ ((j - 1) / 2 - 1) / 2 = j by omega), if_neg (show ¬ ((j - 1) / 2 - 1) / 2 = (j - 1) / 2 by omega)]
    have hpar := h.a ((j - 1) / 2) hi0 (by omega) (by omega)
    by_cases e1 : k = j
    · rw [if_pos e1]; exact hpar
    · rw [if_neg e1, if_neg (by omega)]
      have := h.a k hk hkn e1
      rw [hp] at this
      exact nlt_trans hpar this
/-- all is in order but for who stands at i, that may be too small -/
structure DnI (l : List Rv) (n i : Nat) : Prop where
  a : ∀ k, 0 < k → k < n → (k - 1) / 2 ≠ i → lt3 (G l ((k - 1) / 2)) (G l k) = false
  b : ∀ k, 0 < k → k < n → (k - 1) / 2 = i → 0 < i → lt3 (G l ((i - 1) / 2)) (G l k) = false
/-- the child that is to go up -/
def kid (l : List Rv) (n i : Nat) : Nat := if 2 * i + 2 < n ∧ lt3 (G l (2 * i + 1)) (G l (2 * i + 2)) = true then 2 * i + 2 else 2 * i + 1
theorem kid_is (l : List Rv) (n i : Nat) (h : 2 * i + 1 < n) : kid l n i < n ∧ (kid l n i - 1) / 2 = i ∧ 0 < kid l n i ∧ ∀ k, 0 < k → k < n → (k - 1) / 2 = i → lt3 (G l (kid l n i)) (G l k) = false := by
  unfold kid
  split
  · rename_i q
    refine ⟨q.1, by omega, by omega, fun k hk hn hp => ?_⟩
    by_cases e : k = 2 * i + 2
    · rw [e]; exact lt3_irr _
    · rw [show k = 2 * i + 1 by omega]; exact lt3_asym q.2
  · rename_i q
    refine ⟨h, by omega, by omega, fun k hk hn hp => ?_⟩
    by_cases e : k = 2 * i + 2
    · rw [e]
      cases hb : lt3 (G l (2 * i + 1)) (G l (2 * i + 2))
      · rfl
      · exact absurd ⟨by omega, hb⟩ q
    · rw [show k = 2 * i + 1 by omega]; exact lt3_irr _
theorem DnI.done {l : List Rv} {n i : Nat} (h : DnI l n i) (hd : n ≤ 2 * i + 1 ∨ lt3 (G l i) (G l (kid l n i)) = false) : Hp l n := by
  intro k hk hn
  by_cases q : (k - 1) / 2 = i
  · rcases hd with d | d
    · omega
    · rw [q]
      exact nlt_trans d ((kid_is l n i (by omega)).2.2.2 k hk hn q)
  · exact h.a k hk hn q
theorem DnI.step {l : List Rv} {n i : Nat} (h : DnI l n i) (hn : n ≤ l.length) (hi : 2 * i + 1 < n) (hl : lt3 (G l i) (G l (kid l n i)) = true) : DnI (sw l i (kid l n i)) n (kid l n i) := by
  obtain ⟨k1, k2, k3, k4⟩ := kid_is l n i hi
  generalize kid l n i = j at *
  have g := sw_get (l := l) (i := i) (j := j) (by omega) (by omega)
  have nl := lt3_asym hl
  refine ⟨fun k hk hkn hne => ?_, fun k hk hkn hp hj0 => ?_⟩
  · rw [g, g, if_neg hne]
    by_cases e1 : k = j
    · rw [if_pos e1, if_pos (by rw [e1]; exact k2)]
      exact nl
    · rw [if_neg e1]
      by_cases e2 : (k - 1) / 2 = i
      · rw [if_pos e2, if_neg (by omega)]
        exact k4 k hk hkn e2
      · rw [if_neg e2]
        by_cases e3 : k = i
        · rw [if_pos e3, e3]
          have hi0 : 0 < i := by omega
          exact h.b j k3 k1 k2 hi0
        · rw [if_neg e3]
          exact h.a k hk hkn e2
  · rw [g, g, k2, if_neg (show ¬ i = j by omega), if_pos rfl, if_neg (by omega), if_neg (by omega)]
    have := h.a k hk hkn (by omega)
    rw [hp] at this
    exact this
end Go.Proofs.Ytjjclmgiehnkbaa.Sub

/- Layer 18: scores, the field's methods, run by the machine. -/
namespace Go.Proofs.Ytjjclmgiehnkbaa.Sub
open Go.Eng Go.RowKit
set_option linter.unusedVariables false
set_option linter.unusedSimpArgs false
set_option maxRecDepth 100000
theorem mixed : Try.prog.follows .mixedOrders = true := Checked.mixed Try.checked
abbrev KR : List K := [.int .u32, .int .i64, .int .i64]
def rvV (x : Rv) : V := .agg [.s (.int .u32 x.1), iv x.2.1, iv x.2.2]
noncomputable def B0 : Cfg := ⟨Try.prog, lookG [], [], 0⟩
theorem B0_ok : B0.Ok := Cfg.ok trivial trivial
noncomputable def scX : Eng.Spec := execS B0 noLoops 12
theorem scX_ok : SpecOk Try.prog 12 scX := execS_plain B0_ok mixed Try.func12 (by kernel_rfl) (by kernel_rfl)
noncomputable def ahX : Eng.Spec := execS B0 noLoops 70
theorem ahX_ok : SpecOk Try.prog 70 ahX := execS_plain B0_ok mixed Try.func70 (by kernel_rfl) (by kernel_rfl)
noncomputable def lnX : Eng.Obj := execO B0 noLoops 21
theorem lnX_ok : ObjOk Try.prog 21 lnX := execO_plain B0_ok mixed Try.func21 (by kernel_rfl) (by kernel_rfl)
noncomputable def swX : Eng.Obj := execO B0 noLoops 69
theorem swX_ok : ObjOk Try.prog 69 swX := execO_plain B0_ok mixed Try.func69 (by kernel_rfl) (by kernel_rfl)
noncomputable def puX : Eng.Obj := execO B0 noLoops 72
theorem puX_ok : ObjOk Try.prog 72 puX := execO_plain B0_ok mixed Try.func72 (by kernel_rfl) (by kernel_rfl)
noncomputable def poX : Eng.Obj := execO B0 noLoops 71
theorem poX_ok : ObjOk Try.prog 71 poX := execO_plain B0_ok mixed Try.func71 (by kernel_rfl) (by kernel_rfl)
end Go.Proofs.Ytjjclmgiehnkbaa.Sub

/- Layer 18: contracts of scores, the order, the field's methods. -/
namespace Go.Proofs.Ytjjclmgiehnkbaa.Sub
open Go.Eng Go.RowKit
set_option linter.unusedVariables false
set_option linter.unusedSimpArgs false
set_option maxRecDepth 100000
def scI (i : Int) : Int := IntKind.wrap .u32 (IntKind.wrap .u32 (IntKind.wrap .u64 i) * 2654435761)
def scS : Eng.Spec
  | [.s (.int .i64 i)] => .ret (.s (.int .u32 (scI i)))
  | _ => .fail
theorem sc_run (i : Int) : (scX [iv i]).eval = some (.s (.int .u32 (scI i))) := by
  rw [← T.eval_anon (t := scX _)]; kernel_rfl
theorem scS_ok : SpecOk Try.prog 12 scS := scX_ok.of_den fun args v hfl h => by
  clear hfl
  unfold scS at h
  split at h
  · obtain rfl := Option.some.inj h
    exact ⟨_, sc_run _, ⟨rfl, rfl⟩, rfl⟩
  · cases h
def ahS : Eng.Spec
  | [.agg [.s (.int .u32 a), .s (.int .i64 b), .s (.int .i64 c)], .agg [.s (.int .u32 x), .s (.int .i64 y), .s (.int .i64 z)]] => .ret (.s (.bool (lt3 (a, b, c) (x, y, z))))
  | _ => .fail
theorem ah_1 (a b : Rv) : T.path [true] (T.anon (ahX [rvV a, rvV b])) = some ([(a.1 != b.1, true)], .s (.bool (decide (a.1 < b.1)))) := by kernel_rfl
theorem ah_2 (a b : Rv) : T.path [false, true] (T.anon (ahX [rvV a, rvV b])) = some ([(a.1 != b.1, false), (a.2.1 != b.2.1, true)], .s (.bool (decide (a.2.1 < b.2.1)))) := by kernel_rfl
theorem ah_3 (a b : Rv) : T.path [false, false] (T.anon (ahX [rvV a, rvV b])) = some ([(a.1 != b.1, false), (a.2.1 != b.2.1, false)], .s (.bool (decide (a.2.2 < b.2.2)))) := by kernel_rfl
theorem ah_run (a b : Rv) : (ahX [rvV a, rvV b]).eval = some (.s (.bool (lt3 a b))) := by
  rw [← T.eval_anon (t := ahX _)]
  unfold lt3
  cases h : a.1 != b.1 with
  | true => exact T.path_eval (ah_1 a b) ⟨h, trivial⟩
  | false =>
    cases k : a.2.1 != b.2.1 with
    | true => exact T.path_eval (ah_2 a b) ⟨h, k, trivial⟩
    | false => exact T.path_eval (ah_3 a b) ⟨h, k, trivial⟩
theorem ahS_ok : SpecOk Try.prog 70 ahS := ahX_ok.of_den fun args v hfl h => by
  clear hfl
  unfold ahS at h
  split at h
  · rename_i a b c x y z
    obtain rfl := Option.some.inj h
    exact ⟨_, ah_run (a, b, c) (x, y, z), ⟨rfl, rfl⟩, rfl⟩
  · cases h
noncomputable def B1 : Cfg := ⟨Try.prog, lookG [(70, .val ahS)], [], 0⟩
theorem B1_ok : B1.Ok := Cfg.ok ⟨ahS_ok, trivial⟩ trivial
noncomputable def lsX : Eng.Obj := execO B1 noLoops 68
theorem lsX_ok : ObjOk Try.prog 68 lsX := execO_plain B1_ok mixed Try.func68 (by kernel_rfl) (by kernel_rfl)
def rB (l : List Rv) : Blk := .lst true 51 KR l
def inR (n : Nat) (l : List Rv) (i : Int) : Bool := decide (0 ≤ i) && (decide (i < (n : Int)) && decide (0 + i.toNat < l.length))
def ilR (l : List Rv) (i : Int) : Bool := decide (0 + i.toNat < l.length)
theorem ls_way (n : Nat) (i j : Int) (l : List Rv) : T.path [true, true, true, true] (T.anon (lsX [.sub 0 3 0 n, iv i, iv j] [(0, rB l)])) = some ([(inR n l j, true), (ilR l j, true), (inR n l i, true), (ilR l i, true)], (.s (.bool (lt3 (G l (0 + j.toNat)) (G l (0 + i.toNat)))), [(0, rB l)])) := by kernel_rfl
theorem sw_way (n : Nat) (i j : Int) (l : List Rv) : T.path [true, true, true, true, true, true, true, true] (T.anon (swX [.sub 0 3 0 n, iv i, iv j] [(0, rB l)])) = some ([(inR n l j, true), (ilR l j, true), (inR n l i, true), (ilR l i, true), (inR n l i, true), (ilR l i, true), (inR n (l.set (0 + i.toNat) (G l (0 + j.toNat))) j, true), (ilR (l.set (0 + i.toNat) (G l (0 + j.toNat))) j, true)], (.tup [], [(0, rB ((l.set (0 + i.toNat) (G l (0 + j.toNat))).set (0 + j.toNat) (G l (0 + i.toNat))))])) := by kernel_rfl
theorem inR_is {n : Nat} {l : List Rv} {i : Int} (hn : n = l.length) (h0 : 0 ≤ i) (h1 : i < (n : Int)) : inR n l i = true ∧ ilR l i = true := by
  unfold inR ilR
  rw [decide_eq_true h0, decide_eq_true h1, decide_eq_true (show 0 + i.toNat < l.length by omega)]
  exact ⟨rfl, rfl⟩
/-- what is asked of two places of a field -/
def okG (n : Nat) (i j : Int) (l : List Rv) : Bool := decide (n = l.length) && (decide (0 ≤ i) && (decide (i < (n : Int)) && (decide (0 ≤ j) && decide (j < (n : Int)))))
theorem okG_is {n : Nat} {i j : Int} {l : List Rv} : okG n i j l = true ↔ n = l.length ∧ 0 ≤ i ∧ i < (n : Int) ∧ 0 ≤ j ∧ j < (n : Int) := by
  unfold okG; simp only [Bool.and_eq_true, decide_eq_true_eq]
def lsS : Eng.Obj
  | [.sub 0 3 0 n, .s (.int .i64 i), .s (.int .i64 j)], [(0, .lst true t [.int .u32, .int .i64, .int .i64] l)] => if t = 51 then .ite none (okG n i j l) (.ret (.s (.bool (lt3 (G l j.toNat) (G l i.toNat))), [(0, rB l)])) .fail else .fail
  | _, _ => .fail
theorem lsS_ok : ObjOk Try.prog 68 lsS := lsX_ok.of_eval fun args h r e => by
  unfold lsS at e
  split at e
  · rename_i n i j t l
    split at e
    · rename_i ht
      subst ht
      obtain ⟨hb, e⟩ := ite_T' e
      obtain rfl := Option.some.inj e
      obtain ⟨hn, i0, i1, j0, j1⟩ := okG_is.1 hb
      obtain ⟨a1, a2⟩ := inR_is hn i0 i1
      obtain ⟨c1, c2⟩ := inR_is hn j0 j1
      have way := ls_way n i j l
      rw [Nat.zero_add, Nat.zero_add] at way
      rw [← T.eval_anon (t := lsX _ _)]
      exact T.path_eval way ⟨c1, c2, a1, a2, trivial⟩
    · cases e
  · cases e
theorem sw_run {n : Nat} {i j : Int} {l : List Rv} (hb : okG n i j l = true) : (swX [.sub 0 3 0 n, iv i, iv j] [(0, rB l)]).eval = some (.tup [], [(0, rB (sw l i.toNat j.toNat))]) := by
  obtain ⟨hn, i0, i1, j0, j1⟩ := okG_is.1 hb
  obtain ⟨a1, a2⟩ := inR_is hn i0 i1
  obtain ⟨c1, c2⟩ := inR_is hn j0 j1
  obtain ⟨d1, d2⟩ := inR_is (l := l.set i.toNat (G l j.toNat)) (by rw [List.length_set]; exact hn) j0 j1
  have way := sw_way n i j l
  rw [Nat.zero_add, Nat.zero_add] at way
  rw [← T.eval_anon (t := swX _ _)]
  exact T.path_eval way ⟨c1, c2, a1, a2, a1, a2, d1, d2, trivial⟩
def swS : Eng.Obj
  | [.sub 0 3 0 n, .s (.int .i64 i), .s (.int .i64 j)], [(0, .lst true t [.int .u32, .int .i64, .int .i64] l)] => if t = 51 then .ite none (okG n i j l) (.ret (.tup [], [(0, rB (sw l i.toNat j.toNat))])) .fail else .fail
  | _, _ => .fail
theorem swS_ok : ObjOk Try.prog 69 swS := swX_ok.of_eval fun args h r e => by
  unfold swS at e
  split at e
  · rename_i n i j t l
    split at e
    · rename_i ht
      subst ht
      obtain ⟨hb, e⟩ := ite_T' e
      obtain rfl := Option.some.inj e
      exact sw_run hb
    · cases e
  · cases e
def lnS : Eng.Obj
  | [.sub 0 3 0 n], [(0, .lst true t [.int .u32, .int .i64, .int .i64] l)] => if t = 51 then .ret (iv n, [(0, rB l)]) else .fail
  | _, _ => .fail
theorem ln_run (n : Nat) (l : List Rv) : (lnX [.sub 0 3 0 n] [(0, rB l)]).eval = some (iv n, [(0, rB l)]) := by
  rw [← T.eval_anon (t := lnX _ _)]; kernel_rfl
theorem lnS_ok : ObjOk Try.prog 21 lnS := lnX_ok.of_eval fun args h r e => by
  unfold lnS at e
  split at e
  · rename_i n t l
    split at e
    · rename_i ht
      subst ht
      obtain rfl := Option.some.inj e
      exact ln_run n l
    · cases e
  · cases e
noncomputable def B2 : Cfg := ⟨Try.prog, lookG [(68, .obj lsS), (69, .obj swS), (21, .obj lnS)], [], 0⟩
theorem B2_ok : B2.Ok := Cfg.ok ⟨lsS_ok, swS_ok, lnS_ok, trivial⟩ trivial
def fB (n : Nat) : Blk := .cells 47 [.sub 1 3 0 n]
end Go.Proofs.Ytjjclmgiehnkbaa.Sub

/- Layer 18: the heap's two loops: their rounds. -/
namespace Go.Proofs.Ytjjclmgiehnkbaa.Sub
open Go.Eng Go.RowKit
set_option linter.unusedVariables false
set_option linter.unusedSimpArgs false
set_option maxRecDepth 100000
noncomputable def lpUp : Code := loopAt Try.prog 28 0
structure PUp where (n : Nat) (l0 : List Rv)
structure AUp where (j : Int) (l : List Rv)
abbrev SUp : List (Nat × Src) := [(0, .same), (1, .same)]
def vsUp (p : PUp) (a : AUp) : List V := [.iface 49 (.ptr 0 0), iv a.j]
def bsUp (p : PUp) (a : AUp) : List Blk := [.cells 47 [.sub 1 3 0 p.n], .lst true 51 [.int .u32, .int .i64, .int .i64] a.l]
noncomputable def FUp (p : PUp) (a : AUp) : St := mkSt [0,1] (keysR SUp) 4000 23 (vsUp p a) (bsUp p a)
noncomputable def rdUp (p : PUp) (a : AUp) : T (Ex × St) := T.anon (roundN B2 noLoops lpUp [0,1] SUp 4000 4000 (mkSt [0,1] (keysR SUp) 4000 23 (vsUp p a) (bsUp p a)))
def decUp_v0 : V → Option (Unit)
  | .iface tt0 (.ptr 0 0) => if tt0 = 49 then some () else none
  | _ => none
theorem decUp_v0_ok (b : V) (x0 : Unit) (h : decUp_v0 b = some x0) : b = .iface 49 (.ptr 0 0) := by
  unfold decUp_v0 at h
  split at h
  · obtain ⟨e0, h⟩ := ite_some0 h
    subst e0
    cases h
    rfl
  · cases h
def decUp_v1 : V → Option ((Int))
  | .s (.int .i64 j) => some (j)
  | _ => none
theorem decUp_v1_ok (b : V) (x1 : (Int)) (h : decUp_v1 b = some x1) : b = iv (x1) := by
  unfold decUp_v1 at h
  split at h
  · cases h
    rfl
  · cases h
def decUp_b0 : Blk → Option ((Nat))
  | .cells tt0 [.sub 1 3 0 n] => if tt0 = 47 then some (n) else none
  | _ => none
theorem decUp_b0_ok (b : Blk) (y0 : (Nat)) (h : decUp_b0 b = some y0) : b = .cells 47 [.sub 1 3 0 (y0)] := by
  unfold decUp_b0 at h
  split at h
  · obtain ⟨e0, h⟩ := ite_some0 h
    subst e0
    cases h
    rfl
  · cases h
def decUp_b1 : Blk → Option ((List Rv))
  | .lst true tt0 [.int .u32, .int .i64, .int .i64] l => if tt0 = 51 then some (l) else none
  | _ => none
theorem decUp_b1_ok (b : Blk) (y1 : (List Rv)) (h : decUp_b1 b = some y1) : b = .lst true 51 [.int .u32, .int .i64, .int .i64] (y1) := by
  unfold decUp_b1 at h
  split at h
  · obtain ⟨e0, h⟩ := ite_some0 h
    subst e0
    cases h
    rfl
  · cases h
def decUp : List V → List Blk → Option (PUp × AUp)
  | [v0, v1], [b0, b1] => (decUp_v0 v0).bind fun x0 => (decUp_v1 v1).bind fun x1 => (decUp_b0 b0).bind fun y0 => (decUp_b1 b1).bind fun y1 => some (⟨(y0), (y1)⟩, ⟨(x1), (y1)⟩)
  | _, _ => none
theorem decUp_ok (l : List V) (b : List Blk) (d : PUp × AUp) (h : decUp l b = some d) : l = vsUp d.1 d.2 ∧ b = bsUp d.1 d.2 := by
  unfold decUp at h
  split at h
  · obtain ⟨x0, hx0, h⟩ := Option.bind_eq_some_iff.1 h
    obtain ⟨x1, hx1, h⟩ := Option.bind_eq_some_iff.1 h
    obtain ⟨y0, hy0, h⟩ := Option.bind_eq_some_iff.1 h
    obtain ⟨y1, hy1, h⟩ := Option.bind_eq_some_iff.1 h
    have ex0 := decUp_v0_ok _ _ hx0
    have ex1 := decUp_v1_ok _ _ hx1
    have ey0 := decUp_b0_ok _ _ hy0
    have ey1 := decUp_b1_ok _ _ hy1
    cases h
    subst ex0 ex1 ey0 ey1
    exact ⟨rfl, rfl⟩
  · cases h
noncomputable def rgUp : Nat := (firstReg lpUp).getD 0
theorem rgUp_is : firstReg lpUp = some rgUp := by kernel_rfl
noncomputable def lpDn : Code := loopAt Try.prog 29 0
structure PDn where (n : Nat) (l0 : List Rv) (i0 : Int) (m : Int)
structure ADn where (i : Int) (l : List Rv)
abbrev SDn : List (Nat × Src) := [(0, .same), (1, .same)]
def vsDn (p : PDn) (a : ADn) : List V := [.iface 49 (.ptr 0 0), iv p.i0, iv p.m, iv a.i]
def bsDn (p : PDn) (a : ADn) : List Blk := [.cells 47 [.sub 1 3 0 p.n], .lst true 51 [.int .u32, .int .i64, .int .i64] a.l]
noncomputable def FDn (p : PDn) (a : ADn) : St := mkSt [0,1,2,7] (keysR SDn) 4000 48 (vsDn p a) (bsDn p a)
noncomputable def rdDn (p : PDn) (a : ADn) : T (Ex × St) := T.anon (roundN B2 noLoops lpDn [0,1,2,7] SDn 4000 4000 (mkSt [0,1,2,7] (keysR SDn) 4000 48 (vsDn p a) (bsDn p a)))
def decDn_v0 : V → Option (Unit)
  | .iface tt0 (.ptr 0 0) => if tt0 = 49 then some () else none
  | _ => none
theorem decDn_v0_ok (b : V) (x0 : Unit) (h : decDn_v0 b = some x0) : b = .iface 49 (.ptr 0 0) := by
  unfold decDn_v0 at h
  split at h
  · obtain ⟨e0, h⟩ := ite_some0 h
    subst e0
    cases h
    rfl
  · cases h
def decDn_v1 : V → Option ((Int))
  | .s (.int .i64 i0) => some (i0)
  | _ => none
theorem decDn_v1_ok (b : V) (x1 : (Int)) (h : decDn_v1 b = some x1) : b = iv (x1) := by
  unfold decDn_v1 at h
  split at h
  · cases h
    rfl
  · cases h
def decDn_v2 : V → Option ((Int))
  | .s (.int .i64 m) => some (m)
  | _ => none
theorem decDn_v2_ok (b : V) (x2 : (Int)) (h : decDn_v2 b = some x2) : b = iv (x2) := by
  unfold decDn_v2 at h
  split at h
  · cases h
    rfl
  · cases h
def decDn_v3 : V → Option ((Int))
  | .s (.int .i64 i) => some (i)
  | _ => none
theorem decDn_v3_ok (b : V) (x3 : (Int)) (h : decDn_v3 b = some x3) : b = iv (x3) := by
  unfold decDn_v3 at h
  split at h
  · cases h
    rfl
  · cases h
def decDn_b0 : Blk → Option ((Nat))
  | .cells tt0 [.sub 1 3 0 n] => if tt0 = 47 then some (n) else none
  | _ => none
theorem decDn_b0_ok (b : Blk) (y0 : (Nat)) (h : decDn_b0 b = some y0) : b = .cells 47 [.sub 1 3 0 (y0)] := by
  unfold decDn_b0 at h
  split at h
  · obtain ⟨e0, h⟩ := ite_some0 h
    subst e0
    cases h
    rfl
  · cases h
def decDn_b1 : Blk → Option ((List Rv))
  | .lst true tt0 [.int .u32, .int .i64, .int .i64] l => if tt0 = 51 then some (l) else none
  | _ => none
theorem decDn_b1_ok (b : Blk) (y1 : (List Rv)) (h : decDn_b1 b = some y1) : b = .lst true 51 [.int .u32, .int .i64, .int .i64] (y1) := by
  unfold decDn_b1 at h
  split at h
  · obtain ⟨e0, h⟩ := ite_some0 h
    subst e0
    cases h
    rfl
  · cases h
def decDn : List V → List Blk → Option (PDn × ADn)
  | [v0, v1, v2, v3], [b0, b1] => (decDn_v0 v0).bind fun x0 => (decDn_v1 v1).bind fun x1 => (decDn_v2 v2).bind fun x2 => (decDn_v3 v3).bind fun x3 => (decDn_b0 b0).bind fun y0 => (decDn_b1 b1).bind fun y1 => some (⟨(y0), (y1), (x1), (x2)⟩, ⟨(x3), (y1)⟩)
  | _, _ => none
theorem decDn_ok (l : List V) (b : List Blk) (d : PDn × ADn) (h : decDn l b = some d) : l = vsDn d.1 d.2 ∧ b = bsDn d.1 d.2 := by
  unfold decDn at h
  split at h
  · obtain ⟨x0, hx0, h⟩ := Option.bind_eq_some_iff.1 h
    obtain ⟨x1, hx1, h⟩ := Option.bind_eq_some_iff.1 h
    obtain ⟨x2, hx2, h⟩ := Option.bind_eq_some_iff.1 h
    obtain ⟨x3, hx3, h⟩ := Option.bind_eq_some_iff.1 h
    obtain ⟨y0, hy0, h⟩ := Option.bind_eq_some_iff.1 h
    obtain ⟨y1, hy1, h⟩ := Option.bind_eq_some_iff.1 h
    have ex0 := decDn_v0_ok _ _ hx0
    have ex1 := decDn_v1_ok _ _ hx1
    have ex2 := decDn_v2_ok _ _ hx2
    have ex3 := decDn_v3_ok _ _ hx3
    have ey0 := decDn_b0_ok _ _ hy0
    have ey1 := decDn_b1_ok _ _ hy1
    cases h
    subst ex0 ex1 ex2 ex3 ey0 ey1
    exact ⟨rfl, rfl⟩
  · cases h
noncomputable def rgDn : Nat := (firstReg lpDn).getD 0
theorem rgDn_is : firstReg lpDn = some rgDn := by kernel_rfl
end Go.Proofs.Ytjjclmgiehnkbaa.Sub

/- Layer 18: the heap's two loops: contracts. -/
namespace Go.Proofs.Ytjjclmgiehnkbaa.Sub
open Go.Eng Go.RowKit
set_option linter.unusedVariables false
set_option linter.unusedSimpArgs false
set_option maxRecDepth 100000
def iU (j : Int) : Int := IntKind.wrap .i64 (Int.tdiv (IntKind.wrap .i64 (j - 1)) 2)
def qU (a : AUp) : Bool := iU a.j == a.j
def cU (a : AUp) : Bool := bif iU a.j == a.j then true else !lt3 (G a.l (iU a.j).toNat) (G a.l a.j.toNat)
noncomputable def stUp (p : PUp) (a : AUp) : St := FUp p a
theorem up_x0 (p : PUp) (a : AUp) : T.path [false, true, true, true] (rdUp p a) = some ([((2 : Int) == 0, false), (qU a, true), (qU a, true), (qU a, true)], (.exit 0, stUp p a)) := by kernel_rfl
theorem up_x1 (p : PUp) (a : AUp) : T.path [false, false, true, true] (rdUp p a) = some ([((2 : Int) == 0, false), (qU a, false), (okG p.n a.j (iU a.j) a.l, true), (cU a, true)], (.exit 0, stUp p a)) := by kernel_rfl
theorem up_n (p : PUp) (a : AUp) : T.path [false, false, true, false, true] (rdUp p a) = some ([((2 : Int) == 0, false), (qU a, false), (okG p.n a.j (iU a.j) a.l, true), (cU a, false), (okG p.n (iU a.j) a.j a.l, true)], (.normal, FUp p ⟨iU a.j, sw a.l (iU a.j).toNat a.j.toNat⟩)) := by kernel_rfl
structure okUp (p : PUp) (a : AUp) : Prop where
  n : p.n = a.l.length
  n1 : p.n ≤ 1000000
  j0 : 0 ≤ a.j
  j1 : a.j < (p.n : Int)
  perm : a.l.Perm p.l0
  inv : UpI a.l p.n a.j.toNat
def goUp (p : PUp) (a : AUp) : Bool := !cU a
def muUp (p : PUp) (a : AUp) : Nat := a.j.toNat
theorem iU_is {j : Int} {n : Nat} (h0 : 0 < j) (h1 : j < (n : Int)) (hn : n ≤ 1000000) : iU j = ((j.toNat - 1) / 2 : Nat) ∧ (iU j).toNat = (j.toNat - 1) / 2 := by
  have e : iU j = ((j.toNat - 1) / 2 : Nat) := by
    unfold iU
    rw [wrap64_in (n := j - 1) (by omega) (by omega), Int.tdiv_eq_ediv_of_nonneg (by omega), wrap64_in (by omega) (by omega)]
    omega
  exact ⟨e, by omega⟩
theorem iU_0 : iU 0 = 0 := by decide
theorem stepUp (p : PUp) (a : AUp) (h : okUp p a) (hg : goUp p a = true) : ∃ b, stepC okUp rdUp FUp muUp p a b := by
  have hc : cU a = false := by unfold goUp at hg; simpa using hg
  obtain ⟨h1, h2, h3, h4, h5, h6⟩ := h
  have hq : qU a = false := by
    cases q : qU a with
    | false => rfl
    | true => unfold qU at q; unfold cU at hc; rw [q] at hc; cases hc
  have hj : 0 < a.j := by
    rcases Int.lt_or_eq_of_le h3 with q | q
    · exact q
    · unfold qU at hq; rw [← q, iU_0] at hq; cases hq
  obtain ⟨e1, e2⟩ := iU_is hj h4 h2
  have hl : lt3 (G a.l ((a.j.toNat - 1) / 2)) (G a.l a.j.toNat) = true := by
    unfold qU at hq; unfold cU at hc
    rw [hq, e2] at hc; simpa using hc
  have g1 : okG p.n a.j (iU a.j) a.l = true := okG_is.2 ⟨h1, h3, h4, by omega, by omega⟩
  have g2 : okG p.n (iU a.j) a.j a.l = true := okG_is.2 ⟨h1, by omega, by omega, h3, h4⟩
  have ji : a.j.toNat < a.l.length := by omega
  refine ⟨_, T.path_eval (up_n p a) ⟨rfl, hq, g1, hc, g2, trivial⟩, ⟨?_, h2, ?_, ?_, ?_, ?_⟩, ?_⟩
  · show p.n = (sw a.l (iU a.j).toNat a.j.toNat).length
    rw [sw_len]; exact h1
  · show 0 ≤ iU a.j
    omega
  · show iU a.j < _
    omega
  · show (sw a.l (iU a.j).toNat a.j.toNat).Perm p.l0
    exact (sw_perm (by omega) ji).trans h5
  · show UpI (sw a.l (iU a.j).toNat a.j.toNat) p.n (iU a.j).toNat
    rw [e2]
    exact h6.step h1 (by omega) (by omega) hl
  · show (iU a.j).toNat < a.j.toNat
    omega
noncomputable def outUp (p : PUp) (a : AUp) : T (Ex × St) := .ret (.exit 0, stUp p a)
theorem exUp (p : PUp) (a : AUp) (h : okUp p a) (hg : goUp p a = false) (r : Ex × St) (hr : (outUp p a).eval = some r) : r.1 ≠ .normal ∧ (rdUp p a).eval = some r := by
  obtain rfl := Option.some.inj hr
  have hc : cU a = true := by unfold goUp at hg; simpa using hg
  refine ⟨by simp, ?_⟩
  cases hq : qU a with
  | true => exact T.path_eval (up_x0 p a) ⟨rfl, hq, hq, hq, trivial⟩
  | false =>
    obtain ⟨h1, h2, h3, h4, h5, h6⟩ := h
    have hj : 0 < a.j := by
      rcases Int.lt_or_eq_of_le h3 with q | q
      · exact q
      · unfold qU at hq; rw [← q, iU_0] at hq; cases hq
    obtain ⟨e1, e2⟩ := iU_is hj h4 h2
    exact T.path_eval (up_x1 p a) ⟨rfl, hq, okG_is.2 ⟨h1, h3, h4, by omega, by omega⟩, hc, trivial⟩
theorem up_end {p : PUp} {a : AUp} (h : okUp p a) (hg : goUp p a = false) : Hp a.l p.n := by
  have hc : cU a = true := by unfold goUp at hg; simpa using hg
  obtain ⟨h1, h2, h3, h4, h5, h6⟩ := h
  refine h6.done ?_
  rcases Int.lt_or_eq_of_le h3 with q | q
  · refine .inr ?_
    obtain ⟨e1, e2⟩ := iU_is q h4 h2
    unfold cU at hc
    rw [show (iU a.j == a.j) = false from beq_false_of_ne (by omega), e2] at hc
    simpa using hc
  · exact .inl (by omega)
noncomputable def famUp : LSpec := famD [0,1] SUp 4000 4000 23 decUp okUp goUp rdUp FUp muUp outUp
theorem lpUp_ok : LoopOk B2 lpUp famUp := famD_ok (vs := vsUp) (bs := bsUp) B2_ok mixed (noLoops_ok _) decUp_ok (fun _ _ => rfl) (fun _ _ => rfl) stepUp exUp
def j1D (a : ADn) : Int := IntKind.wrap .i64 (IntKind.wrap .i64 (2 * a.i) + 1)
def j2D (a : ADn) : Int := IntKind.wrap .i64 (j1D a + 1)
def jD (a : ADn) (b : Bool) : Int := match b with
  | true => j2D a
  | false => j1D a
def c0D (p : PDn) (a : ADn) : Bool := bif decide (p.m ≤ j1D a) then true else decide (j1D a < 0)
def c1D (p : PDn) (a : ADn) : Bool := decide (j2D a < p.m)
def c3D (p : PDn) (a : ADn) : Bool := bif decide (j2D a < p.m) then lt3 (G a.l (j1D a).toNat) (G a.l (j2D a).toNat) else false
def c5D (a : ADn) (b : Bool) : Bool := !lt3 (G a.l a.i.toNat) (G a.l (jD a b).toNat)
noncomputable def stDn (p : PDn) (a : ADn) : St := FDn p a
theorem dn_x (p : PDn) (a : ADn) : T.path [true] (rdDn p a) = some ([(c0D p a, true)], (.exit 0, stDn p a)) := by kernel_rfl
theorem dn_a (p : PDn) (a : ADn) (b : Bool) : T.path [false, true, true, b, true, false, true] (rdDn p a) = some ([(c0D p a, false), (c1D p a, true), (okG p.n (j2D a) (j1D a) a.l, true), (c3D p a, b), (okG p.n (jD a b) a.i a.l, true), (c5D a b, false), (okG p.n a.i (jD a b) a.l, true)], (.normal, FDn p ⟨jD a b, sw a.l a.i.toNat (jD a b).toNat⟩)) := by
  cases b <;> kernel_rfl
theorem dn_ax (p : PDn) (a : ADn) (b : Bool) : T.path [false, true, true, b, true, true] (rdDn p a) = some ([(c0D p a, false), (c1D p a, true), (okG p.n (j2D a) (j1D a) a.l, true), (c3D p a, b), (okG p.n (jD a b) a.i a.l, true), (c5D a b, true)], (.exit 0, stDn p a)) := by
  cases b <;> kernel_rfl
theorem dn_b (p : PDn) (a : ADn) : T.path [false, false, false, true, false, true] (rdDn p a) = some ([(c0D p a, false), (c1D p a, false), (c1D p a, false), (okG p.n (jD a false) a.i a.l, true), (c5D a false, false), (okG p.n a.i (jD a false) a.l, true)], (.normal, FDn p ⟨jD a false, sw a.l a.i.toNat (jD a false).toNat⟩)) := by kernel_rfl
theorem dn_bx (p : PDn) (a : ADn) : T.path [false, false, false, true, true] (rdDn p a) = some ([(c0D p a, false), (c1D p a, false), (c1D p a, false), (okG p.n (jD a false) a.i a.l, true), (c5D a false, true)], (.exit 0, stDn p a)) := by kernel_rfl
structure okDn (p : PDn) (a : ADn) : Prop where
  n : p.n = a.l.length
  n1 : p.n ≤ 1000000
  m0 : 0 ≤ p.m
  m1 : p.m ≤ (p.n : Int)
  i0 : 0 ≤ a.i
  i1 : a.i < (p.n : Int)
  perm : a.l.Perm p.l0
  rest : ∀ k : Nat, p.m.toNat ≤ k → G a.l k = G p.l0 k
  inv : DnI a.l p.m.toNat a.i.toNat
/-- the child that goes up -/
def kD (p : PDn) (a : ADn) : Bool := c3D p a
def goDn (p : PDn) (a : ADn) : Bool := !c0D p a && !c5D a (kD p a)
def muDn (p : PDn) (a : ADn) : Nat := (p.m - a.i).toNat
theorem jD_is {p : PDn} {a : ADn} (h : okDn p a) : j1D a = 2 * a.i + 1 ∧ j2D a = 2 * a.i + 2 := by
  obtain ⟨h1, h2, h3, h4, h5, h6, h7, h8, h9⟩ := h
  have e1 : j1D a = 2 * a.i + 1 := by
    unfold j1D
    rw [wrap64_in (n := 2 * a.i) (by omega) (by omega), wrap64_in (by omega) (by omega)]
  refine ⟨e1, ?_⟩
  unfold j2D
  rw [e1, wrap64_in (by omega) (by omega)]; omega
theorem c0D_is {p : PDn} {a : ADn} (h : okDn p a) : c0D p a = decide (p.m ≤ 2 * a.i + 1) := by
  obtain ⟨e1, e2⟩ := jD_is h
  have := h.i0
  unfold c0D
  rw [e1, decide_eq_false (show ¬ 2 * a.i + 1 < 0 by omega)]
  cases decide (p.m ≤ 2 * a.i + 1) <;> rfl
theorem kD_is {p : PDn} {a : ADn} (h : okDn p a) : (jD a (kD p a)).toNat = kid a.l p.m.toNat a.i.toNat := by
  obtain ⟨e1, e2⟩ := jD_is h
  have i0 := h.i0
  have m0 := h.m0
  have f1 : (2 * a.i + 1).toNat = 2 * a.i.toNat + 1 := by omega
  have f2 : (2 * a.i + 2).toNat = 2 * a.i.toNat + 2 := by omega
  unfold kD c3D kid
  rw [e1, e2, f1, f2]
  by_cases q : 2 * a.i + 2 < p.m
  · rw [decide_eq_true q, cond_true]
    cases hb : lt3 (G a.l (2 * a.i.toNat + 1)) (G a.l (2 * a.i.toNat + 2)) with
    | true =>
      rw [if_pos ⟨by omega, rfl⟩]
      show (j2D a).toNat = _
      rw [e2, f2]
    | false =>
      rw [if_neg (fun e => by cases e.2)]
      show (j1D a).toNat = _
      rw [e1, f1]
  · rw [decide_eq_false q, cond_false, if_neg (fun e => q (by omega))]
    show (j1D a).toNat = _
    rw [e1, f1]
theorem jD_le {p : PDn} {a : ADn} (h : okDn p a) (hm : ¬ p.m ≤ 2 * a.i + 1) : 0 ≤ jD a (kD p a) ∧ jD a (kD p a) < p.m ∧ a.i < jD a (kD p a) := by
  obtain ⟨e1, e2⟩ := jD_is h
  have i0 := h.i0
  cases hb : kD p a with
  | true =>
    have : 2 * a.i + 2 < p.m := by
      unfold kD c3D at hb
      rw [e2] at hb
      by_cases q : 2 * a.i + 2 < p.m
      · exact q
      · rw [decide_eq_false q] at hb; cases hb
    show 0 ≤ j2D a ∧ j2D a < p.m ∧ a.i < j2D a
    omega
  | false =>
    show 0 ≤ j1D a ∧ j1D a < p.m ∧ a.i < j1D a
    omega
theorem stepDn (p : PDn) (a : ADn) (h : okDn p a) (hg : goDn p a = true) : ∃ b, stepC okDn rdDn FDn muDn p a b := by
  unfold goDn at hg
  simp only [Bool.and_eq_true, Bool.not_eq_true'] at hg
  obtain ⟨hc0, hc5⟩ := hg
  have hm : ¬ p.m ≤ 2 * a.i + 1 := of_decide_eq_false (by rw [← c0D_is h]; exact hc0)
  obtain ⟨k1, k2, k3⟩ := jD_le h hm
  have hk := kD_is h
  obtain ⟨e1, e2⟩ := jD_is h
  have h' := h
  obtain ⟨h1, h2, h3, h4, h5, h6, h7, h8, h9⟩ := h
  have g1 : okG p.n (jD a (kD p a)) a.i a.l = true := okG_is.2 ⟨h1, k1, by omega, h5, h6⟩
  have g2 : okG p.n a.i (jD a (kD p a)) a.l = true := okG_is.2 ⟨h1, h5, h6, k1, by omega⟩
  have hl : lt3 (G a.l a.i.toNat) (G a.l (kid a.l p.m.toNat a.i.toNat)) = true := by
    unfold c5D at hc5
    rw [hk] at hc5
    simpa using hc5
  have new : okDn p ⟨jD a (kD p a), sw a.l a.i.toNat (jD a (kD p a)).toNat⟩ := by
    refine ⟨?_, h2, h3, h4, k1, by show jD a (kD p a) < _; omega, ?_, ?_, ?_⟩
    · show p.n = (sw a.l _ _).length
      rw [sw_len]; exact h1
    · exact (sw_perm (by omega) (by omega)).trans h7
    · intro k hkm
      show G (sw a.l _ _) k = _
      rw [sw_get (by omega) (by omega), if_neg (by omega), if_neg (by omega)]
      exact h8 k hkm
    · show DnI (sw a.l a.i.toNat (jD a (kD p a)).toNat) p.m.toNat (jD a (kD p a)).toNat
      rw [hk]
      exact h9.step (by omega) (by omega) hl
  have mu : muDn p ⟨jD a (kD p a), sw a.l a.i.toNat (jD a (kD p a)).toNat⟩ < muDn p a := by
    show (p.m - jD a (kD p a)).toNat < (p.m - a.i).toNat
    omega
  cases hc1 : c1D p a with
  | true =>
    have j2 : 2 * a.i + 2 < p.m := by
      have := of_decide_eq_true hc1
      omega
    have g3 : okG p.n (j2D a) (j1D a) a.l = true := okG_is.2 ⟨h1, by omega, by omega, by omega, by omega⟩
    exact ⟨_, T.path_eval (dn_a p a (kD p a)) ⟨hc0, hc1, g3, rfl, g1, hc5, g2, trivial⟩, new, mu⟩
  | false =>
    have hkf : kD p a = false := by
      unfold kD c3D
      unfold c1D at hc1
      rw [hc1]; rfl
    rw [hkf] at g1 g2 hc5 new mu
    exact ⟨_, T.path_eval (dn_b p a) ⟨hc0, hc1, hc1, g1, hc5, g2, trivial⟩, new, mu⟩
noncomputable def outDn (p : PDn) (a : ADn) : T (Ex × St) := .ret (.exit 0, stDn p a)
theorem exDn (p : PDn) (a : ADn) (h : okDn p a) (hg : goDn p a = false) (r : Ex × St) (hr : (outDn p a).eval = some r) : r.1 ≠ .normal ∧ (rdDn p a).eval = some r := by
  obtain rfl := Option.some.inj hr
  refine ⟨by simp, ?_⟩
  cases hc0 : c0D p a with
  | true => exact T.path_eval (dn_x p a) ⟨hc0, trivial⟩
  | false =>
    have hc5 : c5D a (kD p a) = true := by
      unfold goDn at hg
      rw [hc0] at hg; simpa using hg
    have hm : ¬ p.m ≤ 2 * a.i + 1 := of_decide_eq_false (by rw [← c0D_is h]; exact hc0)
    obtain ⟨k1, k2, k3⟩ := jD_le h hm
    obtain ⟨e1, e2⟩ := jD_is h
    obtain ⟨h1, h2, h3, h4, h5, h6, h7, h8, h9⟩ := h
    have g1 : okG p.n (jD a (kD p a)) a.i a.l = true := okG_is.2 ⟨h1, k1, by omega, h5, h6⟩
    cases hc1 : c1D p a with
    | true =>
      have j2 : 2 * a.i + 2 < p.m := by
        have := of_decide_eq_true hc1
        omega
      have g3 : okG p.n (j2D a) (j1D a) a.l = true := okG_is.2 ⟨h1, by omega, by omega, by omega, by omega⟩
      exact T.path_eval (dn_ax p a (kD p a)) ⟨hc0, hc1, g3, rfl, g1, hc5, trivial⟩
    | false =>
      have hkf : kD p a = false := by
        unfold kD c3D
        unfold c1D at hc1
        rw [hc1]; rfl
      rw [hkf] at g1 hc5
      exact T.path_eval (dn_bx p a) ⟨hc0, hc1, hc1, g1, hc5, trivial⟩
theorem dn_end {p : PDn} {a : ADn} (h : okDn p a) (hg : goDn p a = false) : Hp a.l p.m.toNat := by
  have i0 := h.i0
  refine h.inv.done ?_
  cases hc0 : c0D p a with
  | true =>
    have := of_decide_eq_true ((c0D_is h).symm.trans hc0)
    exact .inl (by omega)
  | false =>
    have hc5 : c5D a (kD p a) = true := by
      unfold goDn at hg
      rw [hc0] at hg; simpa using hg
    unfold c5D at hc5
    rw [kD_is h] at hc5
    exact .inr (by simpa using hc5)
noncomputable def famDn : LSpec := famD [0,1,2,7] SDn 4000 4000 48 decDn okDn goDn rdDn FDn muDn outDn
theorem lpDn_ok : LoopOk B2 lpDn famDn := famD_ok (vs := vsDn) (bs := bsDn) B2_ok mixed (noLoops_ok _) decDn_ok (fun _ _ => rfl) (fun _ _ => rfl) stepDn exDn
end Go.Proofs.Ytjjclmgiehnkbaa.Sub

/- Layer 18: heap.Push and heap.Pop: contracts. -/
namespace Go.Proofs.Ytjjclmgiehnkbaa.Sub
open Go.Eng Go.RowKit
set_option linter.unusedVariables false
set_option linter.unusedSimpArgs false
set_option maxRecDepth 100000
noncomputable def upO : Eng.Obj := execO B2 (byReg [(rgUp, famUp)]) 28
theorem upO_ok : ObjOk Try.prog 28 upO := execO_loops B2_ok mixed Try.func28 (by kernel_rfl) (by kernel_rfl) (one_lp (c := lpUp) (by kernel_rfl) rgUp_is lpUp_ok)
noncomputable def dnO : Eng.Obj := execO B2 (byReg [(rgDn, famDn)]) 29
theorem dnO_ok : ObjOk Try.prog 29 dnO := execO_loops B2_ok mixed Try.func29 (by kernel_rfl) (by kernel_rfl) (one_lp (c := lpDn) (by kernel_rfl) rgDn_is lpDn_ok)
noncomputable def B3 : Cfg := ⟨Try.prog, lookG [(72, .obj puX), (71, .obj poX), (21, .obj lnS), (69, .obj swS), (28, .obj upO), (29, .obj dnO)], [], 0⟩
theorem B3_ok : B3.Ok := Cfg.ok ⟨puX_ok, poX_ok, lnS_ok, swS_ok, upO_ok, dnO_ok, trivial⟩ trivial
noncomputable def hpX : Eng.Obj := execO B3 noLoops 20
theorem hpX_ok : ObjOk Try.prog 20 hpX := execO_plain B3_ok mixed Try.func20 (by kernel_rfl) (by kernel_rfl)
noncomputable def hqX : Eng.Obj := execO B3 noLoops 22
theorem hqX_ok : ObjOk Try.prog 22 hqX := execO_plain B3_ok mixed Try.func22 (by kernel_rfl) (by kernel_rfl)
def one (n : Nat) : Int := IntKind.wrap .i64 ((n : Int) - 1)
def pU (n : Nat) (l : List Rv) (x : Rv) : PUp := ⟨n + [x].length, l.take n ++ [x]⟩
def aU (n : Nat) (l : List Rv) (x : Rv) : AUp := ⟨one (n + [x].length), l.take n ++ [x]⟩
noncomputable def pushL (n : Nat) (l : List Rv) (x : Rv) : List Rv := (endW (nxtC okUp goUp rdUp FUp muUp (pU n l x)) (aU n l x)).l
def apG (n : Nat) (l : List Rv) (x : Rv) : Bool := true && (decide (n ≤ l.length) && decide (n + [x].length ≤ 1000000))
theorem hp_way (n : Nat) (x : Rv) (l : List Rv) : T.path [true, true] (T.anon (hpX [.iface 49 (.ptr 0 0), .iface 51 (rvV x)] [(0, fB n), (1, rB l)])) = some ([(apG n l x, true), (invC okUp (pU n l x) (aU n l x), true)], (.tup [], [(0, .cells 47 [.sub 2 3 0 (n + [x].length)]), (2, rB (pushL n l x))])) := by kernel_rfl
def pushP (n : Nat) (l : List Rv) : Prop := n ≤ l.length ∧ n < 1000000 ∧ Hp (l.take n) n
open Classical in
noncomputable def pushG (n : Nat) (l : List Rv) : Bool := decide (pushP n l)
theorem pushG_is {n : Nat} {l : List Rv} : pushG n l = true ↔ pushP n l := by unfold pushG; exact @decide_eq_true_iff _ (Classical.propDecidable _)
theorem G_app {l : List Rv} {x : Rv} {k : Nat} (h : k < l.length) : G (l ++ [x]) k = G l k := by
  unfold G
  rw [List.getD_eq_getElem?_getD, List.getD_eq_getElem?_getD, List.getElem?_append_left h]
theorem one_is {n : Nat} (h : 0 < n) (h1 : n ≤ 1000000) : one n = ((n - 1 : Nat) : Int) := by
  unfold one
  rw [wrap64_in (by omega) (by omega)]; omega
theorem push_ok {n : Nat} {l : List Rv} (h : pushP n l) (x : Rv) : okUp (pU n l x) (aU n l x) := by
  obtain ⟨h1, h2, h3⟩ := h
  have e := one_is (n := n + 1) (by omega) (by omega)
  have ht : (l.take n).length = n := by rw [List.length_take]; omega
  refine ⟨?_, ?_, ?_, ?_, List.Perm.refl _, ?_, ?_⟩
  · show n + 1 = (l.take n ++ [x]).length
    rw [List.length_append, ht]; rfl
  · show n + 1 ≤ 1000000
    omega
  · show 0 ≤ one (n + 1)
    omega
  · show one (n + 1) < ((n + 1 : Nat) : Int)
    omega
  · intro k hk hn hne
    have hn : k < n + 1 := hn
    have hne : k ≠ (one (n + 1)).toNat := hne
    show lt3 (G (l.take n ++ [x]) ((k - 1) / 2)) (G (l.take n ++ [x]) k) = false
    rw [G_app (by omega), G_app (by omega)]
    exact h3 k hk (by omega)
  · intro k hk hn hp hj
    have hn : k < n + 1 := hn
    have hp : (k - 1) / 2 = (one (n + 1)).toNat := hp
    have hj : 0 < (one (n + 1)).toNat := hj
    omega
theorem push_is {n : Nat} {l : List Rv} (h : pushP n l) (x : Rv) : (pushL n l x).Perm (l.take n ++ [x]) ∧ Hp (pushL n l x) (n + 1) := by
  obtain ⟨k1, k2⟩ := endC stepUp (push_ok h x)
  exact ⟨k1.perm, up_end k1 k2⟩
theorem push_run {n : Nat} {l : List Rv} (h : pushP n l) (x : Rv) : (hpX [.iface 49 (.ptr 0 0), .iface 51 (rvV x)] [(0, fB n), (1, rB l)]).eval = some (.tup [], [(0, .cells 47 [.sub 2 3 0 (n + 1)]), (2, rB (pushL n l x))]) := by
  rw [← T.eval_anon (t := hpX _ _)]
  have ho := push_ok h x
  obtain ⟨h1, h2, h3⟩ := h
  refine T.path_eval (hp_way n x l) ⟨?_, invC_is ho, trivial⟩
  unfold apG
  rw [decide_eq_true h1, decide_eq_true (show n + [x].length ≤ 1000000 by show n + 1 ≤ _; omega)]; rfl
noncomputable def hpS : Eng.Obj
  | [.iface ti (.ptr 0 0), .iface tr (.agg [.s (.int .u32 a), .s (.int .i64 b), .s (.int .i64 c)])], [(0, .cells tf [.sub 1 3 0 n]), (1, .lst true t [.int .u32, .int .i64, .int .i64] l)] =>
    if ti = 49 then if tr = 51 then if tf = 47 then if t = 51 then
      .ite none (pushG n l) (.ret (.tup [], [(0, .cells 47 [.sub 2 3 0 (n + 1)]), (2, rB (pushL n l (a, b, c)))])) .fail else .fail else .fail else .fail else .fail
  | _, _ => .fail
theorem ite_f {α : Type} {c : Prop} [Decidable c] {x : T α} {v : α} (h : (if c then x else .fail).eval = some v) : c ∧ x.eval = some v := by
  by_cases q : c
  · rw [if_pos q] at h; exact ⟨q, h⟩
  · rw [if_neg q] at h; cases h
theorem hpS_ok : ObjOk Try.prog 20 hpS := hpX_ok.of_eval fun args h r e => by
  unfold hpS at e
  split at e
  · rename_i ti tr a b c tf n t l
    obtain ⟨q1, e1⟩ := ite_f e
    obtain ⟨q2, e2⟩ := ite_f e1
    obtain ⟨q3, e3⟩ := ite_f e2
    obtain ⟨q4, e4⟩ := ite_f e3
    obtain ⟨hb, e5⟩ := ite_T' e4
    obtain rfl := Option.some.inj e5
    clear e e1 e2 e3 e4 e5
    subst q1 q2 q3 q4
    exact push_run (pushG_is.1 hb) (a, b, c)
  · cases e
/-! ### Pop -/
def pD (n : Nat) (l : List Rv) : PDn := ⟨n, sw l 0 (one n).toNat, 0, one n⟩
def aD (n : Nat) (l : List Rv) : ADn := ⟨0, sw l 0 (one n).toNat⟩
noncomputable def popL (n : Nat) (l : List Rv) : List Rv := (endW (nxtC okDn goDn rdDn FDn muDn (pD n l)) (aD n l)).l
def poA (n : Nat) (q : List Rv) : Bool := decide (0 ≤ one n) && (decide (one n < (n : Int)) && decide (0 + (one n).toNat < q.length))
def poB (n : Nat) (q : List Rv) : Bool := decide (0 + (one n).toNat < q.length)
def poC (n : Nat) (q : List Rv) : Bool := decide ((0 : Int) ≤ 0) && (decide (0 ≤ one n) && (decide (one n ≤ (n : Int)) && decide (n ≤ q.length)))
theorem hq_way (n : Nat) (l : List Rv) : T.path [true, true, true, true, true] (T.anon (hqX [.iface 49 (.ptr 0 0)] [(0, fB n), (1, rB l)])) = some ([(okG n 0 (one n) l, true), (invC okDn (pD n l) (aD n l), true), (poA n (popL n l), true), (poB n (popL n l), true), (poC n (popL n l), true)], (.iface 51 (rvV (G (popL n l) (0 + (one n).toNat))), [(0, .cells 47 [.sub 1 3 0 ((one n).toNat - 0)]), (1, rB (popL n l))])) := by kernel_rfl
def popP (n : Nat) (l : List Rv) : Prop := n = l.length ∧ 0 < n ∧ n ≤ 1000000 ∧ Hp l n
open Classical in
noncomputable def popG (n : Nat) (l : List Rv) : Bool := decide (popP n l)
theorem popG_is {n : Nat} {l : List Rv} : popG n l = true ↔ popP n l := by unfold popG; exact @decide_eq_true_iff _ (Classical.propDecidable _)
theorem pop_ok {n : Nat} {l : List Rv} (h : popP n l) : okDn (pD n l) (aD n l) := by
  obtain ⟨h1, h2, h3, h4⟩ := h
  have e := one_is h2 h3
  have et : (one n).toNat = n - 1 := by omega
  have g := sw_get (l := l) (i := 0) (j := n - 1) (by omega) (by omega)
  refine ⟨?_, h3, ?_, ?_, Int.le_refl _, ?_, List.Perm.refl _, fun k _ => rfl, ?_, ?_⟩
  · show n = (sw l 0 (one n).toNat).length
    rw [sw_len]; exact h1
  · show 0 ≤ one n
    omega
  · show one n ≤ (n : Int)
    omega
  · show (0 : Int) < (n : Int)
    omega
  · intro k hk hn hp
    have hn : k < (one n).toNat := hn
    have hp : (k - 1) / 2 ≠ 0 := hp
    show lt3 (G (sw l 0 (one n).toNat) ((k - 1) / 2)) (G (sw l 0 (one n).toNat) k) = false
    rw [et, g, g, if_neg (by omega), if_neg (by omega), if_neg (by omega), if_neg (by omega)]
    exact h4 k hk (by omega)
  · intro k hk hn hp hj
    have hj : 0 < (0 : Int).toNat := hj
    exact absurd hj (by decide)
theorem pop_is {n : Nat} {l : List Rv} (h : popP n l) : (popL n l).Perm l ∧ Hp (popL n l) (n - 1) ∧ G (popL n l) (n - 1) = G l 0 := by
  obtain ⟨k1, k2⟩ := endC stepDn (pop_ok h)
  obtain ⟨h1, h2, h3, h4⟩ := h
  have e := one_is h2 h3
  have et : (one n).toNat = n - 1 := by omega
  refine ⟨k1.perm.trans (sw_perm (by omega) (by omega)), ?_, ?_⟩
  · have := dn_end k1 k2
    rw [show (pD n l).m.toNat = n - 1 from et] at this
    exact this
  · have := k1.rest (n - 1) (by show (one n).toNat ≤ _; omega)
    rw [show (pD n l).l0 = sw l 0 (n - 1) by unfold pD; rw [et], sw_get (by omega) (by omega), if_pos rfl] at this
    exact this
theorem pop_run {n : Nat} {l : List Rv} (h : popP n l) : (hqX [.iface 49 (.ptr 0 0)] [(0, fB n), (1, rB l)]).eval = some (.iface 51 (rvV (G (popL n l) (n - 1))), [(0, .cells 47 [.sub 1 3 0 (n - 1)]), (1, rB (popL n l))]) := by
  rw [← T.eval_anon (t := hqX _ _)]
  have ho := pop_ok h
  obtain ⟨i1, i2, i3⟩ := pop_is h
  obtain ⟨h1, h2, h3, h4⟩ := h
  have e := one_is h2 h3
  have et : (one n).toNat = n - 1 := by omega
  have el : (popL n l).length = n := by rw [i1.length_eq]; exact h1.symm
  have way := hq_way n l
  rw [et, Nat.zero_add, Nat.sub_zero] at way
  refine T.path_eval way ⟨okG_is.2 ⟨h1, Int.le_refl _, by omega, by omega, by omega⟩, invC_is ho, ?_, ?_, ?_, trivial⟩
  · unfold poA
    rw [decide_eq_true (show 0 ≤ one n by omega), decide_eq_true (show one n < (n : Int) by omega), decide_eq_true (show 0 + (one n).toNat < (popL n l).length by omega)]; rfl
  · exact decide_eq_true (by omega)
  · unfold poC
    rw [decide_eq_true (show 0 ≤ one n by omega), decide_eq_true (show one n ≤ (n : Int) by omega), decide_eq_true (show n ≤ (popL n l).length by omega)]; rfl
noncomputable def hqS : Eng.Obj
  | [.iface ti (.ptr 0 0)], [(0, .cells tf [.sub 1 3 0 n]), (1, .lst true t [.int .u32, .int .i64, .int .i64] l)] =>
    if ti = 49 then if tf = 47 then if t = 51 then
      .ite none (popG n l) (.ret (.iface 51 (rvV (G (popL n l) (n - 1))), [(0, .cells 47 [.sub 1 3 0 (n - 1)]), (1, rB (popL n l))])) .fail else .fail else .fail else .fail
  | _, _ => .fail
theorem hqS_ok : ObjOk Try.prog 22 hqS := hqX_ok.of_eval fun args h r e => by
  unfold hqS at e
  split at e
  · rename_i ti tf n t l
    obtain ⟨q1, e1⟩ := ite_f e
    obtain ⟨q2, e2⟩ := ite_f e1
    obtain ⟨q3, e3⟩ := ite_f e2
    obtain ⟨hb, e5⟩ := ite_T' e3
    obtain rfl := Option.some.inj e5
    clear e e1 e2 e3 e5
    subst q1 q2 q3
    exact pop_run (popG_is.1 hb)
  · cases e
end Go.Proofs.Ytjjclmgiehnkbaa.Sub

/- Layer 18: the comparison that is handed to the sort; what the sort does to a row of rivals. -/
namespace Go.Proofs.Ytjjclmgiehnkbaa.Sub
open Go.Shelf Go.RowKit Go.Lib Go.Sort
set_option linter.unusedVariables false
set_option linter.unusedSimpArgs false
/-- rivals whose places are small -/
abbrev A3 : Type := Int × Int × Fin 4611686018427387904
instance : Inhabited A3 := ⟨(0, 0, ⟨0, by decide⟩)⟩
def encA (x : A3) : List Value := [.int .u32 x.1, .int .i64 x.2.1, .int .i64 (x.2.2.val : Int)]
def cfA (x y : A3) : Int := (x.2.2.val : Int) - (y.2.2.val : Int)
theorem ltA (x y : A3) : ltOf cfA x y = decide (x.2.2.val < y.2.2.val) := by
  unfold ltOf cfA
  by_cases h : x.2.2.val < y.2.2.val
  · rw [decide_eq_true h, decide_eq_true (by omega)]
  · rw [decide_eq_false h, decide_eq_false (by omega)]
theorem swoA : SWO (ltOf cfA) where
  irrefl x := by rw [ltA]; simp
  trans x y z h1 h2 := by rw [ltA] at *; simp at *; omega
  ntrans x y z h1 h2 := by rw [ltA] at *; simp at *; omega
set_option maxHeartbeats 1000000 in
theorem cloA (x y : A3) (W : World) : Calls Try.prog 24 #[.agg #[.int .u32 x.1, .int .i64 x.2.1, .int .i64 (x.2.2.val : Int)], .agg #[.int .u32 y.1, .int .i64 y.2.1, .int .i64 (y.2.2.val : Int)]] W fun e w' => e = .returned (.int .i64 (cfA x y)) ∧ ∃ q os', w' = grow (W.drewN q) os' := by
  have hw : IntKind.wrap .i64 ((x.2.2.val : Int) - (y.2.2.val : Int)) = cfA x y := by
    have h1 := x.2.2.isLt
    have h2 := y.2.2.isLt
    exact Go.Eng.wrap64_in (by omega) (by omega)
  generalize (x.2.2.val : Int) = a at hw ⊢
  generalize (y.2.2.val : Int) = b at hw ⊢
  generalize cfA x y = r at hw ⊢
  go_enter Try.func24, Try.ntmps24
  go_wp2
  go_ret
  exact ⟨rfl, 0, _, by rw [alloc_eq_grow, alloc_eq_grow, grow_grow]; rfl⟩
theorem cmpA (blk off size : Nat) (w : World) : CmpLays Try.prog 24 #[] encA 3 cfA blk off size w :=
  fun _ _ _ _ x y => cloA x y _
/-! ### rows as the library's row -/
def toA (x : Rv) : A3 := (x.1, x.2.1, ⟨x.2.2.toNat % 4611686018427387904, Nat.mod_lt _ (by decide)⟩)
def fromA (x : A3) : Rv := (x.1, x.2.1, (x.2.2.val : Int))
def smallP (x : Rv) : Bool := decide (0 ≤ x.2.2) && decide (x.2.2 < 4611686018427387904)
theorem from_to {x : Rv} (h : smallP x = true) : fromA (toA x) = x := by
  obtain ⟨a, b, c⟩ := x
  unfold smallP at h
  simp only [Bool.and_eq_true, decide_eq_true_eq] at h
  show (a, b, ((c.toNat % 4611686018427387904 : Nat) : Int)) = (a, b, c)
  rw [Nat.mod_eq_of_lt (by omega)]
  have : ((c.toNat : Nat) : Int) = c := by omega
  rw [this]
theorem enc_from (x : A3) : encA x = (Go.Eng.Row.cells KR (fromA x)).map Go.Eng.S.den := rfl
theorem rows_enc : ∀ d : List A3, d.flatMap encA = Go.Eng.rowsV KR (d.map fromA)
  | [] => rfl
  | x :: d => by
    show encA x ++ d.flatMap encA = _
    rw [rows_enc d]
    rfl
theorem flat_rows : ∀ d : List A3, (flatK encA 3 d.toArray).toList = d.flatMap encA := by
  intro d
  have key : ∀ d : List A3, (List.range (d.length * 3)).map (fun t => (encA (d[t / 3]?.getD default))[t % 3]!) = d.flatMap encA := by
    intro d
    induction d with
    | nil => rfl
    | cons x d ih =>
      rw [show (x :: d).length * 3 = 3 + d.length * 3 by simp only [List.length_cons]; omega, List.range_add, List.map_append, List.map_map]
      show _ = encA x ++ d.flatMap encA
      rw [← ih]
      congr 1
      refine List.map_congr_left fun t _ => ?_
      show (encA ((x :: d)[(3 + t) / 3]?.getD default))[(3 + t) % 3]! = _
      rw [show (3 + t) / 3 = t / 3 + 1 by omega, show (3 + t) % 3 = t % 3 by omega, List.getElem?_cons_succ]
  unfold flatK
  rw [← key d]
  simp [Array.toList_map]
end Go.Proofs.Ytjjclmgiehnkbaa.Sub

/- Layer 18: the sort by places: a contract for rows. -/
namespace Go.Proofs.Ytjjclmgiehnkbaa.Sub
open Go.Eng Go.RowKit
set_option linter.unusedVariables false
set_option linter.unusedSimpArgs false
set_option maxRecDepth 100000
noncomputable def srtA (l : List Rv) (lim : Nat) : List A3 := (Sort.pdq (ltOf cfA) (l.map toA).toArray 0 l.length lim true true).toList
noncomputable def srtL (l : List Rv) (lim : Nat) : List Rv := (srtA l lim).map fromA
theorem pdq_is (l : List Rv) (lim : Nat) : (srtA l lim).length = l.length ∧ (srtA l lim).Perm (l.map toA) ∧ (srtA l lim).Pairwise (fun a b => ¬ b.2.2.val < a.2.2.val) := by
  have h := Sort.pdq_sorts (ltOf cfA) swoA (l.map toA).toArray 0 l.length lim true true (Nat.zero_le _) (by simp) (Or.inl rfl)
  obtain ⟨⟨h1, -, h3⟩, h4⟩ := h
  have hs : (Sort.pdq (ltOf cfA) (l.map toA).toArray 0 l.length lim true true).size = l.length := by rw [h1]; simp
  refine ⟨by unfold srtA; simpa using hs, ?_, ?_⟩
  · have ex : ∀ q : Array A3, q.extract 0 q.size = q := fun q => Array.extract_size
    have e1 := ex (Sort.pdq (ltOf cfA) (l.map toA).toArray 0 l.length lim true true)
    have e2 := ex (l.map toA).toArray
    rw [hs] at e1
    rw [show (l.map toA).toArray.size = l.length by simp] at e2
    rw [e1, e2] at h3
    exact h3
  · rw [List.pairwise_iff_getElem]
    intro i j hi hj hij
    unfold srtA at hi hj ⊢
    have := h4 i j (Nat.zero_le _) hij (by simpa [hs] using hj)
    rw [ltA, decide_eq_false_iff_not] at this
    rw [getElem!_pos _ i (by simpa using hi), getElem!_pos _ j (by simpa using hj)] at this
    simpa using this
theorem srt_perm {l : List Rv} (lim : Nat) (h : l.all smallP = true) : (srtL l lim).Perm l := by
  have := (pdq_is l lim).2.1.map fromA
  unfold srtL
  refine this.trans ?_
  rw [List.map_map]
  have : l.map (fromA ∘ toA) = l := by
    conv => rhs; rw [← List.map_id l]
    exact List.map_congr_left fun x hx => from_to (List.all_eq_true.1 h x hx)
  rw [this]
theorem srt_sorted (l : List Rv) (lim : Nat) : (srtL l lim).Pairwise (fun a b => a.2.2 ≤ b.2.2) := by
  unfold srtL
  rw [List.pairwise_map]
  refine (pdq_is l lim).2.2.imp fun {a b} h => ?_
  show (a.2.2.val : Int) ≤ (b.2.2.val : Int)
  omega
theorem srt_len (l : List Rv) (lim : Nat) : (srtL l lim).length = l.length := by
  unfold srtL
  rw [List.length_map]; exact (pdq_is l lim).1
theorem srt_rows (l : List Rv) (lim : Nat) : (Go.Sort.flatK encA 3 (Sort.pdq (ltOf cfA) (l.map toA).toArray 0 l.length lim true true)).toList = rowsV KR (srtL l lim) := by
  have : Sort.pdq (ltOf cfA) (l.map toA).toArray 0 l.length lim true true = (srtA l lim).toArray := by unfold srtA; simp
  rw [this, flat_rows, rows_enc]; rfl
theorem base_rows {l : List Rv} (h : l.all smallP = true) : (Go.Sort.flatK encA 3 (l.map toA).toArray).toList = rowsV KR l := by
  have e : (l.map toA).map fromA = l := by
    rw [List.map_map]
    conv => rhs; rw [← List.map_id l]
    exact List.map_congr_left fun x hx => from_to (List.all_eq_true.1 h x hx)
  rw [flat_rows, rows_enc]
  exact congrArg (rowsV KR) e
theorem rv_len (l : List Rv) : (rowsV KR l).length = l.length * 3 := rowsV_length (ks := KR) l
theorem put_take (off : Nat) (F cur : Array Value) (h : off + F.size ≤ cur.size) : ((Sort.putCells id off F cur).toList.drop off).take F.size = F.toList := by
  refine List.ext_getElem? fun j => ?_
  rw [List.getElem?_take]
  split
  · rename_i hj
    rw [List.getElem?_drop]
    unfold Sort.putCells
    rw [Array.getElem?_toList, Array.getElem?_mapIdx, Array.getElem?_eq_getElem (by omega), Array.getElem?_toList, Array.getElem?_eq_getElem hj]
    simp only [Option.map_some]
    rw [if_pos ⟨by omega, by omega⟩, show off + j - off = j by omega, getElem!_pos F j hj]; rfl
  · rename_i hj
    rw [Array.getElem?_toList, Array.getElem?_eq_none (by omega)]
theorem put_size (off : Nat) (F cur : Array Value) : (Sort.putCells id off F cur).size = cur.size := by
  unfold Sort.putCells; simp
def pqB (n : Nat) (a b lim : Int) (l : List Rv) : Bool := decide (n = l.length) && (decide (0 < n) && (decide (n ≤ 1000000) && (decide (a = 0) && (decide (b = (n : Int)) && (decide (0 ≤ lim) && (decide (lim < 4611686018427387904) && l.all smallP))))))
noncomputable def pqS : Eng.Obj
  | [.sub 0 3 0 n, .s (.int .i64 a), .s (.int .i64 b), .s (.int .i64 lim), .raw (.func (.func g) x y)], [(0, .lst true t [.int .u32, .int .i64, .int .i64] l)] =>
    if t = 51 then if g = 24 then if x.size = 0 then if y.size = 0 then
      .ite none (pqB n a b lim l) (.ret (.tup [], [(0, rB (srtL l lim.toNat))])) .fail else .fail else .fail else .fail else .fail
  | _, _ => .fail
theorem pdq_calls {l : List Rv} {n lim : Nat} (hn : n = l.length) (h0 : 0 < n) (h1 : n ≤ 1000000) (hl : lim < 4611686018427387904) (hs : l.all smallP = true) {ν : Env} {w : World} (hr : Rel ν (Eng.look [(0, rB l)]) w) :
    Calls Try.prog 30 (denL ν [.sub 0 3 0 n, iv 0, iv n, iv lim, .raw (.func (.func 24) #[] #[])]).toArray w fun e w' => ∃ ν' : Env, e = .returned ((V.tup []).den ν') ∧ (∀ i, inH [(0, rB l)] i = true → (ν' i).core = (ν i).core) ∧ Rel ν' (Eng.look [(0, rB (srtL l lim))]) w' ∧
      (∀ i b, Eng.look [(0, rB (srtL l lim))] i = some b → ∀ k, (ν' i).fp k → ownFp ν [(0, rB l)] k ∨ w.heap.size ≤ k) ∧ Prog w w' (ownFp ν [(0, rB l)]) := by
  obtain ⟨e0, e1⟩ := hr.den 0 (.lst true 51 KR l) rfl
  obtain ⟨z, e0⟩ := e0
  rcases e0 with ⟨_, q⟩ | ⟨g, off, cap, cur, q1, q2, q3, q4, q5, q6, q7⟩
  · have q : l.length = 0 := q
    omega
  simp only [Value.slice.injEq, true_and] at q1
  obtain ⟨qa, qc⟩ := q1
  have q6 : off + cap * 3 ≤ cur.size := q6
  have q4 : List.length (α := Rv) l ≤ cap := q4
  have q7 : (cur.toList.drop off).take (l.length * 3) = rowsV KR l := q7
  have rl : (rowsV KR l).length = l.length * 3 := z
  have hgs : g < w.heap.size := (Array.getElem?_eq_some_iff.1 q3).1
  have ds : (l.map toA).toArray.size = n := by simp [hn]
  have ea : (denL ν [.sub 0 3 0 n, iv 0, iv n, iv lim, .raw (.func (.func 24) #[] #[])]).toArray = #[.slice (some ⟨g, off, none⟩) (l.map toA).toArray.size cap, .int .i64 (0 : Nat), .int .i64 (l.map toA).toArray.size, .int .i64 lim, .func (.func 24) #[] #[]] := by
    rw [ds]
    simp [denL, V.den, qa, qc, iv, S.den, addr_add]
  have hH : Go.Sort.HoldsK encA 3 w g off (l.map toA).toArray := by
    intro j hj
    have hf := base_rows hs
    have hj' : j < l.length * 3 := by simpa [Go.Sort.size_flatK] using hj
    have hc : (rowsV KR l)[j]? = some (Go.Sort.flatK encA 3 (l.map toA).toArray)[j]! := by
      rw [← hf, Array.getElem?_toList, Array.getElem?_eq_getElem hj, getElem!_pos _ j hj]
    refine ⟨?_, by unfold World.frozen?; simp [q3]⟩
    rw [cell_of_row w g (off + j) cur 51 (0, 0) q3]
    rw [← q7, List.getElem?_take, if_pos hj', List.getElem?_drop, Array.getElem?_toList] at hc
    exact hc
  have eg : ∀ args w, (callFunc 24 args).run Try.prog w = .ok (.enter 24 args) w := enters_of Try.func24 (by kernel_rfl) rfl
  have hp := AnyQ.pdqsortCmpFunc_all Try.sortRv 3 Try.isAgg51 Try.sizeOf51 encA cfA 24 #[] swoA g off cap (l.map toA).toArray w eg (cmpA g off _ w) ⟨fun _ => rfl, fun x v hv => by simp [encA] at hv; rcases hv with rfl | rfl | rfl <;> rfl, hH, hgs⟩
    ((l.map toA).toArray.size + 1) 0 (l.map toA).toArray.size lim (l.map toA).toArray w (by omega) rfl (SWK.start hH) (Nat.zero_le _) (Nat.le_refl _) (by omega) hl (Or.inl rfl)
  rw [ea]
  refine Calls.mono hp ?_
  rintro e w' ⟨rfl, m, os, rfl⟩
  rw [ds, hn]
  have hfr := srt_rows l lim
  generalize hF : Go.Sort.flatK encA 3 (Sort.pdq (ltOf cfA) (l.map toA).toArray 0 l.length lim true true) = F at hfr
  have fs : F.size = l.length * 3 := by
    have := congrArg List.length hfr
    rw [rv_len, srt_len] at this
    simpa using this
  have hw : ∀ k, k < w.heap.size → (sortWorldK encA 3 w g off m (Sort.pdq (ltOf cfA) (l.map toA).toArray 0 l.length lim true true) os).heap[k]? = if g = k then some (.cells (Sort.putCells id off F cur) 51 (0, 0)) else w.heap[k]? := by
    intro k hk
    show ((w.heap.modify g (Sort.onCells (Sort.putCells id off (Go.Sort.flatK encA 3 (Sort.pdq (ltOf cfA) (l.map toA).toArray 0 l.length lim true true))))) ++ os)[k]? = _
    rw [hF, Array.getElem?_append_left (by simpa using hk), Array.getElem?_modify]
    split
    · rename_i hgk
      rw [← hgk, q3]; rfl
    · rfl
  generalize hW : sortWorldK encA 3 w g off m (Sort.pdq (ltOf cfA) (l.map toA).toArray 0 l.length lim true true) os = W at hw
  have hg : ownFp ν [(0, rB l)] g := ⟨0, rB l, rfl, rfl, (e1 g).2 ⟨_, qa, rfl⟩⟩
  refine ⟨ν, rfl, fun _ _ => rfl, ⟨fun i b e => ?_, fun i j bi bj ne ei ej => ?_⟩, fun i b e k hk => ?_, ?_⟩
  · match i, e with
    | 0, e =>
      obtain rfl := Option.some.inj e
      refine ⟨⟨?_, .inr ⟨g, off, cap, Sort.putCells id off F cur, ?_, Nat.zero_le _, ?_, ?_, q5, ?_, ?_⟩⟩, e1⟩
      · exact rv_len (srtL l lim)
      · rw [qa, qc]
      · rw [hw g hgs, if_pos rfl]
      · exact Nat.le_trans (Nat.le_of_eq (srt_len l lim)) q4
      · rw [put_size]; exact q6
      · have hh := put_take off F cur (by rw [fs]; omega)
        rw [fs, hfr] at hh
        have hl2 : List.length (α := Rv) (srtL l lim) * 3 = l.length * 3 := by rw [srt_len]
        exact Eq.trans (congrArg (fun q => List.take q (List.drop off (Sort.putCells id off F cur).toList)) hl2) hh
    | i + 1, e => cases e
  · match i, j, ei, ej with
    | 0, 0, _, _ => exact absurd rfl ne
    | 0, j + 1, _, ej => cases ej
    | i + 1, _, ei, _ => cases ei
  · match i, e with
    | 0, e => exact .inl ⟨0, rB l, rfl, rfl, hk⟩
    | i + 1, e => cases e
  · rw [← hW]
    refine ⟨rfl, rfl, rfl, ?_, fun k hk hn => ?_⟩
    · show w.heap.size ≤ ((w.heap.modify g _) ++ os).size
      simp
    · rw [hW, hw k hk, if_neg (fun (e : g = k) => hn (e ▸ hg))]
theorem pqS_ok : ObjOk Try.prog 30 pqS := by
  refine ⟨⟨_, Try.func30, by kernel_rfl, by kernel_rfl⟩, fun args h v h' ν w hG hgs hok hb hr hv ho => ?_⟩
  unfold pqS at hv
  split at hv
  · rename_i n a b lim g x y t l
    obtain ⟨q1, e1⟩ := ite_f hv
    obtain ⟨q2, e2⟩ := ite_f e1
    obtain ⟨q3, e3⟩ := ite_f e2
    obtain ⟨q4, e4⟩ := ite_f e3
    obtain ⟨hc, e5⟩ := ite_T' e4
    clear e1 e2 e3 e4 hv
    have ev := Option.some.inj e5
    have ev1 : v = .tup [] := (congrArg Prod.fst ev).symm
    have ev2 : h' = [(0, rB (srtL l lim.toNat))] := (congrArg Prod.snd ev).symm
    clear ev e5
    subst ev1 ev2 q1 q2
    have hx : x = #[] := Array.eq_empty_of_size_eq_zero q3
    have hy : y = #[] := Array.eq_empty_of_size_eq_zero q4
    subst hx hy
    unfold pqB at hc
    simp only [Bool.and_eq_true, decide_eq_true_eq] at hc
    obtain ⟨c1, c2, c3, c4, c5, c6, c7, c8⟩ := hc
    have hlim : lim = ((lim.toNat : Nat) : Int) := by omega
    have key := pdq_calls (lim := lim.toNat) c1 c2 c3 (by omega) c8 hr
    rw [← hlim] at key
    subst c4 c5
    exact key
  · cases hv
end Go.Proofs.Ytjjclmgiehnkbaa.Sub

/- Layer 18: slices.SortFunc over a field: its contract. -/
namespace Go.Proofs.Ytjjclmgiehnkbaa.Sub
open Go.Eng Go.RowKit
set_option linter.unusedVariables false
set_option linter.unusedSimpArgs false
set_option maxRecDepth 100000
def lenS : Eng.Spec
  | [.s (.int .u64 x)] => .ite none (decide (0 ≤ x) && decide (x ≤ 1000000)) (.ret (iv (Go.Lib.bitLen x.toNat : Nat))) .fail
  | _ => .fail
theorem lenS_ok : SpecOk Try.prog 31 lenS := by
  refine ⟨⟨_, Try.func31, by kernel_rfl, by kernel_rfl⟩, fun args v xs w hG hrow hv hrv hh => ?_⟩
  unfold lenS at hv
  split at hv
  · rename_i x
    obtain ⟨hb, hv⟩ := ite_T' hv
    rw [Bool.and_eq_true, decide_eq_true_eq, decide_eq_true_eq] at hb
    obtain ⟨h1, h2⟩ := hb
    obtain rfl := Option.some.inj hv
    obtain rfl : xs = [.int .u64 x] := by
      match xs, hh with
      | [], hh => exact hh.elim
      | [y], hh => rw [show y = .int .u64 x from (holdsP_flat (v := .s (.int .u64 x)) rfl).1 hh.1]
      | _ :: _ :: _, hh => exact hh.2.elim
    have h := Any.bits_Len (SlLaysF0.n15.bits (P := Try.prog) (ρ := Try.sortRv_ren) { Try.sortRv with }) x w h1 (by omega)
    refine Calls.mono h ?_
    rintro e w' ⟨rfl, rfl⟩
    exact ⟨_, rfl, (holds_flat (v := iv (Go.Lib.bitLen x.toNat : Nat)) rfl).2 rfl, Below.refl _ _⟩
  · cases hv
noncomputable def B4 : Cfg := ⟨Try.prog, lookG [(31, .val lenS), (30, .obj pqS)], [], 0⟩
theorem B4_ok : B4.Ok := Cfg.ok ⟨lenS_ok, pqS_ok, trivial⟩ trivial
noncomputable def sfX : Eng.Obj := execO B4 noLoops 23
theorem sfX_ok : ObjOk Try.prog 23 sfX := execO_plain B4_ok mixed Try.func23 (by kernel_rfl) (by kernel_rfl)
/-! ### a contract for rows that a slice has not all of -/
def shortArgs : List V → Heap → Heap
  | .sub 0 _ 0 n :: _, h => shortH 0 n h
  | _, h => h
def cutO (sp : Eng.Obj) : Eng.Obj := fun args h => sp args (shortArgs args h)
theorem ownFp_short {ν : Env} {i n : Nat} {h : Heap} {k : Nat} : ownFp ν (shortH i n h) k ↔ ownFp ν h k := by
  constructor
  · rintro ⟨j, b, e, ho, hk⟩
    rw [look_shortH] at e
    obtain ⟨c, hc, rfl⟩ := Option.map_eq_some_iff.1 e
    refine ⟨j, c, hc, ?_, hk⟩
    split at ho
    · rwa [shortB_owned] at ho
    · exact ho
  · rintro ⟨j, b, e, ho, hk⟩
    refine ⟨j, _, by rw [look_shortH, e]; rfl, ?_, hk⟩
    split
    · rwa [shortB_owned]
    · exact ho
theorem short_length {i n : Nat} : ∀ h : Heap, (shortH i n h).length = h.length
  | [] => rfl
  | (j, b) :: r => by simp only [shortH, List.length_cons, short_length r]
theorem outO_in {i n : Nat} {h h' : Heap} {v : V} : outO (shortH i n h) v h' = outO h v h' := by
  have e : ∀ j, (match Eng.look (shortH i n h) j with | some b => b.owned | none => true) = (match Eng.look h j with | some b => b.owned | none => true) := by
    intro j
    rw [look_shortH]
    cases Eng.look h j with
    | none => rfl
    | some b =>
      simp only [Option.map_some]
      split
      · exact shortB_owned b
      · rfl
  have e2 : inO (shortH i n h) h' = inO h h' := by
    funext j
    unfold inO
    congr 1
    rw [look_shortH]
    cases Eng.look h j with
    | none => rfl
    | some b =>
      simp only [Option.map_some]
      split
      · rw [shortB_owned]
      · rfl
  unfold outO
  rw [e2]
  exact congrArg (fun q => v.ok (inO h h') && q) (congrArg (fun g => h'.all g) (funext fun p => congrArg (fun q => p.2.owned && p.2.ok (inO h h') && q) (e p.1)))
theorem cutO_ok {f : Nat} {sp : Eng.Obj} (h : ObjOk Try.prog f sp) : ObjOk Try.prog f (cutO sp) := by
  refine ⟨h.body, fun args h0 v h' ν w hG hF ha hb hr hv ho => ?_⟩
  unfold cutO at hv
  unfold shortArgs at hv
  split at hv
  · rename_i sz n r
    have key := h.calls _ (shortH 0 n h0) v h' ν w hG (fun k hk => hF k (ownFp_short.1 hk)) (by rw [show inH (shortH 0 n h0) = inH h0 from funext fun j => inH_short]; exact ha) (fun i b e => ?_) ⟨fun i b e => ?_, fun i j bi bj ne ei ej hown => ?_⟩ hv (by rw [outO_in]; exact ho)
    · refine key.mono ?_
      rintro e w' ⟨ν', e1, e2, e3, e4, e5⟩
      exact ⟨ν', e1, fun i hi => e2 i (by rw [inH_short]; exact hi), e3, fun i b hb' k hk => (e4 i b hb' k hk).imp ownFp_short.1 id, e5.weaken fun k hk => ownFp_short.1 hk⟩
    · rw [look_shortH] at e
      obtain ⟨c, hc, rfl⟩ := Option.map_eq_some_iff.1 e
      rw [show inH (shortH 0 n h0) = inH h0 from funext fun j => inH_short, short_length]
      refine ⟨?_, (hb i c hc).2⟩
      split
      · rw [shortB_ok]; exact (hb i c hc).1
      · exact (hb i c hc).1
    · rw [look_shortH] at e
      obtain ⟨c, hc, rfl⟩ := Option.map_eq_some_iff.1 e
      have d := hr.den i c hc
      split
      · exact shortB_den c d
      · exact d
    · rw [look_shortH] at ei ej
      obtain ⟨c1, hc1, rfl⟩ := Option.map_eq_some_iff.1 ei
      obtain ⟨c2, hc2, rfl⟩ := Option.map_eq_some_iff.1 ej
      refine hr.dis i j c1 c2 ne hc1 hc2 ?_
      split at hown
      · rwa [shortB_owned] at hown
      · exact hown
  · exact h.calls args h0 v h' ν w hG hF ha hb hr hv ho
/-! ### the sort's contract -/
theorem take_len {n : Nat} {l : List Rv} (h : n ≤ l.length) : n = (l.take n).length := by rw [List.length_take]; omega
def limF (n : Nat) : Nat := Go.Lib.bitLen (IntKind.wrap .u64 (n : Int)).toNat
theorem sf_way (n : Nat) (l : List Rv) : T.path [true, true] (T.anon (sfX [.sub 0 3 0 n, .raw (.func (.func 24) #[] #[])] [(0, rB l)])) = some ([(decide (0 ≤ IntKind.wrap .u64 (n : Int)) && decide (IntKind.wrap .u64 (n : Int) ≤ 1000000), true), (pqB n 0 n (limF n : Int) l, true)], (.tup [], [(0, rB (srtL l (Int.toNat (limF n : Int))))])) := by kernel_rfl
theorem sf_run {n : Nat} {l : List Rv} (hn : n = l.length) (h0 : 0 < n) (h1 : n ≤ 1000000) (hs : l.all smallP = true) : (sfX [.sub 0 3 0 n, .raw (.func (.func 24) #[] #[])] [(0, rB l)]).eval = some (.tup [], [(0, rB (srtL l (limF n)))]) := by
  rw [← T.eval_anon (t := sfX _ _)]
  have w : IntKind.wrap .u64 (n : Int) = (n : Int) := by rw [wrapu64]; omega
  have hl : limF n < 4611686018427387904 := by
    unfold limF
    rw [w]
    have := Go.Lib.bitLen_le n 62 (by omega) (by omega)
    exact Nat.lt_of_le_of_lt this (by omega)
  have way := sf_way n l
  rw [Int.toNat_natCast] at way
  refine T.path_eval way ⟨?_, ?_, trivial⟩
  · rw [w, decide_eq_true (show 0 ≤ (n : Int) by omega), decide_eq_true (show (n : Int) ≤ 1000000 by omega)]; rfl
  · unfold pqB
    rw [decide_eq_true hn, decide_eq_true h0, decide_eq_true h1, decide_eq_true (rfl : (0 : Int) = 0), decide_eq_true (rfl : (n : Int) = n), decide_eq_true (show 0 ≤ (limF n : Int) by omega), decide_eq_true (show (limF n : Int) < 4611686018427387904 by omega), hs]; rfl
def sfB (n : Nat) (l : List Rv) : Bool := decide (n ≤ l.length) && (decide (0 < n) && (decide (n ≤ 1000000) && (l.take n).all smallP))
noncomputable def sfS : Eng.Obj
  | [.sub 0 3 0 n, .raw (.func (.func g) x y)], [(0, .lst true t [.int .u32, .int .i64, .int .i64] l)] =>
    if t = 51 then if g = 24 then if x.size = 0 then if y.size = 0 then
      .ite none (sfB n l) (.ret (.tup [], [(0, rB (srtL (List.take n l) (limF n)))])) .fail else .fail else .fail else .fail else .fail
  | _, _ => .fail
theorem sfS_ok : ObjOk Try.prog 23 sfS := (cutO_ok sfX_ok).of_eval fun args h r e => by
  unfold sfS at e
  split at e
  · rename_i n g x y t l
    obtain ⟨q1, e1⟩ := ite_f e
    obtain ⟨q2, e2⟩ := ite_f e1
    obtain ⟨q3, e3⟩ := ite_f e2
    obtain ⟨q4, e4⟩ := ite_f e3
    obtain ⟨hb, e5⟩ := ite_T' e4
    obtain rfl := Option.some.inj e5
    clear e e1 e2 e3 e4 e5
    subst q1 q2
    obtain rfl : x = #[] := Array.eq_empty_of_size_eq_zero q3
    obtain rfl : y = #[] := Array.eq_empty_of_size_eq_zero q4
    unfold sfB at hb
    simp only [Bool.and_eq_true, decide_eq_true_eq] at hb
    obtain ⟨c1, c2, c3, c4⟩ := hb
    have c1 : n ≤ List.length (α := Rv) l := c1
    exact sf_run (l := List.take (α := Rv) n l) (take_len c1) c2 c3 c4
  · cases e
noncomputable def clX : Eng.Spec := execS B0 noLoops 19
theorem clX_ok : SpecOk Try.prog 19 clX := execS_plain B0_ok mixed Try.func19 (by kernel_rfl) (by kernel_rfl)
def rI (l : List Int) : V := .orow 3 [.int .i64] l
theorem cl_way (l : List Int) : T.path [true, true, true] (T.anon (clX [rI l])) = some ([(decide (0 < l.length), true), (decide (0 + l.length ≤ l.length) && (decide (0 ≤ ([] : List Int).length) && decide (0 + ((l.drop 0).take l.length).length ≤ 1000000)), true), (decide (0 + ((l.drop 0).take l.length).length = (([] : List Int).take 0 ++ (l.drop 0).take l.length).length), true)], rI ((l.drop 0).take l.length)) := by kernel_rfl
theorem cl_some (a : Addr) (c : Nat) : T.path [true, true] (T.anon (clX [.raw (.slice (some a) 0 c)])) = some ([(true && (decide (0 ≤ ([] : List Int).length) && decide (0 + ([] : List Int).length ≤ 1000000)), true), (decide (0 + ([] : List Int).length = (([] : List Int).take 0 ++ []).length), true)], rI []) := by kernel_rfl
theorem cl_none : T.path [true] (T.anon (clX [.raw (.slice none 0 0)])) = some ([(decide (0 = ([] : List Int).length), true)], rI []) := by kernel_rfl
theorem nil_of {l : List Int} (h : ¬ 0 < l.length) : l = [] := List.eq_nil_of_length_eq_zero (by omega)
theorem cl_run {l : List Int} (h0 : 0 < l.length) (h1 : l.length ≤ 1000000) : (clX [rI l]).eval = some (rI l) := by
  rw [← T.eval_anon (t := clX _)]
  have way := cl_way l
  have e : (l.drop 0).take l.length = l := by rw [List.drop_zero, List.take_length]
  rw [e] at way
  refine T.path_eval way ⟨decide_eq_true h0, ?_, decide_eq_true ?_, trivial⟩
  · rw [decide_eq_true (show 0 + l.length ≤ l.length by omega), decide_eq_true (show 0 + l.length ≤ 1000000 by omega)]; rfl
  · rw [List.take_zero, List.nil_append]; omega
def clS : Eng.Spec
  | [.orow t [.int .i64] l] => if t = 3 then .ite none (decide (List.length l ≤ 1000000)) (.ret (.orow 3 [.int .i64] l)) .fail else .fail
  | _ => .fail
theorem clS_ok : SpecOk Try.prog 19 clS := by
  refine ⟨clX_ok.body, fun args v xs w hG hrow hv hrv hh => ?_⟩
  unfold clS at hv
  split at hv
  · rename_i t l
    obtain ⟨q1, e1⟩ := ite_f hv
    obtain ⟨hl, e2⟩ := ite_T' e1
    obtain rfl := Option.some.inj e2
    clear hv e1 e2
    subst q1
    have hl : List.length (α := Int) l ≤ 1000000 := of_decide_eq_true hl
    obtain ⟨x, rfl, hx⟩ : ∃ x, xs = [x] ∧ holdsP 0 w (rI l) x := by
      match xs, hh with
      | [], hh => exact hh.elim
      | [x], hh => exact ⟨x, rfl, hh.1⟩
      | _ :: _ :: _, hh => exact hh.2.elim
    by_cases h0 : 0 < List.length (α := Int) l
    · refine clX_ok.calls [rI l] (rI l) [x] w hG hrow ?_ hrv ⟨hx, trivial⟩
      exact cl_run h0 hl
    · have e0 : l = [] := nil_of h0
      subst e0
      obtain ⟨at_, cap, rfl, hc, hr⟩ := hx
      cases at_ with
      | none =>
        have hc0 : cap = 0 := hc.2 rfl
        subst hc0
        exact clX_ok.calls [.raw (.slice none 0 0)] (rI []) [.slice none 0 0] w hG rfl ((T.eval_anon (t := clX _)).symm.trans (T.path_eval cl_none ⟨rfl, trivial⟩)) hrv ⟨rfl, trivial⟩
      | some a =>
        exact clX_ok.calls [.raw (.slice (some a) 0 cap)] (rI []) [.slice (some a) 0 cap] w hG rfl ((T.eval_anon (t := clX _)).symm.trans (T.path_eval (cl_some a cap) ⟨rfl, rfl, trivial⟩)) hrv ⟨rfl, trivial⟩
  · cases hv
noncomputable def B5 : Cfg := ⟨Try.prog, lookG [(19, .val clS), (12, .val scS), (20, .obj hpS), (21, .obj lnS), (22, .obj hqS), (23, .obj sfS)], [], 0⟩
theorem B5_ok : B5.Ok := Cfg.ok ⟨clS_ok, scS_ok, hpS_ok, lnS_ok, hqS_ok, sfS_ok, trivial⟩ trivial
end Go.Proofs.Ytjjclmgiehnkbaa.Sub

/- Layer 18: Of: its first loop. -/
namespace Go.Proofs.Ytjjclmgiehnkbaa.Sub
open Go.Eng Go.RowKit
set_option linter.unusedVariables false
set_option linter.unusedSimpArgs false
set_option maxRecDepth 100000
noncomputable def lpFi : Code := loopAt Try.prog 11 0
structure PFi where (mo : Int) (k : Nat) (z : Int) (ids : List Int)
structure AFi where (i : Int) (n : Nat) (l : List Rv)
abbrev SFi : List (Nat × Src) := [(0, .same), (33, .same), (2000, .cell 33 0)]
def vsFi (p : PFi) (a : AFi) : List V := [iv p.mo, .ptr 33 0, .sub 0 1 0 p.k, iv p.z, iv a.i]
def bsFi (p : PFi) (a : AFi) : List Blk := [.lst false 3 [.int .i64] p.ids, .cells 47 [.sub 2000 3 0 a.n], .lst true 51 [.int .u32, .int .i64, .int .i64] a.l]
noncomputable def FFi (p : PFi) (a : AFi) : St := mkSt [1,5,21,22,23] (keysR SFi) 2001 60 (vsFi p a) (bsFi p a)
noncomputable def rdFi (p : PFi) (a : AFi) : T (Ex × St) := T.anon (roundN B5 noLoops lpFi [1,5,21,22,23] SFi 2000 2001 (mkSt [1,5,21,22,23] (keysR SFi) 2001 60 (vsFi p a) (bsFi p a)))
def decFi_v0 : V → Option ((Int))
  | .s (.int .i64 mo) => some (mo)
  | _ => none
theorem decFi_v0_ok (b : V) (x0 : (Int)) (h : decFi_v0 b = some x0) : b = iv (x0) := by
  unfold decFi_v0 at h
  split at h
  · cases h
    rfl
  · cases h
def decFi_v1 : V → Option (Unit)
  | .ptr 33 0 => some ()
  | _ => none
theorem decFi_v1_ok (b : V) (x1 : Unit) (h : decFi_v1 b = some x1) : b = .ptr 33 0 := by
  unfold decFi_v1 at h
  split at h
  · cases h
    rfl
  · cases h
def decFi_v2 : V → Option ((Nat))
  | .sub 0 1 0 k => some (k)
  | _ => none
theorem decFi_v2_ok (b : V) (x2 : (Nat)) (h : decFi_v2 b = some x2) : b = .sub 0 1 0 (x2) := by
  unfold decFi_v2 at h
  split at h
  · cases h
    rfl
  · cases h
def decFi_v3 : V → Option ((Int))
  | .s (.int .i64 z) => some (z)
  | _ => none
theorem decFi_v3_ok (b : V) (x3 : (Int)) (h : decFi_v3 b = some x3) : b = iv (x3) := by
  unfold decFi_v3 at h
  split at h
  · cases h
    rfl
  · cases h
def decFi_v4 : V → Option ((Int))
  | .s (.int .i64 i) => some (i)
  | _ => none
theorem decFi_v4_ok (b : V) (x4 : (Int)) (h : decFi_v4 b = some x4) : b = iv (x4) := by
  unfold decFi_v4 at h
  split at h
  · cases h
    rfl
  · cases h
def decFi_b0 : Blk → Option ((List Int))
  | .lst false tt0 [.int .i64] ids => if tt0 = 3 then some (ids) else none
  | _ => none
theorem decFi_b0_ok (b : Blk) (y0 : (List Int)) (h : decFi_b0 b = some y0) : b = .lst false 3 [.int .i64] (y0) := by
  unfold decFi_b0 at h
  split at h
  · obtain ⟨e0, h⟩ := ite_some0 h
    subst e0
    cases h
    rfl
  · cases h
def decFi_b1 : Blk → Option ((Nat))
  | .cells tt0 [.sub 2000 3 0 n] => if tt0 = 47 then some (n) else none
  | _ => none
theorem decFi_b1_ok (b : Blk) (y1 : (Nat)) (h : decFi_b1 b = some y1) : b = .cells 47 [.sub 2000 3 0 (y1)] := by
  unfold decFi_b1 at h
  split at h
  · obtain ⟨e0, h⟩ := ite_some0 h
    subst e0
    cases h
    rfl
  · cases h
def decFi_b2 : Blk → Option ((List Rv))
  | .lst true tt0 [.int .u32, .int .i64, .int .i64] l => if tt0 = 51 then some (l) else none
  | _ => none
theorem decFi_b2_ok (b : Blk) (y2 : (List Rv)) (h : decFi_b2 b = some y2) : b = .lst true 51 [.int .u32, .int .i64, .int .i64] (y2) := by
  unfold decFi_b2 at h
  split at h
  · obtain ⟨e0, h⟩ := ite_some0 h
    subst e0
    cases h
    rfl
  · cases h
def decFi : List V → List Blk → Option (PFi × AFi)
  | [v0, v1, v2, v3, v4], [b0, b1, b2] => (decFi_v0 v0).bind fun x0 => (decFi_v1 v1).bind fun x1 => (decFi_v2 v2).bind fun x2 => (decFi_v3 v3).bind fun x3 => (decFi_v4 v4).bind fun x4 => (decFi_b0 b0).bind fun y0 => (decFi_b1 b1).bind fun y1 => (decFi_b2 b2).bind fun y2 => some (⟨(x0), (x2), (x3), (y0)⟩, ⟨(x4), (y1), (y2)⟩)
  | _, _ => none
theorem decFi_ok (l : List V) (b : List Blk) (d : PFi × AFi) (h : decFi l b = some d) : l = vsFi d.1 d.2 ∧ b = bsFi d.1 d.2 := by
  unfold decFi at h
  split at h
  · obtain ⟨x0, hx0, h⟩ := Option.bind_eq_some_iff.1 h
    obtain ⟨x1, hx1, h⟩ := Option.bind_eq_some_iff.1 h
    obtain ⟨x2, hx2, h⟩ := Option.bind_eq_some_iff.1 h
    obtain ⟨x3, hx3, h⟩ := Option.bind_eq_some_iff.1 h
    obtain ⟨x4, hx4, h⟩ := Option.bind_eq_some_iff.1 h
    obtain ⟨y0, hy0, h⟩ := Option.bind_eq_some_iff.1 h
    obtain ⟨y1, hy1, h⟩ := Option.bind_eq_some_iff.1 h
    obtain ⟨y2, hy2, h⟩ := Option.bind_eq_some_iff.1 h
    have ex0 := decFi_v0_ok _ _ hx0
    have ex1 := decFi_v1_ok _ _ hx1
    have ex2 := decFi_v2_ok _ _ hx2
    have ex3 := decFi_v3_ok _ _ hx3
    have ex4 := decFi_v4_ok _ _ hx4
    have ey0 := decFi_b0_ok _ _ hy0
    have ey1 := decFi_b1_ok _ _ hy1
    have ey2 := decFi_b2_ok _ _ hy2
    cases h
    subst ex0 ex1 ex2 ex3 ex4 ey0 ey1 ey2
    exact ⟨rfl, rfl⟩
  · cases h
noncomputable def rgFi : Nat := (firstReg lpFi).getD 0
theorem rgFi_is : firstReg lpFi = some rgFi := by kernel_rfl
end Go.Proofs.Ytjjclmgiehnkbaa.Sub

/- Layer 18: who is among the first m: plain facts. -/
namespace Go.Proofs.Ytjjclmgiehnkbaa.Sub
set_option linter.unusedVariables false
set_option linter.unusedSimpArgs false
/-- all ids as rivals, from place k on -/
def rivF : Nat → List Int → List Rv
  | _, [] => []
  | k, x :: r => (scI x, x, (k : Int)) :: rivF (k + 1) r
def rivals (ids : List Int) : List Rv := rivF 0 ids
theorem rivF_len : ∀ (ids : List Int) (k : Nat), (rivF k ids).length = ids.length
  | [], _ => rfl
  | x :: r, k => by simp only [rivF, List.length_cons, rivF_len r (k + 1)]
theorem rivF_get : ∀ (ids : List Int) (k j : Nat), (rivF k ids)[j]? = (ids[j]?).map fun x => (scI x, x, ((k + j : Nat) : Int))
  | [], k, j => by simp [rivF]
  | x :: r, k, 0 => by simp [rivF]
  | x :: r, k, j + 1 => by
    simp only [rivF, List.getElem?_cons_succ]
    rw [rivF_get r (k + 1) j, show k + 1 + j = k + (j + 1) by omega]
theorem rivF_mem : ∀ (ids : List Int) (k : Nat), ∀ x ∈ rivF k ids, (k : Int) ≤ x.2.2 ∧ x.2.2 < ((k + ids.length : Nat) : Int)
  | [], k, x, h => by cases h
  | y :: r, k, x, h => by
    rcases List.mem_cons.1 h with rfl | h
    · simp only [List.length_cons]; omega
    · have := rivF_mem r (k + 1) x h
      simp only [List.length_cons]; omega
theorem rivF_rise : ∀ (ids : List Int) (k : Nat), (rivF k ids).Pairwise (fun a b => a.2.2 < b.2.2)
  | [], _ => List.Pairwise.nil
  | y :: r, k => by
    refine List.Pairwise.cons (fun b hb => ?_) (rivF_rise r (k + 1))
    have := rivF_mem r (k + 1) b hb
    show (k : Int) < b.2.2
    omega
theorem rivals_nodup (ids : List Int) : (rivals ids).Nodup := (rivF_rise ids 0).imp fun {a b} h e => by rw [e] at h; omega
/-- f are the first m of L -/
def Spl (m : Nat) (f L : List Rv) : Prop := ∃ g, (f ++ g).Perm L ∧ (∀ a ∈ f, ∀ b ∈ g, lt3 a b = true) ∧ f.length = min m L.length
theorem Spl.nil (m : Nat) : Spl m [] [] := ⟨[], List.Perm.refl _, fun a h => (by cases h), by simp⟩
theorem Spl.put {m : Nat} {f L f' : List Rv} {x : Rv} (h : Spl m f L) (hm : f.length + 1 ≤ m) (hp : f'.Perm (f ++ [x])) : Spl m f' (L ++ [x]) := by
  obtain ⟨g, h1, h2, h3⟩ := h
  have hl : f.length = L.length := by omega
  have hg : g = [] := by
    have := h1.length_eq
    rw [List.length_append] at this
    exact List.eq_nil_of_length_eq_zero (by omega)
  subst hg
  rw [List.append_nil] at h1
  refine ⟨[], ?_, fun a _ b hb => (by cases hb), ?_⟩
  · rw [List.append_nil]
    exact hp.trans (h1.append_right [x])
  · rw [hp.length_eq, List.length_append, List.length_append]
    simp only [List.length_singleton]
    omega
theorem Spl.pop {m : Nat} {f L f' : List Rv} {x t : Rv} (h : Spl m f L) (hm : f.length = m) (hp : (f' ++ [t]).Perm (f ++ [x])) (hn : (L ++ [x]).Nodup) (ht : ∀ a ∈ f', lt3 t a = false) : Spl m f' (L ++ [x]) := by
  obtain ⟨g, h1, h2, h3⟩ := h
  have hall : (f' ++ (t :: g)).Perm (L ++ [x]) := by
    have e1 : f' ++ (t :: g) = (f' ++ [t]) ++ g := by simp
    rw [e1]
    refine (hp.append_right g).trans ?_
    rw [List.append_assoc]
    refine (List.Perm.append_left f List.perm_append_comm).trans ?_
    rw [← List.append_assoc]
    exact h1.append_right [x]
  have hnd : (f' ++ (t :: g)).Nodup := hall.nodup_iff.2 hn
  have htf : t ∉ f' := fun hf => by
    have := (List.nodup_append.1 hnd).2.2 t hf t List.mem_cons_self
    exact this rfl
  have hlt : ∀ a ∈ f', lt3 a t = true := fun a ha => by
    cases hb : lt3 a t with
    | true => rfl
    | false => exact absurd (lt3_tot hb (ht a ha)) (fun e => htf (e ▸ ha))
  refine ⟨t :: g, hall, fun a ha b hb => ?_, ?_⟩
  · rcases List.mem_cons.1 hb with rfl | hb
    · exact hlt a ha
    · have haq : a ∈ f ++ [x] := hp.mem_iff.1 (List.mem_append_left _ ha)
      rcases List.mem_append.1 haq with q | q
      · exact h2 a q b hb
      · have hax : a = x := by simpa using q
        have htq : t ∈ f ++ [x] := hp.mem_iff.1 (List.mem_append_right _ (List.mem_singleton.2 rfl))
        rcases List.mem_append.1 htq with q2 | q2
        · exact lt3_trans (hlt a ha) (h2 t q2 b hb)
        · have htx : t = x := by simpa using q2
          exact absurd (hax.trans htx.symm ▸ ha) htf
  · have := hp.length_eq
    simp only [List.length_append, List.length_singleton] at this ⊢
    have h4 : f.length = min m L.length := h3
    omega
def rank (L : List Rv) (x : Rv) : Nat := L.countP fun y => lt3 y x
def firsts (L : List Rv) (m : Nat) : List Rv := L.filter fun x => decide (rank L x < m)
theorem Spl.is {m : Nat} {f L : List Rv} (h : Spl m f L) (hm : m ≤ L.length) : f.Perm (firsts L m) := by
  obtain ⟨g, h1, h2, h3⟩ := h
  have hf : f.length = m := by omega
  have hr : ∀ x, rank L x = f.countP (fun y => lt3 y x) + g.countP (fun y => lt3 y x) := fun x => by
    unfold rank
    rw [← h1.countP_eq, List.countP_append]
  have e1 : f.filter (fun x => decide (rank L x < m)) = f := by
    rw [List.filter_eq_self]
    intro a ha
    refine decide_eq_true ?_
    rw [hr a]
    have z : g.countP (fun y => lt3 y a) = 0 := List.countP_eq_zero.2 fun b hb => by rw [lt3_asym (h2 a ha b hb)]; decide
    have l : f.countP (fun y => lt3 y a) < f.length := by
      rw [List.countP_eq_length_filter]
      exact List.length_filter_lt_length_iff_exists.2 ⟨a, ha, by rw [lt3_irr]; decide⟩
    omega
  have e2 : g.filter (fun x => decide (rank L x < m)) = [] := by
    rw [List.filter_eq_nil_iff]
    intro b hb
    rw [decide_eq_true_eq, hr b]
    have l : f.countP (fun y => lt3 y b) = f.length := List.countP_eq_length.2 fun a ha => h2 a ha b hb
    omega
  have := h1.filter (fun x => decide (rank L x < m))
  rw [List.filter_append, e1, e2, List.append_nil] at this
  exact this
theorem firsts_len {m : Nat} {f L : List Rv} (h : Spl m f L) (hm : m ≤ L.length) : (firsts L m).length = m := by
  rw [← (h.is hm).length_eq]
  obtain ⟨g, h1, h2, h3⟩ := h
  omega
/-- rows that are the first ones, sorted by places -/
theorem sorted_is {ids : List Int} {m : Nat} {f s : List Rv} (hf : f.Perm (firsts (rivals ids) m)) (hs : s.Perm f) (hr : s.Pairwise (fun a b => a.2.2 ≤ b.2.2)) : s = firsts (rivals ids) m := by
  have hp := rivF_rise ids 0
  have hsub : ∀ x ∈ firsts (rivals ids) m, x ∈ rivals ids := fun x hx => (List.mem_filter.1 hx).1
  have one : ∀ a ∈ rivals ids, ∀ b ∈ rivals ids, a.2.2 = b.2.2 → a = b := by
    intro a ha b hb e
    obtain ⟨i, hi, rfl⟩ := List.getElem_of_mem ha
    obtain ⟨j, hj, rfl⟩ := List.getElem_of_mem hb
    rcases Nat.lt_trichotomy i j with q | q | q
    · have := (List.pairwise_iff_getElem.1 hp) i j hi hj q
      unfold rivals at e
      omega
    · subst q; rfl
    · have := (List.pairwise_iff_getElem.1 hp) j i hj hi q
      unfold rivals at e
      omega
  refine List.Perm.eq_of_pairwise (le := fun a b : Rv => a.2.2 ≤ b.2.2) ?_ hr ?_ (hs.trans hf)
  · intro a b ha hb h1 h2
    exact one a (hsub a ((hs.trans hf).mem_iff.1 ha)) b (hsub b hb) (by omega)
  · exact (List.Pairwise.filter _ hp).imp fun {a b} h => Int.le_of_lt h
/-- the program's Of, plainly -/
def ofV (ids : List Int) (m : Int) : List Int := if m < 1 ∨ (ids.length : Int) ≤ m then ids else (firsts (rivals ids) m.toNat).map (fun x => x.2.1)
end Go.Proofs.Ytjjclmgiehnkbaa.Sub

/- Layer 18: Of: its first loop holds the first m rivals. -/
namespace Go.Proofs.Ytjjclmgiehnkbaa.Sub
open Go.Eng Go.RowKit
set_option linter.unusedVariables false
set_option linter.unusedSimpArgs false
set_option maxRecDepth 100000
def idA (p : PFi) (a : AFi) : Bool := decide (0 ≤ a.i) && (decide (a.i < (p.k : Int)) && decide (0 + a.i.toNat < p.ids.length))
def ldA (p : PFi) (a : AFi) : Bool := decide (0 + a.i.toNat < p.ids.length)
def rvA (p : PFi) (a : AFi) : Rv := (scI (p.ids.getD (0 + a.i.toNat) 0), p.ids.getD (0 + a.i.toNat) 0, a.i)
noncomputable def poA2 (p : PFi) (a : AFi) : Bool := popG (a.n + 1) (pushL a.n a.l (rvA p a))
theorem fi_x (p : PFi) (a : AFi) : T.path [false] (rdFi p a) = some ([(decide (a.i < p.z), false)], (.exit 0, FFi p a)) := by kernel_rfl
theorem fi_p (p : PFi) (a : AFi) : T.path [true, true, true, true, false] (rdFi p a) = some ([(decide (a.i < p.z), true), (idA p a, true), (ldA p a, true), (pushG a.n a.l, true), (decide (p.mo < ((a.n + 1 : Nat) : Int)), false)], (.normal, FFi p ⟨IntKind.wrap .i64 (a.i + 1), a.n + 1, pushL a.n a.l (rvA p a)⟩)) := by kernel_rfl
theorem fi_q (p : PFi) (a : AFi) : T.path [true, true, true, true, true, true] (rdFi p a) = some ([(decide (a.i < p.z), true), (idA p a, true), (ldA p a, true), (pushG a.n a.l, true), (decide (p.mo < ((a.n + 1 : Nat) : Int)), true), (poA2 p a, true)], (.normal, FFi p ⟨IntKind.wrap .i64 (a.i + 1), a.n + 1 - 1, popL (a.n + 1) (pushL a.n a.l (rvA p a))⟩)) := by kernel_rfl
structure okFi (p : PFi) (a : AFi) : Prop where
  k : p.k = p.ids.length
  z : p.z = (p.k : Int)
  k1 : p.k ≤ 1000000
  mo : 1 ≤ p.mo
  i0 : 0 ≤ a.i
  i1 : a.i ≤ p.z
  n : a.n ≤ a.l.length
  heap : Hp (a.l.take a.n) a.n
  spl : Spl p.mo.toNat (a.l.take a.n) ((rivals p.ids).take a.i.toNat)
def goFi (p : PFi) (a : AFi) : Bool := decide (a.i < p.z)
def muFi (p : PFi) (a : AFi) : Nat := (p.z - a.i).toNat
theorem Hp.take {l : List Rv} {n m : Nat} (h : Hp l n) (hm : m ≤ n) (hl : n ≤ l.length) : Hp (l.take m) m := by
  have g : ∀ k, k < m → G (l.take m) k = G l k := fun k hk => by
    unfold G
    rw [List.getD_eq_getElem?_getD, List.getD_eq_getElem?_getD, List.getElem?_take, if_pos hk]
  intro k hk hn
  rw [g _ (by omega), g _ hn]
  exact h k hk (by omega)
theorem Hp.of {l : List Rv} {n : Nat} (h : Hp l n) (x : Rv) : ∀ a ∈ l, n = l.length → lt3 (G l 0) a = false := by
  intro a ha hn
  obtain ⟨i, hi, rfl⟩ := List.getElem_of_mem ha
  have := h.top i (by omega)
  rwa [G_at hi] at this
theorem take_last {l : List Rv} {k : Nat} (h : l.length = k + 1) : l.take (k + 1 - 1) ++ [l[k + 1 - 1]'(by omega)] = l := by
  have e : l.take (k + 1 - 1 + 1) = l.take (k + 1 - 1) ++ [l[k + 1 - 1]'(by omega)] := by
    rw [List.take_add_one, List.getElem?_eq_getElem (by omega)]; rfl
  rw [← e]
  exact List.take_of_length_le (by omega)
theorem stepFi (p : PFi) (a : AFi) (h : okFi p a) (hg : goFi p a = true) : ∃ b, stepC okFi rdFi FFi muFi p a b := by
  have hi : a.i < p.z := of_decide_eq_true hg
  obtain ⟨h1, h2, h3, h4, h5, h6, h7, h8, h9⟩ := h
  have hl : a.i.toNat < p.ids.length := by omega
  have w : IntKind.wrap .i64 (a.i + 1) = a.i + 1 := wrap64_in (by omega) (by omega)
  have hfl : (a.l.take a.n).length = a.n := by rw [List.length_take]; omega
  have hrl : (rivals p.ids).length = p.ids.length := rivF_len _ _
  have hn : a.n = min p.mo.toNat a.i.toNat := by
    obtain ⟨g, _, _, e⟩ := h9
    rw [hfl, List.length_take, hrl] at e
    omega
  have c1 : idA p a = true := by
    unfold idA
    rw [decide_eq_true h5, decide_eq_true (show a.i < (p.k : Int) by omega), decide_eq_true (show 0 + a.i.toNat < p.ids.length by omega)]; rfl
  have c2 : ldA p a = true := decide_eq_true (by omega)
  have hpu : pushP a.n a.l := ⟨h7, by omega, h8⟩
  obtain ⟨u1, u2⟩ := push_is hpu (rvA p a)
  have ex : (rivals p.ids)[a.i.toNat]? = some (rvA p a) := by
    unfold rivals rvA
    rw [rivF_get, Nat.zero_add, List.getD_eq_getElem?_getD, List.getElem?_eq_getElem hl]
    simp only [Option.map_some, Option.getD_some]
    have : ((a.i.toNat : Nat) : Int) = a.i := by omega
    rw [this]
  have et : (rivals p.ids).take (a.i + 1).toNat = (rivals p.ids).take a.i.toNat ++ [rvA p a] := by
    rw [show (a.i + 1).toNat = a.i.toNat + 1 by omega, List.take_add_one, ex]; rfl
  have ul : (pushL a.n a.l (rvA p a)).length = a.n + 1 := by
    rw [u1.length_eq, List.length_append, hfl]; rfl
  have mu : ∀ n l, muFi p ⟨a.i + 1, n, l⟩ < muFi p a := fun n l => by show (p.z - (a.i + 1)).toNat < (p.z - a.i).toNat; omega
  by_cases q : p.mo < ((a.n + 1 : Nat) : Int)
  · have hpo : popP (a.n + 1) (pushL a.n a.l (rvA p a)) := ⟨ul.symm, by omega, by omega, u2⟩
    obtain ⟨o1, o2, o3⟩ := pop_is hpo
    have way := fi_q p a
    rw [w] at way
    have ol : (popL (a.n + 1) (pushL a.n a.l (rvA p a))).length = a.n + 1 := by rw [o1.length_eq, ul]
    refine ⟨_, T.path_eval way ⟨hg, c1, c2, pushG_is.2 hpu, decide_eq_true q, popG_is.2 hpo, trivial⟩, ⟨h1, h2, h3, h4, by show 0 ≤ a.i + 1; omega, by show a.i + 1 ≤ p.z; omega, ?_, ?_, ?_⟩, mu _ _⟩
    · show a.n + 1 - 1 ≤ (popL (a.n + 1) _).length
      omega
    · show Hp ((popL (a.n + 1) (pushL a.n a.l (rvA p a))).take (a.n + 1 - 1)) (a.n + 1 - 1)
      exact Hp.take o2 (Nat.le_refl _) (by omega)
    · show Spl p.mo.toNat ((popL (a.n + 1) (pushL a.n a.l (rvA p a))).take (a.n + 1 - 1)) ((rivals p.ids).take (a.i + 1).toNat)
      rw [et]
      have esp : (popL (a.n + 1) (pushL a.n a.l (rvA p a))).take (a.n + 1 - 1) ++ [G (pushL a.n a.l (rvA p a)) 0] = popL (a.n + 1) (pushL a.n a.l (rvA p a)) := by
        rw [← o3, G_at (by omega)]
        exact take_last (by omega)
      refine Spl.pop h9 (by omega) (t := G (pushL a.n a.l (rvA p a)) 0) (x := rvA p a) ?_ ?_ ?_
      · rw [esp]
        exact o1.trans u1
      · rw [← et]
        exact (rivals_nodup p.ids).sublist (List.take_sublist _ _)
      · intro b hb
        have hb2 : b ∈ pushL a.n a.l (rvA p a) := o1.mem_iff.1 (List.mem_of_mem_take hb)
        exact u2.of b b hb2 ul.symm
  · have way := fi_p p a
    rw [w] at way
    have etk : (pushL a.n a.l (rvA p a)).take (a.n + 1) = pushL a.n a.l (rvA p a) := List.take_of_length_le (by omega)
    refine ⟨_, T.path_eval way ⟨hg, c1, c2, pushG_is.2 hpu, decide_eq_false q, trivial⟩, ⟨h1, h2, h3, h4, by show 0 ≤ a.i + 1; omega, by show a.i + 1 ≤ p.z; omega, ?_, ?_, ?_⟩, mu _ _⟩
    · show a.n + 1 ≤ (pushL a.n a.l _).length
      omega
    · show Hp ((pushL a.n a.l (rvA p a)).take (a.n + 1)) (a.n + 1)
      rw [etk]; exact u2
    · show Spl p.mo.toNat ((pushL a.n a.l (rvA p a)).take (a.n + 1)) ((rivals p.ids).take (a.i + 1).toNat)
      rw [etk, et]
      exact Spl.put h9 (by omega) u1
noncomputable def outFi (p : PFi) (a : AFi) : T (Ex × St) := .ret (.exit 0, FFi p a)
theorem exFi (p : PFi) (a : AFi) (h : okFi p a) (hg : goFi p a = false) (r : Ex × St) (hr : (outFi p a).eval = some r) : r.1 ≠ .normal ∧ (rdFi p a).eval = some r := by
  obtain rfl := Option.some.inj hr
  exact ⟨by simp, T.path_eval (fi_x p a) ⟨hg, trivial⟩⟩
noncomputable def famFi : LSpec := famD [1,5,21,22,23] SFi 2000 2001 60 decFi okFi goFi rdFi FFi muFi outFi
theorem lpFi_ok : LoopOk B5 lpFi famFi := famD_ok (vs := vsFi) (bs := bsFi) B5_ok mixed (noLoops_ok _) decFi_ok (fun _ _ => rfl) (fun _ _ => rfl) stepFi exFi
noncomputable def famFv : LSpec := fun st => (adoptC 33 0 51 KR st).bind famFi
theorem lpFv_ok : LoopOk B5 lpFi famFv := lpFi_ok.adoptC 33 0 51 KR
end Go.Proofs.Ytjjclmgiehnkbaa.Sub

/- Layer 18: Of: its second loop; its contract. -/
namespace Go.Proofs.Ytjjclmgiehnkbaa.Sub
open Go.Eng Go.RowKit
set_option linter.unusedVariables false
set_option linter.unusedSimpArgs false
set_option maxRecDepth 100000
noncomputable def lpSe : Code := loopAt Try.prog 11 1
structure PSe where (n : Nat) (z : Int) (l : List Rv)
structure ASe where (k : Nat) (i : Int) (o : List Int)
abbrev SSe : List (Nat × Src) := [(2000, .same), (4000, .tmp 8)]
def vsSe (p : PSe) (a : ASe) : List V := [.sub 4000 1 0 a.k, .sub 2000 3 0 p.n, iv p.z, iv a.i]
def bsSe (p : PSe) (a : ASe) : List Blk := [.lst true 51 [.int .u32, .int .i64, .int .i64] p.l, .lst true 3 [.int .i64] a.o]
noncomputable def FSe (p : PSe) (a : ASe) : St := mkSt [8,47,48,49] (keysR SSe) 4001 60 (vsSe p a) (bsSe p a)
noncomputable def rdSe (p : PSe) (a : ASe) : T (Ex × St) := T.anon (roundN B5 noLoops lpSe [8,47,48,49] SSe 4000 4001 (mkSt [8,47,48,49] (keysR SSe) 4001 60 (vsSe p a) (bsSe p a)))
def decSe_v0 : V → Option ((Nat))
  | .sub 4000 1 0 k => some (k)
  | _ => none
theorem decSe_v0_ok (b : V) (x0 : (Nat)) (h : decSe_v0 b = some x0) : b = .sub 4000 1 0 (x0) := by
  unfold decSe_v0 at h
  split at h
  · cases h
    rfl
  · cases h
def decSe_v1 : V → Option ((Nat))
  | .sub 2000 3 0 n => some (n)
  | _ => none
theorem decSe_v1_ok (b : V) (x1 : (Nat)) (h : decSe_v1 b = some x1) : b = .sub 2000 3 0 (x1) := by
  unfold decSe_v1 at h
  split at h
  · cases h
    rfl
  · cases h
def decSe_v2 : V → Option ((Int))
  | .s (.int .i64 z) => some (z)
  | _ => none
theorem decSe_v2_ok (b : V) (x2 : (Int)) (h : decSe_v2 b = some x2) : b = iv (x2) := by
  unfold decSe_v2 at h
  split at h
  · cases h
    rfl
  · cases h
def decSe_v3 : V → Option ((Int))
  | .s (.int .i64 i) => some (i)
  | _ => none
theorem decSe_v3_ok (b : V) (x3 : (Int)) (h : decSe_v3 b = some x3) : b = iv (x3) := by
  unfold decSe_v3 at h
  split at h
  · cases h
    rfl
  · cases h
def decSe_b0 : Blk → Option ((List Rv))
  | .lst true tt0 [.int .u32, .int .i64, .int .i64] l => if tt0 = 51 then some (l) else none
  | _ => none
theorem decSe_b0_ok (b : Blk) (y0 : (List Rv)) (h : decSe_b0 b = some y0) : b = .lst true 51 [.int .u32, .int .i64, .int .i64] (y0) := by
  unfold decSe_b0 at h
  split at h
  · obtain ⟨e0, h⟩ := ite_some0 h
    subst e0
    cases h
    rfl
  · cases h
def decSe_b1 : Blk → Option ((List Int))
  | .lst true tt0 [.int .i64] o => if tt0 = 3 then some (o) else none
  | _ => none
theorem decSe_b1_ok (b : Blk) (y1 : (List Int)) (h : decSe_b1 b = some y1) : b = .lst true 3 [.int .i64] (y1) := by
  unfold decSe_b1 at h
  split at h
  · obtain ⟨e0, h⟩ := ite_some0 h
    subst e0
    cases h
    rfl
  · cases h
def decSe : List V → List Blk → Option (PSe × ASe)
  | [v0, v1, v2, v3], [b0, b1] => (decSe_v0 v0).bind fun x0 => (decSe_v1 v1).bind fun x1 => (decSe_v2 v2).bind fun x2 => (decSe_v3 v3).bind fun x3 => (decSe_b0 b0).bind fun y0 => (decSe_b1 b1).bind fun y1 => some (⟨(x1), (x2), (y0)⟩, ⟨(x0), (x3), (y1)⟩)
  | _, _ => none
theorem decSe_ok (l : List V) (b : List Blk) (d : PSe × ASe) (h : decSe l b = some d) : l = vsSe d.1 d.2 ∧ b = bsSe d.1 d.2 := by
  unfold decSe at h
  split at h
  · obtain ⟨x0, hx0, h⟩ := Option.bind_eq_some_iff.1 h
    obtain ⟨x1, hx1, h⟩ := Option.bind_eq_some_iff.1 h
    obtain ⟨x2, hx2, h⟩ := Option.bind_eq_some_iff.1 h
    obtain ⟨x3, hx3, h⟩ := Option.bind_eq_some_iff.1 h
    obtain ⟨y0, hy0, h⟩ := Option.bind_eq_some_iff.1 h
    obtain ⟨y1, hy1, h⟩ := Option.bind_eq_some_iff.1 h
    have ex0 := decSe_v0_ok _ _ hx0
    have ex1 := decSe_v1_ok _ _ hx1
    have ex2 := decSe_v2_ok _ _ hx2
    have ex3 := decSe_v3_ok _ _ hx3
    have ey0 := decSe_b0_ok _ _ hy0
    have ey1 := decSe_b1_ok _ _ hy1
    cases h
    subst ex0 ex1 ex2 ex3 ey0 ey1
    exact ⟨rfl, rfl⟩
  · cases h
noncomputable def rgSe : Nat := (firstReg lpSe).getD 0
theorem rgSe_is : firstReg lpSe = some rgSe := by kernel_rfl
def idB (p : PSe) (a : ASe) : Bool := decide (0 ≤ a.i) && (decide (a.i < (p.n : Int)) && decide (0 + a.i.toNat < p.l.length))
def ldB (p : PSe) (a : ASe) : Bool := decide (0 + a.i.toNat < p.l.length)
def xB (p : PSe) (a : ASe) : Int := (p.l.getD (0 + a.i.toNat) ((0, 0, 0) : Rv)).2.1
def apB (a : ASe) (x : Int) : Bool := true && (decide (a.k ≤ a.o.length) && decide (a.k + [x].length ≤ 1000000))
theorem se_x (p : PSe) (a : ASe) : T.path [false] (rdSe p a) = some ([(decide (a.i < p.z), false)], (.exit 2, FSe p a)) := by kernel_rfl
theorem se_n (p : PSe) (a : ASe) : T.path [true, true, true, true] (rdSe p a) = some ([(decide (a.i < p.z), true), (idB p a, true), (ldB p a, true), (apB a (xB p a), true)], (.normal, FSe p ⟨a.k + [xB p a].length, IntKind.wrap .i64 (a.i + 1), a.o.take a.k ++ [xB p a]⟩)) := by kernel_rfl
structure okSe (p : PSe) (a : ASe) : Prop where
  n : p.n = p.l.length
  z : p.z = (p.n : Int)
  n1 : p.n ≤ 1000000
  i0 : 0 ≤ a.i
  i1 : a.i ≤ p.z
  k : a.k = a.o.length
  o : a.o = (p.l.take a.i.toNat).map (fun x => x.2.1)
def goSe (p : PSe) (a : ASe) : Bool := decide (a.i < p.z)
def muSe (p : PSe) (a : ASe) : Nat := (p.z - a.i).toNat
theorem stepSe (p : PSe) (a : ASe) (h : okSe p a) (hg : goSe p a = true) : ∃ b, stepC okSe rdSe FSe muSe p a b := by
  have hi : a.i < p.z := of_decide_eq_true hg
  obtain ⟨h1, h2, h3, h4, h5, h6, h7⟩ := h
  have hl : a.i.toNat < p.l.length := by omega
  have w : IntKind.wrap .i64 (a.i + 1) = a.i + 1 := wrap64_in (by omega) (by omega)
  have ex : xB p a = (p.l[a.i.toNat]).2.1 := by
    unfold xB
    rw [List.getD_eq_getElem?_getD, Nat.zero_add, List.getElem?_eq_getElem hl]; rfl
  have ek : p.l.take (a.i + 1).toNat = p.l.take a.i.toNat ++ [p.l[a.i.toNat]] := by
    rw [show (a.i + 1).toNat = a.i.toNat + 1 by omega, List.take_add_one, List.getElem?_eq_getElem hl]; rfl
  have ol : a.o.length = a.i.toNat := by rw [h7, List.length_map, List.length_take]; omega
  have c1 : idB p a = true := by
    unfold idB
    rw [decide_eq_true h4, decide_eq_true (show a.i < (p.n : Int) by omega), decide_eq_true (show 0 + a.i.toNat < p.l.length by omega)]; rfl
  have c3 : apB a (xB p a) = true := by
    unfold apB
    rw [decide_eq_true (show a.k ≤ a.o.length by omega), decide_eq_true (show a.k + [xB p a].length ≤ 1000000 by simp only [List.length_singleton]; omega)]; rfl
  have way := se_n p a
  rw [w, show a.o.take a.k = a.o from List.take_of_length_le (by omega)] at way
  refine ⟨_, T.path_eval way ⟨hg, c1, decide_eq_true (by omega), c3, trivial⟩, ⟨h1, h2, h3, by show 0 ≤ a.i + 1; omega, by show a.i + 1 ≤ p.z; omega, ?_, ?_⟩, by show (p.z - (a.i + 1)).toNat < (p.z - a.i).toNat; omega⟩
  · show a.k + [xB p a].length = (a.o ++ [xB p a]).length
    rw [List.length_append]; omega
  · show a.o ++ [xB p a] = (p.l.take (a.i + 1).toNat).map (fun x => x.2.1)
    rw [ek, List.map_append, ← h7, ex]; rfl
noncomputable def outSe (p : PSe) (a : ASe) : T (Ex × St) := .ret (.exit 2, FSe p a)
theorem exSe (p : PSe) (a : ASe) (h : okSe p a) (hg : goSe p a = false) (r : Ex × St) (hr : (outSe p a).eval = some r) : r.1 ≠ .normal ∧ (rdSe p a).eval = some r := by
  obtain rfl := Option.some.inj hr
  exact ⟨by simp, T.path_eval (se_x p a) ⟨hg, trivial⟩⟩
noncomputable def famSe : LSpec := famD [8,47,48,49] SSe 4000 4001 60 decSe okSe goSe rdSe FSe muSe outSe
theorem lpSe_ok : LoopOk B5 lpSe famSe := famD_ok (vs := vsSe) (bs := bsSe) B5_ok mixed (noLoops_ok _) decSe_ok (fun _ _ => rfl) (fun _ _ => rfl) stepSe exSe
noncomputable def ofX : Eng.Spec := execS B5 (byReg [(rgFi, famFv), (rgSe, famSe)]) 11
theorem ofX_ok : SpecOk Try.prog 11 ofX := execS_loops B5_ok mixed Try.func11 (by kernel_rfl) (by kernel_rfl) (two_lp (c := lpFi) (c' := lpSe) (by kernel_rfl) rgFi_is rgSe_is (by kernel_rfl) lpFv_ok lpSe_ok)
end Go.Proofs.Ytjjclmgiehnkbaa.Sub

/- Layer 18: Of: its contract. -/
namespace Go.Proofs.Ytjjclmgiehnkbaa.Sub
open Go.Eng Go.RowKit
set_option linter.unusedVariables false
set_option linter.unusedSimpArgs false
set_option maxRecDepth 100000
def pA (ids : List Int) (m : Int) : PFi := ⟨m, ids.length, (ids.length : Int), ids⟩
def aA : AFi := ⟨0, 0, []⟩
noncomputable def eA (ids : List Int) (m : Int) : AFi := endW (nxtC okFi goFi rdFi FFi muFi (pA ids m)) aA
noncomputable def pB (ids : List Int) (m : Int) : PSe := ⟨(eA ids m).n, ((eA ids m).n : Int), srtL ((eA ids m).l.take (eA ids m).n) (limF (eA ids m).n)⟩
def aB : ASe := ⟨Int.toNat 0, 0, List.replicate (Int.toNat 0) 0⟩
noncomputable def eB (ids : List Int) (m : Int) : ASe := endW (nxtC okSe goSe rdSe FSe muSe (pB ids m)) aB
def cO (ids : List Int) (m : Int) : Bool := bif decide (m < 1) then true else decide ((ids.length : Int) ≤ m)
def tI (l : List Int) : List Int := (l.drop 0).take l.length
theorem of_c (ids : List Int) (m : Int) : T.path [true, true, true, true] (T.anon (ofX [rI ids, iv m])) = some ([(cO ids m, true), (decide (0 + ids.length ≤ ids.length), true), (decide ((tI ids).length ≤ 1000000), true), (decide ((tI ids).length = (tI ids).length), true)], rI (tI ids)) := by kernel_rfl
theorem of_n (m : Int) : T.path [false, true, true, true, true] (T.anon (ofX [.nilSl, iv m])) = some ([(decide (m < 1), false), (bif decide (m < 1) then true else decide (((0 : Nat) : Int) ≤ m), true), (decide (0 + 0 ≤ ([] : List Int).length), true), (decide (((([] : List Int).drop 0).take 0).length ≤ 1000000), true), (decide (((([] : List Int).drop 0).take 0).length = ((([] : List Int).drop 0).take 0).length), true)], rI []) := by kernel_rfl
theorem of_f (ids : List Int) (m : Int) : T.path [false, true, true, true, true, true] (T.anon (ofX [rI ids, iv m])) = some ([(cO ids m, false), (invC okFi (pA ids m) aA, true), (sfB (eA ids m).n (eA ids m).l, true), (decide ((0 : Int) ≤ 0) && (decide (0 ≤ m) && decide (m ≤ 1000000)), true), (invC okSe (pB ids m) aB, true), (decide ((eB ids m).k = (eB ids m).o.length), true)], rI (eB ids m).o) := by kernel_rfl
theorem of_run {ids : List Int} (h : ids.length ≤ 1000000) (m : Int) : (ofX [rI ids, iv m]).eval = some (rI (ofV ids m)) := by
  rw [← T.eval_anon (t := ofX _)]
  have ht : tI ids = ids := by unfold tI; rw [List.drop_zero, List.take_length]
  unfold ofV
  by_cases hc : m < 1 ∨ (ids.length : Int) ≤ m
  · rw [if_pos hc]
    have way := of_c ids m
    rw [ht] at way
    refine T.path_eval way ⟨?_, decide_eq_true (by omega), decide_eq_true h, decide_eq_true rfl, trivial⟩
    unfold cO
    by_cases q : m < 1
    · rw [decide_eq_true q]; rfl
    · rw [decide_eq_false q, decide_eq_true (show (ids.length : Int) ≤ m by omega)]; rfl
  · rw [if_neg hc]
    have h0 : okFi (pA ids m) aA := ⟨rfl, rfl, h, by show 1 ≤ m; omega, Int.le_refl _, Int.natCast_nonneg _, Nat.le_refl _, fun k h1 h2 => absurd h2 (Nat.not_lt_zero _), Spl.nil _⟩
    obtain ⟨k1, k2⟩ := endC stepFi h0
    have k1 : okFi (pA ids m) (eA ids m) := k1
    have k2 : goFi (pA ids m) (eA ids m) = false := k2
    obtain ⟨-, -, -, -, i0, i1, n, heap, spl⟩ := k1
    have hi : ¬ (eA ids m).i < (pA ids m).z := of_decide_eq_false k2
    have i1 : (eA ids m).i ≤ (ids.length : Int) := i1
    have hi : ¬ (eA ids m).i < (ids.length : Int) := hi
    have hrl : (rivals ids).length = ids.length := rivF_len _ _
    have et : (rivals ids).take (eA ids m).i.toNat = rivals ids := List.take_of_length_le (by omega)
    have spl : Spl m.toNat ((eA ids m).l.take (eA ids m).n) ((rivals ids).take (eA ids m).i.toNat) := spl
    rw [et] at spl
    have hfl : ((eA ids m).l.take (eA ids m).n).length = (eA ids m).n := by rw [List.length_take]; omega
    have hn : (eA ids m).n = m.toNat := by
      obtain ⟨g, _, _, e⟩ := spl
      rw [hfl, hrl] at e
      omega
    have hp := spl.is (by omega)
    have hsm : ((eA ids m).l.take (eA ids m).n).all smallP = true := by
      rw [List.all_eq_true]
      intro x hx
      have hx2 : x ∈ rivals ids := (List.mem_filter.1 (hp.mem_iff.1 hx)).1
      have := rivF_mem ids 0 x hx2
      unfold smallP
      rw [decide_eq_true (show 0 ≤ x.2.2 by omega), decide_eq_true (show x.2.2 < 4611686018427387904 by omega)]; rfl
    have hs : srtL ((eA ids m).l.take (eA ids m).n) (limF (eA ids m).n) = firsts (rivals ids) m.toNat := sorted_is hp (srt_perm _ hsm) (srt_sorted _ _)
    have g0 : okSe (pB ids m) aB := by
      refine ⟨?_, rfl, by show (eA ids m).n ≤ _; omega, Int.le_refl _, Int.natCast_nonneg _, rfl, rfl⟩
      show (eA ids m).n = (srtL ((eA ids m).l.take (eA ids m).n) (limF (eA ids m).n)).length
      rw [srt_len, hfl]
    obtain ⟨j1, j2⟩ := endC stepSe g0
    have j1 : okSe (pB ids m) (eB ids m) := j1
    have j2 : goSe (pB ids m) (eB ids m) = false := j2
    obtain ⟨bn, bz, -, b0, b1, bk, bo⟩ := j1
    have hj : ¬ (eB ids m).i < (pB ids m).z := of_decide_eq_false j2
    have eo : (eB ids m).o = (firsts (rivals ids) m.toNat).map (fun x => x.2.1) := by
      rw [bo, List.take_of_length_le (by omega)]
      show List.map _ (srtL ((eA ids m).l.take (eA ids m).n) (limF (eA ids m).n)) = _
      rw [hs]
    have way := of_f ids m
    rw [eo] at way
    refine T.path_eval way ⟨?_, invC_is h0, ?_, ?_, invC_is g0, ?_, trivial⟩
    · unfold cO
      rw [decide_eq_false (show ¬ m < 1 by omega), decide_eq_false (show ¬ (ids.length : Int) ≤ m by omega)]; rfl
    · unfold sfB
      rw [decide_eq_true n, decide_eq_true (show 0 < (eA ids m).n by omega), decide_eq_true (show (eA ids m).n ≤ 1000000 by omega), hsm]; rfl
    · rw [decide_eq_true (show (0 : Int) ≤ m by omega), decide_eq_true (show m ≤ 1000000 by omega)]; rfl
    · rw [← eo]; exact decide_eq_true bk
def ofS : Eng.Spec
  | [.orow t [.int .i64] ids, .s (.int .i64 m)] => if t = 3 then .ite none (decide (List.length ids ≤ 1000000)) (.ret (.orow 3 [.int .i64] (ofV ids m))) .fail else .fail
  | [.nilSl, .s (.int .i64 m)] => .ite none (!decide (m < 1)) (.ret (.orow 3 [.int .i64] [])) .fail
  | _ => .fail
theorem of_nil {m : Int} (h : ¬ m < 1) : (ofX [.nilSl, iv m]).eval = some (rI []) := by
  rw [← T.eval_anon (t := ofX _)]
  refine T.path_eval (of_n m) ⟨decide_eq_false h, ?_, rfl, rfl, rfl, trivial⟩
  rw [decide_eq_false h, decide_eq_true (show ((0 : Nat) : Int) ≤ m by omega)]; rfl
theorem ofS_ok : SpecOk Try.prog 11 ofS := ofX_ok.of_eval fun args v h => by
  unfold ofS at h
  split at h
  · rename_i t ids m
    split at h
    · rename_i ht
      subst ht
      obtain ⟨hb, h2⟩ := ite_T' h
      obtain rfl := Option.some.inj h2
      exact of_run (of_decide_eq_true hb) m
    · cases h
  · rename_i m
    obtain ⟨hb, h2⟩ := ite_T' h
    obtain rfl := Option.some.inj h2
    exact of_nil (m := m) (by simpa using hb)
  · cases h
end Go.Proofs.Ytjjclmgiehnkbaa.Sub

/- Layer 18: slices that the text itself writes, read as rows; what is told of a few. -/
namespace Go.Proofs.Ytjjclmgiehnkbaa.Sub
open Go.Eng Go.RowKit
set_option linter.unusedVariables false
set_option linter.unusedSimpArgs false
set_option maxRecDepth 100000
def i64s : List V → Option (List Int)
  | [] => some []
  | .s (.int .i64 n) :: r => match i64s r with
    | some l => some (n :: l)
    | none => none
  | .n .i64 n :: r => match i64s r with
    | some l => some (n :: l)
    | none => none
  | _ => none
theorem i64s_den : ∀ {l : List V} {g : List Int}, i64s l = some g → denL nu0 l = g.map (Value.int .i64)
  | [], g, h => by cases h; rfl
  | v :: r, g, h => by
    unfold i64s at h
    split at h
    · rename_i e; cases e
    · rename_i n r' e
      cases e
      split at h
      · rename_i l hl
        cases h
        show _ :: denL nu0 r = _ :: _
        rw [i64s_den hl]; rfl
      · cases h
    · rename_i n r' e
      cases e
      split at h
      · rename_i l hl
        cases h
        show _ :: denL nu0 r = _ :: _
        rw [i64s_den hl]; rfl
      · cases h
    · cases h
def rowV1 (v : V) : V :=
  match v with
  | .row t l off len cap => match i64s ((l.drop off).take len) with
    | some g => if g.length = len ∧ len ≤ cap then .orow t [.int .i64] g else .row t l off len cap
    | none => .row t l off len cap
  | v => v
theorem rows64 : ∀ g : List Int, rowsV [.int .i64] g = g.map (Value.int .i64)
  | [] => rfl
  | x :: r => by
    show _ :: rowsV [.int .i64] r = _
    rw [rows64 r]; rfl
theorem rowV1_holds {w : World} {v : V} {x : Value} (h : holdsP 0 w v x) : holdsP 0 w (rowV1 v) x := by
  unfold rowV1
  split
  · rename_i t l off len cap
    split
    · rename_i g hg
      split
      · rename_i hc
        obtain ⟨bk, hb, rfl, hcell⟩ := h
        obtain ⟨rfl, hc2⟩ := hc
        refine ⟨some ⟨bk, off, none⟩, cap, rfl, ⟨hc2, fun e => (by cases e)⟩, fun j u hu => ⟨_, rfl, ?_⟩⟩
        rw [addr_add, cell_of_row w bk (off + j) _ t (0, 0) hcell]
        rw [rows64, ← i64s_den hg] at hu
        rw [denL_map] at hu ⊢
        have hj : j < g.length := by
          have h2 := i64s_den hg
          rw [denL_map] at h2
          have := (List.getElem?_eq_some_iff.1 hu).1
          rw [h2] at this
          simpa using this
        rw [List.getElem?_map, List.getElem?_take, if_pos hj, List.getElem?_drop] at hu
        simpa using hu
      · exact h
    · exact h
  · exact h
theorem rowV1_L {w : World} : ∀ {l : List V} {xs : List Value}, holdsL 0 w l xs → holdsL 0 w (l.map rowV1) xs
  | [], [], h => h
  | v :: r, x :: xs, h => ⟨rowV1_holds h.1, rowV1_L h.2⟩
  | [], _ :: _, h => h.elim
  | _ :: _, [], h => h.elim
theorem rowV1_y {v : V} (h : rowy v = true) : rowy (rowV1 v) = true := by
  unfold rowV1
  split
  · split
    · split
      · rfl
      · exact h
    · exact h
  · exact h
/-- a contract for rows, for slices that the text writes, too -/
def rowIn (sp : Eng.Spec) : Eng.Spec := fun args => sp (args.map rowV1)
theorem rowIn_ok {f : Nat} {sp : Eng.Spec} (h : SpecOk Try.prog f sp) : SpecOk Try.prog f (rowIn sp) := by
  refine ⟨h.body, fun args v xs w hG hrow hv hrv hh => ?_⟩
  refine h.calls (args.map rowV1) v xs w hG ?_ hv hrv (rowV1_L hh)
  unfold rowyL at hrow ⊢
  rw [List.all_map, List.all_eq_true]
  intro x hx
  exact rowV1_y (List.all_eq_true.1 hrow x hx)
noncomputable def inX : Eng.Spec := execS B0 (rounds B0 6 1) 15
theorem inX_ok : SpecOk Try.prog 15 inX := execS_rounds B0_ok mixed 6 1 Try.func15 (by kernel_rfl) (by kernel_rfl)
noncomputable def B6 : Cfg := ⟨Try.prog, lookG [(12, .val scS), (11, .val (rowIn ofS)), (15, .val (rowIn inX))], [], 0⟩
theorem B6_ok : B6.Ok := Cfg.ok ⟨scS_ok, rowIn_ok ofS_ok, rowIn_ok inX_ok, trivial⟩ trivial
noncomputable def tdX : Eng.Spec := execS B6 noLoops 13
theorem tdX_ok : SpecOk Try.prog 13 tdX := execS_plain B6_ok mixed Try.func13 (by kernel_rfl) (by kernel_rfl)
theorem td_run : (tdX []).eval = some (.s (.bool true)) := by kernel_rfl
def tdS : Eng.Spec
  | [] => .ret (.s (.bool true))
  | _ => .fail
theorem tdS_ok : SpecOk Try.prog 13 tdS := tdX_ok.of_den fun args v hfl h => by
  clear hfl
  unfold tdS at h
  split at h
  · obtain rfl := Option.some.inj h
    exact ⟨_, td_run, ⟨rfl, rfl⟩, rfl⟩
  · cases h
end Go.Proofs.Ytjjclmgiehnkbaa.Sub

