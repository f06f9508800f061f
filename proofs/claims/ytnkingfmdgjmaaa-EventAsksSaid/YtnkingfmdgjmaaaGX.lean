import Derived.Test.YtnkingfmdgjmaaaChecked
import Derived.Test.YtnkingfmdgjmaaaGE
/- Layer 23: events: which may be. -/
namespace Go.Proofs.Ytnkingfmdgjmaaa.Evt
open Go.Eng Go.RowKit
set_option linter.unusedVariables false
set_option linter.unusedSimpArgs false
set_option maxRecDepth 100000
theorem mixed : Try.prog.follows .mixedOrders = true := Checked.mixed Try.checked
noncomputable def E0 : Cfg := ⟨Try.prog, lookG [], [], 0⟩
theorem E0_ok : E0.Ok := Cfg.ok trivial trivial
noncomputable def witE : Eng.Spec := execS E0 noLoops 22
theorem witE_ok : SpecOk Try.prog 22 witE := execS_plain E0_ok mixed Try.func22 (by kernel_rfl) (by kernel_rfl)
def wit (k n : Int) : Bool :=
  if k = 1 then decide (1 ≤ n) && decide (n ≤ 200) else if k = 2 then decide (1 ≤ n) && decide (n ≤ 100) else if k = 3 ∨ k = 4 then decide (0 ≤ n) && decide (n ≤ 999) else if k = 6 then decide (1 ≤ n) && decide (n ≤ 50) else false
theorem cond_and' {a b : Bool} : (bif a then b else false) = (a && b) := by cases a <;> rfl
theorem wit_run (k n : Int) : ∃ v, (witE [iv k, iv n]).eval = some v ∧ flat v = true ∧ v.den nu0 = .bool (wit k n) := by
  rw [← T.eval_anon (t := witE [iv k, iv n])]
  unfold wit
  by_cases h1 : k = 1
  · have w : T.path [true] (T.anon (witE [iv k, iv n])) = some ([(k == 1, true)], .s (.bool (bif decide (1 ≤ n) then decide (n ≤ 200) else false))) := by kernel_rfl
    exact ⟨_, T.path_eval w ⟨by simpa using h1, trivial⟩, rfl, by rw [if_pos h1, ← cond_and']; rfl⟩
  by_cases h2 : k = 2
  · have w : T.path [false, true] (T.anon (witE [iv k, iv n])) = some ([(k == 1, false), (k == 2, true)], .s (.bool (bif decide (1 ≤ n) then decide (n ≤ 100) else false))) := by kernel_rfl
    exact ⟨_, T.path_eval w ⟨by simpa using h1, by simpa using h2, trivial⟩, rfl, by rw [if_neg h1, if_pos h2, ← cond_and']; rfl⟩
  by_cases h3 : k = 3
  · have w : T.path [false, false, true] (T.anon (witE [iv k, iv n])) = some ([(k == 1, false), (k == 2, false), (k == 3, true)], .s (.bool (bif decide (0 ≤ n) then decide (n ≤ 999) else false))) := by kernel_rfl
    exact ⟨_, T.path_eval w ⟨by simpa using h1, by simpa using h2, by simpa using h3, trivial⟩, rfl, by rw [if_neg h1, if_neg h2, if_pos (.inl h3), ← cond_and']; rfl⟩
  by_cases h4 : k = 4
  · have w : T.path [false, false, false, true] (T.anon (witE [iv k, iv n])) = some ([(k == 1, false), (k == 2, false), (k == 3, false), (k == 4, true)], .s (.bool (bif decide (0 ≤ n) then decide (n ≤ 999) else false))) := by kernel_rfl
    exact ⟨_, T.path_eval w ⟨by simpa using h1, by simpa using h2, by simpa using h3, by simpa using h4, trivial⟩, rfl, by rw [if_neg h1, if_neg h2, if_pos (.inr h4), ← cond_and']; rfl⟩
  by_cases h6 : k = 6
  · have w : T.path [false, false, false, false, true] (T.anon (witE [iv k, iv n])) = some ([(k == 1, false), (k == 2, false), (k == 3, false), (k == 4, false), (k == 6, true)], .s (.bool (bif decide (1 ≤ n) then decide (n ≤ 50) else false))) := by kernel_rfl
    exact ⟨_, T.path_eval w ⟨by simpa using h1, by simpa using h2, by simpa using h3, by simpa using h4, by simpa using h6, trivial⟩, rfl, by rw [if_neg h1, if_neg h2, if_neg (by omega), if_pos h6, ← cond_and']; rfl⟩
  · have w : T.path [false, false, false, false, false] (T.anon (witE [iv k, iv n])) = some ([(k == 1, false), (k == 2, false), (k == 3, false), (k == 4, false), (k == 6, false)], .ff) := by kernel_rfl
    exact ⟨_, T.path_eval w ⟨by simpa using h1, by simpa using h2, by simpa using h3, by simpa using h4, by simpa using h6, trivial⟩, rfl, by rw [if_neg h1, if_neg h2, if_neg (by omega), if_neg h6]; rfl⟩
def witS : Eng.Spec
  | [.s (.int .i64 k), .s (.int .i64 n)] => .ret (.s (.bool (wit k n)))
  | _ => .fail
theorem wit_ok : SpecOk Try.prog 22 witS := witE_ok.of_den fun args v hfl h => by
  clear hfl
  unfold witS at h
  split at h
  · rename_i k n
    obtain rfl := Option.some.inj h
    obtain ⟨v, h1, h2, h3⟩ := wit_run k n
    exact ⟨v, h1, ⟨h2, rfl⟩, h3⟩
  · cases h
noncomputable def E1 : Cfg := ⟨Try.prog, lookG [(22, .val witS)], [], 0⟩
theorem E1_ok : E1.Ok := Cfg.ok ⟨wit_ok, trivial⟩ trivial
noncomputable def mayX : Eng.Spec := execS E1 noLoops 13
theorem mayX_ok : SpecOk Try.prog 13 mayX := execS_plain E1_ok mixed Try.func13 (by kernel_rfl) (by kernel_rfl)
noncomputable def refX : Eng.Spec := execS E0 noLoops 15
theorem refX_ok : SpecOk Try.prog 15 refX := execS_plain E0_ok mixed Try.func15 (by kernel_rfl) (by kernel_rfl)
def evV (k n : Int) (s : ByteArray) : V := .agg [iv k, iv n, .s (.str s)]
def noS (s : ByteArray) : Bool := s.toList == ByteArray.toList { data := #[] }
/-- may an event stand so? -/
def mayE (k n : Int) (s : ByteArray) : Bool := if k = 5 then (n == 0) && decide ((s.size : Int) ≤ 200) else noS s && wit k n
theorem may_run (k n : Int) (s : ByteArray) : ∃ v, (mayX [evV k n s]).eval = some v ∧ flat v = true ∧ v.den nu0 = .bool (mayE k n s) := by
  rw [← T.eval_anon (t := mayX [evV k n s])]
  unfold mayE
  by_cases h5 : k = 5
  · have w : T.path [true] (T.anon (mayX [evV k n s])) = some ([(k == 5, true)], .s (.bool (bif n == 0 then decide ((s.size : Int) ≤ 200) else false))) := by kernel_rfl
    exact ⟨_, T.path_eval w ⟨by simpa using h5, trivial⟩, rfl, by rw [if_pos h5, ← cond_and']; rfl⟩
  · have w : T.path [false] (T.anon (mayX [evV k n s])) = some ([(k == 5, false)], .s (.bool (bif noS s then wit k n else false))) := by kernel_rfl
    exact ⟨_, T.path_eval w ⟨by simpa using h5, trivial⟩, rfl, by rw [if_neg h5, ← cond_and']; rfl⟩
def refB (s : ByteArray) (n a b : Int) : V := .s (.bool (bif bif noS s then decide (a ≤ n) else false then decide (n ≤ b) else false))
theorem refB_is {s : ByteArray} {n a b : Int} {c : Bool} (h : (decide (a ≤ n) && decide (n ≤ b)) = c) : (refB s n a b).den nu0 = .bool (noS s && c) := by
  rw [← h, ← Bool.and_assoc, ← cond_and', ← cond_and']; rfl
theorem ref_run (k n : Int) (s : ByteArray) : ∃ v, (refX [evV k n s]).eval = some v ∧ flat v = true ∧ v.den nu0 = .bool (mayE k n s) := by
  rw [← T.eval_anon (t := refX [evV k n s])]
  unfold mayE wit
  by_cases h5 : k = 5
  · have w : T.path [true] (T.anon (refX [evV k n s])) = some ([(k == 5, true)], .s (.bool (bif n == 0 then decide ((s.size : Int) ≤ 200) else false))) := by kernel_rfl
    exact ⟨_, T.path_eval w ⟨by simpa using h5, trivial⟩, rfl, by rw [if_pos h5, ← cond_and']; rfl⟩
  rw [if_neg h5]
  by_cases h1 : k = 1
  · have w : T.path [false, true] (T.anon (refX [evV k n s])) = some ([(k == 5, false), (k == 1, true)], refB s n 1 200) := by kernel_rfl
    exact ⟨_, T.path_eval w ⟨by simpa using h5, by simpa using h1, trivial⟩, rfl, by rw [if_pos h1]; exact refB_is rfl⟩
  by_cases h2 : k = 2
  · have w : T.path [false, false, true] (T.anon (refX [evV k n s])) = some ([(k == 5, false), (k == 1, false), (k == 2, true)], refB s n 1 100) := by kernel_rfl
    exact ⟨_, T.path_eval w ⟨by simpa using h5, by simpa using h1, by simpa using h2, trivial⟩, rfl, by rw [if_neg h1, if_pos h2]; exact refB_is rfl⟩
  by_cases h3 : k = 3
  · have w : T.path [false, false, false, true] (T.anon (refX [evV k n s])) = some ([(k == 5, false), (k == 1, false), (k == 2, false), (k == 3, true)], refB s n 0 999) := by kernel_rfl
    exact ⟨_, T.path_eval w ⟨by simpa using h5, by simpa using h1, by simpa using h2, by simpa using h3, trivial⟩, rfl, by rw [if_neg h1, if_neg h2, if_pos (.inl h3)]; exact refB_is rfl⟩
  by_cases h4 : k = 4
  · have w : T.path [false, false, false, false, true] (T.anon (refX [evV k n s])) = some ([(k == 5, false), (k == 1, false), (k == 2, false), (k == 3, false), (k == 4, true)], refB s n 0 999) := by kernel_rfl
    exact ⟨_, T.path_eval w ⟨by simpa using h5, by simpa using h1, by simpa using h2, by simpa using h3, by simpa using h4, trivial⟩, rfl, by rw [if_neg h1, if_neg h2, if_pos (.inr h4)]; exact refB_is rfl⟩
  by_cases h6 : k = 6
  · have w : T.path [false, false, false, false, false, true] (T.anon (refX [evV k n s])) = some ([(k == 5, false), (k == 1, false), (k == 2, false), (k == 3, false), (k == 4, false), (k == 6, true)], refB s n 1 50) := by kernel_rfl
    exact ⟨_, T.path_eval w ⟨by simpa using h5, by simpa using h1, by simpa using h2, by simpa using h3, by simpa using h4, by simpa using h6, trivial⟩, rfl, by rw [if_neg h1, if_neg h2, if_neg (by omega), if_pos h6]; exact refB_is rfl⟩
  · have w : T.path [false, false, false, false, false, false] (T.anon (refX [evV k n s])) = some ([(k == 5, false), (k == 1, false), (k == 2, false), (k == 3, false), (k == 4, false), (k == 6, false)], refB s n 0 (-1)) := by kernel_rfl
    exact ⟨_, T.path_eval w ⟨by simpa using h5, by simpa using h1, by simpa using h2, by simpa using h3, by simpa using h4, by simpa using h6, trivial⟩, rfl, by
      rw [if_neg h1, if_neg h2, if_neg (by omega), if_neg h6]
      refine refB_is ?_
      by_cases q : 0 ≤ n
      · rw [decide_eq_false (show ¬ n ≤ -1 by omega), Bool.and_false]
      · rw [decide_eq_false q, Bool.false_and]⟩
def mayS : Eng.Spec
  | [.agg [.s (.int .i64 k), .s (.int .i64 n), .s (.str s)]] => .ret (.s (.bool (mayE k n s)))
  | _ => .fail
theorem may_ok : SpecOk Try.prog 13 mayS := mayX_ok.of_den fun args v hfl h => by
  clear hfl
  unfold mayS at h
  split at h
  · rename_i k n s
    obtain rfl := Option.some.inj h
    obtain ⟨v, h1, h2, h3⟩ := may_run k n s
    exact ⟨v, h1, ⟨h2, rfl⟩, h3⟩
  · cases h
theorem refmay_ok : SpecOk Try.prog 15 mayS := refX_ok.of_den fun args v hfl h => by
  clear hfl
  unfold mayS at h
  split at h
  · rename_i k n s
    obtain rfl := Option.some.inj h
    obtain ⟨v, h1, h2, h3⟩ := ref_run k n s
    exact ⟨v, h1, ⟨h2, rfl⟩, h3⟩
  · cases h
end Go.Proofs.Ytnkingfmdgjmaaa.Evt

/- Layer 23: events: one event read. -/
namespace Go.Proofs.Ytnkingfmdgjmaaa.Evt
open Go.Eng Go.RowKit
set_option linter.unusedVariables false
set_option linter.unusedSimpArgs false
set_option maxRecDepth 100000
def rowB (l : List Int) : V := .orow 5 [.int .u8] l
noncomputable def numX : Eng.Spec := execS E0 noLoops 26
theorem numX_ok : SpecOk Try.prog 26 numX := execS_plain E0_ok mixed Try.func26 (by kernel_rfl) (by kernel_rfl)
noncomputable def txtX : Eng.Spec := execS E0 noLoops 27
theorem txtX_ok : SpecOk Try.prog 27 txtX := execS_plain E0_ok mixed Try.func27 (by kernel_rfl) (by kernel_rfl)
noncomputable def E2 : Cfg := ⟨Try.prog, lookG [(13, .val mayS), (26, .val numX), (27, .val txtX)], [], 0⟩
theorem E2_ok : E2.Ok := Cfg.ok ⟨may_ok, numX_ok, txtX_ok, trivial⟩ trivial
noncomputable def redX : Eng.Spec := execS E2 noLoops 23
theorem redX_ok : SpecOk Try.prog 23 redX := execS_plain E2_ok mixed Try.func23 (by kernel_rfl) (by kernel_rfl)
end Go.Proofs.Ytnkingfmdgjmaaa.Evt

/- Layer 23: events: one event read: its contract. -/
namespace Go.Proofs.Ytnkingfmdgjmaaa.Evt
open Go.Eng Go.RowKit
set_option linter.unusedVariables false
set_option linter.unusedSimpArgs false
set_option maxRecDepth 100000
theorem wrap64 {n : Int} (h0 : -9223372036854775808 ≤ n) (h1 : n ≤ 9223372036854775807) : IntKind.wrap .i64 n = n := wrap64_in h0 h1
theorem or_bytes {a b : Int} (a0 : 0 ≤ a) (a1 : a < 256) (b0 : 0 ≤ b) (b1 : b < 256) : bits .or .i64 (a * 256) b = a * 256 + b := by
  obtain ⟨x, rfl⟩ := Int.eq_ofNat_of_zero_le a0
  obtain ⟨y, rfl⟩ := Int.eq_ofNat_of_zero_le b0
  have hx : x < 256 := by omega
  have hy : y < 256 := by omega
  have e1 : ((x : Int) * 256) = ((x * 256 : Nat) : Int) := by push_cast; rfl
  unfold bits
  have e2 : (BitVec.ofInt 64 ((x : Int) * 256) ||| BitVec.ofInt 64 (y : Int)).toNat = x * 256 + y := by
    rw [e1, BitVec.ofInt_natCast, BitVec.ofInt_natCast, BitVec.toNat_or, BitVec.toNat_ofNat, BitVec.toNat_ofNat, Nat.mod_eq_of_lt (by omega), Nat.mod_eq_of_lt (by omega)]
    have := Nat.two_pow_add_eq_or_of_lt (i := 8) (b := y) (by omega) x
    rw [show 2 ^ 8 * x = x * 256 by omega] at this
    exact this.symm
  show IntKind.wrap .i64 (((BitVec.ofInt 64 ((x : Int) * 256) ||| BitVec.ofInt 64 (y : Int)).toNat : Nat) : Int) = _
  rw [e2, wrap64 (by omega) (by omega)]
  push_cast; rfl
def byB (l : List Int) : Bool := l.all fun x => decide (0 ≤ x) && decide (x < 256)
theorem byB_get {l : List Int} (h : byB l = true) (i : Nat) : 0 ≤ l.getD i 0 ∧ l.getD i 0 < 256 := by
  rw [List.getD_eq_getElem?_getD]
  rcases Nat.lt_or_ge i l.length with q | q
  · rw [List.getElem?_eq_getElem q]
    have := List.all_eq_true.1 h _ (List.getElem_mem q)
    rw [Bool.and_eq_true, decide_eq_true_eq, decide_eq_true_eq] at this
    exact this
  · rw [List.getElem?_eq_none q]; exact ⟨Int.le_refl _, by decide⟩
abbrev Ev := Int × Int × ByteArray
def foV (e : Ev) (z : Int) : V := .iface 57 (.agg [iv e.1, iv e.2.1, .s (.str e.2.2), iv z])
def brV : V := .iface 63 (.agg [])
def num (l : List Int) : Option Ev := if 3 ≤ l.length then some (l.getD 0 0, l.getD 1 0 * 256 + l.getD 2 0, ⟨#[]⟩) else none
def txt (l : List Int) : Option (Ev × Int) := if 2 ≤ l.length ∧ 2 + l.getD 1 0 ≤ l.length then some ((5, 0, rowStr ((l.drop 2).take (l.getD 1 0).toNat)), 2 + l.getD 1 0) else none
abbrev D8 : Row [K.int .u8] := Row.dflt [.int .u8]
theorem num_run {l : List Int} (h : byB l = true) : (numX [rowB l]).eval = some (match num l with
    | some e => foV e 3
    | none => brV) := by
  rw [← T.eval_anon (t := numX [rowB l])]
  unfold num
  by_cases h3 : 3 ≤ l.length
  · have w : T.path [false, true, true, false, true, true, true, true] (T.anon (numX [rowB l])) = some ([(decide ((l.length : Int) < 3), false), (decide ((0 : Int) ≤ 1) && (decide ((1 : Int) < (l.length : Int)) && decide (0 + Int.toNat 1 < l.length)), true), (decide (0 + Int.toNat 1 < l.length), true), (false, false), (decide ((0 : Int) ≤ 2) && (decide ((2 : Int) < (l.length : Int)) && decide (0 + Int.toNat 2 < l.length)), true), (decide (0 + Int.toNat 2 < l.length), true), (decide ((0 : Int) ≤ 0) && (decide ((0 : Int) < (l.length : Int)) && decide (0 + Int.toNat 0 < l.length)), true), (decide (0 + Int.toNat 0 < l.length), true)],
        foV (IntKind.wrap .i64 (List.getD l 0 0), bits .or .i64 (IntKind.wrap .i64 (IntKind.wrap .i64 (List.getD l 1 0) * 256)) (IntKind.wrap .i64 (List.getD l 2 0)), ⟨#[]⟩) 3) := by kernel_rfl
    obtain ⟨a0, a1⟩ := byB_get h 0
    obtain ⟨b0, b1⟩ := byB_get h 1
    obtain ⟨c0, c1⟩ := byB_get h 2
    rw [wrap64 (n := List.getD l 0 0) (by omega) (by omega), wrap64 (n := List.getD l 1 0) (by omega) (by omega), wrap64 (n := List.getD l 2 0) (by omega) (by omega), wrap64 (n := List.getD l 1 0 * 256) (by omega) (by omega), or_bytes b0 b1 c0 c1] at w
    rw [if_pos h3]
    have t1 : Int.toNat 1 = 1 := rfl
    have t2 : Int.toNat 2 = 2 := rfl
    have t0 : Int.toNat 0 = 0 := rfl
    refine T.path_eval w ⟨decide_eq_false (by omega), ?_, decide_eq_true (by omega), rfl, ?_, decide_eq_true (by omega), ?_, decide_eq_true (by omega), trivial⟩
    · rw [decide_eq_true (show (1 : Int) < (l.length : Int) by omega), decide_eq_true (show 0 + Int.toNat 1 < l.length by omega)]; rfl
    · rw [decide_eq_true (show (2 : Int) < (l.length : Int) by omega), decide_eq_true (show 0 + Int.toNat 2 < l.length by omega)]; rfl
    · rw [decide_eq_true (show (0 : Int) < (l.length : Int) by omega), decide_eq_true (show 0 + Int.toNat 0 < l.length by omega)]; rfl
  · have w : T.path [true] (T.anon (numX [rowB l])) = some ([(decide ((l.length : Int) < 3), true)], brV) := by kernel_rfl
    rw [if_neg h3]
    exact T.path_eval w ⟨decide_eq_true (by omega), trivial⟩
theorem txt_run {l : List Int} (h : byB l = true) : (txtX [rowB l]).eval = some (match txt l with
    | some e => foV e.1 e.2
    | none => brV) := by
  rw [← T.eval_anon (t := txtX [rowB l])]
  unfold txt
  obtain ⟨b0, b1⟩ := byB_get h 1
  have w1 : IntKind.wrap .i64 (List.getD l 1 0) = List.getD l 1 0 := wrap64 (by omega) (by omega)
  have w2 : IntKind.wrap .i64 (2 + List.getD l 1 0) = 2 + List.getD l 1 0 := wrap64 (by omega) (by omega)
  have t1 : Int.toNat 1 = 1 := rfl
  have t2 : Int.toNat 2 = 2 := rfl
  have hd : ∀ c : Bool, T.path [true, true, c] (T.anon (txtX [rowB l])) = T.path [true, true, c] (T.anon (txtX [rowB l])) := fun _ => rfl
  have c1 : (bif decide ((l.length : Int) < 2) == false && true then decide ((0 : Int) ≤ 1) && (decide ((1 : Int) < (l.length : Int)) && decide (0 + Int.toNat 1 < l.length)) else true) = true := by
    by_cases q : (l.length : Int) < 2
    · rw [decide_eq_true q]; rfl
    · rw [decide_eq_false q, decide_eq_true (show (1 : Int) < (l.length : Int) by omega), decide_eq_true (show 0 + Int.toNat 1 < l.length by omega)]; rfl
  have c2 : (bif decide ((l.length : Int) < 2) == false && true then decide (0 + Int.toNat 1 < l.length) else true) = true := by
    by_cases q : (l.length : Int) < 2
    · rw [decide_eq_true q]; rfl
    · rw [decide_eq_false q, decide_eq_true (show 0 + Int.toNat 1 < l.length by omega)]; rfl
  by_cases h3 : 2 ≤ l.length ∧ 2 + l.getD 1 0 ≤ l.length
  · have w : T.path [true, true, false, true, true, true, true] (T.anon (txtX [rowB l])) = some ([(bif decide ((l.length : Int) < 2) == false && true then decide ((0 : Int) ≤ 1) && (decide ((1 : Int) < (l.length : Int)) && decide (0 + Int.toNat 1 < l.length)) else true, true), (bif decide ((l.length : Int) < 2) == false && true then decide (0 + Int.toNat 1 < l.length) else true, true), (bif decide ((l.length : Int) < 2) then true else decide ((l.length : Int) < IntKind.wrap .i64 (2 + IntKind.wrap .i64 (List.getD l 1 0))), false), (decide ((0 : Int) ≤ 1) && (decide ((1 : Int) < (l.length : Int)) && decide (0 + Int.toNat 1 < l.length)), true), (decide (0 + Int.toNat 1 < l.length), true), (decide ((0 : Int) ≤ 2) && (decide ((2 : Int) ≤ IntKind.wrap .i64 (2 + IntKind.wrap .i64 (List.getD l 1 0))) && (decide (IntKind.wrap .i64 (2 + IntKind.wrap .i64 (List.getD l 1 0)) ≤ (l.length : Int)) && decide (l.length ≤ l.length))), true), (decide (Int.toNat 2 + ((IntKind.wrap .i64 (2 + IntKind.wrap .i64 (List.getD l 1 0))).toNat - Int.toNat 2) ≤ l.length), true)],
        foV (5, 0, rowStr (List.take ((IntKind.wrap .i64 (2 + IntKind.wrap .i64 (List.getD l 1 0))).toNat - Int.toNat 2) (List.drop (Int.toNat 2) l))) (IntKind.wrap .i64 (2 + IntKind.wrap .i64 (List.getD l 1 0)))) := by kernel_rfl
    rw [if_pos h3]
    rw [w1, w2] at w
    have e : (2 + List.getD l 1 0).toNat - Int.toNat 2 = (List.getD l 1 0).toNat := by omega
    rw [e, t2] at w
    refine T.path_eval w ⟨c1, c2, ?_, ?_, decide_eq_true (by omega), ?_, decide_eq_true (by omega), trivial⟩
    · rw [decide_eq_false (show ¬ (l.length : Int) < 2 by omega), decide_eq_false (show ¬ (l.length : Int) < 2 + List.getD l 1 0 by omega)]; rfl
    · rw [decide_eq_true (show (1 : Int) < (l.length : Int) by omega), decide_eq_true (show 0 + Int.toNat 1 < l.length by omega)]; rfl
    · rw [decide_eq_true (show (2 : Int) ≤ 2 + List.getD l 1 0 by omega), decide_eq_true (show 2 + List.getD l 1 0 ≤ (l.length : Int) by omega), decide_eq_true (Nat.le_refl _)]; rfl
  · have w : T.path [true, true, true] (T.anon (txtX [rowB l])) = some ([(bif decide ((l.length : Int) < 2) == false && true then decide ((0 : Int) ≤ 1) && (decide ((1 : Int) < (l.length : Int)) && decide (0 + Int.toNat 1 < l.length)) else true, true), (bif decide ((l.length : Int) < 2) == false && true then decide (0 + Int.toNat 1 < l.length) else true, true), (bif decide ((l.length : Int) < 2) then true else decide ((l.length : Int) < IntKind.wrap .i64 (2 + IntKind.wrap .i64 (List.getD l 1 0))), true)], brV) := by kernel_rfl
    rw [if_neg h3]
    rw [w1, w2] at w
    refine T.path_eval w ⟨c1, c2, ?_, trivial⟩
    by_cases q : (l.length : Int) < 2
    · rw [decide_eq_true q]; rfl
    · rw [decide_eq_false q, decide_eq_true (show (l.length : Int) < 2 + List.getD l 1 0 by omega)]; rfl
/-- a value of one of two forms -/
def two (c : Bool) (x y : V) : T V := .ite none c (.ret x) (.ret y)
def numS : Eng.Spec
  | [.orow t [.int .u8] l] => if t = 5 then .ite none (byB l) (two (num l).isSome (foV ((num l).getD (0, 0, ⟨#[]⟩)) 3) brV) .fail else .fail
  | _ => .fail
def txtS : Eng.Spec
  | [.orow t [.int .u8] l] => if t = 5 then .ite none (byB l) (two (txt l).isSome (foV ((txt l).getD ((0, 0, ⟨#[]⟩), 0)).1 ((txt l).getD ((0, 0, ⟨#[]⟩), 0)).2) brV) .fail else .fail
  | _ => .fail
theorem ite_T' {α : Type} {c : Bool} {x : T α} {r : α} (h : (T.ite none c x .fail).eval = some r) : c = true ∧ x.eval = some r := by
  cases c with
  | true => exact ⟨rfl, h⟩
  | false => cases h
theorem two_T {c : Bool} {x y v : V} (h : (two c x y).eval = some v) : v = bif c then x else y := by
  cases c <;> exact (Option.some.inj h).symm
theorem num_ok : SpecOk Try.prog 26 numS := numX_ok.of_den fun args v hfl h => by
  clear hfl
  unfold numS at h
  split at h
  · rename_i t l
    split at h
    · rename_i ht
      subst ht
      obtain ⟨hb, h⟩ := ite_T' h
      have h := two_T h
      have hr := num_run hb
      refine ⟨_, hr, ?_, ?_⟩ <;> (cases hn : num l with
        | some e => rw [hn] at h; subst h; first | exact ⟨rfl, rfl⟩ | rfl
        | none => rw [hn] at h; subst h; first | exact ⟨rfl, rfl⟩ | rfl)
    · cases h
  · cases h
theorem txt_ok : SpecOk Try.prog 27 txtS := txtX_ok.of_den fun args v hfl h => by
  clear hfl
  unfold txtS at h
  split at h
  · rename_i t l
    split at h
    · rename_i ht
      subst ht
      obtain ⟨hb, h⟩ := ite_T' h
      have h := two_T h
      have hr := txt_run hb
      refine ⟨_, hr, ?_, ?_⟩ <;> (cases hn : txt l with
        | some e => rw [hn] at h; subst h; first | exact ⟨rfl, rfl⟩ | rfl
        | none => rw [hn] at h; subst h; first | exact ⟨rfl, rfl⟩ | rfl)
    · cases h
  · cases h
end Go.Proofs.Ytnkingfmdgjmaaa.Evt

/- Layer 23: events: the first event of some bytes: its contract. -/
namespace Go.Proofs.Ytnkingfmdgjmaaa.Evt
open Go.Eng Go.RowKit
set_option linter.unusedVariables false
set_option linter.unusedSimpArgs false
set_option maxRecDepth 100000
noncomputable def E3 : Cfg := ⟨Try.prog, lookG [(13, .val mayS), (26, .val numS), (27, .val txtS)], [], 0⟩
theorem E3_ok : E3.Ok := Cfg.ok ⟨may_ok, num_ok, txt_ok, trivial⟩ trivial
noncomputable def redY : Eng.Spec := execS E3 noLoops 23
theorem redY_ok : SpecOk Try.prog 23 redY := execS_plain E3_ok mixed Try.func23 (by kernel_rfl) (by kernel_rfl)
def lt (l : List Int) : List Int := List.take l.length (List.drop 0 l)
theorem lt_is (l : List Int) : lt l = l := by unfold lt; rw [List.drop_zero, List.take_length]
abbrev e0 : Ev := (0, 0, ⟨#[]⟩)
def red (l : List Int) : Option (Ev × Int) :=
  if l.getD 0 0 = 5 then (txt l).filter fun p => mayE p.1.1 p.1.2.1 p.1.2.2 else ((num l).filter fun e => mayE e.1 e.2.1 e.2.2).map fun e => (e, 3)
def hdR (l : List Int) (c : Bool) : List (Bool × Bool) := [(decide (0 + l.length ≤ l.length), true), (byB (lt l), true), ((num (lt l)).isSome, c), (decide ((0 : Int) ≤ 0) && (decide ((0 : Int) < (l.length : Int)) && decide (0 + Int.toNat 0 < l.length)), true), (decide (0 + Int.toNat 0 < l.length), true)]
def tx (l : List Int) : Ev × Int := (txt l).getD (e0, 0)
def nu (l : List Int) : Ev := (num l).getD e0
def t5 (l : List Int) : List (Bool × Bool) := [(decide (0 + l.length ≤ l.length), true), (byB (lt l), true)]
theorem red_5m (l : List Int) (c m : Bool) : T.path [true, true, c, true, true, true, true, true, true, m] (T.anon (redY [rowB l])) = some (hdR l c ++ ((IntKind.wrap .i64 (List.getD l 0 0) == 5, true) :: (t5 l ++ [((txt (lt l)).isSome, true), (mayE (tx (lt l)).1.1 (tx (lt l)).1.2.1 (tx (lt l)).1.2.2, m)])), bif m then foV (tx (lt l)).1 (tx (lt l)).2 else brV) := by cases c <;> cases m <;> kernel_rfl
theorem red_5n (l : List Int) (c : Bool) : T.path [true, true, c, true, true, true, true, true, false] (T.anon (redY [rowB l])) = some (hdR l c ++ ((IntKind.wrap .i64 (List.getD l 0 0) == 5, true) :: (t5 l ++ [((txt (lt l)).isSome, false)])), brV) := by cases c <;> kernel_rfl
theorem red_nm (l : List Int) (m : Bool) : T.path [true, true, true, true, true, false, m] (T.anon (redY [rowB l])) = some (hdR l true ++ [(IntKind.wrap .i64 (List.getD l 0 0) == 5, false), (mayE (nu (lt l)).1 (nu (lt l)).2.1 (nu (lt l)).2.2, m)], bif m then foV (nu (lt l)) 3 else brV) := by cases m <;> kernel_rfl
theorem red_nn (l : List Int) : T.path [true, true, false, true, true, false] (T.anon (redY [rowB l])) = some (hdR l false ++ [(IntKind.wrap .i64 (List.getD l 0 0) == 5, false)], brV) := by kernel_rfl
theorem hdR_say {l : List Int} (h : byB l = true) (h0 : 0 < l.length) {c : Bool} (hc : (num l).isSome = c) : allSay (hdR l c) := by
  unfold hdR
  rw [lt_is]
  refine ⟨decide_eq_true (by omega), h, hc, ?_, decide_eq_true (by have : Int.toNat 0 = 0 := rfl; omega), trivial⟩
  rw [decide_eq_true (show (0 : Int) < (l.length : Int) by omega), decide_eq_true (show 0 + Int.toNat 0 < l.length by have : Int.toNat 0 = 0 := rfl; omega)]; rfl
theorem red_run {l : List Int} (h : byB l = true) (h0 : 0 < l.length) : (redY [rowB l]).eval = some (match red l with
    | some e => foV e.1 e.2
    | none => brV) := by
  rw [← T.eval_anon (t := redY [rowB l])]
  obtain ⟨a0, a1⟩ := byB_get h 0
  have hw : IntKind.wrap .i64 (List.getD l 0 0) = List.getD l 0 0 := wrap64 (by omega) (by omega)
  have say5 : allSay (t5 l) := by unfold t5; rw [lt_is]; exact ⟨decide_eq_true (by omega), h, trivial⟩
  unfold red
  by_cases q : List.getD l 0 0 = 5
  · rw [if_pos q]
    have k : (IntKind.wrap .i64 (List.getD l 0 0) == 5) = true := by rw [hw, q]; rfl
    cases ht : txt l with
    | none => exact T.path_eval (red_5n l (num l).isSome) (allSay_append (hdR_say h h0 rfl) ⟨k, allSay_append say5 ⟨by rw [lt_is, ht]; rfl, trivial⟩⟩)
    | some e =>
      have e1 : tx (lt l) = e := by unfold tx; rw [lt_is, ht]; rfl
      have w := red_5m l (num l).isSome (mayE e.1.1 e.1.2.1 e.1.2.2)
      rw [e1] at w
      have r := T.path_eval w (allSay_append (hdR_say h h0 rfl) ⟨k, allSay_append say5 ⟨by rw [lt_is, ht]; rfl, rfl, trivial⟩⟩)
      rw [r, Option.filter_some]
      cases mayE e.1.1 e.1.2.1 e.1.2.2 <;> rfl
  · rw [if_neg q]
    have k : (IntKind.wrap .i64 (List.getD l 0 0) == 5) = false := by rw [hw]; simpa using q
    cases ht : num l with
    | none => exact T.path_eval (red_nn l) (allSay_append (hdR_say h h0 (by rw [ht]; rfl)) ⟨k, trivial⟩)
    | some e =>
      have e1 : nu (lt l) = e := by unfold nu; rw [lt_is, ht]; rfl
      have w := red_nm l (mayE e.1 e.2.1 e.2.2)
      rw [e1] at w
      have r := T.path_eval w (allSay_append (hdR_say h h0 (by rw [ht]; rfl)) ⟨k, rfl, trivial⟩)
      rw [r, Option.filter_some]
      cases mayE e.1 e.2.1 e.2.2 <;> rfl
def redS : Eng.Spec
  | [.orow t [.int .u8] l] => if t = 5 then .ite none (byB l && decide (0 < List.length l)) (two (red l).isSome (foV ((red l).getD (e0, 0)).1 ((red l).getD (e0, 0)).2) brV) .fail else .fail
  | _ => .fail
theorem red_ok : SpecOk Try.prog 23 redS := redY_ok.of_den fun args v hfl h => by
  clear hfl
  unfold redS at h
  split at h
  · rename_i t l
    split at h
    · rename_i ht
      subst ht
      obtain ⟨hb, h⟩ := ite_T' h
      rw [Bool.and_eq_true, decide_eq_true_eq] at hb
      have h := two_T h
      have hr := red_run hb.1 hb.2
      refine ⟨_, hr, ?_, ?_⟩ <;> (cases hn : red l with
        | some e => rw [hn] at h; subst h; first | exact ⟨rfl, rfl⟩ | rfl
        | none => rw [hn] at h; subst h; first | exact ⟨rfl, rfl⟩ | rfl)
    · cases h
  · cases h
end Go.Proofs.Ytnkingfmdgjmaaa.Evt

/- Layer 23: what is told of a few: closed runs. -/
namespace Go.Proofs.Ytnkingfmdgjmaaa.Evt
open Go.Eng Go.RowKit
set_option linter.unusedVariables false
set_option linter.unusedSimpArgs false
set_option maxRecDepth 100000
noncomputable def T5 : Cfg := ⟨Try.prog, lookG [(13, .val mayX), (23, .val redX)], [], 0⟩
theorem T5_ok : T5.Ok := Cfg.ok ⟨mayX_ok, redX_ok, trivial⟩ trivial
noncomputable def putR : Eng.Obj := execO T5 (rounds T5 5 2) 11
theorem putR_ok : ObjOk Try.prog 11 putR := execO_rounds T5_ok mixed 5 2 Try.func11 (by kernel_rfl) (by kernel_rfl)
noncomputable def allRn : Eng.Obj := execO T5 (rounds T5 5 1) 17
theorem allRn_ok : ObjOk Try.prog 17 allRn := execO_rounds T5_ok mixed 5 1 Try.func17 (by kernel_rfl) (by kernel_rfl)
noncomputable def T6 : Cfg := ⟨Try.prog, lookG [(13, .val mayX), (11, .obj (Eng.Obj.plain putR)), (17, .obj (Eng.Obj.plain allRn))], [34], 0⟩
theorem T6_ok : T6.Ok := Cfg.ok ⟨mayX_ok, putR_ok.plain, allRn_ok.plain, trivial⟩ ⟨⟨by kernel_rfl, by kernel_rfl⟩, trivial⟩
noncomputable def tldX : Eng.Spec := execS T6 noLoops 12
theorem tldX_ok : SpecOk Try.prog 12 tldX := execS_plain T6_ok mixed Try.func12 (by kernel_rfl) (by kernel_rfl)
theorem tld_run : (tldX []).eval = some (.s (.bool true)) := by kernel_rfl
end Go.Proofs.Ytnkingfmdgjmaaa.Evt

