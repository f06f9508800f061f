/- Whole numbers as floats of 64 bits: sums, differences, orders and conversions are exact below 2^53. No program is named here. -/
import Derived.Laws.ComplexArith
namespace Go.Flt
open Ieee
set_option linter.unusedVariables false
set_option linter.unusedSimpArgs false
/-- a datum that is the whole number n -/
def Val (d : Datum) (n : Nat) : Prop := ∃ (m : Nat) (q : Nat), d = .number false m (-(q : Int)) ∧ m = n * 2 ^ q
theorem two_pos (e : Nat) : 0 < 2 ^ e := Nat.pow_pos (by decide)
theorem log2_pow {n e : Nat} (hn : n ≠ 0) : (n * 2 ^ e).log2 = n.log2 + e := by
  have h1 := Nat.log2_self_le hn
  have h2 := Nat.lt_log2_self (n := n)
  have hm : n * 2 ^ e ≠ 0 := Nat.mul_ne_zero hn (by have := two_pos e; omega)
  apply Nat.le_antisymm
  · have : (n * 2 ^ e).log2 < n.log2 + e + 1 := by
      rw [Nat.log2_lt hm, show n.log2 + e + 1 = (n.log2 + 1) + e by omega, Nat.pow_add]
      exact Nat.mul_lt_mul_of_pos_right h2 (two_pos e)
    omega
  · rw [Nat.le_log2 hm, Nat.pow_add]
    exact Nat.mul_le_mul_right _ h1
theorem cut_exact (way : Toward) (neg : Bool) (n d : Nat) : way.cut neg (n * 2 ^ d) d = n := by
  unfold Toward.cut
  by_cases hn : n = 0
  · subst hn
    cases way <;> simp [Nat.one_shiftLeft]
  · have hl : d ≤ (n * 2 ^ d).log2 + 2 := by rw [log2_pow hn]; omega
    have hmin : min d ((n * 2 ^ d).log2 + 2) = d := by omega
    simp only [hmin, Nat.one_shiftLeft]
    rw [Nat.mul_div_cancel _ (two_pos d), Nat.mul_mod_left]
    have hp : 0 < 2 ^ d := two_pos d
    cases way <;> simp <;> omega
/-- the word of a whole number -/
def fI (n : Nat) : Nat := if n = 0 then 0 else (n.log2 + 1022) * 2 ^ 52 + n * 2 ^ (52 - n.log2)
theorem log2_le {n : Nat} (hn : n ≠ 0) (h : n < 2 ^ 53) : n.log2 ≤ 52 := by
  have := (Nat.log2_lt hn).2 h
  omega
theorem mant {n : Nat} (hn : n ≠ 0) (h : n < 2 ^ 53) : 2 ^ 52 ≤ n * 2 ^ (52 - n.log2) ∧ n * 2 ^ (52 - n.log2) < 2 ^ 53 := by
  have hl := log2_le hn h
  have h1 := Nat.log2_self_le hn
  have h2 := Nat.lt_log2_self (n := n)
  constructor
  · have : 2 ^ n.log2 * 2 ^ (52 - n.log2) ≤ n * 2 ^ (52 - n.log2) := Nat.mul_le_mul_right _ h1
    rwa [← Nat.pow_add, show n.log2 + (52 - n.log2) = 52 by omega] at this
  · have : n * 2 ^ (52 - n.log2) < 2 ^ (n.log2 + 1) * 2 ^ (52 - n.log2) := Nat.mul_lt_mul_of_pos_right h2 (two_pos _)
    rwa [← Nat.pow_add, show n.log2 + 1 + (52 - n.log2) = 53 by omega] at this
theorem nearest_val {n : Nat} (h : n < 2 ^ 53) (q : Nat) : double.nearest false (n * 2 ^ q) (-(q : Int)) = fI n := by
  unfold Format.nearest fI
  by_cases hn : n = 0
  · subst hn; simp [Format.word]
  · have hm : n * 2 ^ q ≠ 0 := Nat.mul_ne_zero hn (by have := two_pos q; omega)
    have hl := log2_le hn h
    obtain ⟨m1, m2⟩ := mant hn h
    rw [if_neg hm, if_neg hn, log2_pow hn]
    have hlp : double.leastPlace = -1074 := by decide
    have hfb : (double.fractionBits : Int) = 52 := rfl
    have hlast : max (-(q : Int) + ((n.log2 + q : Nat) : Int) - double.fractionBits) double.leastPlace = (n.log2 : Int) - 52 := by
      rw [hlp, hfb]; omega
    simp only [hlast]
    have hbin : double.binade = 2 ^ 52 := rfl
    have hinf : double.infRung = 2047 * 2 ^ 52 := by decide
    rw [hlp, hbin, hinf]
    have hk : Toward.even.cut false ((n * 2 ^ q) <<< (-(q : Int) - ((n.log2 : Int) - 52)).toNat) (((n.log2 : Int) - 52) - -(q : Int)).toNat = n * 2 ^ (52 - n.log2) := by
      by_cases c : q ≤ 52 - n.log2
      · have e1 : (-(q : Int) - ((n.log2 : Int) - 52)).toNat = 52 - n.log2 - q := by omega
        have e2 : (((n.log2 : Int) - 52) - -(q : Int)).toNat = 0 := by omega
        rw [e1, e2, Nat.shiftLeft_eq, Nat.mul_assoc, ← Nat.pow_add, show q + (52 - n.log2 - q) = 52 - n.log2 by omega]
        have := cut_exact .even false (n * 2 ^ (52 - n.log2)) 0
        simpa using this
      · have e1 : (-(q : Int) - ((n.log2 : Int) - 52)).toNat = 0 := by omega
        have e2 : (((n.log2 : Int) - 52) - -(q : Int)).toNat = q - (52 - n.log2) := by omega
        rw [e1, e2, Nat.shiftLeft_zero]
        have := cut_exact .even false (n * 2 ^ (52 - n.log2)) (q - (52 - n.log2))
        rwa [Nat.mul_assoc, ← Nat.pow_add, show 52 - n.log2 + (q - (52 - n.log2)) = q by omega] at this
    rw [hk]
    have e3 : ((n.log2 : Int) - 52 - -1074).toNat = n.log2 + 1022 := by omega
    rw [e3]
    unfold Format.word
    have : (n.log2 + 1022) * 2 ^ 52 + n * 2 ^ (52 - n.log2) ≤ 2047 * 2 ^ 52 := by omega
    rw [if_neg (by simp)]
    exact Nat.min_eq_left this
theorem write_val {d : Datum} {n : Nat} (h : Val d n) (hn : n < 2 ^ 53) : double.write d = fI n := by
  obtain ⟨m, q, rfl, rfl⟩ := h
  exact nearest_val hn q
theorem fI_nearest {n : Nat} (h : n < 2 ^ 53) : FloatKind.nearest .f64 (n : Int) = fI n := by
  have := nearest_val h 0
  simp only [Nat.pow_zero, Nat.mul_one] at this
  rw [← this]
  unfold FloatKind.nearest FloatKind.encode
  have h1 : decide ((n : Int) < 0) = false := by simp
  rw [h1]
  rfl
theorem val_zero (q : Nat) : Val (.number false 0 (-(q : Int))) 0 := ⟨0, q, rfl, (Nat.zero_mul _).symm⟩
theorem read_val {n : Nat} (h : n < 2 ^ 53) : Val (double.read (fI n)) n := by
  unfold fI
  by_cases hn : n = 0
  · subst hn
    exact val_zero 1074
  · have hl := log2_le hn h
    obtain ⟨m1, m2⟩ := mant hn h
    rw [if_neg hn]
    refine ⟨n * 2 ^ (52 - n.log2), 52 - n.log2, ?_, rfl⟩
    generalize hK : n * 2 ^ (52 - n.log2) = K at *
    unfold Format.read
    have hsw : double.signWeight = 2 ^ 63 := rfl
    have hbin : double.binade = 2 ^ 52 := rfl
    have hinf : double.infRung = 2047 * 2 ^ 52 := by decide
    have hlp : double.leastPlace = -1074 := by decide
    rw [hsw, hbin, hinf, hlp]
    have b : (n.log2 + 1022) * 2 ^ 52 + K < 2 ^ 63 := by omega
    have e1 : ((n.log2 + 1022) * 2 ^ 52 + K) / 2 ^ 63 = 0 := Nat.div_eq_of_lt b
    have e2 : ((n.log2 + 1022) * 2 ^ 52 + K) % 2 ^ 63 = (n.log2 + 1022) * 2 ^ 52 + K := Nat.mod_eq_of_lt b
    simp only [e1, e2]
    rw [if_neg (by omega), if_pos (by omega)]
    have e3 : ((n.log2 + 1022) * 2 ^ 52 + K) / 2 ^ 52 = n.log2 + 1023 := by omega
    have e4 : ((n.log2 + 1022) * 2 ^ 52 + K) % 2 ^ 52 = K - 2 ^ 52 := by omega
    rw [e3, e4, show 2 ^ 52 + (K - 2 ^ 52) = K by omega, show (-1074 + ((n.log2 + 1023 - 1 : Nat) : Int)) = -((52 - n.log2 : Nat) : Int) by omega]
    rfl
theorem shl_pow (n q a b : Nat) (h : a = b + q) : (n * 2 ^ q) <<< b = n * 2 ^ a := by
  rw [Nat.shiftLeft_eq, Nat.mul_assoc, ← Nat.pow_add, h, Nat.add_comm q b]
theorem signed_false (m u : Nat) : signed false m u = (m <<< u : Nat) := rfl
theorem sum_val {d e : Datum} {a b : Nat} (hd : Val d a) (he : Val e b) : ∃ r, d.sum e = some r ∧ Val r (a + b) := by
  obtain ⟨m, q, rfl, rfl⟩ := hd
  obtain ⟨m', q', rfl, rfl⟩ := he
  let Q := max q q'
  have hb : min (-(q : Int)) (-(q' : Int)) = -((max q q' : Nat) : Int) := by omega
  simp only [Datum.sum, hb]
  have e1 : (-(q : Int) - -((max q q' : Nat) : Int)).toNat = max q q' - q := by omega
  have e2 : (-(q' : Int) - -((max q q' : Nat) : Int)).toNat = max q q' - q' := by omega
  rw [e1, e2, signed_false, signed_false, shl_pow a q (max q q') (max q q' - q) (by omega), shl_pow b q' (max q q') (max q q' - q') (by omega)]
  refine ⟨_, rfl, (a + b) * 2 ^ max q q', max q q', ?_, rfl⟩
  have e3 : ((a * 2 ^ max q q' : Nat) : Int) + ((b * 2 ^ max q q' : Nat) : Int) = (((a + b) * 2 ^ max q q' : Nat) : Int) := by rw [← Int.natCast_add, ← Nat.add_mul]
  rw [e3]
  congr 1
  · split
    · rfl
    · exact decide_eq_false (Int.not_lt.2 (Int.natCast_nonneg _))
theorem sub_val {d e : Datum} {a b : Nat} (hd : Val d a) (he : Val e b) (hab : b ≤ a) : ∃ r, d.sum e.opposite = some r ∧ Val r (a - b) := by
  obtain ⟨m, q, rfl, rfl⟩ := hd
  obtain ⟨m', q', rfl, rfl⟩ := he
  have hb : min (-(q : Int)) (-(q' : Int)) = -((max q q' : Nat) : Int) := by omega
  simp only [Datum.opposite, Datum.sum, hb, Bool.not_false]
  have e1 : (-(q : Int) - -((max q q' : Nat) : Int)).toNat = max q q' - q := by omega
  have e2 : (-(q' : Int) - -((max q q' : Nat) : Int)).toNat = max q q' - q' := by omega
  have st : ∀ m u, signed true m u = -((m <<< u : Nat) : Int) := fun _ _ => rfl
  rw [e1, e2, signed_false, st, shl_pow a q (max q q') (max q q' - q) (by omega), shl_pow b q' (max q q') (max q q' - q') (by omega)]
  refine ⟨_, rfl, (a - b) * 2 ^ max q q', max q q', ?_, rfl⟩
  have hle : b * 2 ^ max q q' ≤ a * 2 ^ max q q' := Nat.mul_le_mul_right _ hab
  have e3 : ((a * 2 ^ max q q' : Nat) : Int) + -((b * 2 ^ max q q' : Nat) : Int) = (((a - b) * 2 ^ max q q' : Nat) : Int) := by rw [Nat.sub_mul]; omega
  rw [e3]
  congr 1
  · split
    · rfl
    · exact decide_eq_false (Int.not_lt.2 (Int.natCast_nonneg _))
theorem order_val {d e : Datum} {a b : Nat} (hd : Val d a) (he : Val e b) : d.order e = some (compare (a : Int) (b : Int)) := by
  obtain ⟨m, q, rfl, rfl⟩ := hd
  obtain ⟨m', q', rfl, rfl⟩ := he
  have hb : min (-(q : Int)) (-(q' : Int)) = -((max q q' : Nat) : Int) := by omega
  simp only [Datum.order, hb]
  have e1 : (-(q : Int) - -((max q q' : Nat) : Int)).toNat = max q q' - q := by omega
  have e2 : (-(q' : Int) - -((max q q' : Nat) : Int)).toNat = max q q' - q' := by omega
  rw [e1, e2, signed_false, signed_false, shl_pow a q (max q q') (max q q' - q) (by omega), shl_pow b q' (max q q') (max q q' - q') (by omega)]
  congr 1
  have hp : 0 < 2 ^ max q q' := two_pos _
  simp only [compare, compareOfLessAndEq]
  have l1 : (((a * 2 ^ max q q' : Nat) : Int) < ((b * 2 ^ max q q' : Nat) : Int)) ↔ (a : Int) < (b : Int) := by
    rw [Int.ofNat_lt, Int.ofNat_lt, Nat.mul_lt_mul_right hp]
  have l2 : (((a * 2 ^ max q q' : Nat) : Int) = ((b * 2 ^ max q q' : Nat) : Int)) ↔ (a : Int) = (b : Int) := by
    rw [Int.ofNat_inj, Int.ofNat_inj]
    exact ⟨fun h => Nat.eq_of_mul_eq_mul_right hp h, fun h => by rw [h]⟩
  simp only [l1, l2]
theorem toInt_val {d : Datum} {n : Nat} (h : Val d n) : d.toInt .zero = some (n : Int) := by
  obtain ⟨m, q, rfl, rfl⟩ := h
  have e1 : (-(q : Int)).toNat = 0 := by omega
  have e2 : (- -(q : Int)).toNat = q := by omega
  simp only [Datum.toInt, Datum.integral, e1, e2, Nat.shiftLeft_zero, cut_exact, signed_false]
/-! ### what the language does -/
theorem add_fI {a b : Nat} (h : a + b < 2 ^ 53) : floatBits .add .f64 (fI a) (fI b) = some (fI (a + b)) := by
  obtain ⟨r, h1, h2⟩ := sum_val (read_val (n := a) (by omega)) (read_val (n := b) (by omega))
  show (Format.add double (fI a) (fI b)) = _
  unfold Format.add
  rw [h1, Option.map_some, write_val h2 h]
theorem sub_fI {a b : Nat} (h : a < 2 ^ 53) (hb : b ≤ a) : floatBits .sub .f64 (fI a) (fI b) = some (fI (a - b)) := by
  obtain ⟨r, h1, h2⟩ := sub_val (read_val (n := a) (by omega)) (read_val (n := b) (by omega)) hb
  show (Format.sub double (fI a) (fI b)) = _
  unfold Format.sub
  rw [h1, Option.map_some, write_val h2 (by omega)]
theorem order_fI {a b : Nat} (ha : a < 2 ^ 53) (hb : b < 2 ^ 53) : FloatKind.f64.format.order (fI a) (fI b) = some (compare (a : Int) (b : Int)) := order_val (read_val ha) (read_val hb)
theorem int_fI {n : Nat} (h : n < 2 ^ 53) : floatToIntVal .f64 (fI n) .i64 = some (n : Int) := by
  unfold floatToIntVal
  have : (FloatKind.f64.decode (fI n)).toInt .zero = some (n : Int) := toInt_val (read_val h)
  rw [this]
  have h1 : IntKind.i64.min = -9223372036854775808 := by decide
  have h2 : IntKind.i64.max = 9223372036854775807 := by decide
  simp only [h1, h2]
  rw [if_pos (by omega)]
end Go.Flt
