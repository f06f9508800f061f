/- Plain numbers: what is cut at the ends of 64 bits; products in thousandths; quotients rounded either way. No program is named here. -/
import Derived.RowKit
import Derived.IntWalk
namespace Go.Proofs.Ytheknddbbgjpkaa.Mil

def cutV (n : Int) : Int := if 9223372036854775807 < n then 9223372036854775807 else if n < -9223372036854775808 then -9223372036854775808 else n
def cutE (n : Int) : Int := if 9223372036854775807 < n ∨ n < -9223372036854775808 then 2 else 0

theorem cut_in (n : Int) (h1 : -9223372036854775808 ≤ n) (h2 : n ≤ 9223372036854775807) : cutV n = n ∧ cutE n = 0 := by
  unfold cutV cutE
  rw [if_neg (by omega), if_neg (by omega), if_neg (by omega)]; exact ⟨rfl, rfl⟩
theorem cut_hi (n : Int) (h : 9223372036854775807 < n) : cutV n = 9223372036854775807 ∧ cutE n = 2 := by
  unfold cutV cutE
  rw [if_pos h, if_pos (Or.inl h)]; exact ⟨rfl, rfl⟩
theorem cut_lo (n : Int) (h : n < -9223372036854775808) : cutV n = -9223372036854775808 ∧ cutE n = 2 := by
  unfold cutV cutE
  rw [if_neg (by omega), if_pos h, if_pos (Or.inr h)]; exact ⟨rfl, rfl⟩
theorem cutV_range (n : Int) : -9223372036854775808 ≤ cutV n ∧ cutV n ≤ 9223372036854775807 := by
  unfold cutV; split
  · omega
  · split <;> omega
theorem cutE_range (n : Int) : 0 ≤ cutE n ∧ cutE n ≤ 2 := by unfold cutE; split <;> omega

/-- a times b in thousandths, towards minus infinity. -/
def mulI (a b : Int) : Int := a * b / 1000
/-- the greatest whole number not above a / b (b not 0), the least not below. -/
def dnI (a b : Int) : Int := Int.fdiv a b
def upI (a b : Int) : Int := -(Int.fdiv (-a) b)
def upV (a b : Int) : Int := if b = 0 then 0 else cutV (upI a b)
def upE (a b : Int) : Int := if b = 0 then 3 else cutE (upI a b)
def dnV (a b : Int) : Int := if b = 0 then 0 else cutV (dnI a b)
def dnE (a b : Int) : Int := if b = 0 then 3 else cutE (dnI a b)
def clampI (a lo hi : Int) : Int := if hi < a then hi else if a < lo then lo else a

theorem mulE_le (a b : Int) : 0 ≤ cutE (mulI a b) := (cutE_range _).1

/-- what 64 bits make of a sum that is too great, or too small -/
theorem wrap_over (n : Int) (h : 9223372036854775807 < n) (h2 : n ≤ 18446744073709551615) : ∃ c : Int, RowKit.wrap64 n = c ∧ c < 0 :=
  ⟨_, rfl, by unfold RowKit.wrap64; omega⟩
theorem wrap_under (n : Int) (h : n < -9223372036854775808) (h2 : -18446744073709551616 ≤ n) : ∃ c : Int, RowKit.wrap64 n = c ∧ 0 ≤ c :=
  ⟨_, rfl, by unfold RowKit.wrap64; omega⟩

end Go.Proofs.Ytheknddbbgjpkaa.Mil
