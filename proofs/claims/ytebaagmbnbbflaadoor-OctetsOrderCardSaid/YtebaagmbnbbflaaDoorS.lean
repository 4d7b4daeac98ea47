/- Plain facts on leads. -/
import Derived.Test.YtebaagmbnbbflaaDoorP
namespace Go.Proofs.YtebaagmbnbbflaaDoor
open Go.RowKit

theorem emod_diff {p q m : Int} (hp0 : 0 ≤ p) (hp1 : p < m) (hq0 : 0 ≤ q) (hq1 : q < m) : (p - q) % m = if q ≤ p then p - q else p - q + m := by
  split
  · exact Int.emod_eq_of_lt (by omega) (by omega)
  · have : (p - q) % m = (p - q + m) % m := by rw [Int.add_emod_right]
    rw [this]
    exact Int.emod_eq_of_lt (by omega) (by omega)

theorem half_pow {n : Int} (h : 1 ≤ n) : ∃ H : Int, (2 : Int) ^ n.toNat = 2 * H ∧ 1 ≤ H :=
  ⟨2 ^ (n - 1).toNat, two_pow_half h, two_pow_pos _⟩

/-- A lead in linear words. -/
theorem lead_lin {p q n H : Int} (hH : (2 : Int) ^ n.toNat = 2 * H) (hp0 : 0 ≤ p) (hp1 : p < 2 * H) (hq0 : 0 ≤ q) (hq1 : q < 2 * H) :
    (-H ≤ lead p q n ∧ lead p q n < H) ∧ (lead p q n = p - q ∨ lead p q n = p - q + 2 * H ∨ lead p q n = p - q - 2 * H) := by
  unfold lead
  rw [hH, emod_diff hp0 hp1 hq0 hq1]
  split <;> split <;> omega

theorem lead_turn {p q n H : Int} (hH : (2 : Int) ^ n.toNat = 2 * H) (hp0 : 0 ≤ p) (hp1 : p < 2 * H) (hq0 : 0 ≤ q) (hq1 : q < 2 * H) :
    (lead p q n = -H → lead q p n = -H) ∧ (lead p q n ≠ -H → lead q p n = -lead p q n) := by
  have h1 := lead_lin hH hp0 hp1 hq0 hq1
  have h2 := lead_lin hH hq0 hq1 hp0 hp1
  omega

theorem lead_back {p q n H : Int} (hH : (2 : Int) ^ n.toNat = 2 * H) (hp0 : 0 ≤ p) (hp1 : p < 2 * H) (hq0 : 0 ≤ q) (hq1 : q < 2 * H) :
    (q + lead p q n) % 2 ^ n.toNat = p := by
  rw [hH]
  obtain ⟨_, h | h | h⟩ := lead_lin hH hp0 hp1 hq0 hq1
  · rw [show q + lead p q n = p by omega]; exact Int.emod_eq_of_lt hp0 hp1
  · rw [show q + lead p q n = p + 2 * H by omega, Int.add_emod_right]; exact Int.emod_eq_of_lt hp0 hp1
  · rw [show q + lead p q n = p - 2 * H by omega, Int.sub_emod_right]; exact Int.emod_eq_of_lt hp0 hp1

theorem lead_shift (p q z n : Int) : lead ((p + z) % 2 ^ n.toNat) ((q + z) % 2 ^ n.toNat) n = lead p q n := by
  have : ((p + z) % 2 ^ n.toNat - (q + z) % 2 ^ n.toNat) % 2 ^ n.toNat = (p - q) % 2 ^ n.toNat := by
    rw [← Int.sub_emod, show p + z - (q + z) = p - q by omega]
  unfold lead
  rw [this]

theorem ok_of_mod {x y n : Int} (h1 : 1 ≤ n) (h2 : n ≤ 32) : okAhead (x % 2 ^ n.toNat) (y % 2 ^ n.toNat) n = true :=
  (okAhead_iff _ _ _).2 ⟨⟨h1, h2⟩, emod_pow_bounds _ _, emod_pow_bounds _ _⟩
end Go.Proofs.YtebaagmbnbbflaaDoor
