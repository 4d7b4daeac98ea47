/- Plain facts on numbers: powers of two, masks. -/
import Derived.Handy
namespace Go.Proofs.YtebaagmbnbbflaaDoor
open Go.RowKit

theorem two_pow_pos (n : Nat) : (1 : Int) ≤ 2 ^ n := by
  have := Int.pow_pos (n := 2) (m := n) (by decide)
  omega

theorem two_pow_le {n m : Nat} (h : n ≤ m) : (2 : Int) ^ n ≤ 2 ^ m := by
  have h1 : (2 : Nat) ^ n ≤ 2 ^ m := Nat.pow_le_pow_right (by decide) h
  have h2 : (((2 : Nat) ^ n : Nat) : Int) ≤ (((2 : Nat) ^ m : Nat) : Int) := by exact_mod_cast h1
  simpa [Int.natCast_pow] using h2

theorem two_pow_32 {b : Int} (h : b ≤ 32) : (2 : Int) ^ b.toNat ≤ 4294967296 := by
  have := two_pow_le (n := b.toNat) (m := 32) (by omega)
  simpa using this

theorem two_pow_half {b : Int} (h : 1 ≤ b) : (2 : Int) ^ b.toNat = 2 * 2 ^ (b - 1).toNat := by
  have : b.toNat = (b - 1).toNat + 1 := by omega
  rw [this, Int.pow_succ]; omega

theorem i64_mask (a : Int) (n : Nat) (hn : n ≤ 62) : bits .and .i64 a (2 ^ n - 1) = a % 2 ^ n := by
  show IntKind.i64.wrap ((BitVec.ofInt 64 a &&& BitVec.ofInt 64 (2 ^ n - 1)).toNat : Int) = _
  have hp : (2 : Nat) ^ n ≤ 2 ^ 62 := Nat.pow_le_pow_right (by decide) hn
  have hp0 : 1 ≤ (2 : Nat) ^ n := Nat.pos_of_ne_zero (by simp)
  have hm : (BitVec.ofInt 64 (2 ^ n - 1)).toNat = 2 ^ n - 1 := by
    have e : ((2 : Int) ^ n - 1) = (((2 ^ n - 1 : Nat)) : Int) := by
      rw [Int.natCast_sub hp0]; simp [Int.natCast_pow]
    rw [e, BitVec.ofInt_natCast, BitVec.toNat_ofNat]
    exact Nat.mod_eq_of_lt (by omega)
  rw [BitVec.toNat_and, hm, Nat.and_two_pow_sub_one_eq_mod, BitVec.toNat_ofInt]
  have h0 : 0 ≤ a % ((2 ^ 64 : Nat) : Int) := Int.emod_nonneg _ (by decide)
  have e1 : (((a % ((2 ^ 64 : Nat) : Int)).toNat % 2 ^ n : Nat) : Int) = a % 2 ^ n := by
    rw [Int.natCast_emod, Int.toNat_of_nonneg h0, Int.natCast_pow]
    apply Int.emod_emod_of_dvd
    have : (2 : Nat) ^ n ∣ 2 ^ 64 := Nat.pow_dvd_pow 2 (by omega)
    exact_mod_cast this
  rw [e1]
  have h1 : 0 ≤ a % 2 ^ n := Int.emod_nonneg _ (by have := two_pow_pos n; omega)
  have h2 : a % 2 ^ n < 2 ^ n := Int.emod_lt_of_pos _ (by have := two_pow_pos n; omega)
  have h3 : (2 : Int) ^ n ≤ 2 ^ 62 := two_pow_le hn
  exact IntWalk.i64_in _ ⟨by omega, by omega⟩

theorem i64_mask_to (a b : Int) (h0 : 0 ≤ b) (h1 : b ≤ 32) : bits .and .i64 a (2 ^ b.toNat - 1) = a % 2 ^ b.toNat := i64_mask a _ (by omega)

/-- The lead of x over y among serial numbers of b bits. -/
def lead (x y b : Int) : Int := if 2 ^ b.toNat / 2 ≤ (x - y) % 2 ^ b.toNat then (x - y) % 2 ^ b.toNat - 2 ^ b.toNat else (x - y) % 2 ^ b.toNat
def okSer (x b : Int) : Bool := decide (0 ≤ x ∧ x < 2 ^ b.toNat)
def okAhead (x y b : Int) : Bool := decide (1 ≤ b ∧ b ≤ 32) && (okSer x b && okSer y b)

theorem okAhead_iff (x y b : Int) : okAhead x y b = true ↔ (1 ≤ b ∧ b ≤ 32) ∧ (0 ≤ x ∧ x < 2 ^ b.toNat) ∧ (0 ≤ y ∧ y < 2 ^ b.toNat) := by
  simp [okAhead, okSer, and_assoc]
def leadV (x y b : Int) : Int := if okAhead x y b then lead x y b else 0
def leadE (x y b : Int) : Int := if okAhead x y b then 0 else 2
theorem leadV_yes {x y b : Int} (h : okAhead x y b = true) : leadV x y b = lead x y b := by simp [leadV, h]
theorem leadE_yes {x y b : Int} (h : okAhead x y b = true) : leadE x y b = 0 := by simp [leadE, h]
theorem leadV_no {x y b : Int} (h : okAhead x y b = false) : leadV x y b = 0 := by simp [leadV, h]
theorem leadE_no {x y b : Int} (h : okAhead x y b = false) : leadE x y b = 2 := by simp [leadE, h]
theorem emod_pow_bounds (a : Int) (n : Nat) : 0 ≤ a % 2 ^ n ∧ a % 2 ^ n < 2 ^ n :=
  ⟨Int.emod_nonneg _ (by have := two_pow_pos n; omega), Int.emod_lt_of_pos _ (by have := two_pow_pos n; omega)⟩
theorem lead_bounds {x y b : Int} (h1 : 1 ≤ b) (h2 : b ≤ 32) : -2147483648 ≤ lead x y b ∧ lead x y b ≤ 2147483647 := by
  have h := emod_pow_bounds (x - y) b.toNat
  have hp := two_pow_32 h2
  have hh := two_pow_half h1
  unfold lead
  split <;> omega
/-- The number that octets are, the greatest ones first. -/
def beN (l : List UInt8) : Nat := l.foldl (fun v c => v * 256 + c.toNat) 0
theorem beN_snoc (l : List UInt8) (c : UInt8) : beN (l ++ [c]) = beN l * 256 + c.toNat := by simp [beN]
theorem beN_from (l : List UInt8) : ∀ a : Nat, l.foldl (fun v (c : UInt8) => v * 256 + c.toNat) a < (a + 1) * 256 ^ l.length := by
  induction l with
  | nil => intro a; simp
  | cons c l ih =>
    intro a
    have h := ih (a * 256 + c.toNat)
    have hc := c.toNat_lt
    have hm : (a * 256 + c.toNat + 1) * 256 ^ l.length ≤ ((a + 1) * 256) * 256 ^ l.length := Nat.mul_le_mul_right _ (by omega)
    rw [List.foldl_cons, List.length_cons, Nat.pow_succ]
    rw [Nat.mul_assoc, Nat.mul_comm 256] at hm
    omega
theorem beN_lt (l : List UInt8) : beN l < 256 ^ l.length := by
  have := beN_from l 0
  simpa [beN] using this
theorem take_snoc (s : ByteArray) (k : Nat) (h : k < s.size) : s.data.toList.take (k + 1) = s.data.toList.take k ++ [s[k]] := by
  rw [List.take_succ_eq_append_getElem (by simpa using h)]; rfl
theorem i64_or_byte (v c : Nat) (hv : v ≤ 36028797018963967) (hc : c < 256) : bits .or .i64 (((v * 256 : Nat)) : Int) (c : Int) = ((v * 256 + c : Nat) : Int) := by
  show IntKind.i64.wrap ((BitVec.ofInt 64 (((v * 256 : Nat)) : Int) ||| BitVec.ofInt 64 (c : Int)).toNat : Int) = _
  rw [BitVec.toNat_or, BitVec.ofInt_natCast, BitVec.ofInt_natCast, BitVec.toNat_ofNat, BitVec.toNat_ofNat, Nat.mod_eq_of_lt (by omega), Nat.mod_eq_of_lt (by omega)]
  rw [show v * 256 ||| c = v * 256 + c from nat_join 8 (v * 256) c (by omega) (by omega)]
  exact IntWalk.i64_in _ ⟨by omega, by omega⟩
def okRd (s : ByteArray) (a : Int) : Prop := 0 ≤ a ∧ a ≤ s.size
def unitB (n : Int) : Bool := decide (n = 1 ∨ n = 2 ∨ n = 4 ∨ n = 8)
def upTo (n u : Int) : Int := (n + u - 1) / u * u
theorem unitB_iff (n : Int) : unitB n = true ↔ n = 1 ∨ n = 2 ∨ n = 4 ∨ n = 8 := by simp [unitB]
theorem upTo_bounds {n u : Int} (h : unitB u = true) : n ≤ upTo n u ∧ upTo n u < n + u := by
  rcases (unitB_iff u).1 h with rfl | rfl | rfl | rfl <;> unfold upTo <;> omega
theorem upTo_mod {n u : Int} : upTo n u % u = 0 := by unfold upTo; exact Int.mul_emod_left _ _
end Go.Proofs.YtebaagmbnbbflaaDoor
