/- Plain facts of the laws of layer 4: sums of octets, tags without octets. -/
import Derived.Test.YtnfefkcfifnjnaaDoorWA
namespace Go.Proofs.YtnfefkcfifnjnaaDoor
open Go.RowKit Go.ChangeShapes
/-- The first n octets, at most. -/
theorem cut_m (s : ByteArray) (n : Nat) (y : Int) (hy : y = (n : Int)) : ∃ (m : Nat) (z : List UInt8), s.extract 0 m = bs z ∧ z.length ≤ n ∧ min (s.size : Int) y = (m : Int) ∧ (m : Int) ≤ (s.size : Int) := by
  subst hy
  refine ⟨min s.size n, (s.extract 0 (min s.size n)).data.toList, rfl, ?_, ?_, by omega⟩
  · have : (s.extract 0 (min s.size n)).size ≤ n := by rw [ByteArray.size_extract]; omega
    exact this
  · omega
theorem bs_idx (l : List UInt8) (i : Nat) (h : i < (bs l).size) : (bs l)[i] = l.getD i 0 := by
  rw [List.getD_eq_getElem?_getD, List.getElem?_eq_getElem (by rw [bs_size] at h; exact h)]; rfl
theorem Wk.drewN {w W : World} {ps : List (Nat × Obj)} (h : Wk w W ps) : ∀ n, Wk w (W.drewN n) ps
  | 0 => h
  | n + 1 => (h.drewN n).drew
theorem octV_get (v n i : Nat) (h : i < n) : (octV v n).getD i 0 = UInt8.ofNat (v / 256 ^ i % 256) := by
  simp [octV, List.getD_eq_getElem?_getD, h]
/-- The sum of two numbers, octet by octet: what is carried. -/
def cry (A q i : Nat) : Nat := (A % 256 ^ i + q % 256 ^ i) / 256 ^ i
theorem cry_le (A q i : Nat) : cry A q i ≤ 1 := by
  have h0 : 0 < 256 ^ i := Nat.pow_pos (by decide)
  have h1 := Nat.mod_lt A h0
  have h2 := Nat.mod_lt q h0
  unfold cry
  have : (A % 256 ^ i + q % 256 ^ i) / 256 ^ i < 2 := by rw [Nat.div_lt_iff_lt_mul h0]; omega
  omega
theorem cry_step (A q i : Nat) : (cry A q i + (A / 256 ^ i % 256 + q / 256 ^ i % 256)) % 256 = (A + q) / 256 ^ i % 256 ∧ (cry A q i + (A / 256 ^ i % 256 + q / 256 ^ i % 256)) / 256 = cry A q (i + 1) := by
  have h0 : 0 < 256 ^ i := Nat.pow_pos (by decide)
  have e : (A % 256 ^ (i + 1) + q % 256 ^ (i + 1)) / 256 ^ i = cry A q i + (A / 256 ^ i % 256 + q / 256 ^ i % 256) := by
    rw [Nat.pow_succ, Nat.mod_mul, Nat.mod_mul]
    unfold cry
    rw [show A % 256 ^ i + 256 ^ i * (A / 256 ^ i % 256) + (q % 256 ^ i + 256 ^ i * (q / 256 ^ i % 256)) = (A % 256 ^ i + q % 256 ^ i) + 256 ^ i * (A / 256 ^ i % 256 + q / 256 ^ i % 256) by rw [Nat.mul_add]; omega]
    rw [Nat.add_mul_div_left _ _ h0]
  constructor
  · rw [← e]
    have hA : A = A % 256 ^ (i + 1) + 256 ^ i * (256 * (A / 256 ^ (i + 1))) := by
      rw [← Nat.mul_assoc, ← Nat.pow_succ]; exact (Nat.mod_add_div A _).symm
    have hq : q = q % 256 ^ (i + 1) + 256 ^ i * (256 * (q / 256 ^ (i + 1))) := by
      rw [← Nat.mul_assoc, ← Nat.pow_succ]; exact (Nat.mod_add_div q _).symm
    conv => rhs; rw [hA, hq]
    rw [show A % 256 ^ (i + 1) + 256 ^ i * (256 * (A / 256 ^ (i + 1))) + (q % 256 ^ (i + 1) + 256 ^ i * (256 * (q / 256 ^ (i + 1)))) = (A % 256 ^ (i + 1) + q % 256 ^ (i + 1)) + 256 ^ i * (256 * (A / 256 ^ (i + 1) + q / 256 ^ (i + 1))) by rw [Nat.mul_add 256, Nat.mul_add]; omega, Nat.add_mul_div_left _ _ h0, Nat.add_mul_mod_self_left]
  · rw [← e, Nat.div_div_eq_div_mul, ← Nat.pow_succ]; rfl
theorem num_get (l : List UInt8) (i : Nat) : (l.getD i 0).toNat = num l / 256 ^ i % 256 := by
  induction l generalizing i with
  | nil => simp [num]
  | cons a l ih =>
    have h2 := a.toNat_lt
    cases i with
    | zero => rw [List.getD_cons_zero, num, Nat.pow_zero, Nat.div_one]; omega
    | succ i => rw [List.getD_cons_succ, ih, num, Nat.pow_succ', ← Nat.div_div_eq_div_mul, show (a.toNat + 256 * num l) / 256 = num l by omega]
theorem accN_zero (s : List UInt8) (k : Nat) : accN 0 s k = 0 := by
  cases k with
  | zero => rfl
  | succ k => rw [accN, Nat.mul_zero]; rfl
theorem tag_none (k : List UInt8) (hk : k.length = 32) : tagO k [] = k.drop 16 := by
  unfold tagO
  rw [show (([] : List UInt8).length + 15) / 16 = 0 from rfl, accN, Nat.zero_add, octV_num _ _ (by rw [List.length_drop]; omega), List.take_of_length_le (by rw [List.length_drop]; omega)]
theorem facN_zero (l : List UInt8) : facN (List.replicate 16 0 ++ l) = 0 := by
  unfold facN
  rw [List.take_append_of_le_length (by simp), List.take_of_length_le (by simp)]
  decide +kernel
theorem tag_zero (l s : List UInt8) (hl : l.length = 16) : tagO (List.replicate 16 0 ++ l) s = l := by
  unfold tagO
  rw [facN_zero, accN_zero, Nat.zero_add, List.drop_append_of_le_length (by simp), List.drop_of_length_le (by simp), List.nil_append, octV_num _ _ (by omega), List.take_of_length_le (by omega)]
theorem facN_left (k : List UInt8) (hk : k.length = 32) (l : List UInt8) : facN (k.take 16 ++ l) = facN k := by
  unfold facN
  rw [List.take_append_of_le_length (by rw [List.length_take]; omega), List.take_take, Nat.min_self]
theorem num_zeros (n : Nat) : num (List.replicate n 0) = 0 := by
  induction n with
  | zero => rfl
  | succ n ih => rw [List.replicate_succ, num, ih]; rfl
theorem tag_half (k s : List UInt8) (hk : k.length = 32) : tagO (k.take 16 ++ List.replicate 16 0) s = octV (accN (facN k) s ((s.length + 15) / 16)) 16 := by
  unfold tagO
  rw [facN_left k hk, List.drop_append_of_le_length (by rw [List.length_take]; omega), List.drop_of_length_le (by rw [List.length_take]; omega), List.nil_append, num_zeros, Nat.add_zero]
end Go.Proofs.YtnfefkcfifnjnaaDoor
