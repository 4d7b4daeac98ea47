/- Plain facts: octets may be cut into pieces; codes by their definition. -/
import Derived.Test.YtfdeegafdaobdaaDoorU2
namespace Go.Proofs.YtfdeegafdaobdaaDoor
open Go.RowKit

theorem blk_append (s b : List UInt8) (k : Nat) (h : 64 * (k + 1) ≤ s.length) : blk (s ++ b) k = blk s k := by
  unfold blk
  rw [List.drop_append_of_le_length (by omega), List.take_append_of_le_length (by rw [List.length_drop]; omega)]
theorem blk_drop (s : List UInt8) (m k : Nat) : blk (s.drop (64 * m)) k = blk s (m + k) := by
  unfold blk
  rw [List.drop_drop, Nat.mul_add]
theorem mixB_append (K : List Nat) (h : W8) (s b : List UInt8) : ∀ n, 64 * n ≤ s.length → mixB K h (s ++ b) n = mixB K h s n
  | 0, _ => rfl
  | n + 1, hn => by
    rw [mixB, mixB, mixB_append K h s b n (by omega), blk_append s b n (by omega)]
theorem mixB_add (K : List Nat) (h : W8) (s : List UInt8) (m : Nat) : ∀ n, mixB K h s (m + n) = mixB K (mixB K h s m) (s.drop (64 * m)) n
  | 0 => rfl
  | n + 1 => by
    rw [← Nat.add_assoc, mixB, mixB, mixB_add K h s m n, blk_drop]
/-- More of pieces is more of them together. -/
theorem moreH_append (K : List Nat) (h : HH) (a b : List UInt8) : moreH K (moreH K h a) b = moreH K h (a ++ b) := by
  obtain ⟨t, ht⟩ : ∃ t, h.tail ++ a = t := ⟨_, rfl⟩
  obtain ⟨q, hq⟩ : ∃ q, t.length / 64 = q := ⟨_, rfl⟩
  have hq2 : 64 * q ≤ t.length := by omega
  have e1 : moreH K h a = ⟨mixB K h.w t q, t.drop (64 * q), h.count + a.length⟩ := by
    unfold moreH; rw [ht, hq, Nat.mul_comm]
  have e2 : moreH K h (a ++ b) = ⟨mixB K h.w (t ++ b) ((t ++ b).length / 64), (t ++ b).drop ((t ++ b).length / 64 * 64), h.count + (a ++ b).length⟩ := by
    unfold moreH; rw [← List.append_assoc, ht]
  rw [e1, e2]
  unfold moreH
  have e3 : t.drop (64 * q) ++ b = (t ++ b).drop (64 * q) := (List.drop_append_of_le_length hq2).symm
  have e4 : ((t ++ b).drop (64 * q)).length / 64 = (t ++ b).length / 64 - q := by rw [List.length_drop]; omega
  obtain ⟨r, hr⟩ : ∃ r, (t ++ b).length / 64 - q = r := ⟨_, rfl⟩
  have e5 : (t ++ b).length / 64 = q + r := by rw [List.length_append] at hr ⊢; omega
  dsimp only
  rw [e3, e4, hr, e5]
  congr 1
  · rw [mixB_add, mixB_append K h.w t b q hq2]
  · rw [List.drop_drop]; congr 1; omega
  · rw [List.length_append]; omega
theorem sumB_eq (s : List UInt8) : sumB s = endH KL (moreH KL startH s) := rfl
theorem macS_sum (k s : List UInt8) : macS k s = sumB (padK k 92 ++ sumB (padK k 54 ++ s)) := by
  unfold macS sumB; rw [moreH_append, moreH_append]
theorem padK_zeros (k : List UInt8) (c : UInt8) (j : Nat) (h : k.length + j ≤ 64) : padK (k ++ List.replicate j 0) c = padK k c := by
  unfold padK
  rw [List.append_assoc, List.length_append, List.length_replicate, List.replicate_append_replicate]
  congr 3; omega
theorem macS_zeros (k s : List UInt8) (j : Nat) (h : k.length + j ≤ 64) : macS (k ++ List.replicate j 0) s = macS k s := by
  rw [macS_sum, macS_sum, padK_zeros _ _ _ h, padK_zeros _ _ _ h]
end Go.Proofs.YtfdeegafdaobdaaDoor
