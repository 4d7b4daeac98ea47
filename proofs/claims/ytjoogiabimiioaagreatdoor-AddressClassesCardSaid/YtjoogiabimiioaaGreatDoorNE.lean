/- Plain facts of rdP and plc. -/
import Derived.Test.YtjoogiabimiioaaGreatDoorNC
namespace Go.Proofs.YtjoogiabimiioaaGreatDoor
open Go.RowKit Go.ChangeShapes
theorem rdP_len (np base max : Nat) : ∀ (ps : List (List UInt8)) (k : Nat), k ≤ np → k + (rdP np base max k ps).1.length ≤ np
  | [], k, h => by simp [rdP]; omega
  | p :: ps, k, h => by
    rw [rdP]
    split
    · simp; omega
    · split
      · simp; omega
      · have ih := rdP_len np base max ps (k + 1) (by omega)
        simp only [List.length_cons]
        omega
theorem rdP_le (np base max : Nat) : ∀ (ps : List (List UInt8)) (k v : Nat), v ∈ (rdP np base max k ps).1 → v ≤ max
  | [], k, v, h => by simp [rdP] at h
  | p :: ps, k, v, h => by
    rw [rdP] at h
    split at h
    · simp at h
    · split at h
      · simp at h
      · rename_i v0 hp
        rcases List.mem_cons.1 h with rfl | h
        · unfold parO at hp
          split at hp
          · cases hp
          · exact valO_le base max p 0 v (Nat.zero_le _) hp
        · exact rdP_le np base max ps (k + 1) v h
theorem rdP_true (np base max : Nat) : ∀ (ps : List (List UInt8)) (k : Nat), (rdP np base max k ps).2 = true → (rdP np base max k ps).1.length = ps.length
  | [], k, h => rfl
  | p :: ps, k, h => by
    rw [rdP] at h ⊢
    split at h
    · cases h
    · rename_i hk
      rw [if_neg hk]
      split at h
      · cases h
      · rename_i v hp
        simp only [List.length_cons]
        rw [rdP_true np base max ps (k + 1) h]
theorem plc_le {row vs : List Nat} {max : Nat} (h1 : ∀ v ∈ row, v ≤ max) (h2 : ∀ v ∈ vs, v ≤ max) : ∀ v ∈ plc row vs, v ≤ max := by
  intro v hv
  rcases List.mem_append.1 hv with h | h
  · exact h2 v h
  · exact h1 v (List.mem_of_mem_drop h)
end Go.Proofs.YtjoogiabimiioaaGreatDoor
