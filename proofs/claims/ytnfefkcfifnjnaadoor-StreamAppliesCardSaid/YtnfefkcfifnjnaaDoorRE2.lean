/- Plain facts: the octets of a block, four at a time. -/
import Derived.Test.YtnfefkcfifnjnaaDoorRE
namespace Go.Proofs.YtnfefkcfifnjnaaDoor
open Go.RowKit Go.ChangeShapes

theorem addN_get (f l : List Nat) (k : Nat) (hk : k ≤ l.length) : ∀ i, i < l.length → (addN f k l).getD i 0 = if i < k then ad (l.getD i 0) (f.getD i 0) else l.getD i 0 := by
  induction k with
  | zero => intro i _; rw [if_neg (by omega)]; rfl
  | succ k ih =>
    intro i hi
    have ih := ih (by omega)
    rw [addN, getD_setN]
    by_cases e : k = i
    · subst e
      rw [if_pos ⟨rfl, by rw [addN_length]; exact hi⟩, ih k hi, if_neg (by omega), if_pos (by omega)]
    · rw [if_neg (fun h => e h.1), ih i hi]
      by_cases h : i < k
      · rw [if_pos h, if_pos (by omega)]
      · rw [if_neg h, if_neg (by omega)]
theorem ad_comm (x y : Nat) : ad x y = ad y x := by unfold ad; rw [Nat.add_comm]
theorem octN_four (l : List Nat) (j : Nat) (h : isW (l.getD j 0)) : octN l (4 * (j + 1)) = octN l (4 * j) ++ octW (l.getD j 0) := by
  have o0 : octB l (4 * j) = UInt8.ofNat (l.getD j 0 % 256) := by
    unfold octB; rw [show 4 * j / 4 = j by omega, show 4 * j % 4 = 0 by omega, Nat.mul_zero, Nat.pow_zero, Nat.div_one]
  have o1 : octB l (4 * j + 1) = UInt8.ofNat (l.getD j 0 / 256 % 256) := by
    unfold octB; rw [show (4 * j + 1) / 4 = j by omega, show (4 * j + 1) % 4 = 1 by omega]
  have o2 : octB l (4 * j + 2) = UInt8.ofNat (l.getD j 0 / 65536 % 256) := by
    unfold octB; rw [show (4 * j + 2) / 4 = j by omega, show (4 * j + 2) % 4 = 2 by omega]
  have o3 : octB l (4 * j + 3) = UInt8.ofNat (l.getD j 0 / 16777216) := by
    unfold octB; rw [show (4 * j + 3) / 4 = j by omega, show (4 * j + 3) % 4 = 3 by omega, show 2 ^ (8 * 3) = 16777216 from rfl, Nat.mod_eq_of_lt (by unfold isW at h; omega)]
  rw [show 4 * (j + 1) = 4 * j + 1 + 1 + 1 + 1 by omega, octN_succ, octN_succ, octN_succ, octN_succ, o0, o1, o2, o3, List.append_assoc, List.append_assoc, List.append_assoc]
  rfl
theorem bs_app2 (a b : List UInt8) : bs a ++ bs b = bs (a ++ b) := by
  apply ByteArray.ext; simp [bs]
/-- The string of a block as it grows, with a letter for it. -/
def Outs (F W : List Nat) (R : ByteArray) (S : Nat → ByteArray) : Prop :=
  S 0 = ⟨#[]⟩ ∧ S 16 = R ∧ (∀ j, j < 16 → S j ++ bs (octW (ad (F.getD j 0) (W.getD j 0))) = S (j + 1)) ∧ ∀ j, (S j).size = 4 * j
theorem outs_any (F W : List Nat) (hW : W = rounds 10 F) (hl : F.length = 16) (hF : AllW F) : ∃ S, Outs F W (bs (blockW F)) S := by
  have hwl : W.length = 16 := by rw [hW, rounds_length]; exact hl
  have hwa : AllW W := by rw [hW]; exact rounds_all hF _
  refine ⟨fun j => bs (octN (addN F 16 W) (4 * j)), rfl, ?_, fun j hj => ?_, fun j => by rw [bs_size, octN_length]⟩
  · dsimp only
    rw [hW, blockW]
  · have hg := addN_get F W 16 (by omega) j (by omega)
    rw [if_pos hj] at hg
    dsimp only
    rw [bs_app2, octN_four _ j (by rw [hg]; exact isW_ad _ _), hg, ad_comm]
end Go.Proofs.YtnfefkcfifnjnaaDoor
