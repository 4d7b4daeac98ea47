/- Plain fact: the words that the program fills are the numbers of the reference. -/
import Derived.Test.YtnfefkcfifnjnaaDoorRF
namespace Go.Proofs.YtnfefkcfifnjnaaDoor
open Go.RowKit Go.ChangeShapes

theorem or_add (x y k : Nat) (h : x < 2 ^ k) : x ||| y * 2 ^ k = x + y * 2 ^ k := by
  rw [Nat.or_comm, Nat.mul_comm y, ← Nat.two_pow_add_eq_or_of_lt h, Nat.add_comm]
theorem four_or (a b c d : UInt8) : (((0 ||| a.toNat * 2 ^ 0) ||| b.toNat * 2 ^ 8) ||| c.toNat * 2 ^ 16) ||| d.toNat * 2 ^ 24 = a.toNat + 256 * b.toNat + 65536 * c.toNat + 16777216 * d.toNat := by
  have ha := a.toNat_lt
  have hb := b.toNat_lt
  have hc := c.toNat_lt
  have hd := d.toNat_lt
  rw [Nat.zero_or, Nat.pow_zero, Nat.mul_one, or_add _ _ 8 (by omega), or_add _ _ 16 (by omega), or_add _ _ 24 (by omega)]
  omega
theorem set_set' (l : List Nat) (i x y : Nat) : (l.set i x).set i y = l.set i y := List.set_set ..
theorem fill_four (l : List Nat) (p : Nat) (s : List UInt8) (m : Nat) (hq : p + m < l.length) (h0 : (fillK l p s (4 * m)).getD (p + m) 0 = 0) : fillK l p s (4 * (m + 1)) = (fillK l p s (4 * m)).set (p + m) (numW s (4 * m)) := by
  have hlen : (fillK l p s (4 * m)).length = l.length := fillK_length _ _ _ _
  obtain ⟨r, hr⟩ : ∃ r, fillK l p s (4 * m) = r := ⟨_, rfl⟩
  rw [hr] at hlen h0
  have g : ∀ x, (r.set (p + m) x).getD (p + m) 0 = x := fun x => by rw [getD_setN, if_pos ⟨rfl, by omega⟩]
  rw [show 4 * (m + 1) = 4 * m + 1 + 1 + 1 + 1 by omega, fillK, fillK, fillK, fillK, hr,
    show 4 * m / 4 = m by omega, show (4 * m + 1) / 4 = m by omega, show (4 * m + 1 + 1) / 4 = m by omega, show (4 * m + 1 + 1 + 1) / 4 = m by omega,
    show 4 * m % 4 = 0 by omega, show (4 * m + 1) % 4 = 1 by omega, show (4 * m + 1 + 1) % 4 = 2 by omega, show (4 * m + 1 + 1 + 1) % 4 = 3 by omega]
  simp only [set_set', g, h0]
  rw [show numW s (4 * m) = _ from (four_or (s.getD (4 * m) 0) (s.getD (4 * m + 1) 0) (s.getD (4 * m + 2) 0) (s.getD (4 * m + 3) 0)).symm]
theorem fill_get (l : List Nat) (p : Nat) (s : List UInt8) (m : Nat) (hm : p + m ≤ l.length) (h0 : ∀ i, p ≤ i → i < p + m → l.getD i 0 = 0) :
    ∀ i, i < l.length → (fillK l p s (4 * m)).getD i 0 = if p ≤ i ∧ i < p + m then numW s (4 * (i - p)) else l.getD i 0 := by
  induction m with
  | zero => intro i _; rw [if_neg (by omega)]; rfl
  | succ m ih =>
    intro i hi
    have ih := ih (by omega) (fun i h1 h2 => h0 i h1 (by omega))
    have hz : (fillK l p s (4 * m)).getD (p + m) 0 = 0 := by rw [ih (p + m) (by omega), if_neg (by omega)]; exact h0 _ (by omega) (by omega)
    rw [fill_four l p s m (by omega) hz, getD_setN, fillK_length]
    by_cases e : p + m = i
    · rw [if_pos ⟨e, hi⟩, if_pos (by omega), show i - p = m by omega]
    · rw [if_neg (fun h => e h.1), ih i hi]
      by_cases h : p ≤ i ∧ i < p + m
      · rw [if_pos h, if_pos (by omega)]
      · rw [if_neg h, if_neg (by omega)]
theorem getA (l f : List UInt8) (i : Nat) : (l ++ f).getD i 0 = if i < l.length then l.getD i 0 else f.getD (i - l.length) 0 := by
  simp only [List.getD_eq_getElem?_getD, List.getElem?_append]
  split <;> rfl
theorem num_l (l f : List UInt8) (i : Nat) (h : i + 4 ≤ l.length) : numW (l ++ f) i = numW l i := by
  unfold numW
  rw [getA, getA, getA, getA, if_pos (by omega), if_pos (by omega), if_pos (by omega), if_pos (by omega)]
theorem num_r (l f : List UInt8) (i j : Nat) (h : i = l.length + j) : numW (l ++ f) i = numW f j := by
  unfold numW
  subst h
  rw [getA, getA, getA, getA, if_neg (by omega), if_neg (by omega), if_neg (by omega), if_neg (by omega), show l.length + j - l.length = j by omega, show l.length + j + 1 - l.length = j + 1 by omega, show l.length + j + 2 - l.length = j + 2 by omega, show l.length + j + 3 - l.length = j + 3 by omega]
theorem num_oct (c : Nat) (hc : isW c) : numW (octW c) 0 = c := by
  unfold isW at hc
  show (UInt8.ofNat (c % 256)).toNat + 256 * (UInt8.ofNat (c / 256 % 256)).toNat + 65536 * (UInt8.ofNat (c / 65536 % 256)).toNat + 16777216 * (UInt8.ofNat (c / 16777216)).toNat = c
  rw [UInt8.toNat_ofNat_of_lt' (show c % 256 < 256 by omega), UInt8.toNat_ofNat_of_lt' (show c / 256 % 256 < 256 by omega), UInt8.toNat_ofNat_of_lt' (show c / 65536 % 256 < 256 by omega), UInt8.toNat_ofNat_of_lt' (show c / 16777216 < 256 by omega)]
  omega
theorem begin_fir (k n : List UInt8) (c : Nat) (hk : k.length = 32) (hc : isW c) : beginW k n c = firW (allL k n c) 16 := by
  have hz : ∀ i, zeroL.getD i 0 = 0 := fun i => by
    unfold zeroL
    rw [List.getD_eq_getElem?_getD, List.getElem?_replicate]
    split <;> rfl
  have he : expL.length = 16 := rfl
  have h1 := fill_get zeroL 0 expL 4 (by decide) (fun i _ _ => hz i)
  have l1 : (fillK zeroL 0 expL 16).length = 16 := fillK_length _ _ _ _
  have h2 := fill_get (fillK zeroL 0 expL 16) 4 k 8 (by omega) (fun i a b => by rw [h1 i (by show i < 16; omega), if_neg (by omega)]; exact hz i)
  have l2 : ((fillK (fillK zeroL 0 expL 16) 4 k 32).set 12 c).length = 16 := by rw [List.length_set, fillK_length]; exact l1
  have h3 := fill_get ((fillK (fillK zeroL 0 expL 16) 4 k 32).set 12 c) 13 n 3 (by omega) (fun i a b => by
    rw [getD_setN, if_neg (by omega), h2 i (by omega), if_neg (by omega), h1 i (by show i < 16; omega), if_neg (by omega)]; exact hz i)
  apply ext_getN
  · rw [beginW_length, firW_length]
  · intro i hi
    rw [beginW_length] at hi
    have hf : (firW (allL k n c) 16).getD i 0 = numW (allL k n c) (4 * i) := by simp [firW, List.getD_eq_getElem?_getD, hi]
    rw [hf]
    unfold beginW allL
    rw [h3 i (by omega)]
    by_cases c3 : 13 ≤ i
    · rw [if_pos (by omega), num_r _ n (4 * i) (4 * (i - 13)) (by simp [he, hk, octW]; omega)]
    · rw [if_neg (by omega), num_l _ n (4 * i) (by simp [he, hk, octW]; omega), getD_setN]
      by_cases c2 : 12 = i
      · rw [if_pos ⟨c2, by rw [fillK_length, l1]; exact hi⟩, num_r _ (octW c) (4 * i) 0 (by simp [he, hk]; omega), num_oct c hc]
      · rw [if_neg (fun h => c2 h.1), num_l _ (octW c) (4 * i) (by simp [he, hk]; omega), h2 i (by omega)]
        by_cases c1 : 4 ≤ i
        · rw [if_pos (by omega), num_r expL k (4 * i) (4 * (i - 4)) (by rw [he]; omega)]
        · rw [if_neg (by omega), num_l expL k (4 * i) (by rw [he]; omega), h1 i (by show i < 16; omega), if_pos (by omega)]
          rfl
/-- The reference's Block. -/
theorem rblock (k n : List UInt8) (c : Nat) (w : World) (hk : k.length = 32) (hn : n.length = 12) (hc : isW c) :
    Calls Tryd.prog 34 #[.string (bs k), .string (bs n), .int .i64 (c : Int)] w fun e w' => e = .returned (.string (bs (blockO k n c))) ∧ Below w.heap.size w w' := by
  rw [show blockO k n c = blockW (firW (allL k n c) 16) from by unfold blockO; rw [begin_fir k n c hk hc]]
  exact rblock_raw k n c w hk hn hc
end Go.Proofs.YtnfefkcfifnjnaaDoor
