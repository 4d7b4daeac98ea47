/- Plain facts: the reference's rows of bits. -/
import Derived.Test.YtfagfenmampigaaPB
namespace Go.Proofs.Ytfagfenmampigaa
/-- The number of bits, the first one lowest. -/
def nb : List Bool → Nat
  | [] => 0
  | b :: l => b.toNat ^^^ 2 * nb l
theorem mul2_xor (x y : Nat) : 2 * (x ^^^ y) = 2 * x ^^^ 2 * y := by
  have := Nat.shiftLeft_xor_distrib (a := x) (b := y) (i := 1)
  simpa [Nat.shiftLeft_eq, Nat.mul_comm] using this
theorem mulp_xor (k x y : Nat) : 2 ^ k * (x ^^^ y) = 2 ^ k * x ^^^ 2 ^ k * y := by
  have := Nat.shiftLeft_xor_distrib (a := x) (b := y) (i := k)
  simpa [Nat.shiftLeft_eq, Nat.mul_comm] using this
theorem nb_append (l m : List Bool) : nb (l ++ m) = nb l ^^^ 2 ^ l.length * nb m := by
  induction l with
  | nil => simp [nb]
  | cons b l ih =>
    rw [List.cons_append, nb, ih, nb, mul2_xor, List.length_cons, Nat.pow_succ, Nat.xor_assoc]
    congr 2
    generalize 2 ^ l.length = p
    rw [Nat.mul_comm p 2, Nat.mul_assoc]
theorem nb_false (n : Nat) : nb (List.replicate n false) = 0 := by
  induction n with
  | zero => rfl
  | succ n ih => rw [List.replicate_succ, nb, ih]; rfl
theorem bne_toNat (a b : Bool) : (a != b).toNat = a.toNat ^^^ b.toNat := by cases a <;> cases b <;> rfl
/-- Two rows of bits, place by place. -/
theorem nb_zip : ∀ (l m : List Bool), l.length = m.length → nb (List.zipWith (· != ·) l m) = nb l ^^^ nb m
  | [], [], _ => rfl
  | a :: l, b :: m, h => by
    rw [List.zipWith_cons_cons, nb, nb, nb, nb_zip l m (by simpa using h), bne_toNat, mul2_xor]; ac_rfl
/-- The lowest n bits of a number. -/
def bitsL (x n : Nat) : List Bool := (List.range n).map fun i => x / 2 ^ i % 2 == 1
theorem bitsL_length (x n : Nat) : (bitsL x n).length = n := by simp [bitsL]
theorem nb_bitsL (x n : Nat) : nb (bitsL x n) = x % 2 ^ n := by
  induction n with
  | zero => simp [bitsL, nb, Nat.mod_one]
  | succ n ih =>
    have : bitsL x (n + 1) = bitsL x n ++ [x / 2 ^ n % 2 == 1] := by simp [bitsL, List.range_succ]
    rw [this, nb_append, ih, bitsL_length, mod_succ]
    congr 1
    have h := Nat.mod_two_eq_zero_or_one (x / 2 ^ n)
    rcases h with h | h <;> simp [nb, h]
theorem nb_cons_div (b : Bool) (l : List Bool) : nb (b :: l) / 2 = nb l ∧ nb (b :: l) % 2 = b.toNat := by
  rw [nb, xor_div2, xor_mod2]
  have h1 : 2 * nb l / 2 = nb l := by omega
  have h2 : 2 * nb l % 2 = 0 := by omega
  rw [h1, h2]
  cases b <;> simp
/-- One step of the division: the first bit is struck, the constant's bits are joined with the next ones. -/
def divS (p : List Bool) (b : Bool) (l : List Bool) : List Bool := if b then List.zipWith (· != ·) (l.take p.length) p ++ l.drop p.length else l
theorem nb_divS (p l : List Bool) (b : Bool) (h : p.length ≤ l.length) : nb (divS p b l) = stp (nb p) (nb (b :: l)) := by
  obtain ⟨h1, h2⟩ := nb_cons_div b l
  unfold divS stp
  rw [h1, h2]
  cases b with
  | false => simp
  | true =>
    simp only [if_true, Bool.toNat_true]
    have hl : nb l = nb (l.take p.length) ^^^ 2 ^ p.length * nb (l.drop p.length) := by
      have := nb_append (l.take p.length) (l.drop p.length)
      rwa [List.take_append_drop, List.length_take, Nat.min_eq_left h] at this
    rw [nb_append, nb_zip _ _ (by rw [List.length_take]; omega), List.length_zipWith, List.length_take, Nat.min_eq_left h, Nat.min_self, hl]
    ac_rfl
/-- The bits of octets. -/
def bitsS (s : List UInt8) : List Bool := s.flatMap fun b => bitsL b.toNat 8
theorem bitsS_length (s : List UInt8) : (bitsS s).length = 8 * s.length := by
  induction s with
  | nil => rfl
  | cons b s ih => rw [bitsS, List.flatMap_cons, List.length_append, bitsL_length, List.length_cons]; unfold bitsS at ih; omega
theorem nb_bitsS (s : List UInt8) : nb (bitsS s) = le s := by
  induction s with
  | nil => rfl
  | cons b s ih =>
    unfold bitsS at ih ⊢
    rw [List.flatMap_cons, nb_append, bitsL_length, nb_bitsL, ih, le]
    have := b.toNat_lt
    rw [Nat.mod_eq_of_lt (by omega)]
theorem ff_sub (x : Nat) (h : x ≤ 4294967295) : 4294967295 - x = FF ^^^ x := by
  have h1 : (~~~ (BitVec.ofNat 32 x)).toNat = 4294967295 - x := by
    rw [BitVec.toNat_not, BitVec.toNat_ofNat, Nat.mod_eq_of_lt (by omega)]
  have h2 : (~~~ (BitVec.ofNat 32 x)) = BitVec.ofNat 32 FF ^^^ BitVec.ofNat 32 x := by
    rw [BitVec.not_def]; rfl
  rw [← h1, h2, BitVec.toNat_xor, BitVec.toNat_ofNat, BitVec.toNat_ofNat, Nat.mod_eq_of_lt (show FF < 2 ^ 32 by decide), Nat.mod_eq_of_lt (show x < 2 ^ 32 by omega)]
/-- What is left of a row of 32 bits and more. -/
def restL (p : List Bool) : Nat → List Bool → List Bool
  | 0, l => l
  | n + 1, l => match l with
    | [] => []
    | b :: l => restL p n (divS p b l)
theorem divS_length (p l : List Bool) (b : Bool) (h : p.length ≤ l.length) : (divS p b l).length = l.length := by
  unfold divS; split
  · simp; omega
  · rfl
theorem nb_restL (p : List Bool) (n : Nat) : ∀ l : List Bool, l.length = p.length + n → nb (restL p n l) = nst (nb p) n (nb l) ∧ (restL p n l).length = p.length := by
  induction n with
  | zero => intro l h; exact ⟨rfl, by rw [restL]; omega⟩
  | succ n ih =>
    intro l h
    match l, h with
    | b :: l, h =>
      have hl : l.length = p.length + n := by simp at h; omega
      have := ih (divS p b l) (by rw [divS_length _ _ _ (by omega)]; exact hl)
      rw [nb_divS _ _ _ (by omega)] at this
      exact this
/-- The check by division. -/
theorem more_div (c crc : Nat) (s : List UInt8) (hc : c < 4294967296) (h : crc ≤ 4294967295) :
    FF ^^^ nb (restL (bitsL c 32) (8 * s.length) (List.zipWith (· != ·) ((bitsS s ++ List.replicate 32 false).take 32) (bitsL (4294967295 - crc) 32) ++ (bitsS s ++ List.replicate 32 false).drop 32)) = moreN c crc s := by
  have hlen : (bitsS s ++ List.replicate 32 false).length = 8 * s.length + 32 := by rw [List.length_append, bitsS_length, List.length_replicate]
  have h1 := (nb_restL (bitsL c 32) (8 * s.length) (List.zipWith (· != ·) ((bitsS s ++ List.replicate 32 false).take 32) (bitsL (4294967295 - crc) 32) ++ (bitsS s ++ List.replicate 32 false).drop 32) (by
    rw [List.length_append, List.length_zipWith, List.length_take, List.length_drop, hlen, bitsL_length, bitsL_length]; omega)).1
  rw [h1, nb_bitsL, Nat.mod_eq_of_lt hc, moreN, crS_le]
  congr 2
  rw [nb_append, nb_zip _ _ (by rw [List.length_take, hlen, bitsL_length]; omega), List.length_zipWith, List.length_take, hlen, bitsL_length, nb_bitsL, Nat.mod_eq_of_lt (by omega), ff_sub _ h]
  have h2 := nb_append ((bitsS s ++ List.replicate 32 false).take 32) ((bitsS s ++ List.replicate 32 false).drop 32)
  rw [List.take_append_drop, List.length_take, hlen, show min 32 (8 * s.length + 32) = 32 by omega, nb_append, nb_false, Nat.mul_zero, Nat.xor_zero, nb_bitsS] at h2
  rw [h2, show min (min 32 (8 * s.length + 32)) 32 = 32 by omega]
  ac_rfl
end Go.Proofs.Ytfagfenmampigaa
