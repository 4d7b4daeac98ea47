/- Plain facts: the numbers 0, 1 and p - 1 have the result 0 with any secret. -/
import Derived.Test.YtbadiljligcenaaDoorFA
namespace Go.Proofs.YtbadiljligcenaaDoor
open Go.RowKit
theorem pC_pos : 0 < pC := by decide
theorem sq_add (a : Nat) : (a + 2 * pC) * (a + 2 * pC) % pC = a * a % pC := by
  rw [Nat.mul_mod, Nat.mul_comm 2 pC, Nat.add_mul_mod_self_left, ← Nat.mul_mod]
theorem sq_sub (b : Nat) (h : b ≤ 2 * pC) : (2 * pC - b) * (2 * pC - b) % pC = b * b % pC := by
  obtain ⟨c, hc⟩ : ∃ c, 2 * pC - b = c := ⟨_, rfl⟩
  have h1 : c + b = 2 * pC := by omega
  rw [hc]
  have e1 : c * c + c * b = pC * (2 * c) := by rw [← Nat.mul_add, h1, Nat.mul_comm c, Nat.mul_comm 2 pC, Nat.mul_assoc]
  have e2 : b * b + c * b = pC * (2 * b) := by rw [← Nat.add_mul, Nat.add_comm b c, h1, Nat.mul_comm 2 pC, Nat.mul_assoc]
  have e3 : c * c + pC * (2 * b) = b * b + pC * (2 * c) := by omega
  have e4 := congrArg (· % pC) e3
  simpa [Nat.add_mul_mod_self_left] using e4
theorem mu_two (x : Nat) : muN (2 * pC) x = 0 := by unfold muN; rw [Nat.mul_comm 2 pC, Nat.mul_assoc]; exact Nat.mul_mod_right _ _
theorem mu_zero (x : Nat) : muN x 0 = 0 := by unfold muN; rw [Nat.mul_zero]; exact Nat.zero_mod _
theorem zero_mu (x : Nat) : muN 0 x = 0 := by unfold muN; rw [Nat.zero_mul]; exact Nat.zero_mod _
theorem sb_self (a : Nat) : sbN a a = 2 * pC := by unfold sbN; omega
theorem sb_zero (a : Nat) : sbN a 0 = a + 2 * pC := rfl
theorem zero_sb (b : Nat) : sbN 0 b = 2 * pC - b := by unfold sbN; rw [Nat.zero_add]
theorem mu_lt2 (a b : Nat) : muN a b ≤ 2 * pC := by have := muN_lt a b; omega
/-- One of two numbers is 0. -/
def IZ (a b : Nat) : Prop := a = 0 ∨ b = 0
/-- Doubling what has a zero. -/
theorem dbl_iz (u : Nat) (x : St) (h : IZ x.a x.b) (hb : x.b ≤ 2 * pC) : (stepN u x).b = 0 := by
  have key : muN (sbN x.a x.b) (sbN x.a x.b) = muN (x.a + x.b) (x.a + x.b) := by
    rcases h with h | h
    · rw [h, zero_sb, Nat.zero_add]; exact sq_sub _ hb
    · rw [h, sb_zero, Nat.add_zero]; exact sq_add _
  show muN (sbN (muN (x.a + x.b) (x.a + x.b)) (muN (sbN x.a x.b) (sbN x.a x.b))) _ = 0
  rw [key, sb_self]
  exact mu_two _
/-- A sum without a rest. -/
theorem mu_sum {s : Nat} (h : s % pC = 0) (x : Nat) : muN s x = 0 := by unfold muN; rw [Nat.mul_mod, h, Nat.zero_mul]; exact Nat.zero_mod _
/-- Two numbers of the point with the number u. -/
def EU (u a b : Nat) : Prop := if u = 1 then a = b else (a + b) % pC = 0
theorem dbl_eu (u : Nat) (x : St) (h : EU u x.a x.b) : (stepN u x).a = 0 := by
  show muN (muN (x.a + x.b) (x.a + x.b)) (muN (sbN x.a x.b) (sbN x.a x.b)) = 0
  unfold EU at h
  split at h
  · rw [h, sb_self, mu_two]; exact mu_zero _
  · rw [mu_sum h]; exact zero_mu _
theorem add_eu (u : Nat) (x : St) (hu : u = 1 ∨ u = pC - 1) (h : EU u x.c x.d ∨ EU u x.a x.b) : EU u (stepN u x).c (stepN u x).d := by
  obtain ⟨f, hf⟩ : ∃ f, muN (sbN x.c x.d) (x.a + x.b) = f := ⟨_, rfl⟩
  obtain ⟨g, hg⟩ : ∃ g, muN (x.c + x.d) (sbN x.a x.b) = g := ⟨_, rfl⟩
  have hfg : f = 0 ∨ g = 0 := by
    rw [← hf, ← hg]
    unfold EU at h
    rcases h with h | h
    · split at h
      · left; rw [h, sb_self]; exact mu_two _
      · right; exact mu_sum h _
    · split at h
      · right; rw [h, sb_self]; unfold muN; rw [Nat.mul_comm, Nat.mul_comm 2 pC, Nat.mul_assoc]; exact Nat.mul_mod_right _ _
      · left; unfold muN; rw [Nat.mul_comm]; exact mu_sum h _
  have hgl : g ≤ 2 * pC := by rw [← hg]; exact mu_lt2 _ _
  have hsq : muN (sbN f g) (sbN f g) = muN (f + g) (f + g) := by
    rcases hfg with h | h
    · rw [h, zero_sb, Nat.zero_add]; exact sq_sub _ hgl
    · rw [h, sb_zero, Nat.add_zero]; exact sq_add _
  have ec : (stepN u x).c = muN (f + g) (f + g) := by rw [← hf, ← hg]; rfl
  have ed : (stepN u x).d = muN u (muN (sbN f g) (sbN f g)) := by rw [← hf, ← hg]; rfl
  rw [ec, ed, hsq]
  have hlt := muN_lt (f + g) (f + g)
  generalize muN (f + g) (f + g) = t at hlt
  unfold EU
  rcases hu with rfl | rfl
  · rw [if_pos rfl]; unfold muN; rw [Nat.one_mul, Nat.mod_eq_of_lt hlt]
  · rw [if_neg (by decide)]
    unfold muN
    rw [Nat.add_mod_mod]
    have e : t + (pC - 1) * t = pC * t := by
      have h1 : t + (pC - 1) * t = (1 + (pC - 1)) * t := by rw [Nat.add_mul, Nat.one_mul]
      rw [h1]
      congr 1
    rw [e]
    exact Nat.mul_mod_right _ _
/-- What holds between the rounds for 1 and p - 1. -/
def QU (u : Nat) (x : St) : Prop := (IZ x.a x.b ∧ EU u x.c x.d) ∨ (EU u x.a x.b ∧ IZ x.c x.d)
def BD (x : St) : Prop := x.b ≤ 2 * pC ∧ x.d ≤ 2 * pC
theorem BD.step (u : Nat) (x : St) : BD (stepN u x) := ⟨mu_lt2 _ _, mu_lt2 _ _⟩
theorem BD.swap {x : St} (h : BD x) : BD (swapN x) := ⟨h.2, h.1⟩
theorem BD.round {u : Nat} {b : Bool} {x : St} : BD (roundN u b x) := by
  unfold roundN
  split
  · exact (BD.step _ _).swap
  · exact BD.step _ _
theorem QU.swap {u : Nat} {x : St} (h : QU u x) : QU u (swapN x) := h.elim (fun h => .inr ⟨h.2, h.1⟩) (fun h => .inl ⟨h.2, h.1⟩)
theorem QU.step {u : Nat} {x : St} (hu : u = 1 ∨ u = pC - 1) (h : QU u x) (hb : BD x) : IZ (stepN u x).a (stepN u x).b ∧ EU u (stepN u x).c (stepN u x).d := by
  rcases h with h | h
  · exact ⟨.inr (dbl_iz u x h.1 hb.1), add_eu u x hu (.inl h.2)⟩
  · exact ⟨.inl (dbl_eu u x h.1), add_eu u x hu (.inr h.1)⟩
theorem QU.round {u : Nat} {b : Bool} {x : St} (hu : u = 1 ∨ u = pC - 1) (h : QU u x) (hb : BD x) : QU u (roundN u b x) := by
  unfold roundN
  split
  · exact QU.swap (.inl (QU.step hu h.swap hb.swap))
  · exact .inl (QU.step hu h hb)
theorem lad_bd (u : Nat) (s : List UInt8) : ∀ k, BD (ladN u s k)
  | 0 => ⟨by show 0 ≤ 2 * pC; exact Nat.zero_le _, by show 1 ≤ 2 * pC; decide⟩
  | k + 1 => by rw [ladN]; exact BD.round
theorem lad_qu {u : Nat} (hu : u = 1 ∨ u = pC - 1) (s : List UInt8) : ∀ k, QU u (ladN u s k)
  | 0 => .inl ⟨.inr rfl, by
      show EU u u 1
      unfold EU
      rcases hu with rfl | rfl
      · rfl
      · rw [if_neg (by decide)]; decide⟩
  | k + 1 => by rw [ladN]; exact QU.round hu (lad_qu hu s k) (lad_bd u s k)
theorem lad_iz (s : List UInt8) : ∀ k, IZ (ladN 0 s k).a (ladN 0 s k).b ∧ IZ (ladN 0 s k).c (ladN 0 s k).d
  | 0 => ⟨.inr rfl, .inl rfl⟩
  | k + 1 => by
    have ih := lad_iz s k
    have hb := lad_bd 0 s k
    rw [ladN]
    unfold roundN
    split
    · exact ⟨.inr (show muN 0 _ = 0 from zero_mu _), .inr (dbl_iz 0 (swapN (ladN 0 s k)) ih.2 hb.2)⟩
    · exact ⟨.inr (dbl_iz 0 (ladN 0 s k) ih.1 hb.1), .inr (show muN 0 _ = 0 from zero_mu _)⟩
theorem pow_zero : powN 0 P2 255 = 0 := by decide +kernel
theorem quo_zero (x : St) (h : x.b = 0) : quoN x = 0 := by unfold quoN; rw [h, pow_zero]; exact mu_zero _
theorem cl_bit (s : List UInt8) (hs : s.length = 32) (t : Nat) (ht : t < 3) : bitN (clN s) t = false := by
  have e1 : t / 8 = 0 := by omega
  have e2 : t % 8 = t := by omega
  have e3 : (clN s).getD 0 0 = s.getD 0 0 &&& 248 := by
    unfold clN
    rw [List.getD_eq_getElem?_getD, List.getElem?_set_ne (by decide), List.getElem?_set_self (by omega)]
    rfl
  unfold bitN
  rw [e1, e2, e3, UInt8.toNat_and]
  have h := Nat.testBit_eq_decide_div_mod_eq (x := (s.getD 0 0).toNat &&& (248 : UInt8).toNat) (i := t)
  rw [Nat.testBit_and] at h
  have h3 : Nat.testBit (248 : UInt8).toNat t = false := by
    have : t = 0 ∨ t = 1 ∨ t = 2 := by omega
    rcases this with rfl | rfl | rfl <;> decide
  rw [h3, Bool.and_false] at h
  have h4 := of_decide_eq_false h.symm
  exact beq_false_of_ne h4
theorem resN_zero (s : List UInt8) (hs : s.length = 32) : resN s 0 = 0 := by
  refine quo_zero _ ?_
  have e : ladN 0 (clN s) 255 = stepN 0 (ladN 0 (clN s) 254) := by
    show roundN 0 (bitN (clN s) 0) (ladN 0 (clN s) 254) = _
    rw [cl_bit s hs 0 (by decide)]; rfl
  rw [e]
  exact dbl_iz 0 _ (lad_iz (clN s) 254).1 (lad_bd 0 _ 254).1
theorem resN_unit (u : Nat) (hu : u = 1 ∨ u = pC - 1) (s : List UInt8) (hs : s.length = 32) : resN s u = 0 := by
  refine quo_zero _ ?_
  have e : ladN u (clN s) 255 = stepN u (ladN u (clN s) 254) := by
    show roundN u (bitN (clN s) 0) (ladN u (clN s) 254) = _
    rw [cl_bit s hs 0 (by decide)]; rfl
  have e2 : ladN u (clN s) 254 = stepN u (ladN u (clN s) 253) := by
    show roundN u (bitN (clN s) 1) (ladN u (clN s) 253) = _
    rw [cl_bit s hs 1 (by decide)]; rfl
  rw [e]
  refine dbl_iz u _ ?_ (lad_bd u _ 254).1
  rw [e2]
  exact (QU.step hu (lad_qu hu (clN s) 253) (lad_bd u _ 253)).1
end Go.Proofs.YtbadiljligcenaaDoor
