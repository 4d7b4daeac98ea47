/- Plain facts for the reference's Result: numbers with the same rest. -/
import Derived.Test.YtbadiljligcenaaDoorGK
namespace Go.Proofs.YtbadiljligcenaaDoor
open Go.RowKit Go.ChangeShapes
/-- A number of the reference stands for a number of the ladder. -/
def Rq (r x : Nat) : Prop := r < two256 ∧ r % pC = x % pC
theorem Rq.mul {r1 r2 r x y : Nat} (h1 : Rq r1 x) (h2 : Rq r2 y) (hr : r < two256) (h : r % pC = (r1 * r2) % pC) : Rq r (muN x y) := by
  refine ⟨hr, ?_⟩
  rw [h, Nat.mul_mod, h1.2, h2.2, ← Nat.mul_mod]
  unfold muN
  rw [Nat.mod_mod]
theorem Rq.add {r1 r2 r x y : Nat} (h1 : Rq r1 x) (h2 : Rq r2 y) (hr : r < two256) (h : r % pC = (r1 + r2) % pC) : Rq r (x + y) := by
  refine ⟨hr, ?_⟩
  rw [h, Nat.add_mod, h1.2, h2.2, ← Nat.add_mod]
theorem sub_rel (p a b x y : Nat) (ha : a % p = x % p) (hb : b % p = y % p) (hb4 : b ≤ a + 4 * p) (hy2 : y ≤ x + 2 * p) : (a + 4 * p - b) % p = (x + 2 * p - y) % p := by
  have e1 := Nat.div_add_mod a p
  have e2 := Nat.div_add_mod b p
  have e3 := Nat.div_add_mod x p
  have e4 := Nat.div_add_mod y p
  rw [ha] at e1
  rw [hb] at e2
  have key : (a + 4 * p - b) + p * (b / p + x / p + 2) = (x + 2 * p - y) + p * (y / p + a / p + 4) := by
    rw [Nat.mul_add, Nat.mul_add, Nat.mul_add, Nat.mul_add, Nat.mul_comm p 2, Nat.mul_comm p 4]
    generalize p * (a / p) = A at *
    generalize p * (b / p) = B at *
    generalize p * (x / p) = X at *
    generalize p * (y / p) = Y at *
    generalize x % p = n at *
    generalize y % p = m at *
    omega
  have k2 := congrArg (· % p) key
  simpa [Nat.add_mul_mod_self_left] using k2
theorem Rq.sub {r1 r2 r x y : Nat} (h1 : Rq r1 x) (h2 : Rq r2 y) (hy : y ≤ 2 * pC) (hr : r < two256) (h : r % pC = (r1 + 4 * pC - r2) % pC) : Rq r (sbN x y) := by
  refine ⟨hr, ?_⟩
  have hb : r2 ≤ r1 + 4 * pC := by have := h2.1; have := two256_p; have : 38 ≤ pC := (by decide); omega
  rw [h, sub_rel pC r1 r2 x y h1.2 h2.2 hb (by omega)]
  rfl
theorem Rq.comm {r x y : Nat} (h : Rq r (muN x y)) : Rq r (muN y x) := by unfold muN at h ⊢; rwa [Nat.mul_comm]
/-- The ladder's end. -/
theorem Rq.end {a b r q : Nat} {x : St} (ha : Rq a x.a) (hb : Rq b x.b) (hxb : x.b < pC) (hq : q % pC = powN (b % pC) P2 255) (hr : r % pC = (a * q) % pC) : r % pC = quoN x := by
  unfold quoN muN
  rw [hr, Nat.mul_mod, ha.2, hq, hb.2, Nat.mod_eq_of_lt hxb]
  have hp : ∀ n k, powN n P2 k % pC = powN n P2 k := by
    intro n k
    cases k with
    | zero => show 1 % pC = 1; decide
    | succ k => rw [powN]; split <;> exact Nat.mod_eq_of_lt (muN_lt _ _)
  rw [← hp x.b 255, ← Nat.mul_mod, hp]
/-- The numbers of the ladder that are not above 2p. -/
theorem lad_le (u : Nat) (s : List UInt8) (hu : u ≤ 2 * pC) (k : Nat) : (ladN u s k).a ≤ 2 * pC ∧ (ladN u s k).b ≤ 2 * pC ∧ (ladN u s k).c ≤ 2 * pC ∧ (ladN u s k).d ≤ 2 * pC := by
  cases k with
  | zero => exact ⟨by show 1 ≤ 2 * pC; decide, Nat.zero_le _, hu, by show 1 ≤ 2 * pC; decide⟩
  | succ k =>
    rw [ladN]
    unfold roundN
    split <;> exact ⟨mu_lt2 _ _, mu_lt2 _ _, mu_lt2 _ _, mu_lt2 _ _⟩
end Go.Proofs.YtbadiljligcenaaDoor
