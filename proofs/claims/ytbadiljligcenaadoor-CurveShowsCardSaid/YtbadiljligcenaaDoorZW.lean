/- A drawn region without calls, within a fence and a round: what holds of it outside holds of it there. -/
import Derived.Test.YtbadiljligcenaaDoorW
import Derived.OrdersIn
import Derived.TacticsIn
import Derived.OwnWalkIn
namespace Go.Proofs.YtbadiljligcenaaDoor
open Go

/-- An operation that gives a value, or nothing, and calls nobody. -/
def Calm (P : Program) (o : Oper) : Prop := (∀ c, o.op ≠ .defer c) ∧ (∀ w ρ, o.about P w ρ = none) ∧
  ∀ ρ, (∃ m : Sem Value, execOp ρ o = m >>= fun x => pure (.value x)) ∨ (∃ m : Sem Unit, execOp ρ o = m >>= fun _ => pure .skip)
theorem Calm.wpIn {F : Fence} {n : Nat} {P : Program} {o : Oper} {a : Act} {w : World} {K : Act → World → Prop} {Q : Exit → Act → World → Prop} (hc : Calm P o) (h : o.wp P a w K Q) : o.wpIn F n P a w K Q := by
  unfold Oper.wp at h
  unfold Oper.wpIn
  refine ⟨fun f hf => (by rw [hc.2.1] at hf; cases hf), ?_⟩
  rw [Oper.semAt_plain F _ _ hc.1]
  rcases hc.2.2 a.eval with ⟨m, hm⟩ | ⟨m, hm⟩
  · rw [hm] at h ⊢
    simp only [Sem.run_bind] at h ⊢
    cases hr : m.run P w with
    | ok x w' => rw [hr] at h; exact h
    | halt x w' => rw [hr] at h; cases x <;> exact h
  · rw [hm] at h ⊢
    simp only [Sem.run_bind] at h ⊢
    cases hr : m.run P w with
    | ok x w' => rw [hr] at h; exact h
    | halt x w' => rw [hr] at h; cases x <;> exact h
theorem wpAnyIn_of {F : Fence} {n : Nat} {P : Program} {md : Region.Mode} {ops : Array Oper} {Q : Exit → Act → World → Prop} (hc : ∀ (i : Nat) (o : Oper), ops[i]? = some o → Calm P o) (hQ : ¬ LetsOut Q) :
    ∀ (k : Nat) (l : Array Bool) (a : Act) (w : World), wpAny P md ops Q k l a w → wpAnyIn F n P md ops Q k l a w
  | 0, _, _, _, h => h
  | k + 1, l, a, w, h => ⟨h.1, fun i hi => by
      have h1 := h.2 i hi
      unfold wpOp at h1
      unfold wpOpIn
      cases ho : ops[i]? with
      | none => rw [ho] at h1; exact wpAnyIn_of hc hQ k _ a w h1
      | some o =>
        rw [ho] at h1
        dsimp only at h1 ⊢
        by_cases hw : Region.wanted o (yielded ops a.tmps) = true
        · rw [if_pos hw] at h1 ⊢
          exact Oper.wpIn_mono (fun a w h => wpAnyIn_of hc hQ k _ a w h) ((hc i o ho).wpIn (h1.resolve_right fun e => hQ e.2))
        · rw [if_neg hw] at h1 ⊢
          exact ⟨fun f hf => (by rw [(hc i o ho).2.1] at hf; cases hf), wpAnyIn_of hc hQ k _ _ w h1⟩⟩
/-- The beginning. -/
theorem region_anyC_in {F : Fence} {n : Nat} {P : Program} {ops : Array Oper} {Q : Exit → Act → World → Prop} {id : Nat} {a : Act} {w : World} (hc : ∀ (i : Nat) (o : Oper), ops[i]? = some o → Calm P o) (hQ : ¬ LetsOut Q) (S U : World → Prop) (B : List Nat) (hm : P.follows .mixedOrders = true)
    (h : anyC P .any ops Q S U B ops.size (Array.replicate ops.size false) a w.drew) : (Code.region id ops true).wpIn F n P Q a w :=
  wpIn_region_any hm (wpAnyIn_of hc hQ _ _ _ _ (anyC_any _ _ _ _ h))
end Go.Proofs.YtbadiljligcenaaDoor
