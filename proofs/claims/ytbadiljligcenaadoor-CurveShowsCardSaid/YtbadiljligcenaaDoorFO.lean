/- What a step works with: limbs with a value and a bound, blocks that stay. -/
import Derived.Test.YtbadiljligcenaaDoorFN
import Derived.Test.YtbadiljligcenaaDoorFE
namespace Go.Proofs.YtbadiljligcenaaDoor
open Go.RowKit Go.ChangeShapes
/-- Five limbs of a number. -/
def Lb (L : List Nat) (v : Nat) : Prop := L.length = 5 ∧ val L = v ∧ ∀ x ∈ L, x ≤ 9007199254740992
theorem lm_Lb {v : Nat} (hv : v < pC) : Lb (lm v) v := ⟨lm_length v, val_lm v (by unfold two255 pC at *; omega), fun x hx => by have := lm_lt v x hx; omega⟩
theorem plus_rel (a b : Nat) (ha : a < pC) (hb : b < pC) (W : World) : Calls Tryd.prog 58 #[.agg (lsC (lm a)), .agg (lsC (lm b))] W fun e w' => ∃ L, e = .returned (.agg (lsC L)) ∧ Lb L (a + b) ∧ Below W.heap.size W w' := by
  have la : ∀ x ∈ lm a, x ≤ 2251799813685247 := fun x hx => by have := lm_lt a x hx; omega
  have lb : ∀ x ∈ lm b, x ≤ 2251799813685247 := fun x hx => by have := lm_lt b x hx; omega
  refine (plus_any (lm a) (lm b) W (lm_length _) (lm_length _) (fun x hx => by have := la x hx; omega) (fun x hx => by have := lb x hx; omega)).mono ?_
  rintro e w' ⟨rfl, h⟩
  refine ⟨_, rfl, ⟨by rw [stK_length, lm_length], ?_, stK_le _ _ (lm_length _) _ fun i hi => ?_⟩, h⟩
  · have h1 := val_lm a (by unfold two255 pC at *; omega)
    have h2 := val_lm b (by unfold two255 pC at *; omega)
    rw [val5 _ (lm_length _)] at h1 h2
    rw [stK_val _ _ (lm_length _)]
    unfold plF
    omega
  · have h1 := getD_le la i
    have h2 := getD_le lb i
    unfold plF; omega
theorem minus_rel (a b : Nat) (ha : a < pC) (hb : b < pC) (W : World) : Calls Tryd.prog 59 #[.agg (lsC (lm a)), .agg (lsC (lm b))] W fun e w' => ∃ L, e = .returned (.agg (lsC L)) ∧ Lb L (sbN a b) ∧ Below W.heap.size W w' := by
  have la : ∀ x ∈ lm a, x ≤ 2251799813685247 := fun x hx => by have := lm_lt a x hx; omega
  have lb : ∀ x ∈ lm b, x ≤ 2251799813685247 := fun x hx => by have := lm_lt b x hx; omega
  refine (minus_any (lm a) (lm b) W (lm_length _) (lm_length _) (fun x hx => by have := la x hx; omega) lb).mono ?_
  rintro e w' ⟨rfl, h⟩
  have hl : (stK (m1F (lm a)) (lm a) 5).length = 5 := by rw [stK_length, lm_length]
  refine ⟨_, rfl, ⟨by rw [stK_length, hl], ?_, stK_le _ _ hl _ fun i hi => ?_⟩, h⟩
  · have h1 := val_lm a (by unfold two255 pC at *; omega)
    have h2 := val_lm b (by unfold two255 pC at *; omega)
    have g0 := getD_le lb 0
    have g1 := getD_le lb 1
    have g2 := getD_le lb 2
    have g3 := getD_le lb 3
    have g4 := getD_le lb 4
    rw [val5 _ (lm_length _)] at h1 h2
    rw [stK_val _ _ hl]
    unfold m2F m1F sbN pC
    simp only [reduceIte, show (1 : Nat) ≠ 0 by decide, show (2 : Nat) ≠ 0 by decide, show (3 : Nat) ≠ 0 by decide, show (4 : Nat) ≠ 0 by decide]
    omega
  · have h1 := getD_le la i
    unfold m2F m1F
    split <;> omega
theorem times_rel {L M : List Nat} {a b : Nat} (hL : Lb L a) (hM : Lb M b) (W : World) : Calls Tryd.prog 60 #[.agg (lsC L), .agg (lsC M)] W fun e w' => e = .returned (.agg (lsC (lm (muN a b)))) ∧ Below W.heap.size W w' := by
  have h := times_any L M W hL.1 hM.1 hL.2.2 hM.2.2
  rw [hL.2.1, hM.2.1] at h
  exact h
/-- Of old memory only block g has changed, and blocks of limbs stay. -/
structure Sk (g : Nat) (w : World) (ps : List (Nat × TypeId × List Nat)) (W : World) : Prop where
  o : Only g w W
  k : ∀ x ∈ ps, Lar W x.1 x.2.1 x.2.2
  z : ∀ x ∈ ps, x.2.1 = 72 ∨ w.heap.size ≤ x.1
theorem Sk.below {g : Nat} {w W V : World} {ps : List (Nat × TypeId × List Nat)} (h : Sk g w ps W) (hb : Below W.heap.size W V) : Sk g w ps V := ⟨h.o.trans (Only.of_below hb), fun x hx => (h.k x hx).below hb (h.k x hx).lt, h.z⟩
theorem Sk.drew {g : Nat} {w W : World} {ps : List (Nat × TypeId × List Nat)} (h : Sk g w ps W) : Sk g w ps W.drew := ⟨h.o.drew, fun x hx => (h.k x hx).drew, h.z⟩
theorem Sk.sub {g : Nat} {w W : World} {ps qs : List (Nat × TypeId × List Nat)} (h : Sk g w ps W) (hs : ∀ x ∈ qs, x ∈ ps) : Sk g w qs W := ⟨h.o, fun x hx => h.k x (hs x hx), fun x hx => h.z x (hs x hx)⟩
abbrev Z5o : Obj := .cells #[.int .u64 0, .int .u64 0, .int .u64 0, .int .u64 0, .int .u64 0] 44
theorem Sk.new {g : Nat} {w W : World} {ps : List (Nat × TypeId × List Nat)} (h : Sk g w ps W) : Sk g w ((W.heap.size, 44, [0, 0, 0, 0, 0]) :: ps) (W.alloc Z5o) ∧ (∀ x ∈ ps, x.1 ≠ W.heap.size) ∧ w.heap.size ≤ W.heap.size :=
  ⟨⟨h.o.alloc _, fun x hx => by
    rcases List.mem_cons.1 hx with rfl | hx
    · exact Lar.new W 44 [0, 0, 0, 0, 0]
    · exact (h.k x hx).alloc _, fun x hx => by
    rcases List.mem_cons.1 hx with rfl | hx
    · exact .inr h.o.size
    · exact h.z x hx⟩, fun x hx => by have := (h.k x hx).lt; omega, h.o.size⟩
theorem only_row {g G : Nat} {w W : World} (h : Only g w W) (hG : w.heap.size ≤ G) (cs : Array Value) : Only g w (W.setRow G cs) :=
  ⟨h.os, h.tape, h.output, by simpa [World.setRow] using h.size, fun k hk hn => (setRow_other W G k cs (by omega)).trans (h.block k hk hn)⟩
theorem Sk.row {g : Nat} {w W : World} {ps : List (Nat × TypeId × List Nat)} {G : Nat} {t : TypeId} {L : List Nat} (h : Sk g w ((G, t, L) :: ps) W) (hd : ∀ x ∈ ps, x.1 ≠ G) (hG : w.heap.size ≤ G) (L' : List Nat) : Sk g w ((G, t, L') :: ps) (W.setRow G (lsC L')) :=
  ⟨only_row h.o hG _, fun x hx => by
    rcases List.mem_cons.1 hx with rfl | hx
    · exact (h.k (G, t, L) (List.mem_cons_self ..)).row L'
    · exact (setRow_other W G x.1 _ (hd x hx)).trans (h.k x (List.mem_cons_of_mem _ hx)), fun x hx => by
    rcases List.mem_cons.1 hx with rfl | hx
    · exact .inr hG
    · exact h.z x (List.mem_cons_of_mem _ hx)⟩
theorem Sk.swap {g : Nat} {w W : World} {ps : List (Nat × TypeId × List Nat)} {x y : Nat × TypeId × List Nat} (h : Sk g w (x :: y :: ps) W) : Sk g w (y :: x :: ps) W := h.sub fun z hz => by
  rcases List.mem_cons.1 hz with rfl | hz
  · exact .tail _ (.head _)
  · rcases List.mem_cons.1 hz with rfl | hz
    · exact .head _
    · exact .tail _ (.tail _ hz)
end Go.Proofs.YtbadiljligcenaaDoor
