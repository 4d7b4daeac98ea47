/- A loop over an iterator that keeps a state of its own in new memory; the body breaks at last. -/
import Derived.Test.YtfagfenmampigaaZA
namespace Go.Proofs.Ytfagfenmampigaa
open Go Go.RowKit
variable {F : Fence} {n : Nat} {P : Program}
/-- J abides whatever is done to memory from B on, and to block m. -/
def AbX {β : Type} (B m : Nat) (J : β → World → Prop) : Prop := ∀ s W W' row, J s W → W.grownBy W' row → (∀ r, row = some r → B ≤ r ∨ r = m) → J s W'
theorem AbX.up {β : Type} {B m : Nat} {J : β → World → Prop} (h : AbX B m J) : AbUp B J := fun s W W' row hs hg hr => h s W W' row hs hg fun r e => .inl (hr r e)
theorem held.grownX {w W W' : World} {L : Loop} {row : Option Nat} (h : held w L W) (hg : W.grownBy W' row) (hr : ∀ r, row = some r → r ≠ w.heap.size ∧ r ≠ w.heap.size + 1) : held w L W' :=
  ⟨(hg.block _ (Array.getElem?_eq_some_iff.1 h.1).1 (fun e => (hr _ e.symm).2 rfl)).trans h.1, (hg.block _ (Array.getElem?_eq_some_iff.1 h.2).1 (fun e => (hr _ e.symm).1 rfl)).trans h.2⟩
/-- What the iterator gives, one after the other, until the body stops it; it may write block m. -/
def SeqS (F : Fence) (n : Nat) (P : Program) (g : Nat) (lb : Array Value) (m : Nat) (encs : Nat → Array Value) (Kp : World → World → Prop) (w : World) : Prop :=
  ∀ (l : Nat) (J : Nat → World → Prop) (Jx : Unit → World → Prop) (N : Nat) (W : World), Below w.heap.size w W → AbX W.heap.size m J → AbX W.heap.size m Jx →
    (∀ k W1, J k W1 → k < N ∧ YieldAt F (n - 1) P l (encs k) W1 fun e W' => Kp W1 W' ∧ ((e = .returned (.bool true) ∧ J (k + 1) W') ∨ (e = .returned (.bool false) ∧ Jx () W'))) →
    J 0 W →
    CallsIn F n P g (#[.func (.yield l) #[] #[]] ++ lb) W fun e W' => (∃ v, e = .returned v) ∧ Jx () W'
/-- Behind a round the body has gone on, or left the block id. -/
def goneOr (id : Nat) (Kp : World → World → Prop) (I : Nat → World → Prop) (Ix : Unit → World → Prop) (k : Nat) (W : World) : Exit → Act → World → Prop
  | .normal, _, W' => KeepsOthers W W' ∧ Kp W W' ∧ I (k + 1) W'
  | .exit i, _, W' => i = id ∧ KeepsOthers W W' ∧ Kp W W' ∧ Ix () W'
  | _, _, _ => False
theorem rangeS {g : Operand} {ps : Array Tmp} {assign body : Code} {Q : Exit → Act → World → Prop} {a : Act} {w : World} (id : Nat)
    (hro : F.round = none) (h1 : 1 ≤ n) {gf : Nat} {lb : Array Value} (hg : a.eval g = .func (.func gf) #[] lb) (hFg : F.fn gf) (eg : ∀ args w, (callFunc gf args).run P w = .ok (.enter gf args) w)
    {encs : Nat → Array Value} {Kp : World → World → Prop} (N : Nat) {m : Nat} (hm : m < w.heap.size) (hseq : SeqS F (n - 1) P gf lb m encs Kp w)
    (hKt : ∀ {A B C : World}, Kp A B → Kp B C → Kp A C) (hKb : ∀ (W : World) (L L' : Loop), W.heap[w.heap.size + 1]? = some (.loop L) → Kp W (W.putObj (w.heap.size + 1) (.loop L'))) (hps : ∀ k, (encs k).size = ps.size)
    (I : Nat → World → Prop) (Ix : Unit → World → Prop) (hI : AbX w.heap.size m I) (hIx : AbX w.heap.size m Ix) (h0 : I 0 w) (a₁ : Nat → Act)
    (hassign : ∀ (l : Nat) (k : Nat) (W : World) (K : Act → World → Prop), K (a₁ k) W →
      assign.wpIn (F.inRound l) (n - 1 - 1) P (Exit.then K (fun _ _ _ => False)) { tmps := (ps.zip (encs k)).foldl (fun t (p, v) => t.setIfInBounds p v) a.tmps, defers := [] } W)
    (hbody : ∀ (l : Nat) (k : Nat) (W : World), I k W → k < N ∧ body.wpIn (F.inRound l) (n - 1 - 1) P (goneOr id Kp I Ix k W) (a₁ k) W)
    (hstop : ∀ (D : Nat) (W : World), w.heap.size ≤ D → Ix () W → W.heap[D]? = some (.deferred (some [])) → (Code.exit id).wpIn F n P Q { a with defers := { target := .collected D, args := #[] } :: a.defers } W) :
    (Code.rangeFunc g ps assign body).wpIn F n P Q a w := by
  have hF := hI.up.from
  have hFx := hIx.up.from
  refine wpIn_rangeFunc fun fn hfn => ?_
  rw [hro]
  obtain ⟨rec, hrec⟩ : ∃ rec : LoopState → Option Code → Loop, rec = fun st pe => { state := st, pending := pe, fn, tmps := a.tmps, params := ps, assign, body, defers := w.heap.size } := ⟨_, rfl⟩
  obtain ⟨W1, hW1⟩ : ∃ W1, (w.alloc (.deferred (some []))).alloc (.loop (rec .ready none)) = W1 := ⟨_, rfl⟩
  have hz : W1.heap.size = w.heap.size + 2 := by rw [← hW1]; simp
  have hH : held w (rec .ready none) W1 := by
    rw [← hW1]
    exact ⟨by have := World.alloc_heap_new (w.alloc (.deferred (some []))) (.loop (rec .ready none)); rwa [World.size_alloc] at this, (Below.heap_alloc _ _ _ (by simp)).trans (World.alloc_heap_new w _)⟩
  have hI1 : I 0 W1 := by rw [← hW1]; exact hF.alloc _ (hF.alloc _ h0)
  have hb1 : Below w.heap.size w W1 := by rw [← hW1]; exact ((Below.refl _ w).alloc (Nat.le_refl _) _).alloc (by simp) _
  refine ⟨w.heap.size + 1, [{ target := .collected w.heap.size, args := #[] }], W1, { target := .fn (.func gf) lb, args := #[.func (.yield (w.heap.size + 1)) #[] #[]] }, W1, gf,
    #[.func (.yield (w.heap.size + 1)) #[] #[]] ++ lb, W1, ?_, ?_, ?_, ?_, fun _ => h1, ?_⟩
  · rw [← hW1, hrec]; exact run_enterLoop_outer _ _ _ _ _
  · simp only [resolve, hg]
    simp [go_sem]
  · intro f' hf'; simp [Target.leads] at hf'; subst hf'; exact hFg
  · simp [invoke, go_sem, eg]
  · refine (hseq (w.heap.size + 1) (fun k W => I k W ∧ held w (rec .ready none) W) (fun _ W => Ix () W ∧ held w (rec .done (some (.exit id))) W) N W1 hb1
      (fun s A B row hs hg' hr => ⟨hI s A B row hs.1 hg' (fun r e => by have := hr r e; omega), hs.2.grownX hg' (fun r e => by have := hr r e; omega)⟩)
      (fun s A B row hs hg' hr => ⟨hIx s A B row hs.1 hg' (fun r e => by have := hr r e; omega), hs.2.grownX hg' (fun r e => by have := hr r e; omega)⟩) ?_ ⟨hI1, hH⟩).mono ?_
    · rintro k W ⟨hi, hh⟩
      have hy := run_yield (P := P) (args := encs k) hh.1 (by rw [hrec]; exact hps k)
      have hbusy := hh.put (rec .busy none)
      have hk1 := hKb W (rec .ready none) (rec .busy none) hh.1
      have hi2 := hF.putObj (.loop (rec .busy none)) hi (by omega) hh.1 rfl
      have hbeg := run_beginRound (P := P) hh.1 (by rw [hrec])
      rw [hrec] at hy hbeg
      obtain ⟨hN, _⟩ := hbody (w.heap.size + 1) k _ hi
      refine ⟨hN, fn, _, assign, body, hy, roundIn_of_wpIn hfn (hassign _ k W _ ⟨_, hbeg, ?_⟩)⟩
      have he : ({ state := .busy, pending := none, fn, tmps := a.tmps, params := ps, assign, body, defers := w.heap.size } : Loop) = rec .busy none := by rw [hrec]
      have hbd := (hbody (w.heap.size + 1) k _ hi2).2
      rw [← he] at hbd
      refine wpIn_mono hbd ?_
      rintro e a3 W3 hp
      cases e with
      | normal =>
        obtain ⟨hk3, hkp3, hi3⟩ := hp
        rw [he] at hk3 hkp3
        have h3 := hbusy.keep hk3
        have hr := run_endRound (P := P) none h3.1
        rw [show ({ rec .busy none with state := (if (none : Option Code).isNone then .ready else .done), pending := none } : Loop) = rec .ready none by rw [hrec]; rfl] at hr
        exact ⟨_, _, hr, hKt (hKt hk1 hkp3) (hKb _ _ _ h3.1), .inl ⟨rfl, hF.putObj _ hi3 (by omega) h3.1 rfl, h3.put _⟩⟩
      | exit i =>
        obtain ⟨rfl, hk3, hkp3, hi3⟩ := hp
        rw [he] at hk3 hkp3
        have h3 := hbusy.keep hk3
        have hr := run_endRound (P := P) (some (.exit i)) h3.1
        rw [show ({ rec .busy none with state := (if (some (Code.exit i)).isNone then .ready else .done), pending := some (.exit i) } : Loop) = rec .done (some (.exit i)) by rw [hrec]; rfl] at hr
        exact ⟨_, _, hr, hKt (hKt hk1 hkp3) (hKb _ _ _ h3.1), .inr ⟨rfl, hFx.putObj _ hi3 (by omega) h3.1 rfl, h3.put _⟩⟩
      | _ => exact hp.elim
    · rintro e W2 ⟨⟨v, rfl⟩, hi, hh⟩
      have hr := run_endLoop (P := P) hh.1 (by rw [hrec]; simp)
      rw [show (rec .done (some (.exit id))).pending = some (.exit id) by rw [hrec]] at hr
      exact ⟨some (.exit id), _, hr, hstop _ _ (Nat.le_refl _) (hFx.putObj _ hi (by omega) hh.1 rfl) ((World.putObj_heap_other (by omega)).trans hh.2)⟩
end Go.Proofs.Ytfagfenmampigaa
