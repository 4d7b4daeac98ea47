/- A loop over an iterator that writes one block of its own; the body may leave the loop. -/
import Derived.Test.YtjoogiabimiioaaGreatDoorZA
namespace Go.Proofs.YtjoogiabimiioaaGreatDoor
open Go Go.RowKit

variable {F : Fence} {n : Nat} {P : Program}
/-- J abides whatever is done to memory from B on, and to block b. -/
def AbX {β : Type} (B b : Nat) (J : β → World → Prop) : Prop := ∀ s W W' row, J s W → W.grownBy W' row → (∀ r, row = some r → B ≤ r ∨ r = b) → J s W'
theorem AbX.from {β : Type} {B b : Nat} {J : β → World → Prop} (h : AbX B b J) : OwnFrom B J := fun s W W' row hs hg hr => h s W W' row hs hg fun r e => .inl (hr r e).1
/-- What the iterator gives: all of xs, if the body goes on each time, or some of it; it may write memory that it made itself, and block b. -/
def SeqX {α : Type} (F : Fence) (n : Nat) (P : Program) (g : Nat) (lb : Array Value) (encs : α → Array Value) (Kp : World → World → Prop) (S Sp : List α → Prop) (G : α → Prop) (N b : Nat) (w : World) : Prop :=
  ∀ (l : Nat) (J Jx : List α → World → Prop) (W : World), Below w.heap.size w W → AbX W.heap.size b J → AbX W.heap.size b Jx →
    (∀ pre x W1, G x → J pre W1 → pre.length < N → YieldAt F (n - 1) P l (encs x) W1 fun e W' =>
      (e = .returned (.bool true) ∧ J (pre ++ [x]) W' ∧ Kp W1 W') ∨ (e = .returned (.bool false) ∧ Jx (pre ++ [x]) W')) →
    J [] W →
    CallsIn F n P g (#[.func (.yield l) #[] #[]] ++ lb) W fun e W' => (∃ v, e = .returned v) ∧ ((∃ xs, S xs ∧ J xs W') ∨ (∃ pre, Sp pre ∧ Jx pre W'))
/-- Behind a round the body has gone on, or left. -/
def leftOn {α : Type} (Kp : World → World → Prop) (I : List α → World → Prop) (Ix : Code → List α → World → Prop) (xs : List α) (W : World) : Exit → Act → World → Prop
  | .normal, _, W' => KeepsOthers W W' ∧ Kp W W' ∧ I xs W'
  | .exit id, _, W' => KeepsOthers W W' ∧ Ix (.exit id) xs W'
  | _, _, _ => False
theorem rangeS {α : Type} {g : Operand} {ps : Array Tmp} {assign body : Code} {Q : Exit → Act → World → Prop} {a : Act} {w : World}
    (hro : F.round = none) (h1 : 1 ≤ n) {gf : Nat} {lb : Array Value} (hg : a.eval g = .func (.func gf) #[] lb) (hFg : F.fn gf) (eg : ∀ args w, (callFunc gf args).run P w = .ok (.enter gf args) w)
    {encs : α → Array Value} {Kp : World → World → Prop} {S Sp : List α → Prop} {G : α → Prop} {N b : Nat} (hb : b < w.heap.size) (hseq : SeqX F (n - 1) P gf lb encs Kp S Sp G N b w)
    (hKt : ∀ {A B C : World}, Kp A B → Kp B C → Kp A C) (hKb : ∀ (W : World) (L L' : Loop), W.heap[w.heap.size + 1]? = some (.loop L) → Kp W (W.putObj (w.heap.size + 1) (.loop L'))) (hps : ∀ x, (encs x).size = ps.size)
    (I : List α → World → Prop) (Ix : Code → List α → World → Prop) (hI : AbX w.heap.size b I) (hIx : ∀ c, AbX w.heap.size b (Ix c)) (h0 : I [] w) (a₁ : α → Act)
    (hassign : ∀ (l : Nat) (x : α) (W : World) (K : Act → World → Prop), K (a₁ x) W →
      assign.wpIn (F.inRound l) (n - 1 - 1) P (Exit.then K (fun _ _ _ => False)) { tmps := (ps.zip (encs x)).foldl (fun t (p, v) => t.setIfInBounds p v) a.tmps, defers := [] } W)
    (hbody : ∀ (l : Nat) (pre : List α) (x : α) (W : World), G x → I pre W → pre.length < N → body.wpIn (F.inRound l) (n - 1 - 1) P (leftOn Kp I Ix (pre ++ [x]) W) (a₁ x) W)
    (hdone : ∀ (D : Nat) (xs : List α) (W : World), w.heap.size ≤ D → S xs → I xs W → W.heap[D]? = some (.deferred (some [])) → Q .normal { a with defers := { target := .collected D, args := #[] } :: a.defers } W)
    (hstop : ∀ (D : Nat) (c : Code) (pre : List α) (W : World), w.heap.size ≤ D → Sp pre → Ix c pre W → W.heap[D]? = some (.deferred (some [])) → c.wpIn F n P Q { a with defers := { target := .collected D, args := #[] } :: a.defers } W) :
    (Code.rangeFunc g ps assign body).wpIn F n P Q a w := by
  have hF := hI.from
  have hFx := fun c => (hIx c).from
  refine wpIn_rangeFunc fun fn hfn => ?_
  rw [hro]
  obtain ⟨rec, hrec⟩ : ∃ rec : LoopState → Option Code → Loop, rec = fun st pe => { state := st, pending := pe, fn, tmps := a.tmps, params := ps, assign, body, defers := w.heap.size } := ⟨_, rfl⟩
  obtain ⟨W1, hW1⟩ : ∃ W1, (w.alloc (.deferred (some []))).alloc (.loop (rec .ready none)) = W1 := ⟨_, rfl⟩
  have hz : W1.heap.size = w.heap.size + 2 := by rw [← hW1]; simp
  have hH : held w (rec .ready none) W1 := by
    rw [← hW1]
    exact ⟨by have := World.alloc_heap_new (w.alloc (.deferred (some []))) (.loop (rec .ready none)); rwa [World.size_alloc] at this, (Below.heap_alloc _ _ _ (by simp)).trans (World.alloc_heap_new w _)⟩
  have hI1 : I [] W1 := by rw [← hW1]; exact hF.alloc _ (hF.alloc _ h0)
  have hb1 : Below w.heap.size w W1 := by rw [← hW1]; exact ((Below.refl _ w).alloc (Nat.le_refl _) _).alloc (by simp) _
  have hgr : ∀ {A B : World} {row : Option Nat} {L : Loop}, held w L A → A.grownBy B row → (∀ r, row = some r → W1.heap.size ≤ r ∨ r = b) → held w L B := fun {A B row L} h hg' hr =>
    ⟨(hg'.block _ (Array.getElem?_eq_some_iff.1 h.1).1 (fun e => by have := hr _ e.symm; omega)).trans h.1, (hg'.block _ (Array.getElem?_eq_some_iff.1 h.2).1 (fun e => by have := hr _ e.symm; omega)).trans h.2⟩
  refine ⟨w.heap.size + 1, [{ target := .collected w.heap.size, args := #[] }], W1, { target := .fn (.func gf) lb, args := #[.func (.yield (w.heap.size + 1)) #[] #[]] }, W1, gf,
    #[.func (.yield (w.heap.size + 1)) #[] #[]] ++ lb, W1, ?_, ?_, ?_, ?_, fun _ => h1, ?_⟩
  · rw [← hW1, hrec]; exact run_enterLoop_outer _ _ _ _ _
  · simp only [resolve, hg]
    simp [go_sem]
  · intro f' hf'; simp [Target.leads] at hf'; subst hf'; exact hFg
  · simp [invoke, go_sem, eg]
  · refine (hseq (w.heap.size + 1) (fun pre W => I pre W ∧ held w (rec .ready none) W) (fun pre W => ∃ c, Ix c pre W ∧ held w (rec .done (some c)) W) W1 hb1
      (fun s A B row hs hg' hr => ⟨hI s A B row hs.1 hg' (fun r e => by have := hr r e; omega), hgr hs.2 hg' hr⟩)
      (fun s A B row hs hg' hr => by
        obtain ⟨c, hc, hh⟩ := hs
        exact ⟨c, hIx c s A B row hc hg' (fun r e => by have := hr r e; omega), hgr hh hg' hr⟩) ?_ ⟨hI1, hH⟩).mono ?_
    · rintro pre x W hG ⟨hi, hh⟩ hlen
      have hy := run_yield (P := P) (args := encs x) hh.1 (by rw [hrec]; exact hps x)
      have hbusy := hh.put (rec .busy none)
      have hk1 := hKb W (rec .ready none) (rec .busy none) hh.1
      have hi2 := hF.putObj (.loop (rec .busy none)) hi (by omega) hh.1 rfl
      have hbeg := run_beginRound (P := P) hh.1 (by rw [hrec])
      rw [hrec] at hy hbeg
      refine ⟨fn, _, assign, body, hy, roundIn_of_wpIn hfn (hassign _ x W _ ⟨_, hbeg, ?_⟩)⟩
      have he : ({ state := .busy, pending := none, fn, tmps := a.tmps, params := ps, assign, body, defers := w.heap.size } : Loop) = rec .busy none := by rw [hrec]
      have hbd := hbody (w.heap.size + 1) pre x _ hG hi2 hlen
      rw [← he] at hbd
      refine wpIn_mono hbd ?_
      rintro e a3 W3 hp
      cases e with
      | normal =>
        obtain ⟨hk3, hkp3, hi3⟩ := hp
        rw [he] at hk3 hkp3
        have h3 := hbusy.keep hk3
        have hr := run_endRound (P := P) none h3.1
        rw [show ({ rec .busy none with state := (if (none : Option Code).isNone then .ready else .done), pending := none } : Loop) = rec .ready none by rw [hrec]; rfl] at hr
        exact ⟨_, _, hr, .inl ⟨rfl, ⟨hF.putObj _ hi3 (by omega) h3.1 rfl, h3.put _⟩, hKt (hKt hk1 hkp3) (hKb _ _ _ h3.1)⟩⟩
      | exit id =>
        obtain ⟨hk3, hi3⟩ := hp
        rw [he] at hk3
        have h3 := hbusy.keep hk3
        have hr := run_endRound (P := P) (some (.exit id)) h3.1
        rw [show ({ rec .busy none with state := (if (some (Code.exit id) : Option Code).isNone then .ready else .done), pending := some (.exit id) } : Loop) = rec .done (some (.exit id)) by rw [hrec]; rfl] at hr
        exact ⟨_, _, hr, .inr ⟨rfl, .exit id, (hFx _).putObj _ hi3 (by omega) h3.1 rfl, h3.put _⟩⟩
      | _ => exact hp.elim
    · rintro e W2 ⟨⟨v, rfl⟩, (⟨xs, hS, hi, hh⟩ | ⟨pre, hSp, c, hi, hh⟩)⟩
      · have hr := run_endLoop (P := P) hh.1 (by rw [hrec]; simp)
        rw [show (rec .ready none).pending = none by rw [hrec]] at hr
        exact ⟨none, _, hr, hdone _ xs _ (Nat.le_refl _) hS (hF.putObj _ hi (by omega) hh.1 rfl) ((World.putObj_heap_other (by omega)).trans hh.2)⟩
      · have hr := run_endLoop (P := P) hh.1 (by rw [hrec]; simp)
        rw [show (rec .done (some c)).pending = some c by rw [hrec]] at hr
        exact ⟨some c, _, hr, hstop _ c pre _ (Nat.le_refl _) hSp ((hFx c).putObj _ hi (by omega) hh.1 rfl) ((World.putObj_heap_other (by omega)).trans hh.2)⟩
end Go.Proofs.YtjoogiabimiioaaGreatDoor
