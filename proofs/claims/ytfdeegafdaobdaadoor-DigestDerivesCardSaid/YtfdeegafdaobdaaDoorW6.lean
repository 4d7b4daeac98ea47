/- Plain facts and the calls of the reference's mixing. Words that are made and stored in one statement: what stands whatever came up. -/
import Derived.Test.YtfdeegafdaobdaaDoorW5
import Derived.Test.YtfdeegafdaobdaaDoorW4
namespace Go.Proofs.YtfdeegafdaobdaaDoor
open Go.RowKit Go.ChangeShapes

/-- The first k of the words that are mixed in. -/
def spK (b : List UInt8) (k : Nat) : List Nat := if k ≤ 16 then firstW b k else moreW (k - 16) (firstW b 16)
theorem spK_len (b : List UInt8) (k : Nat) : (spK b k).length = k := by
  unfold spK
  by_cases h : k ≤ 16
  · rw [if_pos h, firstW_length]
  · rw [if_neg h, moreW_length, firstW_length]; omega
theorem spK_all (b : List UInt8) (k : Nat) : AllW (spK b k) := by
  unfold spK
  by_cases h : k ≤ 16
  · rw [if_pos h]; exact firstW_all _ _
  · rw [if_neg h]; exact moreW_all _ _ (firstW_all _ _)
theorem spK_lo (b : List UInt8) (k : Nat) (h : k < 16) : spK b (k + 1) = spK b k ++ [beN ((b.drop (4 * k)).take 4)] := by
  unfold spK
  rw [if_pos (by omega), if_pos (by omega), firstW_succ]
theorem spK_hi (b : List UInt8) (k : Nat) (h : 16 ≤ k) : spK b (k + 1) = spK b k ++ [nextW (spK b k)] := by
  unfold spK
  rw [if_neg (by omega), show k + 1 - 16 = (k - 16) + 1 by omega, moreW_snoc]
  by_cases h2 : k ≤ 16
  · obtain rfl : k = 16 := by omega
    rw [if_pos h2]; rfl
  · rw [if_neg h2]
theorem spK_64 (b : List UInt8) : spK b 64 = spreadW b := rfl
theorem next_val (l : List Nat) (k : Nat) (hl : l.length = k) :
    nextW l = (l.getD (k - 16) 0 + l.getD (k - 7) 0 + smX (l.getD (k - 15) 0) + smY (l.getD (k - 2) 0) + 0) % 4294967296 := by
  unfold nextW
  rw [hl]
  unfold ad
  omega
def oneV (s : W8) (k x : Nat) : Nat := (s.h + bigE s.e + chW s.e s.f s.g + k + x) % 4294967296
def twoV (s : W8) : Nat := (bigA s.a + maj s.a s.b s.c + 0 + 0 + 0) % 4294967296
theorem step_list (s : W8) (k x : Nat) : (stepW s (ad k x)).list = [(oneV s k x + twoV s + 0 + 0 + 0) % 4294967296, s.a, s.b, s.c, (s.d + oneV s k x + 0 + 0 + 0) % 4294967296, s.e, s.f, s.g] := by
  have h1 : ad (stU s (ad k x)) (stV s) = (oneV s k x + twoV s + 0 + 0 + 0) % 4294967296 := by
    unfold stU stV ad oneV twoV; omega
  have h2 : ad s.d (stU s (ad k x)) = (s.d + oneV s k x + 0 + 0 + 0) % 4294967296 := by
    unfold stU ad oneV; omega
  show [ad (stU s (ad k x)) (stV s), s.a, s.b, s.c, ad s.d (stU s (ad k x)), s.e, s.f, s.g] = _
  rw [h1, h2]
theorem add_get (h s : W8) (j : Nat) (hj : j < 8) : (addW h s).list.getD j 0 = (h.list.getD j 0 + s.list.getD j 0 + 0 + 0 + 0) % 4294967296 := by
  rcases (by omega : j = 0 ∨ j = 1 ∨ j = 2 ∨ j = 3 ∨ j = 4 ∨ j = 5 ∨ j = 6 ∨ j = 7) with rfl | rfl | rfl | rfl | rfl | rfl | rfl | rfl <;> rfl
theorem lt_M (x : Nat) : x % 4294967296 ≤ 4294967295 := by omega
/- The calls, by cells. -/
abbrev Ans (w : World) (v : Value) (e : Ending) (w' : World) : Prop := e = .returned v ∧ Below w.heap.size w w'
theorem kword (n : Nat) (h : n ≤ 4294967295) (w : World) : Calls Tryd.prog 80 #[.int .i64 (n : Int)] w (Ans w (.agg (wC n).toArray)) := rword_any n w h
theorem kturn (n k : Nat) (z : Int) (hz : z = (k : Int)) (h : n ≤ 4294967295) (h1 : 1 ≤ k) (h2 : k ≤ 31) (w : World) : Calls Tryd.prog 84 #[.agg (wC n).toArray, .int .i64 z] w (Ans w (.agg (wC (rotr n k)).toArray)) := rturn n k z w hz h h1 h2
theorem kmove (n k : Nat) (z : Int) (hz : z = (k : Int)) (h : n ≤ 4294967295) (h2 : k ≤ 31) (w : World) : Calls Tryd.prog 85 #[.agg (wC n).toArray, .int .i64 z] w (Ans w (.agg (wC (n / 2 ^ k)).toArray)) := rmove n k z w hz h h2
theorem kthree (a b c : Nat) (w : World) : Calls Tryd.prog 83 #[.agg (wC a).toArray, .agg (wC b).toArray, .agg (wC c).toArray] w (Ans w (.agg (wC (a ^^^ b ^^^ c)).toArray)) := rthree a b c w
theorem kval (n : Nat) (h : n ≤ 4294967295) (w : World) : Calls Tryd.prog 82 #[.agg (wC n).toArray] w (Ans w (.int .i64 (n : Int))) := rvalue_any n w h
theorem kxor (a b : Nat) (w : World) : Calls Tryd.prog 86 #[.agg (wC a).toArray, .agg (wC b).toArray] w (Ans w (.agg (wC (a ^^^ b)).toArray)) := rxor a b w
theorem kand (a b : Nat) (w : World) : Calls Tryd.prog 87 #[.agg (wC a).toArray, .agg (wC b).toArray] w (Ans w (.agg (wC (a &&& b)).toArray)) := rand a b w
theorem knot (n : Nat) (h : n ≤ 4294967295) (w : World) : Calls Tryd.prog 88 #[.agg (wC n).toArray] w (Ans w (.agg (wC (4294967295 - n)).toArray)) := rnot n w h
theorem ksum (a b c d e : Nat) (ha : a ≤ 4294967295) (hb : b ≤ 4294967295) (hc : c ≤ 4294967295) (hd : d ≤ 4294967295) (he : e ≤ 4294967295) (w : World) :
    Calls Tryd.prog 81 #[.int .i64 (a : Int), .int .i64 (b : Int), .int .i64 (c : Int), .int .i64 (d : Int), .int .i64 (e : Int)] w (Ans w (.int .i64 (((a + b + c + d + e) % 4294967296 : Nat) : Int))) :=
  (rsum_any a b c d e w ha hb hc hd he).mono fun _ _ ⟨h1, h2⟩ => ⟨h1, h2 ▸ Below.refl _ _⟩
/-- A word in block g. -/
def Bw (W : World) (g n : Nat) : Prop := Bo W g (fL (fW n))
theorem Bw.range {W : World} {g n : Nat} (h : Bw W g n) : W.rangeAt g 0 (wC n) := rangeAt_bits h
theorem Bw.below {W V : World} {g n : Nat} (h : Bw W g n) (hb : Below W.heap.size W V) : Bw V g n := (hb.block g (Bo.lt h)).trans h
theorem wsize (n : Nat) : (Tryd.prog.info? 128).map (·.size) = some (wC n).length := by rw [size128, wC_length]
/-- What stands in the first loop. -/
structure M1 (w W : World) (t : Array Value) (b : List UInt8) (k : Nat) (v : Value) : Prop where
  bel : Below w.heap.size w W
  t : W.heap[w.heap.size]? = some (.cells t 27 (0, 0))
  o : W.ownsRow (w.heap.size + 1) 3 1 v k (intC (spK b k))
theorem M1.step {w W V : World} {t : Array Value} {b : List UInt8} {k : Nat} {v : Value} (h : M1 w W t b k v) (hb : Below W.heap.size W V) : M1 w V t b k v :=
  ⟨bstep h.bel hb, (hb.block _ (Array.getElem?_eq_some_iff.1 h.t).1).trans h.t, own_below h.o hb (Nat.le_refl _)⟩
theorem M1.app {w W W3 : World} {t : Array Value} {b : List UInt8} {k : Nat} {v v3 : Value} (C : M1 w W t b k v) (o : Obj) {n : Nat} (hn : spK b (k + 1) = spK b k ++ [n])
    (h : W3.ownsRow (w.heap.size + 1) 3 1 v3 (k + 1) (intC (spK b k) ++ [.int .i64 (n : Int)])) (hg : (W.alloc o).grownBy W3 v.ownBlock) : M1 w W3 t b (k + 1) v3 := by
  have G : W.grownBy W3 v.ownBlock := (World.grownBy_alloc W o _).trans hg
  have hv : ∀ g, v.ownBlock = some g → w.heap.size + 1 ≤ g := fun g hg => (C.o.lt g hg).1
  refine ⟨C.bel.grown G C.bel.size (fun g hg => by have := hv g hg; omega), ?_, ?_⟩
  · exact (G.block _ (Array.getElem?_eq_some_iff.1 C.t).1 (fun e => by have := hv _ e.symm; omega)).trans C.t
  · rw [hn, intC_snoc]; exact h
theorem M1.cell {w W : World} {t : Array Value} {b : List UInt8} {k g cap : Nat} (C : M1 w W t b k (.slice (some ⟨g, 0, none⟩) k cap)) (j : Nat) (hj : j < k) : W.cell? ⟨g, j, none⟩ = some (.int .i64 (((spK b k).getD j 0 : Nat) : Int)) := by
  rw [C.o.cellAt j (by omega), intC_get _ _ (by rw [spK_len]; exact hj)]
end Go.Proofs.YtfdeegafdaobdaaDoor

namespace Go.Proofs.YtfdeegafdaobdaaDoor
open Go.RowKit Go.ChangeShapes

/-- If i has come up, v is r. -/
def CI (l : Array Bool) (i : Nat) (v r : Value) : Prop := l.getD i false = true → v = r
theorem CI.new (l : Array Bool) (i : Nat) (r : Value) : CI l i r r := fun _ => rfl
theorem CI.other {l : Array Bool} {i j : Nat} {v r : Value} (h : CI l i v r) (hne : j ≠ i) : CI (l.setIfInBounds j true) i v r := fun k => h (by rw [getD_set_ne false hne] at k; exact k)
/-- If i has come up, v points to a new block of a word. -/
def AI (l : Array Bool) (i H : Nat) (W : World) (v : Value) : Prop := l.getD i false = true → ∃ g, v = .pointer (some ⟨g, 0, none⟩) ∧ H ≤ g ∧ Bo W g (fL fun _ => false)
theorem AI.new (l : Array Bool) (i H : Nat) (W : World) (h : H ≤ W.heap.size) : AI l i H (W.alloc (.cells (bC (fL fun _ => false)) 128)) (.pointer (some ⟨W.heap.size, 0, none⟩)) := fun _ => ⟨_, rfl, h, Bo.new W _⟩
theorem AI.other {l : Array Bool} {i H j : Nat} {W V : World} {v : Value} (h : AI l i H W v) (hne : j ≠ i) (hb : Below W.heap.size W V) : AI (l.setIfInBounds j true) i H V v := fun k => by
  obtain ⟨g, h1, h2, h3⟩ := h (by rw [getD_set_ne false hne] at k; exact k)
  exact ⟨g, h1, h2, (hb.block g h3.lt).trans h3⟩
/-- If i and j have come up, what they made is not one block. -/
def DI (l : Array Bool) (i j : Nat) (v u : Value) : Prop := l.getD i false = true → l.getD j false = true → ∀ g, v = .pointer (some ⟨g, 0, none⟩) → u ≠ .pointer (some ⟨g, 0, none⟩)
theorem DI.other {l : Array Bool} {i j k : Nat} {v u : Value} (h : DI l i j v u) (h1 : k ≠ i) (h2 : k ≠ j) : DI (l.setIfInBounds k true) i j v u := fun a b => h (by rw [getD_set_ne false h1] at a; exact a) (by rw [getD_set_ne false h2] at b; exact b)
theorem DI.new1 {l : Array Bool} {i j H : Nat} {W : World} {u : Value} (h : AI l j H W u) (hne : i ≠ j) : DI (l.setIfInBounds i true) i j (.pointer (some ⟨W.heap.size, 0, none⟩)) u := fun _ b g hg hu => by
  obtain ⟨g', h1, _, h3⟩ := h (by rw [getD_set_ne false hne] at b; exact b)
  rw [h1] at hu
  injection hg with e1; injection e1 with e1; injection e1 with e1
  injection hu with e2; injection e2 with e2; injection e2 with e2
  have := h3.lt
  omega
theorem DI.symm {l : Array Bool} {i j : Nat} {v u : Value} (h : DI l i j v u) : DI l j i u v := fun a b g hu hv => h b a g hv hu
theorem bel_al {H : Nat} {A W : World} (h : Below H A W) (hH : H ≤ W.heap.size) (o : Obj) : Below H A (W.alloc o) := h.alloc hH o
section
variable {P : Program} {ops : Array Oper} {Q : Exit → Act → World → Prop} {md : Region.Mode} {S : World → Prop} {B : List Nat}
theorem anyB_inv2 (L R : List Nat) (lf : Array Bool) (m : Nat) (hst : staticB md ops L R lf = true) (I : Act → Array Bool → Act → World → Prop) {a0 : Act} {w0 : World} {l0 : Array Bool} (k : Nat)
    (hl0 : ((l0.size == ops.size && shutB md ops l0) && ((List.range ops.size).all fun j => L.contains j || R.contains j || l0.getD j false)) && ((R.all fun j => !l0.getD j true) && decide ((L.filter fun i => !l0.getD i false).length ≤ k)) = true)
    (hS : ∀ l a w, I a0 l a w → S w)
    (hstep : ∀ i ∈ L, ∀ l a w, I a0 l a w → i ∈ Region.ready md ops l → wpOp P ops Q i (fun b v => I a0 (l.setIfInBounds i true) b v) a w)
    (hI : I a0 l0 a0 w0)
    (hend : ∀ n a w, I a0 lf a w → anyB P md ops Q S B (n + m) lf a w) : anyB P md ops Q S B (k + m) l0 a0 w0 := by
  simp only [Bool.and_eq_true, List.all_eq_true, beq_iff_eq, List.mem_range, Bool.not_eq_true', decide_eq_true_eq, Bool.or_eq_true] at hl0
  obtain ⟨⟨⟨h1, h0⟩, h2⟩, h3, h4⟩ := hl0
  refine anyB_inv L R lf m hst (I a0) hS hstep hend k l0 a0 w0 hI h1 (shutB_spec h0) (fun j hj hL hR => ?_) h3 h4
  rcases h2 j hj with (h | h) | h
  · exact absurd (List.contains_iff_mem.1 h) hL
  · exact absurd (List.contains_iff_mem.1 h) hR
  · exact h
end
theorem Bo.row2 {W : World} {g g' : Nat} {l : List Bool} (h : Bo W g l) (hne : g ≠ g') (cs : Array Value) : Bo (W.setRow g' cs) g l := (setRow_other W g' g cs hne).trans h
theorem smX_le {x : Nat} (h : x ≤ 4294967295) : smX x ≤ 4294967295 := isW_xor (isW_xor (isW_rotr h _) (isW_rotr h _)) (isW_div h _)
theorem smY_le {x : Nat} (h : x ≤ 4294967295) : smY x ≤ 4294967295 := isW_xor (isW_xor (isW_rotr h _) (isW_rotr h _)) (isW_div h _)
theorem bigE_le {x : Nat} (h : x ≤ 4294967295) : bigE x ≤ 4294967295 := isW_xor (isW_xor (isW_rotr h _) (isW_rotr h _)) (isW_rotr h _)
theorem bigA_le {x : Nat} (h : x ≤ 4294967295) : bigA x ≤ 4294967295 := isW_xor (isW_xor (isW_rotr h _) (isW_rotr h _)) (isW_rotr h _)
theorem chW_le {e f g : Nat} (he : e ≤ 4294967295) (hf : f ≤ 4294967295) (hg : g ≤ 4294967295) : chW e f g ≤ 4294967295 := isW_xor (isW_and he hf) (isW_and (isW_not e) hg)
theorem maj_le {a b c : Nat} (ha : a ≤ 4294967295) (hb : b ≤ 4294967295) (hc : c ≤ 4294967295) : maj a b c ≤ 4294967295 := isW_xor (isW_xor (isW_and ha hb) (isW_and ha hc)) (isW_and hb hc)
/-- What stands in the second loop. -/
structure M3 (w W : World) (t : Array Value) (b : List UInt8) (gv cv gb : Nat) (s : W8) : Prop where
  m : M1 w W t b 64 (.slice (some ⟨gv, 0, none⟩) 64 cv)
  c : ∀ j, j < 8 → W.cell? ⟨gb, j, none⟩ = some (.int .i64 ((s.list.getD j 0 : Nat) : Int))
  l : gb < W.heap.size
theorem M3.step {w W V : World} {t : Array Value} {b : List UInt8} {gv cv gb : Nat} {s : W8} (h : M3 w W t b gv cv gb s) (hb : Below W.heap.size W V) : M3 w V t b gv cv gb s :=
  ⟨h.m.step hb, fun j hj => (hb.cell (p := ⟨gb, j, none⟩) h.l).trans (h.c j hj), Nat.lt_of_lt_of_le h.l hb.size⟩
theorem M3.new {w W : World} {t : Array Value} {b : List UInt8} {gv cv gb : Nat} {s s' : W8} (h : M3 w W t b gv cv gb s) (x0 x1 x2 x3 x4 x5 x6 x7 : Nat) (hl : s'.list = [x0, x1, x2, x3, x4, x5, x6, x7]) (ty : TypeId) :
    M3 w (W.alloc (.cells #[.int .i64 (x0 : Int), .int .i64 (x1 : Int), .int .i64 (x2 : Int), .int .i64 (x3 : Int), .int .i64 (x4 : Int), .int .i64 (x5 : Int), .int .i64 (x6 : Int), .int .i64 (x7 : Int)] ty)) t b gv cv W.heap.size s' := by
  refine ⟨h.m.step ((Below.refl _ _).alloc (Nat.le_refl _) _), fun j hj => ?_, by simp⟩
  rw [cell_of_row _ _ j _ ty (0, 0) (heap_alloc_new W _), hl]
  rcases (by omega : j = 0 ∨ j = 1 ∨ j = 2 ∨ j = 3 ∨ j = 4 ∨ j = 5 ∨ j = 6 ∨ j = 7) with rfl | rfl | rfl | rfl | rfl | rfl | rfl | rfl <;> rfl
theorem W8.ok_le {s : W8} (h : s.ok) : (s.a ≤ 4294967295 ∧ s.b ≤ 4294967295 ∧ s.c ≤ 4294967295 ∧ s.d ≤ 4294967295) ∧ (s.e ≤ 4294967295 ∧ s.f ≤ 4294967295 ∧ s.g ≤ 4294967295 ∧ s.h ≤ 4294967295) := h
end Go.Proofs.YtfdeegafdaobdaaDoor
