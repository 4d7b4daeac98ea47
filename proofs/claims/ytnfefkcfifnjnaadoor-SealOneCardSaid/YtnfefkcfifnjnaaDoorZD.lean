/- Contract of Apply. -/
import Derived.Test.YtnfefkcfifnjnaaDoorZS
import Derived.Test.YtnfefkcfifnjnaaDoorZW
namespace Go.Proofs.YtnfefkcfifnjnaaDoor
open Go.RowKit Go.Shelf
attribute [local go_sem] Oper.semAt_some

/-- What Apply returns: the octets, changed by blocks. -/
def AppR (f : List Nat) (s : List UInt8) (N : Nat) (w : World) (e : Ending) (w' : World) : Prop :=
  ∃ xs : List Blk, xs.map (·.1) = blksF f N ∧ e = .returned (.tuple #[.string (bs (xorC s (cat xs) (64 * N))), .int .i64 0]) ∧ Below w.heap.size w w'
/-- What the loop of Apply keeps, t having come and p octets being done. -/
structure Ia (w : World) (G R L cap : Nat) (s : List UInt8) (t : List UInt8) (p : Nat) (W : World) : Prop where
  o : Oc W G (xorC s t p)
  r : ∃ v, W.cell? ⟨R, 0, none⟩ = some v ∧ (p < L → v = .slice (some ⟨G, p, none⟩) (L - p) (cap - p))
  f : W.frozen? ⟨R, 0, none⟩ = false
  z : G < W.heap.size ∧ R < W.heap.size
  b : Below w.heap.size w W
theorem Ia.grown {w W V : World} {G R L cap p : Nat} {s t : List UInt8} (h : Ia w G R L cap s t p W) {row : Option Nat} (hg : W.grownBy V row) (hr : ∀ r, row = some r → G < r ∧ R < r ∧ w.heap.size ≤ r) (hw : w.heap.size ≤ W.heap.size) : Ia w G R L cap s t p V := by
  have hG := hg.block G h.z.1 (fun e => by have := hr G e.symm; omega)
  have hR := hg.block R h.z.2 (fun e => by have := hr R e.symm; omega)
  obtain ⟨v, h1, h2⟩ := h.r
  exact ⟨fun j hj => ⟨(World.cell?_of_block (a := ⟨G, j, none⟩) hG).trans (h.o j hj).1, (World.frozen?_of_block (a := ⟨G, j, none⟩) hG).trans (h.o j hj).2⟩,
    ⟨v, (World.cell?_of_block (a := ⟨R, 0, none⟩) hR).trans h1, h2⟩, (World.frozen?_of_block (a := ⟨R, 0, none⟩) hR).trans h.f, ⟨Nat.lt_of_lt_of_le h.z.1 hg.size, Nat.lt_of_lt_of_le h.z.2 hg.size⟩, h.b.grown hg hw (fun k e => (hr k e).2.2)⟩
/-- What is kept within a round: the slice at hand, z octets of this block to do. -/
structure Ib (w W0 : World) (G R : Nat) (sl : Value) (s t : List UInt8) (p : Nat) (W : World) : Prop where
  o : Oc W G (xorC s t p)
  r : W.cell? ⟨R, 0, none⟩ = some sl
  f : W.frozen? ⟨R, 0, none⟩ = false
  z : G < W.heap.size ∧ R < W.heap.size
  b : Below w.heap.size w W
  k : KeepsOthers W0 W
  x : KpX G R W0 W
theorem KpX.refl (b1 b2 : Nat) (A : World) : KpX b1 b2 A A := fun _ _ _ _ h _ _ => h
theorem KpX.set {b1 b2 : Nat} {A B : World} (h : KpX b1 b2 A B) {g : Nat} (hg : g = b1 ∨ g = b2) (i : Nat) (v : Value) : KpX b1 b2 A (B.setCell ⟨g, i, none⟩ v) := fun k cs t fr hk h1 h2 =>
  (heap_setCell_other B ⟨g, i, none⟩ k v (by rcases hg with rfl | rfl <;> assumption)).trans (h k cs t fr hk h1 h2)
theorem KpX.drew {b1 b2 : Nat} {A B : World} (h : KpX b1 b2 A B) : KpX b1 b2 A B.drew := h
theorem Ib.step {w W0 W : World} {G R : Nat} {sl : Value} {s t : List UInt8} {p : Nat} (h : Ib w W0 G R sl s t p W) (hp : p < s.length) (hGR : G ≠ R) (hwG : w.heap.size ≤ G) :
    Ib w W0 G R sl s t (p + 1) (W.drew.setCell ⟨G, p, none⟩ (by8 ((xorC s t p).getD p 0 ^^^ t.getD p 0))) := by
  have hR : (W.drew.setCell ⟨G, p, none⟩ (by8 ((xorC s t p).getD p 0 ^^^ t.getD p 0))).heap[R]? = W.heap[R]? := heap_setCell_other W.drew ⟨G, p, none⟩ R _ (by simp; omega)
  refine ⟨?_, (World.cell?_of_block (a := ⟨R, 0, none⟩) hR).trans h.r, (World.frozen?_of_block (a := ⟨R, 0, none⟩) hR).trans h.f, by simpa using h.z, h.b.drew.setCell hwG _, (h.k.trans (KeepsOthers.drew _)).trans (KeepsOthers.setCell _ _ _), h.x.drew.set (.inl rfl) _ _⟩
  rw [← xorC_step s t p hp]
  exact Oc.set (w := W.drew) h.o p _
theorem Ib.done {w W0 W : World} {G R : Nat} {sl : Value} {s T : List UInt8} {p z : Nat} (h : Ib w W0 G R sl s T (p + z) W) (a' : Option Addr) (L cap r C : Nat) (hz : z ≤ 64) (hz2 : z = 64 ∨ p + z = s.length) (hL : s.length = L) (hGR : G ≠ R) (hwR : w.heap.size ≤ R)
    (ha : z < C → a' = some ⟨G, p + z, none⟩) (hr : L - p = r) (hC : cap - p = C) (hrC : r ≤ C) :
    Ia w G R L cap s T (p + 64) (W.setCell ⟨R, 0, none⟩ (.slice a' (r - z) (C - z))) := by
  have hG : (W.setCell ⟨R, 0, none⟩ (.slice a' (r - z) (C - z))).heap[G]? = W.heap[G]? := heap_setCell_other W ⟨R, 0, none⟩ G _ hGR
  have e : xorC s T (p + 64) = xorC s T (p + z) := by
    rcases hz2 with rfl | hz2
    · rfl
    · rw [xorC_full _ _ _ (by omega), hz2]
  refine ⟨?_, ⟨_, World.cell?_setCell_same' _ _ _ (by rw [h.r]; rfl), fun hp => ?_⟩, by rw [World.frozen?_setCell]; exact h.f, by simpa using h.z, h.b.setCell hwR _⟩
  · rw [e]
    exact fun j hj => ⟨(World.cell?_of_block (a := ⟨G, j, none⟩) hG).trans (h.o j hj).1, (World.frozen?_of_block (a := ⟨G, j, none⟩) hG).trans (h.o j hj).2⟩
  · have hz3 : z = 64 := by omega
    subst hz3
    rw [ha (by omega), show r - 64 = L - (p + 64) by omega, show C - 64 = cap - (p + 64) by omega]
set_option maxRecDepth 100000 in
set_option maxHeartbeats 8000000 in
theorem apply_gen (K M : ByteArray) (f : List Nat) (c : Nat) (s : List UInt8) (L N : Nat) (w : World) (hv : ∀ w, Calls Tryd.prog 49 #[.string K, .string M, .int .i64 (c : Int)] w fun e w' => e = .returned (.int .i64 0) ∧ w = w')
    (hbg : ∀ w, Calls Tryd.prog 51 #[.string K, .string M, .int .i64 (c : Int)] w fun e w' => e = .returned (.agg (wsC f)) ∧ Below w.heap.size w w') (hfl : f.length = 16) (hfw : AllW f)
    (hL : s.length = L) (hN : (L + 63) / 64 = N) (hL4 : L ≤ 4096) (hc2 : (c : Int) ≤ 4294967295) (hb1 : (c : Int) + (N : Int) - 1 ≤ 4294967295) :
    Calls Tryd.prog 23 #[.string K, .string M, .int .i64 (c : Int), .string (bs s)] w (AppR f s N w) := by
  refine (callsIn_wide (n := 5)).1 ?_
  have HV := Lib.hid hv
  have HBg := Lib.hid hbg
  have HF := Lib.hid hfl
  have HFW := Lib.hid hfw
  obtain ⟨cap, W1, hcap, hconv, hO1, hB1, hz1⟩ := bytes_made (bs s) w
  rw [bs_data] at hO1
  have hsz : (bs s).size = L := by rw [bs_size, hL]
  have hN1 : ((L : Int) + 64 - 1) / 64 = (N : Int) := by omega
  have hN2 : (N : Int) ≤ 64 := by omega
  have hx : xorC s [] 0 = s := xorC_zero s []
  rw [hsz] at hcap hconv
  have HH := Lib.hid (And.intro hL hN)
  have HO1 := Lib.hid hO1
  have HB1 := Lib.hid hB1
  have HZ1 := Lib.hid hz1
  have HX := Lib.hid hx
  clear hO1 hB1 hL hN hx hz1 hv hbg hfl hfw
  refine callsIn_of_wp_marks Tryd.func23 rfl trivial ?_ rfl
  simp only [Tryd.ntmps23, List.size_toArray, List.length_cons, List.length_nil, Nat.reduceAdd, Nat.reduceSub, Array.replicate_succ, Array.replicate_zero, List.push_toArray, List.append_toArray, List.nil_append, List.cons_append]
  refine wpIn_wide.2 ?_
  go_wp2_with (first
    | (go_at_call 49; (with_reducible refine (HV.out _).mono ?_); rintro e V ⟨rfl, rfl⟩)
    | (go_at_call 51; (with_reducible refine (HBg.out _).mono ?_); rintro e w2 ⟨rfl, hb2⟩)
    | (go_at_call 50; (with_reducible refine (blocks_any _ _ _).mono ?_); rintro e w3 ⟨rfl, rfl⟩))
  refine (wpIn_wide (n := 5)).1 ?_
  have hGR : W1.heap.size = w.heap.size + 1 := HZ1.out
  have hw2 := hb2.size
  rw [World.size_alloc] at hw2
  have hO2 : Oc w2 w.heap.size s := fun j hj => ⟨(hb2.cell (p := ⟨w.heap.size, j, none⟩) (by simp; omega)).trans ((World.cell?_alloc_lt _ _ _ (by show w.heap.size < W1.heap.size; omega)).trans (HO1.out j hj).1),
    (hb2.frozen (p := ⟨w.heap.size, j, none⟩) (by simp; omega)).trans ((World.frozen?_of_block (heap_alloc_old _ _ _ (by show w.heap.size < W1.heap.size; omega))).trans (HO1.out j hj).2)⟩
  have hR2 : w2.heap[W1.heap.size]? = some (.cells #[.slice (some ⟨w.heap.size, 0, none⟩) L cap] 25 (0, 0)) := (hb2.block _ (by simp)).trans (heap_alloc_new W1 _)
  have hB2 : Below w.heap.size w w2 := (HB1.out.alloc (by omega) _).trans (hb2.mono (by simp; omega))
  have hAf : Arr ((w2.alloc (.cells (wsC f) 84)).alloc (.cells #[.int .i64 (N : Int)] 3)) w2.heap.size 84 f := (Arr.new w2 84 f).alloc _
  have hCn : ((w2.alloc (.cells (wsC f) 84)).alloc (.cells #[.int .i64 (N : Int)] 3)).cell? ⟨w2.heap.size + 1, 0, none⟩ = some (.int .i64 (N : Int)) := by
    have := heap_alloc_new (w2.alloc (.cells (wsC f) 84)) (.cells #[.int .i64 (N : Int)] 3)
    rw [World.size_alloc] at this
    exact cell_of_row _ _ 0 _ 3 (0, 0) this
  have hI0 : Ia w w.heap.size W1.heap.size L cap s [] 0 w2 := ⟨by rw [HX.out]; exact hO2, ⟨_, cell_of_row _ _ 0 _ 25 (0, 0) hR2, fun _ => by simp⟩, frozen_of_row _ _ 0 _ 25 hR2, ⟨by omega, by omega⟩, hB2⟩
  have hI1 : Ia w w.heap.size W1.heap.size L cap s [] 0 ((w2.alloc (.cells (wsC f) 84)).alloc (.cells #[.int .i64 (N : Int)] 3)) := (hI0.grown (World.grownBy_alloc _ _ none) (fun r e => by cases e) hB2.size).grown (World.grownBy_alloc _ _ none) (fun r e => by cases e) (by simp; omega)
  have hVz : ((w2.alloc (.cells (wsC f) 84)).alloc (.cells #[.int .i64 (N : Int)] 3)).heap.size = w2.heap.size + 2 := by simp
  have hsq := blocks1_seq 4 w.heap.size W1.heap.size w2.heap.size (w2.heap.size + 1) N f ((w2.alloc (.cells (wsC f) 84)).alloc (.cells #[.int .i64 (N : Int)] 3)) (by decide) HF.out HFW.out (by omega) (by omega) (by omega) (by omega) (by omega) hAf hCn
  have HSQ := Lib.hid hsq
  have HI1 := Lib.hid hI1
  clear hsq hI0 hI1 hAf hCn hR2 hO2 hB2 hb2
  generalize ((w2.alloc (.cells (wsC f) 84)).alloc (.cells #[.int .i64 (N : Int)] 3)) = V at HSQ HI1 hVz ⊢
  obtain ⟨G, hG⟩ : ∃ G, w.heap.size = G := ⟨_, rfl⟩
  obtain ⟨R, hR⟩ : ∃ R, W1.heap.size = R := ⟨_, rfl⟩
  rw [hG, hR] at HSQ HI1 hGR ⊢
  rw [hR] at hw2
  have hHL := HH.out.1
  have hHN := HH.out.2
  have g1 : G < R := by omega
  have g2 : w.heap.size ≤ G := by omega
  have g3 : R ≤ V.heap.size := by omega
  have HEQ := Lib.hid (And.intro hG (And.intro hR (And.intro hGR (And.intro hHL hHN))))
  refine rangeC rfl (by decide) (gf := 79) (lb := #[.pointer (some ⟨w2.heap.size, 0, none⟩), .pointer (some ⟨w2.heap.size + 1, 0, none⟩)]) rfl trivial (enters_of Tryd.func79 (by kernel_rfl) rfl) HSQ.out (fun h k => h.trans k)
    (fun W A A' hA k cs t fr hk _ _ => (World.putObj_heap_other (by intro e; rw [e, hA] at hk; cases hk)).trans hk) (fun _ => rfl)
    (fun pre W => Ia w G R L cap s (cat pre) (64 * pre.length) W)
    (fun pre A B row h hg hr => h.grown hg (fun r e => by have := hr r e; omega) (by rw [hG]; have := h.z; omega))
    HI1.out
    (fun y : Blk => { tmps := #[.string K, .string M, .int .i64 (c : Int), .string (bs s), undef, undef, undef, undef, .string ⟨#[]⟩, .int .i64 0, .int .i64 0, .int .i64 (N : Int), .slice (some ⟨G, 0, none⟩) L cap, .pointer (some ⟨R, 0, none⟩), .string y.1, undef, undef, .string K, .string M, .int .i64 (c : Int), .int .i64 0, .int .i64 0, .bool false, undef, .string (bs s), .int .i64 (L : Int), .bool (decide (4096 < (L : Int))), .string (bs s), .int .i64 (L : Int), .int .i64 ((L : Int) + 64), .int .i64 ((L : Int) + 64 - 1), .int .i64 (N : Int), .int .i64 (c : Int), .int .i64 (N : Int), .int .i64 ((c : Int) + (N : Int)), .int .i64 ((c : Int) + (N : Int) - 1), .bool (decide (4294967295 < (c : Int) + (N : Int) - 1)), .string (bs s), .slice (some ⟨G, 0, none⟩) L cap, .slice (some ⟨G, 0, none⟩) L cap, .string K, .string M, .int .i64 (c : Int), .agg (wsC f), .int .i64 (N : Int), .func (.func 79) #[] #[.pointer (some ⟨w2.heap.size, 0, none⟩), .pointer (some ⟨w2.heap.size + 1, 0, none⟩)], .string y.1, undef, undef, undef, undef, undef, undef, undef, undef, undef, undef, undef, undef, undef, undef, undef, undef, undef, undef, undef, undef, undef, undef, undef, undef], defers := [] }) ?assign ?body ?done
  case assign =>
    intro l x W K' hK
    clear hGR hVz hG hR hHL hHN
    gi_wp2
    exact hK
  case body =>
    rintro l pre y W hI hlen
    obtain ⟨yb, hy⟩ := y
    have hp : 64 * pre.length < L := by omega
    obtain ⟨p, hpp⟩ : ∃ p, 64 * pre.length = p := ⟨_, rfl⟩
    obtain ⟨v, hv1, hv2⟩ := hI.r
    have hv3 := hv2 hp
    rw [hpp] at hv3 hp
    rw [hv3] at hv1
    obtain ⟨r, hr⟩ : ∃ r, L - p = r := ⟨_, rfl⟩
    obtain ⟨C, hC⟩ : ∃ C, cap - p = C := ⟨_, rfl⟩
    obtain ⟨T, hT⟩ : ∃ T, cat (pre ++ [⟨yb, hy⟩]) = T := ⟨_, rfl⟩
    have hr0 : 0 < r := by omega
    have hrC : r ≤ C := by omega
    rw [hr, hC] at hv1
    have hI0 : Ib w W G R (.slice (some ⟨G, p, none⟩) r C) s T p W := ⟨by
        rw [← hT, cat_snoc, xorC_app _ _ _ _ (by rw [cat_length, hpp]; exact Nat.le_refl _), ← hpp]; exact hI.o, hv1, hI.f, hI.z, hI.b, KeepsOthers.refl _, KpX.refl _ _ _⟩
    have HI0 := Lib.hid hI0
    have HPP := Lib.hid (And.intro hpp (And.intro hr (And.intro hC hT)))
    have hCt : ∀ j (h : j < yb.size), yb[j] = T.getD (p + j) 0 := fun j h => by
      rw [← hT, ← hpp, cat_get pre ⟨yb, hy⟩ j (by omega), List.getD_eq_getElem?_getD, List.getElem?_eq_getElem (by exact h)]; rfl
    have HCT := Lib.hid hCt
    have HYS := Lib.hid hy
    have hrL : p + r = L := by omega
    have hrs : p + r ≤ s.length := by omega
    have hyb : (yb.size : Int) = 64 := by omega
    clear hI hv2 hv3 hI0 hpp hCt hGR hVz hG hR hHL hHN hr hC hT hrL
    by_cases hge : r ≤ 64
    · obtain ⟨a', hrun0, hv'⟩ := slice_run G p r C r (by omega)
      have hrun : ∀ wx : World, (Instr.slice 25 (.slice (some ⟨G, p, none⟩) r C) (some (.int .i64 (r : Int))) none none).run Tryd.prog wx = .ok (.slice a' (r - r) (C - r)) wx := hrun0
      have HR := Lib.hid hrun
      have HV' := Lib.hid hv'
      clear hrun0 hrun hv'
      gi_wp2
      gi_loopw [53] (fun i W' => ∃ j : Nat, j ≤ r ∧ i = .int .i64 j ∧ Hid (Ib w W G R (.slice (some ⟨G, p, none⟩) r C) s T (p + j) W')) (fun i _ => r - (intOf i).toNat)
      case atStart => exact ⟨0, by omega, rfl, HI0⟩
      case round =>
        obtain ⟨j, hj, rfl, HIb⟩ := hrel
        clear hv1
        have r1 := HIb.out.r
        have r2 := HIb.out.f
        by_cases hlt : j < r
        · have hjr : j < r := by omega
          have hj64 : (j : Int) < 64 := by omega
          have hjy : j < yb.size := by have := HYS.out; omega
          obtain ⟨c1, c2⟩ := HIb.out.o (p + j) (by rw [xorC_length]; omega)
          have hx := u8_xor ((xorC s T (p + j)).getD (p + j) 0) (T.getD (p + j) 0)
          have hst := HIb.out.step (by omega) (by omega) g2
          rw [← HCT.out j hjy] at hx hst
          obtain ⟨A, hA⟩ : ∃ A, (xorC s T (p + j)).getD (p + j) 0 = A := ⟨_, rfl⟩
          rw [hA] at c1 hx hst
          have HST := Lib.hid hst
          clear hA hst r2
          gi_wp2
          have HU := Lib.hid (And.intro r1 c1)
          refine region_anyC_in (fun i o ho => ?_) (fun ⟨_, _, h⟩ => h) (fun _ => True) (fun w' => w'.cell? ⟨R, 0, none⟩ = some (.slice (some ⟨G, p, none⟩) r C) ∧ w'.cell? ⟨G, p + j, none⟩ = some (by8 A)) [9] (by kernel_rfl) ?_
          · have hi : i < 10 := (Array.getElem?_eq_some_iff.1 ho).1
            rcases (by omega : i = 0 ∨ i = 1 ∨ i = 2 ∨ i = 3 ∨ i = 4 ∨ i = 5 ∨ i = 6 ∨ i = 7 ∨ i = 8 ∨ i = 9) with rfl | rfl | rfl | rfl | rfl | rfl | rfl | rfl | rfl | rfl <;> (cases ho; first | exact ⟨fun c h => (by cases h), fun _ _ => rfl, fun ρ => .inl ⟨_, rfl⟩⟩ | exact ⟨fun c h => (by cases h), fun _ _ => rfl, fun ρ => .inl ⟨pure _, rfl⟩⟩ | exact ⟨fun c h => (by cases h), fun _ _ => rfl, fun ρ => .inr ⟨_, rfl⟩⟩)
          refine anyC_takeS (i := 1) (oi := ⟨some 57, _, _, _, _, _⟩) (v := _) rfl (by kernel_rfl) (by kernel_rfl) (by kernel_rfl) (by kernel_rfl) (fun _ _ _ h => h) (Or.inl ⟨by rfl, fun w' hw' => (by clear hw'; go_simp; try with_reducible rfl)⟩) trivial (fun _ => HU.out) ?_
          try simp only [Act.put, List.setIfInBounds_toArray, List.set_cons_zero, List.set_cons_succ]
          refine anyC_takeS (i := 4) (oi := ⟨some 60, _, _, _, _, _⟩) (v := _) rfl (by kernel_rfl) (by kernel_rfl) (by kernel_rfl) (by kernel_rfl) (fun _ _ _ h => h) (Or.inl ⟨by rfl, fun w' hw' => (by clear hw'; go_simp; try with_reducible rfl)⟩) trivial (fun _ => HU.out) ?_
          try simp only [Act.put, List.setIfInBounds_toArray, List.set_cons_zero, List.set_cons_succ]
          refine anyC_takeS (i := 5) (oi := ⟨some 61, _, _, _, _, _⟩) (v := _) rfl (by kernel_rfl) (by kernel_rfl) (by kernel_rfl) (by kernel_rfl) (fun _ _ _ h => h) (Or.inl ⟨by rfl, fun w' hw' => (by clear hw'; go_simp; try with_reducible rfl)⟩) trivial (fun _ => HU.out) ?_
          try simp only [Act.put, List.setIfInBounds_toArray, List.set_cons_zero, List.set_cons_succ]
          refine anyC_takeU (i := 0) (oi := ⟨some 56, _, _, _, _, _⟩) (v := _) rfl (by kernel_rfl) (by kernel_rfl) (by kernel_rfl) (by kernel_rfl) (fun _ _ _ h => h) (Or.inl ⟨by rfl, fun w' hw' => (by obtain ⟨h1, h2⟩ := hw'; go_simp; try with_reducible rfl)⟩) trivial HU.out ?_
          try simp only [Act.put, List.setIfInBounds_toArray, List.set_cons_zero, List.set_cons_succ]
          refine anyC_takeS (i := 2) (oi := ⟨some 58, _, _, _, _, _⟩) (v := _) rfl (by kernel_rfl) (by kernel_rfl) (by kernel_rfl) (by kernel_rfl) (fun _ _ _ h => h) (Or.inl ⟨by rfl, fun w' hw' => (by clear hw'; go_simp; try with_reducible rfl)⟩) trivial (fun _ => HU.out) ?_
          try simp only [Act.put, List.setIfInBounds_toArray, List.set_cons_zero, List.set_cons_succ]
          refine anyC_takeU (i := 3) (oi := ⟨some 59, _, _, _, _, _⟩) (v := _) rfl (by kernel_rfl) (by kernel_rfl) (by kernel_rfl) (by kernel_rfl) (fun _ _ _ h => h) (Or.inl ⟨by rfl, fun w' hw' => (by obtain ⟨h1, h2⟩ := hw'; go_simp; try with_reducible rfl)⟩) trivial HU.out ?_
          try simp only [Act.put, List.setIfInBounds_toArray, List.set_cons_zero, List.set_cons_succ]
          refine anyC_takeS (i := 6) (oi := ⟨some 62, _, _, _, _, _⟩) (v := _) rfl (by kernel_rfl) (by kernel_rfl) (by kernel_rfl) (by kernel_rfl) (fun _ _ _ h => h) (Or.inl ⟨by rfl, fun w' hw' => (by clear hw'; go_simp; try with_reducible rfl)⟩) trivial (fun _ => HU.out) ?_
          try simp only [Act.put, List.setIfInBounds_toArray, List.set_cons_zero, List.set_cons_succ]
          refine anyC_takeS (i := 7) (oi := ⟨some 63, _, _, _, _, _⟩) (v := _) rfl (by kernel_rfl) (by kernel_rfl) (by kernel_rfl) (by kernel_rfl) (fun _ _ _ h => h) (Or.inl ⟨by rfl, fun w' hw' => (by clear hw'; go_simp; try with_reducible rfl)⟩) trivial (fun _ => HU.out) ?_
          try simp only [Act.put, List.setIfInBounds_toArray, List.set_cons_zero, List.set_cons_succ]
          refine anyC_takeS (i := 8) (oi := ⟨some 64, _, _, _, _, _⟩) (v := _) rfl (by kernel_rfl) (by kernel_rfl) (by kernel_rfl) (by kernel_rfl) (fun _ _ _ h => h) (Or.inl ⟨by rfl, fun w' hw' => (by clear hw'; go_simp; try with_reducible rfl)⟩) trivial (fun _ => HU.out) ?_
          try simp only [Act.put, List.setIfInBounds_toArray, List.set_cons_zero, List.set_cons_succ]
          refine anyC_keep (i := 9) (o := ⟨none, _, _, _, _, _⟩) (by kernel_rfl) rfl (fun K hK => ?_)
          rw [if_pos (by rfl)]
          go_simp
          refine hK.out _ _ ⟨trivial, fun h => absurd h (by decide)⟩ ?_
          clear hK K
          try simp only [Act.put, List.setIfInBounds_toArray, List.set_cons_zero, List.set_cons_succ]
          refine anyC_done (by kernel_rfl) ?_ _
          gi_wp2
          go_roundw
          case rel => exact ⟨j + 1, by omega, by go_num, Lib.hid (by rw [← Nat.add_assoc]; exact HST.out)⟩
          case measure => simp [intOf]; omega
        · obtain rfl : j = r := by omega
          have hrun := HR.out
          clear HCT
          gi_wp2
          have hzz := HPP.out
          exact ⟨HIb.out.k.trans (KeepsOthers.setCell _ _ _), HIb.out.x.set (.inr rfl) _ _, by
            have e := HIb.out.done a' L cap j C (by omega) (by have := HEQ.out; have := HPP.out; omega) (by have := HEQ.out; omega) (by omega) (by omega) HV'.out (by omega) (by omega) (by omega)
            rw [← hzz.2.2.2] at e
            have e2 : 64 * (pre ++ [⟨yb, hy⟩] : List Blk).length = p + 64 := by rw [List.length_append]; simp; omega
            show Ia w G R L cap s (cat (pre ++ [⟨yb, hy⟩])) (64 * (pre ++ [⟨yb, hy⟩] : List Blk).length) _
            rw [e2]
            first | exact e | (rw [Nat.sub_self] at e; exact e)⟩
    · obtain ⟨a', hrun0, hv'⟩ := slice_run G p r C 64 (by omega)
      have hrun : ∀ wx : World, (Instr.slice 25 (.slice (some ⟨G, p, none⟩) r C) (some (.int .i64 64)) none none).run Tryd.prog wx = .ok (.slice a' (r - 64) (C - 64)) wx := hrun0
      have HR := Lib.hid hrun
      have HV' := Lib.hid hv'
      clear hrun0 hrun hv'
      gi_wp2
      gi_loopw [53] (fun i W' => ∃ j : Nat, j ≤ 64 ∧ i = .int .i64 j ∧ Hid (Ib w W G R (.slice (some ⟨G, p, none⟩) r C) s T (p + j) W')) (fun i _ => 64 - (intOf i).toNat)
      case atStart => exact ⟨0, by omega, rfl, HI0⟩
      case round =>
        obtain ⟨j, hj, rfl, HIb⟩ := hrel
        clear hv1
        have r1 := HIb.out.r
        have r2 := HIb.out.f
        by_cases hlt : j < 64
        · have hjr : j < r := by omega
          have hj64 : (j : Int) < 64 := by omega
          have hjy : j < yb.size := by have := HYS.out; omega
          obtain ⟨c1, c2⟩ := HIb.out.o (p + j) (by rw [xorC_length]; omega)
          have hx := u8_xor ((xorC s T (p + j)).getD (p + j) 0) (T.getD (p + j) 0)
          have hst := HIb.out.step (by omega) (by omega) g2
          rw [← HCT.out j hjy] at hx hst
          obtain ⟨A, hA⟩ : ∃ A, (xorC s T (p + j)).getD (p + j) 0 = A := ⟨_, rfl⟩
          rw [hA] at c1 hx hst
          have HST := Lib.hid hst
          clear hA hst r2
          gi_wp2
          have HU := Lib.hid (And.intro r1 c1)
          refine region_anyC_in (fun i o ho => ?_) (fun ⟨_, _, h⟩ => h) (fun _ => True) (fun w' => w'.cell? ⟨R, 0, none⟩ = some (.slice (some ⟨G, p, none⟩) r C) ∧ w'.cell? ⟨G, p + j, none⟩ = some (by8 A)) [9] (by kernel_rfl) ?_
          · have hi : i < 10 := (Array.getElem?_eq_some_iff.1 ho).1
            rcases (by omega : i = 0 ∨ i = 1 ∨ i = 2 ∨ i = 3 ∨ i = 4 ∨ i = 5 ∨ i = 6 ∨ i = 7 ∨ i = 8 ∨ i = 9) with rfl | rfl | rfl | rfl | rfl | rfl | rfl | rfl | rfl | rfl <;> (cases ho; first | exact ⟨fun c h => (by cases h), fun _ _ => rfl, fun ρ => .inl ⟨_, rfl⟩⟩ | exact ⟨fun c h => (by cases h), fun _ _ => rfl, fun ρ => .inl ⟨pure _, rfl⟩⟩ | exact ⟨fun c h => (by cases h), fun _ _ => rfl, fun ρ => .inr ⟨_, rfl⟩⟩)
          refine anyC_takeS (i := 1) (oi := ⟨some 57, _, _, _, _, _⟩) (v := _) rfl (by kernel_rfl) (by kernel_rfl) (by kernel_rfl) (by kernel_rfl) (fun _ _ _ h => h) (Or.inl ⟨by rfl, fun w' hw' => (by clear hw'; go_simp; try with_reducible rfl)⟩) trivial (fun _ => HU.out) ?_
          try simp only [Act.put, List.setIfInBounds_toArray, List.set_cons_zero, List.set_cons_succ]
          refine anyC_takeS (i := 4) (oi := ⟨some 60, _, _, _, _, _⟩) (v := _) rfl (by kernel_rfl) (by kernel_rfl) (by kernel_rfl) (by kernel_rfl) (fun _ _ _ h => h) (Or.inl ⟨by rfl, fun w' hw' => (by clear hw'; go_simp; try with_reducible rfl)⟩) trivial (fun _ => HU.out) ?_
          try simp only [Act.put, List.setIfInBounds_toArray, List.set_cons_zero, List.set_cons_succ]
          refine anyC_takeS (i := 5) (oi := ⟨some 61, _, _, _, _, _⟩) (v := _) rfl (by kernel_rfl) (by kernel_rfl) (by kernel_rfl) (by kernel_rfl) (fun _ _ _ h => h) (Or.inl ⟨by rfl, fun w' hw' => (by clear hw'; go_simp; try with_reducible rfl)⟩) trivial (fun _ => HU.out) ?_
          try simp only [Act.put, List.setIfInBounds_toArray, List.set_cons_zero, List.set_cons_succ]
          refine anyC_takeU (i := 0) (oi := ⟨some 56, _, _, _, _, _⟩) (v := _) rfl (by kernel_rfl) (by kernel_rfl) (by kernel_rfl) (by kernel_rfl) (fun _ _ _ h => h) (Or.inl ⟨by rfl, fun w' hw' => (by obtain ⟨h1, h2⟩ := hw'; go_simp; try with_reducible rfl)⟩) trivial HU.out ?_
          try simp only [Act.put, List.setIfInBounds_toArray, List.set_cons_zero, List.set_cons_succ]
          refine anyC_takeS (i := 2) (oi := ⟨some 58, _, _, _, _, _⟩) (v := _) rfl (by kernel_rfl) (by kernel_rfl) (by kernel_rfl) (by kernel_rfl) (fun _ _ _ h => h) (Or.inl ⟨by rfl, fun w' hw' => (by clear hw'; go_simp; try with_reducible rfl)⟩) trivial (fun _ => HU.out) ?_
          try simp only [Act.put, List.setIfInBounds_toArray, List.set_cons_zero, List.set_cons_succ]
          refine anyC_takeU (i := 3) (oi := ⟨some 59, _, _, _, _, _⟩) (v := _) rfl (by kernel_rfl) (by kernel_rfl) (by kernel_rfl) (by kernel_rfl) (fun _ _ _ h => h) (Or.inl ⟨by rfl, fun w' hw' => (by obtain ⟨h1, h2⟩ := hw'; go_simp; try with_reducible rfl)⟩) trivial HU.out ?_
          try simp only [Act.put, List.setIfInBounds_toArray, List.set_cons_zero, List.set_cons_succ]
          refine anyC_takeS (i := 6) (oi := ⟨some 62, _, _, _, _, _⟩) (v := _) rfl (by kernel_rfl) (by kernel_rfl) (by kernel_rfl) (by kernel_rfl) (fun _ _ _ h => h) (Or.inl ⟨by rfl, fun w' hw' => (by clear hw'; go_simp; try with_reducible rfl)⟩) trivial (fun _ => HU.out) ?_
          try simp only [Act.put, List.setIfInBounds_toArray, List.set_cons_zero, List.set_cons_succ]
          refine anyC_takeS (i := 7) (oi := ⟨some 63, _, _, _, _, _⟩) (v := _) rfl (by kernel_rfl) (by kernel_rfl) (by kernel_rfl) (by kernel_rfl) (fun _ _ _ h => h) (Or.inl ⟨by rfl, fun w' hw' => (by clear hw'; go_simp; try with_reducible rfl)⟩) trivial (fun _ => HU.out) ?_
          try simp only [Act.put, List.setIfInBounds_toArray, List.set_cons_zero, List.set_cons_succ]
          refine anyC_takeS (i := 8) (oi := ⟨some 64, _, _, _, _, _⟩) (v := _) rfl (by kernel_rfl) (by kernel_rfl) (by kernel_rfl) (by kernel_rfl) (fun _ _ _ h => h) (Or.inl ⟨by rfl, fun w' hw' => (by clear hw'; go_simp; try with_reducible rfl)⟩) trivial (fun _ => HU.out) ?_
          try simp only [Act.put, List.setIfInBounds_toArray, List.set_cons_zero, List.set_cons_succ]
          refine anyC_keep (i := 9) (o := ⟨none, _, _, _, _, _⟩) (by kernel_rfl) rfl (fun K hK => ?_)
          rw [if_pos (by rfl)]
          go_simp
          refine hK.out _ _ ⟨trivial, fun h => absurd h (by decide)⟩ ?_
          clear hK K
          try simp only [Act.put, List.setIfInBounds_toArray, List.set_cons_zero, List.set_cons_succ]
          refine anyC_done (by kernel_rfl) ?_ _
          gi_wp2
          go_roundw
          case rel => exact ⟨j + 1, by omega, by go_num, Lib.hid (by rw [← Nat.add_assoc]; exact HST.out)⟩
          case measure => simp [intOf]; omega
        · obtain rfl : j = 64 := by omega
          have hrun := HR.out
          clear HCT
          gi_wp2
          have hzz := HPP.out
          exact ⟨HIb.out.k.trans (KeepsOthers.setCell _ _ _), HIb.out.x.set (.inr rfl) _ _, by
            have e := HIb.out.done a' L cap r C (by omega) (by omega) (by have := HEQ.out; omega) (by omega) (by omega) HV'.out (by omega) (by omega) (by omega)
            rw [← hzz.2.2.2] at e
            have e2 : 64 * (pre ++ [⟨yb, hy⟩] : List Blk).length = p + 64 := by rw [List.length_append]; simp; omega
            show Ia w G R L cap s (cat (pre ++ [⟨yb, hy⟩])) (64 * (pre ++ [⟨yb, hy⟩] : List Blk).length) _
            rw [e2]
            first | exact e | (rw [Nat.sub_self] at e; exact e)⟩
  case done =>
    rintro D xs W hD hS hI hK
    have hml : s.length ≤ 64 * xs.length := by
      have := congrArg List.length hS
      simp [blksF] at this
      omega
    have hxl : xs.length = N := by have := congrArg List.length hS; simpa [blksF] using this
    have hcv := run_convert_bytes_back (P := Tryd.prog) W 25 9 5 ⟨G, 0, none⟩ cap (xorC s (cat xs) (64 * xs.length)) Tryd.underlying25 Tryd.underlying5 Tryd.underlying9 fun j hj => by
      have hadd : (⟨G, 0, none⟩ : Addr).add j = ⟨G, j, none⟩ := by unfold Addr.add; split <;> simp_all
      rw [hadd, (hI.o j hj).1, List.getD_eq_getElem?_getD, List.getElem?_eq_getElem hj]
      rfl
    rw [xorC_length, hHL, hxl] at hcv
    have hB := hI.b.trans (belowK_b (w := w) (Nat.le_refl _) W D (.deferred (some [])) (.deferred none) (by omega) hK rfl rfl)
    have HB := Lib.hid hB
    have HS := Lib.hid hS
    have HK := Lib.hid hK
    clear hI hB hS hK hxl hml hGR hVz hG hR hHL hHN
    go_wp2
    refine ⟨by simp, .inl ⟨_, _, rfl, run_takeDeferred HK.out, ?_⟩⟩
    exact ⟨.tuple #[.string (bs (xorC s (cat xs) (64 * N))), .int .i64 0], by simp [results, Tryd.results23, go_sem]; rfl, xs, HS.out, rfl, HB.out⟩
theorem apply_ok (k n : List UInt8) (c : Nat) (s : List UInt8) (w : World) (hk : k.length = 32) (hn : n.length = 12) (hc : c ≤ 4294967295) (hs : s.length ≤ 4096) (hb : c + (s.length + 63) / 64 ≤ 4294967296) :
    Calls Tryd.prog 23 #[.string (bs k), .string (bs n), .int .i64 (c : Int), .string (bs s)] w fun e w' => e = .returned (.tuple #[.string (bs (appO k n c s)), .int .i64 0]) ∧ Below w.heap.size w w' :=
  (apply_gen (bs k) (bs n) (beginW k n c) c s s.length ((s.length + 63) / 64) w (fun w => verify_yes (bs k) (bs n) (c : Int) w (decide_eq_true ⟨by rw [bs_size, hk], by rw [bs_size, hn], by omega, by omega⟩)) (fun w => begin_any k n c w hk hn hc) (beginW_length k n c) (beginW_all k n hc) rfl rfl hs (by omega) (by omega)).mono fun e w' h => by
    obtain ⟨xs, h1, h2, h3⟩ := h
    rw [xorC_app0 k n c s _ xs h1 (by omega) (.inl hb)] at h2
    exact ⟨h2, h3⟩
end Go.Proofs.YtnfefkcfifnjnaaDoor
