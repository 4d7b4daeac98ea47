/- The reference: digit, power. -/
import Derived.Test.YtbadiljligcenaaDoorGE
namespace Go.Proofs.YtbadiljligcenaaDoor
open Go.RowKit Go.ChangeShapes
theorem built48 (x : Nat) : Tryd.prog.built 48 [(0, .int .i64 (x : Int))] = some (niC (x :: List.replicate 15 0)) := by kernel_rfl
theorem dN_two (n : Nat) (h : n < 4294967296) : (n % 65536 :: List.replicate 15 0).set 1 (n / 65536) = dN n := by
  have h1 : n / 65536 / 65536 = 0 := by omega
  have h2 : n / 65536 % 65536 = n / 65536 := by omega
  simp [dN, dih, h1, h2, List.replicate]
theorem dih_vah : ∀ l : List Nat, (∀ x ∈ l, x < 65536) → dih l.length (vah l) = l
  | [], _ => rfl
  | x :: l, h => by
    have hx := h x List.mem_cons_self
    have ih := dih_vah l (fun y hy => h y (List.mem_cons_of_mem _ hy))
    rw [List.length_cons, dih, vah, show (x + 65536 * vah l) % 65536 = x by omega, show (x + 65536 * vah l) / 65536 = vah l by omega, ih]
theorem dN_vah (l : List Nat) (hl : l.length = 16) (h : ∀ x ∈ l, x < 65536) : dN (vah l) = l := by
  have := dih_vah l h
  rwa [hl] at this
theorem wp_buildTo2 {P : Program} {o : Oper} {a : Act} {w : World} {K : Act → World → Prop} {Q : Exit → Act → World → Prop} (t : TypeId) (parts : Array (Nat × Operand)) (ho : o.op = .build t parts)
    (cells : Array Value) (hf : P.built t (parts.map fun (i, x) => (i, a.eval x)).toList = some cells) (h : K (a.put o.dst (.agg cells)) w) : o.wp P a w K Q :=
  wp_build t parts ho (by rw [hf]; rfl) (by rw [hf]; exact h)
set_option maxRecDepth 100000 in
set_option maxHeartbeats 8000000 in
theorem digit_any (n : Nat) (w : World) (h : n < 4294967296) : Calls Tryd.prog 31 #[.int .i64 (n : Int)] w fun e w' => e = .returned (.agg (niC (dN n))) ∧ Below w.heap.size w w' := by
  have hz := zero48
  have hq1 : (n : Int).tmod 65536 = ((n % 65536 : Nat) : Int) := by rw [Int.tmod_eq_emod_of_nonneg (by omega)]; rfl
  have hq2 : (n : Int) % 65536 = ((n % 65536 : Nat) : Int) := rfl
  have hq3 : (n : Int).tdiv 65536 = ((n / 65536 : Nat) : Int) := by rw [Int.tdiv_eq_ediv_of_nonneg (by omega)]; rfl
  have hq4 : (n : Int) / 65536 = ((n / 65536 : Nat) : Int) := rfl
  have HB := Lib.hid (built48 (n % 65536))
  have HD := Lib.hid (dN_two n h)
  obtain ⟨x, hx⟩ : ∃ x, n % 65536 = x := ⟨_, rfl⟩
  obtain ⟨y, hy⟩ : ∃ y, n / 65536 = y := ⟨_, rfl⟩
  rw [hx] at hq1 hq2 HB HD
  rw [hy] at hq3 hq4 HD
  have hxb : x < 65536 := by omega
  have hyb : y < 65536 := by omega
  have hA1 : Iar ((w.alloc (.cells (niC Z16) 48)).alloc (.cells (niC Z16) 48)) w.heap.size 48 Z16 := (Iar.new w 48 Z16).alloc _
  have hA2 : Iar ((w.alloc (.cells (niC Z16) 48)).alloc (.cells (niC Z16) 48)) (w.heap.size + 1) 48 Z16 := by
    have h := Iar.new (w.alloc (.cells (niC Z16) 48)) 48 Z16
    rwa [World.size_alloc] at h
  have hB : Below w.heap.size w ((w.alloc (.cells (niC Z16) 48)).alloc (.cells (niC Z16) 48)) := bstep1 (bstep1 (Below.refl _ _))
  have hb1 := below_setRow hB (show w.heap.size ≤ w.heap.size + 1 by omega) (niC (x :: List.replicate 15 0))
  have hr1 := hA2.row (x :: List.replicate 15 0)
  have hr0 : Iar (((w.alloc (.cells (niC Z16) 48)).alloc (.cells (niC Z16) 48)).setRow (w.heap.size + 1) (niC (x :: List.replicate 15 0))) w.heap.size 48 Z16 := (setRow_other _ _ _ _ (by omega)).trans hA1
  have HA2 := Lib.hid hA2
  have HSZ := Lib.hid (show (niC (x :: List.replicate 15 0)).size = 16 ∧ (niC Z16).size = 16 ∧ (niC (dN n)).size = 16 by refine ⟨?_, ?_, ?_⟩ <;> rw [niC_size] <;> first | rfl | exact dN_length n)
  have H1 := Lib.hid (And.intro hr0 (And.intro hr1 hb1))
  clear hA1 hA2 hB hb1 hr1 hr0 hx hy h
  go_enter Tryd.func31, Tryd.ntmps31
  go_upto_region 2 with (first
    | (refine wpList_plain (o := ⟨some 6, _, _, _, _, _⟩) rfl fun K hK => ?_; refine wp_buildTo2 48 _ rfl (niC (x :: List.replicate 15 0)) (by simp only [List.map_toArray, List.map_cons, List.map_nil]; exact HB.out) ?_; refine hK _ _ ?_; clear hK K)
    | (refine wpList_plain (o := ⟨none, _, _, _, _, _⟩) rfl fun K hK => ?_; refine wp_store_row 48 _ _ rfl (w.heap.size + 1) (niC (x :: List.replicate 15 0)) rfl rfl 48 _ HA2.out (by rw [size48, HSZ.out.1]) (by rw [HSZ.out.1, HSZ.out.2.1]) (niC_one _) ?_; refine hK _ _ ?_; clear hK K))
  clear hz HA2 HB
  generalize World.setRow (World.alloc (World.alloc w _) _) _ _ = V at H1 ⊢
  have cx := H1.out.2.1.getD (i := 1) (by rw [List.length_cons, List.length_replicate]; decide)
  have cf := H1.out.2.1.free 1
  have R2 := H1.out.2.1.set 1 y
  rw [HD.out] at R2
  have R1 := H1.out.1.other (a := ⟨w.heap.size + 1, 1, none⟩) (show w.heap.size ≠ w.heap.size + 1 by omega) (li y)
  have RB := H1.out.2.2.setCell (p := ⟨w.heap.size + 1, 1, none⟩) (show w.heap.size ≤ w.heap.size + 1 by omega) (li y)
  have HR := Lib.hid (And.intro R1 (And.intro R2 RB))
  have RB2 := Lib.hid (below_setRow RB (Nat.le_refl _) (niC (dN n)))
  have R12 := Lib.hid (R1.row (dN n))
  clear R1 R2 RB H1
  go_wp2_with (first | (refine wpList_load_row rfl 48 _ rfl (w.heap.size + 1) rfl 48 (niC (dN n)) (0, 0) _ HR.out.2.1 Tryd.underlying48 rfl (by rw [size48, HSZ.out.2.2]) ?_) | (refine wpList_store_row rfl 48 _ _ rfl w.heap.size (niC (dN n)) rfl rfl 48 _ HR.out.1 (by rw [size48, HSZ.out.2.2]) (by rw [HSZ.out.2.2, HSZ.out.2.1]) (niC_one _) ?_))
  exact bodyPost_ret (v := .agg (niC (dN n))) (results_cell_row (p := 2) (ty := 48) Tryd.results31 _ _ w.heap.size 48 _ (0, 0) _ rfl R12.out Tryd.underlying48 rfl (by rw [size48, HSZ.out.2.2])) rfl ⟨rfl, RB2.out⟩
end Go.Proofs.YtbadiljligcenaaDoor
