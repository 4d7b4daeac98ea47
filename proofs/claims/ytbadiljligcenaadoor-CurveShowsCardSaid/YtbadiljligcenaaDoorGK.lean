/- The reference: octets. -/
import Derived.Test.YtbadiljligcenaaDoorGJ
import Derived.Great.BuildSlice
namespace Go.Proofs.YtbadiljligcenaaDoor
open Go.RowKit Go.ChangeShapes
theorem dN_mod (v : Nat) : dN v = dN (v % two256) := by
  unfold dN
  rw [← pow16, dih_lo]
theorem Iar.twice {w : World} {g : Nat} {t : TypeId} {l : List Nat} (h : Iar w g t l) (i x : Nat) (hi : i < l.length) (n : Int) :
    (w.setCell ⟨g, i, none⟩ (.int .i64 n)).cell? ⟨g, i, none⟩ = some (.int .i64 n) ∧ (w.setCell ⟨g, i, none⟩ (.int .i64 n)).frozen? ⟨g, i, none⟩ = false ∧ Iar ((w.setCell ⟨g, i, none⟩ (.int .i64 n)).setCell ⟨g, i, none⟩ (li x)) g t (l.set i x) := by
  have h1 := heap_setCell_same w g i (niC l) t (.int .i64 n) h
  refine ⟨?_, frozen_of_row _ g i _ t h1, ?_⟩
  · rw [cell_of_row _ g i _ t (0, 0) h1]
    simp [niC, hi]
  · have h2 := heap_setCell_same _ g i _ t (li x) h1
    unfold Iar
    rw [h2]
    congr 2
    simp [niC, List.map_set]
theorem wp_append_two {o : Oper} {a : Act} {w : World} {K : Act → World → Prop} {Q : Exit → Act → World → Prop} (sl x : Operand)
    (ho : o.op = .call { callee := .builtin .append, args := #[sl, x], argTypes := #[32, 32] })
    (base : Nat) (v : Value) (n : Nat) (xs : List Value) (hs : a.eval sl = v) (hown : w.ownsRow base 5 1 v n xs) (g : Nat) (hx : a.eval x = .slice (some ⟨g, 0, none⟩) 2 2)
    (Y Z : Int) (hg : w.heap[g]? = some (.cells #[.int .u8 Y, .int .u8 Z] 5 (0, 0))) (hn : n ≤ 64) (hbase : base ≤ w.heap.size)
    (h : ∀ v' w', w'.ownsRow base 5 1 v' (n + 2) (xs ++ [.int .u8 Y, .int .u8 Z]) → w.grownBy w' v.ownBlock → K (a.put o.dst v') w') : o.wp Tryd.prog a w K Q := by
  obtain ⟨i0, hi, hz0, hz1, hz2⟩ := info_parts info5
  obtain ⟨v', w', hr, h2, h3, _⟩ := run_append_own (P := Tryd.prog) w base 32 o.type 5 i0 _ 1 1 Tryd.underlying32 hi hz0 hz1 hz2 rfl (by decide) v n xs hown ⟨g, 0, none⟩ 2 2 [.int .u8 Y, .int .u8 Z] rfl
    (World.news_of_block (cs := #[.int .u8 Y, .int .u8 Z]) (t := 5) (fr := (0, 0)) hg) (by simp [Value.oneCell']) (by unfold maxLen; omega) (by omega) hbase
  unfold Oper.wp execOp
  simp only [ho, resolve, invoke, builtin, Sem.run_bind, Sem.run_pure, Result.andThen_ok, List.map_toArray, List.map_cons, List.map_nil, hs, hx, hr]
  exact h v' w' h2 h3
theorem fill_two (y z : Nat) : Instr.fill (fun i => some (i * 1, 1)) ((Array.range (2 * 1)).map ((Value.int .u8 0).cells[· % (Value.int .u8 0).cells.size]!)) [(0, .int .u8 (y : Int)), (1, .int .u8 (z : Int))] = some #[.int .u8 (y : Int), .int .u8 (z : Int)] := by kernel_rfl
theorem pow_16 (k : Nat) : (65536 : Nat) ^ k = 256 ^ (2 * k) := by
  rw [Nat.pow_mul]
theorem oct_two (r k : Nat) (h : k < 16) : octV r (2 * (k + 1)) = octV r (2 * k) ++ [UInt8.ofNat (dgt r k % 256), UInt8.ofNat (dgt r k / 256)] := by
  have e : 2 * (k + 1) = 2 * k + 1 + 1 := by omega
  rw [e, octV_succ, octV_succ, List.append_assoc, dgt_get r k h, pow_16]
  have e1 : r / 256 ^ (2 * k + 1) = r / 256 ^ (2 * k) / 256 := by rw [Nat.pow_succ, Nat.div_div_eq_div_mul]
  rw [e1]
  generalize r / 256 ^ (2 * k) = q
  rw [show q % 65536 % 256 = q % 256 by omega, show q % 65536 / 256 = q / 256 % 256 by omega]
  rfl
set_option maxRecDepth 100000 in
set_option maxHeartbeats 8000000 in
theorem roctets_any (a : Nat) (w : World) (ha : a < two256) : Calls Tryd.prog 35 #[.agg (niC (dN a))] w fun e w' => e = .returned (.string (bs (octV (a % pC) 32))) ∧ Below w.heap.size w w' := by
  have h0 := Iar.new w 48 (dN a)
  have hB : Below w.heap.size w (w.alloc (.cells (niC (dN a)) 48)) := bstep1 (Below.refl _ _)
  have H0 := Lib.hid (And.intro h0 hB)
  have HA := Lib.hid ha
  clear h0 hB ha
  obtain ⟨am, ham⟩ : ∃ am, a % pC = am := ⟨_, rfl⟩
  rw [ham]
  have HAM := Lib.hid ham
  clear ham
  go_enter Tryd.func35, Tryd.ntmps35
  go_wp2
  generalize World.alloc w _ = V at H0 ⊢
  go_loopw [3, 4] (fun _ _ wr => ∃ r : Nat, Hid (r < two256 ∧ r % pC = am) ∧ Hid (Iar wr w.heap.size 48 (dN r) ∧ Below w.heap.size w wr)) (fun _ _ wr => rdW wr w.heap.size)
  case atStart => exact ⟨a, Lib.hid ⟨HA.out, HAM.out⟩, H0⟩
  case round =>
    clear H0 HA HAM
    obtain ⟨r, HR, H1⟩ := hrel
    have hls := fun W => less_any r W HR.out.1
    by_cases hrp : r < pC
    · rw [decide_eq_true hrp] at hls
      have HLS := Lib.hid hls
      have hmod : r = am := by rw [← HR.out.2, Nat.mod_eq_of_lt hrp]
      clear hls
      obtain ⟨i0, hi, hz0, hz1, hz2⟩ := info_parts info5
      have HI0 := Lib.hid (And.intro hi (And.intro hz0 (And.intro hz1 hz2)))
      clear hi hz0 hz1 hz2
      subst hmod
      go_wp2_with (refine wpList_load_row rfl 48 _ rfl w.heap.size rfl 48 (niC (dN r)) (0, 0) _ H1.out.1 Tryd.underlying48 rfl (by rw [size48, niC_size, dN_length]) ?_)
      (with_reducible refine (HLS.out _).mono ?_)
      rintro e W1 ⟨rfl, hb1⟩
      have hW1 : w.heap.size + 1 ≤ W1.heap.size := (H1.out.1.below hb1 H1.out.1.lt).lt
      have H2 : Hid (Iar W1 w.heap.size 48 (dN r) ∧ Below w.heap.size w W1 ∧ W1.ownsRow (w.heap.size + 1) 5 1 (.slice none 0 0) (2 * 0) (byC (octV r (2 * 0))) ∧ w.heap.size + 1 ≤ W1.heap.size) := Lib.hid ⟨H1.out.1.below hb1 H1.out.1.lt, bstep H1.out.2 hb1, World.ownsRow_nil _ _ _ _, hW1⟩
      clear hb1 HLS H1 hW1
      go_wp2
      go_loopw [5, 6] (fun v i wy => ∃ k : Nat, k ≤ 16 ∧ i = .int .i64 (k : Int) ∧ Hid (Iar wy w.heap.size 48 (dN r) ∧ Below w.heap.size w wy ∧ wy.ownsRow (w.heap.size + 1) 5 1 v (2 * k) (byC (octV r (2 * k))) ∧ w.heap.size + 1 ≤ wy.heap.size)) (fun _ i _ => 16 - (intOf i).toNat)
      case atStart => exact ⟨0, by omega, rfl, H2⟩
      case round =>
        clear H2
        obtain ⟨k, hk, rfl, H2⟩ := hrel
        by_cases hlt : k < 16
        · have hki : (k : Int) < 16 := by omega
          have cx := H2.out.1.getD (i := k) (by rw [dN_length]; exact hlt)
          change wr.cell? _ = some (li (dgt r k)) at cx
          have hxb := dgt_lt r k
          have ho2 := oct_two r k hlt
          obtain ⟨x, hx⟩ : ∃ x, dgt r k = x := ⟨_, rfl⟩
          rw [hx] at cx hxb ho2
          have a1 : (x : Int).tmod 256 = ((x % 256 : Nat) : Int) := by rw [Int.tmod_eq_emod_of_nonneg (by omega)]; rfl
          have a2 : (x : Int) % 256 = ((x % 256 : Nat) : Int) := rfl
          have a3 : (x : Int).tdiv 256 = ((x / 256 : Nat) : Int) := by rw [Int.tdiv_eq_ediv_of_nonneg (by omega)]; rfl
          have a4 : (x : Int) / 256 = ((x / 256 : Nat) : Int) := rfl
          obtain ⟨y, hy⟩ : ∃ y, x % 256 = y := ⟨_, rfl⟩
          obtain ⟨z, hz⟩ : ∃ y, x / 256 = y := ⟨_, rfl⟩
          rw [hy] at a1 a2 ho2
          rw [hz] at a3 a4 ho2
          have hyB : y < 256 := by omega
          have hzB : z < 256 := by omega
          have hby : byC [UInt8.ofNat y, UInt8.ofNat z] = [.int .u8 (y : Int), .int .u8 (z : Int)] := by
            have e1 : (UInt8.ofNat y).toNat = y := UInt8.toNat_ofNat_of_lt' (by show y < 256; omega)
            have e2 : (UInt8.ofNat z).toNat = z := UInt8.toNat_ofNat_of_lt' (by show z < 256; omega)
            simp [byC, e1, e2]
          have HO : Hid (byC (octV r (2 * k)) ++ [.int .u8 (y : Int), .int .u8 (z : Int)] = byC (octV r (2 * (k + 1)))) := Lib.hid (by rw [ho2, ← hby]; simp [byC])
          have b1 : IntKind.u8.wrap (y : Int) = (y : Int) := by rw [IntKind.wrap_u8]; omega
          have b2 : IntKind.u8.wrap (z : Int) = (z : Int) := by rw [IntKind.wrap_u8]; omega
          have b3 : IntKind.i64.wrap (y : Int) = (y : Int) := i64_nat (by omega)
          have b4 : IntKind.i64.wrap (z : Int) = (z : Int) := i64_nat (by omega)
          clear hxb ho2 hx hy hz hby
          go_upto_region 16 with fail
          have HU0 := Lib.hid (show wr.drew.cell? ⟨w.heap.size, k, none⟩ = some (.int .i64 (x : Int)) from cx)
          have HO2 : Hid (wr.drew.ownsRow (w.heap.size + 1) 5 1 u5 (2 * k) (byC (octV r (2 * k))) ∧ w.heap.size + 1 ≤ (wr.drew.alloc (.cells #[.int .u8 (y : Int), .int .u8 (z : Int)] 5)).heap.size) := Lib.hid ⟨H2.out.2.2.1, by have := H2.out.2.2.2; simp; omega⟩
          refine region_anyC (fun _ => True) (fun w' => w'.cell? ⟨w.heap.size, k, none⟩ = some (.int .i64 (x : Int))) [11, 12] (by kernel_rfl) ?_
          refine anyC_takeS (i := 0) (oi := ⟨some 39, _, _, _, _, _⟩) (v := _) rfl (by kernel_rfl) (by kernel_rfl) (by kernel_rfl) (by kernel_rfl) (fun _ _ _ h => h) (Or.inl ⟨by rfl, fun w' hw' => (by clear hw'; go_simp; try with_reducible rfl)⟩) trivial (fun _ => HU0.out) ?_
          try simp only [Act.put, List.setIfInBounds_toArray, List.set_cons_zero, List.set_cons_succ]
          refine anyC_takeS (i := 1) (oi := ⟨some 40, _, _, _, _, _⟩) (v := _) rfl (by kernel_rfl) (by kernel_rfl) (by kernel_rfl) (by kernel_rfl) (fun _ _ _ h => h) (Or.inl ⟨by rfl, fun w' hw' => (by clear hw'; go_simp; try with_reducible rfl)⟩) trivial (fun _ => HU0.out) ?_
          try simp only [Act.put, List.setIfInBounds_toArray, List.set_cons_zero, List.set_cons_succ]
          refine anyC_takeS (i := 2) (oi := ⟨some 41, _, _, _, _, _⟩) (v := _) rfl (by kernel_rfl) (by kernel_rfl) (by kernel_rfl) (by kernel_rfl) (fun _ _ _ h => h) (Or.inl ⟨by rfl, fun w' hw' => (by clear hw'; go_simp; try with_reducible rfl)⟩) trivial (fun _ => HU0.out) ?_
          try simp only [Act.put, List.setIfInBounds_toArray, List.set_cons_zero, List.set_cons_succ]
          refine anyC_takeU (i := 3) (oi := ⟨some 42, _, _, _, _, _⟩) (v := _) rfl (by kernel_rfl) (by kernel_rfl) (by kernel_rfl) (by kernel_rfl) (fun _ _ _ h => h) (Or.inl ⟨by rfl, fun w' hw' => (by have u1 := hw'; go_simp; try with_reducible rfl)⟩) trivial HU0.out ?_
          try simp only [Act.put, List.setIfInBounds_toArray, List.set_cons_zero, List.set_cons_succ]
          refine anyC_takeS (i := 4) (oi := ⟨some 43, _, _, _, _, _⟩) (v := _) rfl (by kernel_rfl) (by kernel_rfl) (by kernel_rfl) (by kernel_rfl) (fun _ _ _ h => h) (Or.inl ⟨by rfl, fun w' hw' => (by clear hw'; go_simp; try with_reducible rfl)⟩) trivial (fun _ => HU0.out) ?_
          try simp only [Act.put, List.setIfInBounds_toArray, List.set_cons_zero, List.set_cons_succ]
          refine anyC_takeS (i := 5) (oi := ⟨some 44, _, _, _, _, _⟩) (v := _) rfl (by kernel_rfl) (by kernel_rfl) (by kernel_rfl) (by kernel_rfl) (fun _ _ _ h => h) (Or.inl ⟨by rfl, fun w' hw' => (by clear hw'; go_simp; try with_reducible rfl)⟩) trivial (fun _ => HU0.out) ?_
          try simp only [Act.put, List.setIfInBounds_toArray, List.set_cons_zero, List.set_cons_succ]
          refine anyC_takeS (i := 6) (oi := ⟨some 45, _, _, _, _, _⟩) (v := _) rfl (by kernel_rfl) (by kernel_rfl) (by kernel_rfl) (by kernel_rfl) (fun _ _ _ h => h) (Or.inl ⟨by rfl, fun w' hw' => (by clear hw'; go_simp; try with_reducible rfl)⟩) trivial (fun _ => HU0.out) ?_
          try simp only [Act.put, List.setIfInBounds_toArray, List.set_cons_zero, List.set_cons_succ]
          refine anyC_takeS (i := 7) (oi := ⟨some 46, _, _, _, _, _⟩) (v := _) rfl (by kernel_rfl) (by kernel_rfl) (by kernel_rfl) (by kernel_rfl) (fun _ _ _ h => h) (Or.inl ⟨by rfl, fun w' hw' => (by clear hw'; go_simp; try with_reducible rfl)⟩) trivial (fun _ => HU0.out) ?_
          try simp only [Act.put, List.setIfInBounds_toArray, List.set_cons_zero, List.set_cons_succ]
          refine anyC_takeU (i := 8) (oi := ⟨some 47, _, _, _, _, _⟩) (v := _) rfl (by kernel_rfl) (by kernel_rfl) (by kernel_rfl) (by kernel_rfl) (fun _ _ _ h => h) (Or.inl ⟨by rfl, fun w' hw' => (by have u1 := hw'; go_simp; try with_reducible rfl)⟩) trivial HU0.out ?_
          try simp only [Act.put, List.setIfInBounds_toArray, List.set_cons_zero, List.set_cons_succ]
          refine anyC_takeS (i := 9) (oi := ⟨some 48, _, _, _, _, _⟩) (v := _) rfl (by kernel_rfl) (by kernel_rfl) (by kernel_rfl) (by kernel_rfl) (fun _ _ _ h => h) (Or.inl ⟨by rfl, fun w' hw' => (by clear hw'; go_simp; try with_reducible rfl)⟩) trivial (fun _ => HU0.out) ?_
          try simp only [Act.put, List.setIfInBounds_toArray, List.set_cons_zero, List.set_cons_succ]
          refine anyC_takeS (i := 10) (oi := ⟨some 49, _, _, _, _, _⟩) (v := _) rfl (by kernel_rfl) (by kernel_rfl) (by kernel_rfl) (by kernel_rfl) (fun _ _ _ h => h) (Or.inl ⟨by rfl, fun w' hw' => (by clear hw'; go_simp; try with_reducible rfl)⟩) trivial (fun _ => HU0.out) ?_
          try simp only [Act.put, List.setIfInBounds_toArray, List.set_cons_zero, List.set_cons_succ]
          refine anyC_keep (i := 11) (o := ⟨some 50, _, _, _, _, _⟩) (by kernel_rfl) rfl (fun K hK => ?_)
          rw [if_pos (by rfl)]
          refine wp_buildSlice 32 5 2 _ rfl #[.int .u8 (y : Int), .int .u8 (z : Int)] i0 (.int .u8 0) Tryd.underlying32 HI0.out.1 HI0.out.2.1 (by rw [HI0.out.2.2.1]; decide) (by rw [HI0.out.2.2.1]; decide) (by rw [HI0.out.2.2.1]; simp only [List.map_toArray, List.map_cons, List.map_nil]; exact fill_two y z) ?_
          refine hK.out _ _ ⟨trivial, (fun h => absurd h (by decide))⟩ ?_
          clear hK K
          try simp only [Act.put, List.setIfInBounds_toArray, List.set_cons_zero, List.set_cons_succ]
          refine anyC_keep (i := 12) (o := ⟨some 51, _, _, _, _, _⟩) (by kernel_rfl) rfl (fun K hK => ?_)
          rw [if_pos (by rfl)]
          refine wp_append_two _ _ rfl (w.heap.size + 1) _ (2 * k) (byC (octV r (2 * k))) rfl (HO2.out.1.alloc _) wr.heap.size rfl (y : Int) (z : Int) (heap_alloc_new wr.drew _) (by omega) HO2.out.2 ?_
          intro v2 w3 hown3 hg3
          refine hK.out _ _ ⟨trivial, (fun h => absurd h (by decide))⟩ ?_
          clear hK K
          try simp only [Act.put, List.setIfInBounds_toArray, List.set_cons_zero, List.set_cons_succ]
          refine anyC_takeS (i := 13) (oi := ⟨some 5, _, _, _, _, _⟩) (v := _) rfl (by kernel_rfl) (by kernel_rfl) (by kernel_rfl) (by kernel_rfl) (fun _ _ _ h => h) (Or.inl ⟨by rfl, fun w' hw' => (by clear hw'; go_simp; try with_reducible rfl)⟩) trivial (fun h => absurd h (by decide)) ?_
          try simp only [Act.put, List.setIfInBounds_toArray, List.set_cons_zero, List.set_cons_succ]
          refine anyC_done (by kernel_rfl) ?_ _
          have hg4 : (wr.drew.alloc (.cells #[.int .u8 (y : Int), .int .u8 (z : Int)] 5)).grownBy w3 u5.ownBlock := hg3
          rw [HO.out] at hown3
          have hB3 : Below w.heap.size w w3 := ((H2.out.2.1.drew).alloc H2.out.2.1.size _).grown hg4 (by have := H2.out.2.2.2; simp; omega) (fun g hg => by have := (H2.out.2.2.1.lt g hg).1; omega)
          have hA3 : Iar w3 w.heap.size 48 (dN r) := (hg4.block _ (by have := H2.out.2.2.2; simp; omega) (fun e => by have := (H2.out.2.2.1.lt _ e.symm).1; omega)).trans (H2.out.1.drew.alloc _)
          have HN : Hid (Iar w3 w.heap.size 48 (dN r) ∧ Below w.heap.size w w3 ∧ w3.ownsRow (w.heap.size + 1) 5 1 v2 (2 * (k + 1)) (byC (octV r (2 * (k + 1)))) ∧ w.heap.size + 1 ≤ w3.heap.size) := Lib.hid ⟨hA3, hB3, hown3, by have := hg4.size; have := HO2.out.2; omega⟩
          clear hg3 hg4 hown3 hB3 hA3 HO HO2 H2 HU0 cx
          go_wp2
          go_roundw
          case rel => exact ⟨k + 1, by omega, by go_num, HN⟩
          case measure => simp [intOf]; omega
        · obtain rfl : k = 16 := by omega
          have hcv := string_of_own (w := wr) (l := octV r 32) (by rw [octV_length]; exact H2.out.2.2.1)
          have HB9 := Lib.hid H2.out.2.1
          clear H2 HI0
          go_wp2
          go_ret
          exact ⟨rfl, HB9.out⟩
    · rw [decide_eq_false hrp] at hls
      have HLS := Lib.hid hls
      have HRP := Lib.hid hrp
      clear hls hrp
      go_wp2_with (refine wpList_load_row rfl 48 _ rfl w.heap.size rfl 48 (niC (dN r)) (0, 0) _ H1.out.1 Tryd.underlying48 rfl (by rw [size48, niC_size, dN_length]) ?_)
      (with_reducible refine (HLS.out _).mono ?_)
      rintro e W1 ⟨rfl, hb1⟩
      have H2 : Hid (Iar W1 w.heap.size 48 (qL r 0) ∧ Below w.heap.size w W1) := Lib.hid ⟨H1.out.1.below hb1 H1.out.1.lt, bstep H1.out.2 hb1⟩
      have HM := Lib.hid (show rdW wr w.heap.size = r by rw [H1.out.1.rd, vah_dN r HR.out.1])
      clear hb1 HLS H1
      go_wp2
      go_loopw [3, 4] (fun cv i wy => ∃ q : Nat, q ≤ 16 ∧ cv = .int .i64 ((qC r q : Nat) : Int) ∧ i = .int .i64 (q : Int) ∧ Hid (Iar wy w.heap.size 48 (qL r q) ∧ Below w.heap.size w wy)) (fun _ i _ => 16 - (intOf i).toNat)
      case atStart => exact ⟨0, by omega, rfl, rfl, H2⟩
      case round =>
        clear H2
        obtain ⟨q, hq, rfl, rfl, H4⟩ := hrel

        by_cases hq16 : q < 16
        · have hqi : (q : Int) < 16 := by omega
          have cx := H4.out.1.getD (i := q) (by rw [qL_length r q hq]; exact hq16)
          have cf := H4.out.1.free q
          have hxb := qL_get r q
          have hcb := qC_le r q
          obtain ⟨hs1, hs2⟩ := q_step r q hq16
          obtain ⟨x, hx⟩ : ∃ x, (qL r q).getD q 0 = x := ⟨_, rfl⟩
          obtain ⟨cc, hcc⟩ : ∃ x, qC r q = x := ⟨_, rfl⟩
          obtain ⟨z, hz⟩ : ∃ z, cc + x = z := ⟨_, rfl⟩
          rw [hx] at cx hxb hs1 hs2
          rw [hcc] at hcb hs1 hs2 ⊢
          rw [hz] at hs1 hs2
          have a1 : (cc : Int) + (x : Int) = (z : Int) := by omega
          have a2 : (z : Int).tmod 65536 = ((z % 65536 : Nat) : Int) := by rw [Int.tmod_eq_emod_of_nonneg (by omega)]; rfl
          have a3 : (z : Int) % 65536 = ((z % 65536 : Nat) : Int) := rfl
          have a4 : (z : Int).tdiv 65536 = ((z / 65536 : Nat) : Int) := by rw [Int.tdiv_eq_ediv_of_nonneg (by omega)]; rfl
          have a5 : (z : Int) / 65536 = ((z / 65536 : Nat) : Int) := rfl
          have R2 := H4.out.1.set q (z % 65536)
          rw [hs1] at R2
          have RB := H4.out.2.setCell (p := ⟨w.heap.size, q, none⟩) (Nat.le_refl _) (li (z % 65536))
          have HR2 := Lib.hid (And.intro R2 RB)
          have HS2 := Lib.hid hs2
          have hzl : z ≤ 200000 := by omega
          generalize hzm : z % 65536 = zm at a2 a3 HR2
          generalize hzd : z / 65536 = zd at a4 a5 HS2
          have hzm2 : zm < 65536 := by omega
          have hzd2 : zd < 65536 := by omega
          have a1w : IntKind.i64.wrap (z : Int) = (z : Int) := i64_nat (by omega)
          clear R2 RB hs1 hs2 hx hcc hz hxb hcb hzm hzd H4
          go_wp2
          go_roundw
          case rel => exact ⟨q + 1, by omega, by rw [HS2.out], by go_num, HR2⟩
          case measure => simp [intOf]; omega
        · obtain rfl : q = 16 := by omega
          obtain ⟨e1, e2⟩ := q_end r HR.out.1
          have H5 := Lib.hid H4.out.1
          rw [e1] at H5
          rw [e2]
          have hpr := prime_away r HR.out.1 (by have := HRP.out; omega)
          have HNR : Hid (r - pC < two256 ∧ (r - pC) % pC = am) := Lib.hid ⟨hpr.1, hpr.2.1.trans HR.out.2⟩
          have HLT := Lib.hid hpr.2.2
          have hp2 := p_two255
          have hrp := HRP.out
          have hrt := HR.out.1
          have htt : two256 = two255 + two255 := by decide
          have HB5 := Lib.hid H4.out.2
          clear e1 e2 hpr H4 HR HRP
          by_cases hc : r + 19 < two256
          · have hq0 : (r + 19) / two256 = 0 := Nat.div_eq_of_lt hc
            rw [hq0]
            obtain ⟨t1, t2⟩ := take_lo (r + 19) hc (by omega)
            rw [show r + 19 - two255 = r - pC by omega] at t2
            have cx := H5.out.getD (i := 15) (by rw [dN_length]; decide)
            have cf := H5.out.free 15
            change wr.cell? _ = some (li (dgt (r + 19) 15)) at cx
            have hxb := dgt_lt (r + 19) 15
            have R2 := H5.out.set 15 (dgt (r + 19) 15 - 32768)
            rw [t2] at R2
            obtain ⟨x, hx⟩ : ∃ x, dgt (r + 19) 15 = x := ⟨_, rfl⟩
            rw [hx] at cx R2 t1 hxb
            obtain ⟨z, hz⟩ : ∃ z, x - 32768 = z := ⟨_, rfl⟩
            rw [hz] at R2
            have a1 : (x : Int) - 32768 = (z : Int) := by omega
            have a1w : IntKind.i64.wrap (z : Int) = (z : Int) := i64_nat (by omega)
            have HNEW : Hid (Iar (wr.setCell ⟨w.heap.size, 15, none⟩ (li z)) w.heap.size 48 (dN (r - pC)) ∧ Below w.heap.size w (wr.setCell ⟨w.heap.size, 15, none⟩ (li z))) := Lib.hid ⟨R2, HB5.out.setCell (p := ⟨w.heap.size, 15, none⟩) (Nat.le_refl _) _⟩
            clear R2 t1 t2 hx hz hxb H5 HB5 hp2 hrp hrt htt hc hq0
            go_wp2
            go_roundw
            case rel => exact ⟨r - pC, HNR, HNEW⟩
            case measure =>
              have h := HNEW.out.1.rd
              rw [vah_dN _ HNR.out.1] at h
              rw [HM.out]
              exact Nat.lt_of_le_of_lt (Nat.le_of_eq h) HLT.out
          · obtain ⟨v, hv⟩ : ∃ v, r + 19 - two256 = v := ⟨_, rfl⟩
            have hv19 : v < 19 := by omega
            have hq1 : (r + 19) / two256 = 1 := by
              have e : r + 19 = v + two256 * 1 := by omega
              rw [e, Nat.add_mul_div_left _ _ (by decide), Nat.div_eq_of_lt (Nat.lt_trans hv19 (by decide))]
            have hdm : dN (r + 19) = dN v := by
              have e : r + 19 = v + two256 * 1 := by omega
              rw [dN_mod, e, Nat.add_mul_mod_self_left, ← dN_mod]
            rw [hq1]
            obtain ⟨t1, t2⟩ := take_hi v (by omega)
            rw [show v + two255 = r - pC by omega] at t2
            rw [hdm] at H5
            have cx := H5.out.getD (i := 15) (by rw [dN_length]; decide)
            have cf := H5.out.free 15
            change wr.cell? _ = some (li (dgt v 15)) at cx
            rw [t1] at cx
            obtain ⟨c1, f1, R2⟩ := H5.out.twice 15 32768 (by rw [dN_length]; decide) (-32768)
            rw [t2] at R2
            have HNEW : Hid (Iar ((wr.setCell ⟨w.heap.size, 15, none⟩ (.int .i64 (-32768))).setCell ⟨w.heap.size, 15, none⟩ (.int .i64 32768)) w.heap.size 48 (dN (r - pC)) ∧ Below w.heap.size w ((wr.setCell ⟨w.heap.size, 15, none⟩ (.int .i64 (-32768))).setCell ⟨w.heap.size, 15, none⟩ (.int .i64 32768))) := Lib.hid ⟨R2, (HB5.out.setCell (p := ⟨w.heap.size, 15, none⟩) (Nat.le_refl _) _).setCell (p := ⟨w.heap.size, 15, none⟩) (Nat.le_refl _) _⟩
            have cx0 : wr.cell? ⟨w.heap.size, 15, none⟩ = some (.int .i64 0) := cx
            clear cx R2 t1 t2 hv hdm hv19 H5 HB5 hp2 hrp hrt htt hc hq1
            go_wp2
            go_roundw
            case rel => exact ⟨r - pC, HNR, HNEW⟩
            case measure =>
              have h := HNEW.out.1.rd
              rw [vah_dN _ HNR.out.1] at h
              rw [HM.out]
              exact Nat.lt_of_le_of_lt (Nat.le_of_eq h) HLT.out
end Go.Proofs.YtbadiljligcenaaDoor
