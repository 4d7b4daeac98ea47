/- Contract of the reference's ints: the words of a digest that is being made. Contract of the reference's changed: a key's block, each octet changed. The reference's roots of the first primes are the constants. -/
import Derived.Test.YtfdeegafdaobdaaDoorW2
import Derived.Test.YtfdeegafdaobdaaDoorE
import Derived.Test.YtfdeegafdaobdaaDoorO
import Derived.Test.YtfdeegafdaobdaaDoorN
import Derived.Test.YtfdeegafdaobdaaDoorG
namespace Go.Proofs.YtfdeegafdaobdaaDoor
open Go.RowKit Go.ChangeShapes

theorem list_take8 (l : List Nat) (k : Nat) (h : k < l.length) : l.take (k + 1) = l.take k ++ [l.getD k 0] := by
  rw [List.take_succ_eq_append_getElem h, List.getD_eq_getElem?_getD, List.getElem?_eq_getElem h]; rfl
theorem hs_cellk {W : World} {g : Nat} {s : W8} {t : ByteArray} {n : Int} (hh : W.heap[g]? = some (hsO s t n)) (k : Nat) (hk : k < 8) : W.cell? ⟨g, k, none⟩ = some (.int .u32 ((s.list.getD k 0 : Nat) : Int)) := by
  rw [cell_of_row W g k _ 44 (0, 0) hh]
  rcases (by omega : k = 0 ∨ k = 1 ∨ k = 2 ∨ k = 3 ∨ k = 4 ∨ k = 5 ∨ k = 6 ∨ k = 7) with rfl | rfl | rfl | rfl | rfl | rfl | rfl | rfl <;> rfl
theorem W8.ok_get {s : W8} (h : s.ok) (k : Nat) : s.list.getD k 0 ≤ 4294967295 := by
  have hall : AllW s.list := by
    intro x hx
    simp only [W8.list, List.mem_cons, List.not_mem_nil, or_false] at hx
    rcases hx with rfl | rfl | rfl | rfl | rfl | rfl | rfl | rfl
    · exact h.1.1
    · exact h.1.2.1
    · exact h.1.2.2.1
    · exact h.1.2.2.2
    · exact h.2.1
    · exact h.2.2.1
    · exact h.2.2.2.1
    · exact h.2.2.2.2
  exact hall.get k
/-- Eight words in a new row. -/
def Got8 (l : List Nat) (w : World) (e : Ending) (w' : World) : Prop := ∃ v, e = .returned v ∧ w'.ownsRow w.heap.size 3 1 v 8 (intC l) ∧ Below w.heap.size w w'
set_option maxRecDepth 100000 in
set_option maxHeartbeats 2000000 in
theorem rints (s : W8) (t : ByteArray) (n : Int) (w : World) (hs : s.ok) : Calls Tryd.prog 52 #[hsV s t n] w (Got8 s.list w) := by
  obtain ⟨i0, hi, hz0, hz1, hz2⟩ := info_parts info3
  have H0 : Hid ((w.alloc (hsO s t n)).heap[w.heap.size]? = some (hsO s t n)) := Lib.hid (heap_alloc_new w _)
  have HOK := Lib.hid hs
  clear hs
  go_enter Tryd.func52, Tryd.ntmps52
  go_wp2
  go_loopw [3, 4] (fun v i wr => ∃ k : Nat, k ≤ 8 ∧ i = .int .i64 (k : Int) ∧ wr.ownsRow (w.heap.size + 1) 3 1 v k (intC (s.list.take k)) ∧ Below (w.heap.size + 1) (w.alloc (hsO s t n)) wr) (fun _ i _ => 8 - (intOf i).toNat)
  case atStart => exact ⟨0, Nat.zero_le _, rfl, World.ownsRow_nil _ _ _ _, Below.refl _ _⟩
  case round =>
    obtain ⟨k, hk, rfl, hown, hB⟩ := hrel
    have hz := hB.size
    simp only [World.size_alloc] at hz
    by_cases hlt : k < 8
    · have hh : wr.heap[w.heap.size]? = some (hsO s t n) := (hB.block w.heap.size (by omega)).trans H0.out
      have c0 := hs_cellk hh k hlt
      have v0 := W8.ok_get HOK.out k
      have hrow : intC (s.list.take k) ++ [.int .i64 ((s.list.getD k 0 : Nat) : Int)] = intC (s.list.take (k + 1)) := by
        rw [list_take8 s.list k (by rw [W8.list_length]; exact hlt), intC_snoc]
      have hlen : (intC (s.list.take k)).length = k := by rw [intC_length, List.length_take, W8.list_length]; omega
      obtain ⟨x, hx⟩ : ∃ x, s.list.getD k 0 = x := ⟨_, rfl⟩
      rw [hx] at c0 v0 hrow
      have HROW := Lib.hid hrow
      have k0 : (k : Int) < 8 := by omega
      have hBH := Lib.hid hB
      clear hx hrow hh hB
      go_wp2_with (first | (at_builtin; refine wpList_append_own _ rfl _ _ 25 rfl (w.heap.size + 1) 3 i0 (.int .i64 0) 1 8 Tryd.underlying25 hi hz0 hz1 hz2 rfl (by decide) _ k _ rfl (hown.alloc _) ⟨wr.heap.size, 0, none⟩ 1 1 [.int .i64 (x : Int)] rfl rfl ?_ ?_ ?_ ?_ ?_ ?_; exact World.news_of_block (cs := #[.int .i64 (x : Int)]) (t := 3) (fr := (0, 0)) (heap_alloc_new wr _); (simp [Value.oneCell']); (unfold maxLen; omega); omega; (simp; omega); intro v2 w3 hown3 hg3 _))
      have hB3 : Below (w.heap.size + 1) (w.alloc (hsO s t n)) w3 := (hBH.out.alloc hz _).grown hg3 (by simp; omega) (fun g hg => (hown.lt g hg).1)
      rw [HROW.out] at hown3
      have HO3 := Lib.hid hown3
      clear hown3 hown hg3
      go_roundw
      case rel => exact ⟨k + 1, by omega, by go_num, HO3.out, hB3⟩
      case measure => simp [intOf]; omega
    · obtain rfl : k = 8 := by omega
      go_wp2
      go_ret
      refine ⟨_, rfl, Joins.ownsRow_le (by rw [List.take_of_length_le (by rw [W8.list_length]; exact Nat.le_refl _)] at hown; exact hown) (by omega), ?_⟩
      exact ((Below.refl _ w).alloc (Nat.le_refl _) _).trans (hB.mono (by omega))
end Go.Proofs.YtfdeegafdaobdaaDoor

namespace Go.Proofs.YtfdeegafdaobdaaDoor
open Go.RowKit Go.ChangeShapes

/-- A string is copied into a row of 64 octets. -/
theorem copiedW (key : ByteArray) (W : World) (g : Nat) (hk : key.size ≤ 64) (hcc : ∀ j, j < 64 → W.cell? ⟨g, j, none⟩ = some (Value.int .u8 0)) (hff : ∀ j, W.frozen? ⟨g, j, none⟩ = false) :
    ∃ W1, (Builtin.copy_ #[65, 9] 3 #[.slice (some ⟨g, 0, none⟩) 64 64, .string key]).run Tryd.prog W = .ok (.int .i64 (key.size : Int)) W1 ∧ Oc W1 g (key.data.toList ++ List.replicate (64 - key.data.toList.length) 0) ∧ ∀ B w0, B ≤ g → Below B w0 W → Below B w0 W1 := by
  have hkl : key.data.toList.length = key.size := rfl
  have hrun := run_copy_string (P := Tryd.prog) W 65 9 3 5 g 0 64 64 key Tryd.underlying65 (fun w => by kernel_rfl) hk (fun j hj => by rw [Nat.zero_add, hcc j (by omega)]; rfl) (fun j _ => hff _)
  refine ⟨_, hrun, fun j hj => ⟨?_, ?_⟩, fun B w0 hB hb0 => below_setCells hB _ _ _ hb0⟩
  · have hj64 : j < 64 := by simp at hj; omega
    by_cases h : j < key.data.toList.length
    · have h1 := World.cell?_setCells_in g (key.data.toList.map fun x => Value.int .u8 (x.toNat : Int)) 0 W (fun j hj => by rw [Nat.zero_add, hcc j (by simp at hj; omega)]; rfl) j (by rw [List.length_map]; exact h)
      rw [Nat.zero_add] at h1
      rw [h1, List.getD_eq_getElem?_getD, List.getElem?_append_left h, List.getElem?_eq_getElem h]
      simp
    · have h1 := World.cell?_setCells_out g (key.data.toList.map fun x => Value.int .u8 (x.toNat : Int)) 0 W ⟨g, j, none⟩ (fun _ _ => .inr (by rw [List.length_map, Nat.zero_add]; show _ ≤ j; omega))
      rw [h1, hcc j hj64, List.getD_eq_getElem?_getD, List.getElem?_append_right (by omega), List.getElem?_replicate, if_pos (by omega)]
      rfl
  · rw [World.frozen?_setCells]; exact hff j
theorem made64 {w : World} {g : Nat} (h : w.ownsRow g 5 1 (.slice (some ⟨g, 0, none⟩) (64 : Nat) (64 : Nat)) 64 (madeCells (Value.int .u8 0).cells (64 * 1)).toList) : ∀ j, j < 64 → w.cell? ⟨g, j, none⟩ = some (Value.int .u8 0) := by
  intro j hj
  rw [h.cellAt j (by omega), show (madeCells (Value.int .u8 0).cells (64 * 1)).toList = List.replicate 64 (Value.int .u8 0) by simp [madeCells, Value.cells, Nat.mod_one, List.map_const'], List.getElem?_replicate, if_pos hj]
set_option maxRecDepth 100000 in
set_option maxHeartbeats 2000000 in
theorem rchanged (key : ByteArray) (c : UInt8) (w : World) (hk : key.size ≤ 64) :
    Calls Tryd.prog 44 #[.string key, .int .i64 (c.toNat : Int)] w fun e w' => e = .returned (.string (bs (padK key.data.toList c))) ∧ Below w.heap.size w w' := by
  obtain ⟨i0, hi, hz0, hz1, hz2⟩ := info_parts info5
  obtain ⟨l, hl⟩ : ∃ l, key.data.toList ++ List.replicate (64 - key.data.toList.length) 0 = l := ⟨_, rfl⟩
  have hkl : key.data.toList.length = key.size := rfl
  have hll : l.length = 64 := by rw [← hl, List.length_append, List.length_replicate, hkl]; omega
  have HF : Hid (padK key.data.toList c = chg l c 64) := Lib.hid (by rw [chg_all l c 64 hll, padK, hl])
  have HLL := Lib.hid hll
  have HKK := Lib.hid hk
  have HKL := Lib.hid hl
  have hxr := u8_xor
  have hc0 : IntKind.u8.wrap (c.toNat : Int) = (c.toNat : Int) := by rw [IntKind.wrap_u8']; have := c.toNat_lt; omega
  have hc1 : c.toNat ≤ 255 := by have := c.toNat_lt; omega
  clear hl hll hkl
  go_enter Tryd.func44, Tryd.ntmps44
  go_wp2_with (first | (at_make; refine wpList_make_full _ rfl _ _ 65 rfl w.heap.size 5 i0 (.int .u8 0) 1 Tryd.underlying65 hi hz0 hz1 .i64 .i64 _ _ 64 rfl rfl ?_ ?_ ?_ ?_ ?_ ?_; rfl; rfl; rw [hz2]; omega; (unfold maxLen; omega); omega; intro w1 hown1 hg1; obtain ⟨W1, hrun, hO, hB⟩ := copiedW key w1 w.heap.size HKK.out (made64 hown1) (fun j => hown1.frozenAt j); have hBB := hB w.heap.size w (Nat.le_refl _) ((Below.refl _ _).grown hg1 (Nat.le_refl _) (by simp)); rw [HKL.out] at hO; have HO := Lib.hid hO; clear hO hB hown1 hg1))
  go_loopw [6] (fun i wr => ∃ k : Nat, k ≤ 64 ∧ i = .int .i64 k ∧ Hid (Oc wr w.heap.size (chg l c k)) ∧ Below w.heap.size w wr) (fun i _ => 64 - (intOf i).toNat)
  case atStart => exact ⟨0, Nat.zero_le _, rfl, HO, hBB⟩
  case round =>
    obtain ⟨k, hk, rfl, HC, hBr⟩ := hrel
    clear hrun hBB
    by_cases hlt : k < 64
    · obtain ⟨c0, f0⟩ := HC.out k (by rw [chg_length _ _ _ (by rw [HLL.out]; exact hk), HLL.out]; exact hlt)
      have hs := (HC.out.set k ((chg l c k).getD k 0 ^^^ c))
      rw [chg_step l c k (by rw [HLL.out]; exact hlt)] at hs
      have hx := u8_xor ((chg l c k).getD k 0) c
      obtain ⟨x, hxe⟩ : ∃ x, (chg l c k).getD k 0 = x := ⟨_, rfl⟩
      rw [hxe] at c0 hs hx
      have HS := Lib.hid hs
      clear hs hxe hxr
      go_wp2
      go_roundw
      case rel => exact ⟨k + 1, by omega, by go_num, HS.out, hBr.setCell (by simp) _⟩
      case measure => simp [intOf]; omega
    · obtain rfl : k = 64 := by omega
      have hlen : (chg l c 64).length = 64 := by rw [chg_length _ _ _ (by rw [HLL.out]; exact Nat.le_refl _), HLL.out]
      have hcv := run_convert_bytes_back (P := Tryd.prog) wr 65 9 5 ⟨w.heap.size, 0, none⟩ 64 (chg l c 64) Tryd.underlying65 Tryd.underlying5 Tryd.underlying9 fun j hj => by
        have hadd : (⟨w.heap.size, 0, none⟩ : Addr).add j = ⟨w.heap.size, j, none⟩ := by unfold Addr.add; split <;> simp_all
        rw [hadd, (HC.out j hj).1, List.getD_eq_getElem?_getD, List.getElem?_eq_getElem hj]
        rfl
      rw [hlen] at hcv
      clear hlen hxr
      go_wp2
      go_ret
      exact ⟨by rw [HF.out]; rfl, hBr⟩
end Go.Proofs.YtfdeegafdaobdaaDoor

namespace Go.Proofs.YtfdeegafdaobdaaDoor
open Go.RowKit Go.ChangeShapes

theorem cube_tab : ∀ k, k < 64 → belP 3 (lastB cuB (pr (k + 1)) 35) (pr (k + 1)) = true ∧ belP 3 (lastB cuB (pr (k + 1)) 35 + 1) (pr (k + 1)) = false ∧ lastB cuB (pr (k + 1)) 35 + 1 ≤ 274877906944 := by decide +kernel
theorem square_tab : ∀ k, k < 8 → belP 2 (lastB sqB (pr (k + 1)) 35) (pr (k + 1)) = true ∧ belP 2 (lastB sqB (pr (k + 1)) 35 + 1) (pr (k + 1)) = false ∧ lastB sqB (pr (k + 1)) 35 + 1 ≤ 274877906944 := by decide +kernel
theorem rroot_K (k : Nat) (hk : k < 64) (w : World) : Calls Tryd.prog 35 #[.int .i64 ((pr (k + 1) : Nat) : Int), .int .i64 3] w fun e' w' => e' = .returned (.int .i64 ((KL.getD k 0 : Nat) : Int)) ∧ w = w' := by
  obtain ⟨h1, h2, h3⟩ := cube_tab k hk
  have hp := (pr_bound (k + 1) (by omega)).2
  have h := rroot 3 (pr (k + 1)) _ w (by omega) (fun x w hx => rbelow3 x _ w hx (by omega)) h1 h2 h3
  rw [KL_root k hk] at h
  exact h
theorem rroot_I (k : Nat) (hk : k < 8) (w : World) : Calls Tryd.prog 35 #[.int .i64 ((pr (k + 1) : Nat) : Int), .int .i64 2] w fun e' w' => e' = .returned (.int .i64 ((IL.getD k 0 : Nat) : Int)) ∧ w = w' := by
  obtain ⟨h1, h2, h3⟩ := square_tab k hk
  have hp := (pr_bound (k + 1) (by omega)).2
  have h := rroot 2 (pr (k + 1)) _ w (by omega) (fun x w hx => rbelow2 x _ w hx (by omega)) h1 h2 h3
  rw [IL_root k hk] at h
  exact h
end Go.Proofs.YtfdeegafdaobdaaDoor
