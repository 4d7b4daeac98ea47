/- Contract of changed: a key's block, each octet changed. -/
import Derived.Test.YtfdeegafdaobdaaDoorJ
import Derived.Lib.LazyBuf
namespace Go.Proofs.YtfdeegafdaobdaaDoor
open Go.RowKit Go.ChangeShapes

abbrev by8 (b : UInt8) : Value := .int .u8 (b.toNat : Int)
/-- Octets lie in block g, and may be written. -/
def Oc (w : World) (g : Nat) (l : List UInt8) : Prop := ∀ j, j < l.length → w.cell? ⟨g, j, none⟩ = some (by8 (l.getD j 0)) ∧ w.frozen? ⟨g, j, none⟩ = false
theorem Oc.set {w : World} {g : Nat} {l : List UInt8} (h : Oc w g l) (k : Nat) (b : UInt8) : Oc (w.setCell ⟨g, k, none⟩ (by8 b)) g (l.set k b) := by
  intro j hj
  rw [List.length_set] at hj
  obtain ⟨h1, h2⟩ := h j hj
  by_cases e : k = j
  · subst e
    refine ⟨?_, by rw [World.frozen?_setCell]; exact h2⟩
    rw [World.cell?_setCell_same' _ _ _ (by rw [h1]; rfl), List.getD_eq_getElem?_getD, List.getElem?_set_self hj]; rfl
  · refine ⟨?_, by rw [World.frozen?_setCell]; exact h2⟩
    rw [List.getD_eq_getElem?_getD, List.getElem?_set_ne e, ← List.getD_eq_getElem?_getD, ← h1]
    exact World.cell?_setCell_other _ _ _ _ (by intro h; cases h; exact e rfl)
theorem u8_xor (a b : UInt8) : bits .xor .u8 (a.toNat : Int) (b.toNat : Int) = ((a ^^^ b).toNat : Int) := by
  show IntKind.u8.wrap ((BitVec.ofInt 8 (a.toNat : Int) ^^^ BitVec.ofInt 8 (b.toNat : Int)).toNat : Int) = _
  have ha := a.toNat_lt
  have hb := b.toNat_lt
  rw [BitVec.toNat_xor, BitVec.ofInt_natCast, BitVec.ofInt_natCast, BitVec.toNat_ofNat, BitVec.toNat_ofNat, Nat.mod_eq_of_lt (by omega), Nat.mod_eq_of_lt (by omega), UInt8.toNat_xor]
  have : a.toNat ^^^ b.toNat < 2 ^ 8 := Nat.xor_lt_two_pow ha hb
  rw [IntKind.wrap_u8']
  omega
/-- The first k octets are changed. -/
def chg (l : List UInt8) (c : UInt8) (k : Nat) : List UInt8 := (l.take k).map (· ^^^ c) ++ l.drop k
theorem chg_length (l : List UInt8) (c : UInt8) (k : Nat) (h : k ≤ l.length) : (chg l c k).length = l.length := by simp [chg]; omega
theorem chg_step (l : List UInt8) (c : UInt8) (k : Nat) (h : k < l.length) : (chg l c k).set k ((chg l c k).getD k 0 ^^^ c) = chg l c (k + 1) := by
  have h1 : ((l.take k).map (· ^^^ c)).length = k := by simp; omega
  have h2 : (chg l c k).getD k 0 = l[k] := by
    rw [chg, List.getD_eq_getElem?_getD, List.getElem?_append_right (by omega), h1, Nat.sub_self, List.getElem?_drop, Nat.add_zero, List.getElem?_eq_getElem h]; rfl
  rw [h2, chg, List.set_append_right _ _ (by omega), h1, Nat.sub_self, List.drop_eq_getElem_cons h, List.set_cons_zero, chg, List.take_succ_eq_append_getElem h, List.map_append]
  simp
theorem chg_all (l : List UInt8) (c : UInt8) (k : Nat) (h : l.length = k) : chg l c k = l.map (· ^^^ c) := by
  subst h; simp [chg]
/-- A string is copied into a new row of 64 octets. -/
theorem copied (key : ByteArray) (w : World) (hk : key.size ≤ 64) :
    ∃ W1, (Builtin.copy_ #[65, 9] 3 #[.slice (some ⟨w.heap.size, 0, none⟩) 64 64, .string key]).run Tryd.prog (w.alloc (.cells #[Value.int .u8 0, Value.int .u8 0, Value.int .u8 0, Value.int .u8 0, Value.int .u8 0, Value.int .u8 0, Value.int .u8 0, Value.int .u8 0, Value.int .u8 0, Value.int .u8 0, Value.int .u8 0, Value.int .u8 0, Value.int .u8 0, Value.int .u8 0, Value.int .u8 0, Value.int .u8 0, Value.int .u8 0, Value.int .u8 0, Value.int .u8 0, Value.int .u8 0, Value.int .u8 0, Value.int .u8 0, Value.int .u8 0, Value.int .u8 0, Value.int .u8 0, Value.int .u8 0, Value.int .u8 0, Value.int .u8 0, Value.int .u8 0, Value.int .u8 0, Value.int .u8 0, Value.int .u8 0, Value.int .u8 0, Value.int .u8 0, Value.int .u8 0, Value.int .u8 0, Value.int .u8 0, Value.int .u8 0, Value.int .u8 0, Value.int .u8 0, Value.int .u8 0, Value.int .u8 0, Value.int .u8 0, Value.int .u8 0, Value.int .u8 0, Value.int .u8 0, Value.int .u8 0, Value.int .u8 0, Value.int .u8 0, Value.int .u8 0, Value.int .u8 0, Value.int .u8 0, Value.int .u8 0, Value.int .u8 0, Value.int .u8 0, Value.int .u8 0, Value.int .u8 0, Value.int .u8 0, Value.int .u8 0, Value.int .u8 0, Value.int .u8 0, Value.int .u8 0, Value.int .u8 0, Value.int .u8 0] 136)) = .ok (goInt key.size) W1 ∧ Oc W1 w.heap.size (key.data.toList ++ List.replicate (64 - key.data.toList.length) 0) ∧ Below w.heap.size w W1 := by
  have hh : (w.alloc (.cells #[Value.int .u8 0, Value.int .u8 0, Value.int .u8 0, Value.int .u8 0, Value.int .u8 0, Value.int .u8 0, Value.int .u8 0, Value.int .u8 0, Value.int .u8 0, Value.int .u8 0, Value.int .u8 0, Value.int .u8 0, Value.int .u8 0, Value.int .u8 0, Value.int .u8 0, Value.int .u8 0, Value.int .u8 0, Value.int .u8 0, Value.int .u8 0, Value.int .u8 0, Value.int .u8 0, Value.int .u8 0, Value.int .u8 0, Value.int .u8 0, Value.int .u8 0, Value.int .u8 0, Value.int .u8 0, Value.int .u8 0, Value.int .u8 0, Value.int .u8 0, Value.int .u8 0, Value.int .u8 0, Value.int .u8 0, Value.int .u8 0, Value.int .u8 0, Value.int .u8 0, Value.int .u8 0, Value.int .u8 0, Value.int .u8 0, Value.int .u8 0, Value.int .u8 0, Value.int .u8 0, Value.int .u8 0, Value.int .u8 0, Value.int .u8 0, Value.int .u8 0, Value.int .u8 0, Value.int .u8 0, Value.int .u8 0, Value.int .u8 0, Value.int .u8 0, Value.int .u8 0, Value.int .u8 0, Value.int .u8 0, Value.int .u8 0, Value.int .u8 0, Value.int .u8 0, Value.int .u8 0, Value.int .u8 0, Value.int .u8 0, Value.int .u8 0, Value.int .u8 0, Value.int .u8 0, Value.int .u8 0] 136)).heap[w.heap.size]? = some (.cells (List.replicate 64 (Value.int .u8 0)).toArray 136 (0, 0)) := heap_alloc_new w _
  have hb0 : Below w.heap.size w (w.alloc (.cells #[Value.int .u8 0, Value.int .u8 0, Value.int .u8 0, Value.int .u8 0, Value.int .u8 0, Value.int .u8 0, Value.int .u8 0, Value.int .u8 0, Value.int .u8 0, Value.int .u8 0, Value.int .u8 0, Value.int .u8 0, Value.int .u8 0, Value.int .u8 0, Value.int .u8 0, Value.int .u8 0, Value.int .u8 0, Value.int .u8 0, Value.int .u8 0, Value.int .u8 0, Value.int .u8 0, Value.int .u8 0, Value.int .u8 0, Value.int .u8 0, Value.int .u8 0, Value.int .u8 0, Value.int .u8 0, Value.int .u8 0, Value.int .u8 0, Value.int .u8 0, Value.int .u8 0, Value.int .u8 0, Value.int .u8 0, Value.int .u8 0, Value.int .u8 0, Value.int .u8 0, Value.int .u8 0, Value.int .u8 0, Value.int .u8 0, Value.int .u8 0, Value.int .u8 0, Value.int .u8 0, Value.int .u8 0, Value.int .u8 0, Value.int .u8 0, Value.int .u8 0, Value.int .u8 0, Value.int .u8 0, Value.int .u8 0, Value.int .u8 0, Value.int .u8 0, Value.int .u8 0, Value.int .u8 0, Value.int .u8 0, Value.int .u8 0, Value.int .u8 0, Value.int .u8 0, Value.int .u8 0, Value.int .u8 0, Value.int .u8 0, Value.int .u8 0, Value.int .u8 0, Value.int .u8 0, Value.int .u8 0] 136)) := by go_grown
  generalize w.alloc (.cells #[Value.int .u8 0, Value.int .u8 0, Value.int .u8 0, Value.int .u8 0, Value.int .u8 0, Value.int .u8 0, Value.int .u8 0, Value.int .u8 0, Value.int .u8 0, Value.int .u8 0, Value.int .u8 0, Value.int .u8 0, Value.int .u8 0, Value.int .u8 0, Value.int .u8 0, Value.int .u8 0, Value.int .u8 0, Value.int .u8 0, Value.int .u8 0, Value.int .u8 0, Value.int .u8 0, Value.int .u8 0, Value.int .u8 0, Value.int .u8 0, Value.int .u8 0, Value.int .u8 0, Value.int .u8 0, Value.int .u8 0, Value.int .u8 0, Value.int .u8 0, Value.int .u8 0, Value.int .u8 0, Value.int .u8 0, Value.int .u8 0, Value.int .u8 0, Value.int .u8 0, Value.int .u8 0, Value.int .u8 0, Value.int .u8 0, Value.int .u8 0, Value.int .u8 0, Value.int .u8 0, Value.int .u8 0, Value.int .u8 0, Value.int .u8 0, Value.int .u8 0, Value.int .u8 0, Value.int .u8 0, Value.int .u8 0, Value.int .u8 0, Value.int .u8 0, Value.int .u8 0, Value.int .u8 0, Value.int .u8 0, Value.int .u8 0, Value.int .u8 0, Value.int .u8 0, Value.int .u8 0, Value.int .u8 0, Value.int .u8 0, Value.int .u8 0, Value.int .u8 0, Value.int .u8 0, Value.int .u8 0] 136) = W at hh hb0 ⊢
  have hcc : ∀ j, j < 64 → W.cell? ⟨w.heap.size, j, none⟩ = some (Value.int .u8 0) := fun j hj => by
    rw [cell_of_row _ _ j _ 136 (0, 0) hh, List.getElem?_toArray, List.getElem?_replicate, if_pos hj]
  have hff : ∀ j, W.frozen? ⟨w.heap.size, j, none⟩ = false := fun j => frozen_of_row _ _ j _ 136 hh
  have hkl : key.data.toList.length = key.size := rfl
  have hrun := run_copy_string (P := Tryd.prog) W 65 9 3 5 w.heap.size 0 64 64 key Tryd.underlying65 (fun w => by kernel_rfl) hk (fun j hj => by rw [Nat.zero_add, hcc j (by omega)]; rfl) (fun j _ => hff _)
  refine ⟨_, hrun, fun j hj => ⟨?_, ?_⟩, below_setCells (Nat.le_refl _) _ _ _ hb0⟩
  · have hj64 : j < 64 := by simp at hj; omega
    by_cases h : j < key.data.toList.length
    · have h1 := World.cell?_setCells_in w.heap.size (key.data.toList.map fun x => Value.int .u8 (x.toNat : Int)) 0 W (fun j hj => by rw [Nat.zero_add, hcc j (by simp at hj; omega)]; rfl) j (by rw [List.length_map]; exact h)
      rw [Nat.zero_add] at h1
      rw [h1, List.getD_eq_getElem?_getD, List.getElem?_append_left h, List.getElem?_eq_getElem h]
      simp
    · have h1 := World.cell?_setCells_out w.heap.size (key.data.toList.map fun x => Value.int .u8 (x.toNat : Int)) 0 W ⟨w.heap.size, j, none⟩ (fun _ _ => .inr (by rw [List.length_map, Nat.zero_add]; show _ ≤ j; omega))
      rw [h1, hcc j hj64, List.getD_eq_getElem?_getD, List.getElem?_append_right (by omega), List.getElem?_replicate, if_pos (by omega)]
      rfl
  · rw [World.frozen?_setCells]; exact hff j
set_option maxRecDepth 100000 in
set_option maxHeartbeats 2000000 in
theorem changed_any (key : ByteArray) (c : UInt8) (w : World) (hk : key.size ≤ 64) :
    Calls Tryd.prog 66 #[.string key, .int .u8 (c.toNat : Int)] w fun e w' => e = .returned (.string (bs (padK key.data.toList c))) ∧ Below w.heap.size w w' := by
  obtain ⟨W1, hrun, hO, hB⟩ := copied key w hk
  obtain ⟨l, hl⟩ : ∃ l, key.data.toList ++ List.replicate (64 - key.data.toList.length) 0 = l := ⟨_, rfl⟩
  have hkl : key.data.toList.length = key.size := rfl
  have hll : l.length = 64 := by rw [← hl, List.length_append, List.length_replicate, hkl]; omega
  have HF : Hid (padK key.data.toList c = chg l c 64) := Lib.hid (by rw [chg_all l c 64 hll, padK, hl])
  rw [hl] at hO
  have HLL := Lib.hid hll
  have HO := Lib.hid hO
  have hxr := u8_xor
  clear hl hll hkl hk hO
  unfold goInt at hrun
  go_enter Tryd.func66, Tryd.ntmps66
  go_wp2
  go_loopw [10] (fun i wr => ∃ k : Nat, k ≤ 64 ∧ i = .int .i64 k ∧ Hid (Oc wr w.heap.size (chg l c k)) ∧ Below w.heap.size w wr) (fun i _ => 64 - (intOf i).toNat)
  case atStart => exact ⟨0, Nat.zero_le _, rfl, HO, hB⟩
  case round =>
    obtain ⟨k, hk, rfl, HC, hBr⟩ := hrel
    clear hrun hB
    by_cases hlt : k < 64
    · obtain ⟨c0, f0⟩ := HC.out k (by rw [chg_length _ _ _ (by rw [HLL.out]; exact hk), HLL.out]; exact hlt)
      have hs := (HC.out.set k ((chg l c k).getD k 0 ^^^ c))
      rw [chg_step l c k (by rw [HLL.out]; exact hlt)] at hs
      have hx := u8_xor ((chg l c k).getD k 0) c
      obtain ⟨x, hxe⟩ : ∃ x, (chg l c k).getD k 0 = x := ⟨_, rfl⟩
      rw [hxe] at c0 hs hx
      have HS := Lib.hid hs
      clear hs hxe hxr
      go_wp2
      go_roundw
      case rel => exact ⟨k + 1, by omega, by go_num, HS.out, hBr.setCell (by simp) _⟩
      case measure => simp [intOf]; omega
    · obtain rfl : k = 64 := by omega
      have hlen : (chg l c 64).length = 64 := by rw [chg_length _ _ _ (by rw [HLL.out]; exact Nat.le_refl _), HLL.out]
      have hcv := run_convert_bytes_back (P := Tryd.prog) wr 65 9 5 ⟨w.heap.size, 0, none⟩ 64 (chg l c 64) Tryd.underlying65 Tryd.underlying5 Tryd.underlying9 fun j hj => by
        have hadd : (⟨w.heap.size, 0, none⟩ : Addr).add j = ⟨w.heap.size, j, none⟩ := by unfold Addr.add; split <;> simp_all
        rw [hadd, (HC.out j hj).1, List.getD_eq_getElem?_getD, List.getElem?_eq_getElem hj]
        rfl
      rw [hlen] at hcv
      clear hlen hxr
      go_wp2
      go_ret
      exact ⟨by rw [HF.out]; rfl, hBr⟩
end Go.Proofs.YtfdeegafdaobdaaDoor
