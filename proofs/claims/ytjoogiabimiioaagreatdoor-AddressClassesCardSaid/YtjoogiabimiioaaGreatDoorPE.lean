/- Contract of long: the host of eight groups. -/
import Derived.Test.YtjoogiabimiioaaGreatDoorPB
namespace Go.Proofs.YtjoogiabimiioaaGreatDoor
open Go.RowKit Go.ChangeShapes
/-- Groups as integers in a row. -/
def inC (l : List Nat) : Array Value := (l.map fun n : Nat => Value.int .i64 (n : Int)).toArray
structure Hl (w : World) (l : List Nat) (v : Value) (n : Nat) (xs : List Value) (W : World) : Prop where
  b : Below w.heap.size w W
  t : W.heap[w.heap.size]? = some (.cells (inC l) 3 (0, 0))
  o : W.ownsRow (w.heap.size + 1) 5 1 v n xs
  z : w.heap.size + 1 ≤ W.heap.size
set_option maxRecDepth 100000 in
set_option maxHeartbeats 8000000 in
theorem long_new (l : List Nat) (cs : Array Value) (w : World) (hl : l.length = 8) (hv : ∀ x ∈ l, x < 65536) (hc : cs = inC l) :
    Calls Tryz.prog 38 #[.slice (some ⟨w.heap.size, 0, none⟩) 8 8] (w.alloc (.cells cs 3)) fun e w' => e = .returned (.string (bs (octL l))) ∧ Below w.heap.size w w' := by
  subst hc
  have HL := Lib.hid (And.intro hl hv)
  have HK0 : Hid (Hl w l (.slice none 0 0) (2 * 0) (byC (octL (l.take 0))) (w.alloc (.cells (inC l) 3))) := Lib.hid
    ⟨(Below.refl _ w).alloc (Nat.le_refl _) _, heap_alloc_new w _, ⟨rfl, .inl ⟨rfl, rfl⟩⟩, by rw [World.size_alloc]; omega⟩
  generalize w.alloc (.cells (inC l) 3) = X at HK0
  clear hl hv
  go_enter Tryz.func38, Tryz.ntmps38
  change Hid (Hl w l (.slice none 0 0) (2 * 0) (byC (octL (l.take 0))) X) at HK0
  go_upto_region 3 with fail
  go_loopw [3, 5, 8] (fun v _ i wr => ∃ k : Nat, k ≤ 8 ∧ i = .int .i64 (k : Int) ∧ Hid (Hl w l v (2 * k) (byC (octL (l.take k))) wr)) (fun _ _ i _ => 8 - (intOf i).toNat)
  case atStart => exact ⟨0, by omega, rfl, HK0⟩
  case round =>
    clear HK0
    obtain ⟨k, hk, rfl, HK⟩ := hrel
    by_cases hlt : k < 8
    · have hki : (k : Int) < 8 := by omega
      have hkl : k < l.length := by rw [HL.out.1]; exact hlt
      have ho2 := octL_succ l k hkl
      have hxb : l.getD k 0 < 65536 := by rw [List.getD_eq_getElem?_getD, List.getElem?_eq_getElem hkl]; exact HL.out.2 _ (List.getElem_mem hkl)
      have hix : wr.cell? ⟨w.heap.size, k, none⟩ = some (.int .i64 (l.getD k 0 : Int)) := by
        rw [cell_of_row wr w.heap.size k _ 3 (0, 0) HK.out.t, List.getD_eq_getElem?_getD, List.getElem?_eq_getElem hkl]
        simp [inC, hkl]
      obtain ⟨x, hx⟩ : ∃ x, l.getD k 0 = x := ⟨_, rfl⟩
      simp only [hx] at hix
      rw [hx] at hxb ho2
      obtain ⟨y, hy⟩ : ∃ y, x / 256 = y := ⟨_, rfl⟩
      obtain ⟨z, hz⟩ : ∃ y, x % 256 = y := ⟨_, rfl⟩
      rw [hy, hz] at ho2
      have hyB : y < 256 := by omega
      have hzB : z < 256 := by omega
      have a1 : (x : Int) / 256 = (y : Int) := by omega
      have a2 : (x : Int) / 2 ^ 8 = (y : Int) := by omega
      have b1 : IntKind.u8.wrap (y : Int) = (y : Int) := by rw [IntKind.wrap_u8]; omega
      have b2 : IntKind.u8.wrap (x : Int) = (z : Int) := by rw [IntKind.wrap_u8]; omega
      have hby : byC [UInt8.ofNat y, UInt8.ofNat z] = [.int .u8 (y : Int), .int .u8 (z : Int)] := by
        have e1 : (UInt8.ofNat y).toNat = y := UInt8.toNat_ofNat_of_lt' (by show y < 256; omega)
        have e2 : (UInt8.ofNat z).toNat = z := UInt8.toNat_ofNat_of_lt' (by show z < 256; omega)
        simp [byC, e1, e2]
      have HO : Hid (byC (octL (l.take k)) ++ [.int .u8 (y : Int), .int .u8 (z : Int)] = byC (octL (l.take (k + 1)))) := Lib.hid (by rw [ho2, ← hby, byC_append])
      clear hxb ho2 hx hy hz hby hkl
      go_upto_region 5 with fail
      have HR : Hid ((wr.alloc (.cells #[.int .u8 (y : Int), .int .u8 (z : Int)] 5)).ownsRow (w.heap.size + 1) 5 1 u3 (2 * k) (byC (octL (l.take k))) ∧ w.heap.size + 1 ≤ (wr.alloc (.cells #[.int .u8 (y : Int), .int .u8 (z : Int)] 5)).heap.size) := Lib.hid ⟨HK.out.o.alloc _, by have := HK.out.z; rw [World.size_alloc]; omega⟩
      go_wp2_with (refine wpList_plain (o := ⟨some 19, _, _, _, _, _⟩) rfl fun K hK => ?_; refine wp_append_two _ _ rfl (w.heap.size + 1) _ (2 * k) (byC (octL (l.take k))) rfl HR.out.1 wr.heap.size rfl (y : Int) (z : Int) (heap_alloc_new wr _) (by omega) HR.out.2 ?_; intro v2 w3 hown3 hg3; refine hK _ _ ?_)
      have hg4 : (wr.alloc (.cells #[.int .u8 (y : Int), .int .u8 (z : Int)] 5)).grownBy w3 u3.ownBlock := hg3
      rw [HO.out] at hown3
      have hB3 : Below w.heap.size w w3 := (HK.out.b.alloc HK.out.b.size _).grown hg4 (by have := HK.out.z; simp; omega) (fun g hg => by have := (HK.out.o.lt g hg).1; omega)
      have hT3 : w3.heap[w.heap.size]? = some (.cells (inC l) 3 (0, 0)) := (hg4.block w.heap.size (by have := HK.out.z; rw [World.size_alloc]; omega) (fun e => by have := (HK.out.o.lt w.heap.size e.symm).1; omega)).trans ((Below.heap_alloc wr _ _ (by have := HK.out.z; omega)).trans HK.out.t)
      exact ⟨⟨k + 1, by omega, by go_num, Lib.hid ⟨hB3, hT3, hown3, by have := hg4.size; have := HR.out.2; omega⟩⟩, by simp [intOf]; omega⟩
    · obtain rfl : k = 8 := by omega
      have hcv := string_of_own (w := wr) (l := octL (l.take 8)) (by rw [octL_length, List.length_take, HL.out.1]; exact HK.out.o)
      rw [List.take_of_length_le (by rw [HL.out.1]; omega)] at hcv
      have HB := Lib.hid HK.out.b
      clear HK
      go_wp2
      go_ret
      exact ⟨rfl, HB.out⟩
end Go.Proofs.YtjoogiabimiioaaGreatDoor
