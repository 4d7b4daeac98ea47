/- Contracts of the reference's Prime and of the law's small. -/
import Derived.Test.YtbadiljligcenaaDoorFU
import Derived.Test.YtbadiljligcenaaDoorFW
import Derived.Deep.RegionWith
import Derived.Great.BuildSlice
namespace Go.Proofs.YtbadiljligcenaaDoor
open Go.RowKit Go.Shelf
/-- The octets of the prime plus m - 1. -/
def prN (m : Nat) : List UInt8 := UInt8.ofNat (236 + m) :: (List.replicate 30 255 ++ [127])
theorem prN_length (m : Nat) : (prN m).length = 32 := by simp [prN]
def rpL (i : Nat) : List UInt8 := List.replicate i 255 ++ List.replicate (32 - i) 0
theorem rpL_length (i : Nat) (h : i ≤ 32) : (rpL i).length = 32 := by simp [rpL]; omega
theorem rpL_set (i : Nat) (h : i < 32) : (rpL i).set i 255 = rpL (i + 1) := by
  have e : (List.replicate i (255 : UInt8)).length = i := List.length_replicate
  rw [rpL, List.set_append_right _ _ (by omega), e, Nat.sub_self, show 32 - i = (32 - (i + 1)) + 1 by omega, List.replicate_succ, List.set_cons_zero, rpL, List.replicate_succ', List.append_assoc]
  rfl
theorem prN_made (m : Nat) : ((rpL 32).set 0 (UInt8.ofNat (236 + m))).set 31 127 = prN m := by
  simp [rpL, prN, List.replicate_succ]
set_option maxRecDepth 100000 in
set_option maxHeartbeats 2000000 in
theorem prime_any (m : Nat) (i : Int) (hi : i = (m : Int) - 1) (hm : m ≤ 19) (w : World) : Calls Tryd.prog 22 #[.int .i64 i] w fun e w' => e = .returned (.string (bs (prN m))) ∧ Below w.heap.size w w' := by
  have hmk := make32
  have hg := heap_alloc_new w (.cells B32 5)
  have hO : Oc (w.alloc (.cells B32 5)) w.heap.size (rpL 0) := oc_row (by rw [hg]; rfl)
  have hB := bstep1 (o := .cells B32 5) (Below.refl w.heap.size w)
  have H0 : Hid (Oc (w.alloc (.cells B32 5)) w.heap.size (rpL 0) ∧ Below w.heap.size w (w.alloc (.cells B32 5))) := Lib.hid ⟨hO, hB⟩
  obtain ⟨z, hz⟩ : ∃ z, 236 + m = z := ⟨_, rfl⟩
  have hq : IntKind.u8.wrap ((237 : Int) + i) = (z : Int) := by rw [IntKind.wrap_u8]; omega
  have hi1 : -1 ≤ i := by omega
  have hi2 : i ≤ 18 := by omega
  have HZ := Lib.hid hz
  have hz8 : (UInt8.ofNat z).toNat = z := UInt8.toNat_ofNat_of_lt' (by show z < 256; omega)
  have HZ8 := Lib.hid hz8
  clear hg hO hB hi hm hz hz8
  go_enter Tryd.func22, Tryd.ntmps22
  go_upto_region 2 with fail
  clear hmk
  generalize w.alloc (.cells B32 5) = V at H0 ⊢
  go_wp2
  go_loopw [4] (fun i wr => ∃ k : Nat, k ≤ 32 ∧ i = .int .i64 (k : Int) ∧ Hid (Oc wr w.heap.size (rpL k) ∧ Below w.heap.size w wr)) (fun i _ => 32 - (intOf i).toNat)
  case atStart => exact ⟨0, by omega, rfl, H0⟩
  case round =>
    clear H0
    obtain ⟨k, hk, rfl, H1⟩ := hrel
    by_cases hlt : k < 32
    · have hki : (k : Int) < 32 := by omega
      obtain ⟨c0, f0⟩ := H1.out.1 k (by rw [rpL_length k hk]; exact hlt)
      have R1 := H1.out.1.set k 255
      rw [rpL_set k hlt] at R1
      have RB := H1.out.2.setCell (p := ⟨w.heap.size, k, none⟩) (Nat.le_refl _) (by8 255)
      have HR : Hid (Oc (wr.setCell ⟨w.heap.size, k, none⟩ (.int .u8 255)) w.heap.size (rpL (k + 1)) ∧ Below w.heap.size w (wr.setCell ⟨w.heap.size, k, none⟩ (.int .u8 255))) := Lib.hid ⟨R1, RB⟩
      clear R1 RB H1
      go_wp2
      go_roundw
      case rel => exact ⟨k + 1, by omega, by go_num, HR⟩
      case measure => simp [intOf]; omega
    · obtain rfl : k = 32 := by omega
      obtain ⟨c0, f0⟩ := H1.out.1 0 (by decide)
      have R1 := H1.out.1.set 0 (UInt8.ofNat z)
      obtain ⟨c1, f1⟩ := R1 31 (by rw [List.length_set]; decide)
      have R2 := R1.set 31 127
      have RB := (H1.out.2.setCell (p := ⟨w.heap.size, 0, none⟩) (Nat.le_refl _) (by8 (UInt8.ofNat z))).setCell (p := ⟨w.heap.size, 31, none⟩) (Nat.le_refl _) (by8 127)
      have hcv := string_of_oc (cap := 32) R2
      rw [show (((rpL 32).set 0 (UInt8.ofNat z)).set 31 127).length = 32 by simp [rpL], ← HZ.out, prN_made m] at hcv
      rw [HZ.out] at hcv
      have e8 : by8 (UInt8.ofNat z) = .int .u8 (z : Int) := by unfold by8; rw [HZ8.out]
      rw [e8] at c1 f1 hcv RB
      have hcv2 : (convert 32 9 (.slice (some ⟨w.heap.size, 0, none⟩) 32 32)).run Tryd.prog ((wr.setCell ⟨w.heap.size, 0, none⟩ (.int .u8 (z : Int))).setCell ⟨w.heap.size, 31, none⟩ (.int .u8 127)) = .ok (.string (bs (prN m))) ((wr.setCell ⟨w.heap.size, 0, none⟩ (.int .u8 (z : Int))).setCell ⟨w.heap.size, 31, none⟩ (.int .u8 127)) := hcv
      have HB : Hid (Below w.heap.size w ((wr.setCell ⟨w.heap.size, 0, none⟩ (.int .u8 (z : Int))).setCell ⟨w.heap.size, 31, none⟩ (.int .u8 127))) := Lib.hid RB
      clear hcv R1 R2 RB e8 H1
      go_wp2
      go_ret
      exact ⟨rfl, HB.out⟩
/-- The octets of a small number. -/
def smL (k : Nat) : List UInt8 := UInt8.ofNat k :: List.replicate 31 0
theorem smL_length (k : Nat) : (smL k).length = 32 := by simp [smL]
theorem sm_cat (k : Nat) : bs [UInt8.ofNat k] ++ rp 0 31 = bs (smL k) := by
  unfold rp smL
  rw [← bs_append]
  rfl
theorem fill1 (k : Nat) : Instr.fill (fun i => some (i * 1, 1)) ((Array.range (1 * 1)).map ((Value.int .u8 0).cells[· % (Value.int .u8 0).cells.size]!)) [(0, .int .u8 (k : Int))] = some #[.int .u8 (k : Int)] := by kernel_rfl
set_option maxRecDepth 100000 in
set_option maxHeartbeats 2000000 in
theorem small_any (k : Nat) (i : Int) (hi : i = (k : Int)) (hk : k ≤ 255) (w : World) : Calls Tryd.prog 20 #[.int .i64 i] w fun e w' => e = .returned (.string (bs (smL k))) ∧ Below w.heap.size w w' := by
  subst hi
  have HR := Lib.hid (fun W => kRep 0 31 31 W rfl (by decide))
  have hw8 : IntKind.u8.wrap (k : Int) = (k : Int) := by rw [IntKind.wrap_u8]; omega
  have h8 : (UInt8.ofNat k).toNat = k := UInt8.toNat_ofNat_of_lt' (by show k < 256; omega)
  have HOC : Hid (∀ (W : World) (g : Nat), W.heap[g]? = some (.cells #[.int .u8 (k : Int)] 5 (0, 0)) → (convert 32 9 (.slice (some ⟨g, 0, none⟩) 1 1)).run Tryd.prog W = .ok (.string (bs [UInt8.ofNat k])) W) := Lib.hid (fun W g h => string_of_oc (l := [UInt8.ofNat k]) (oc_row (by rw [h]; simp [byC, h8])))
  have hcat := sm_cat k
  have hsx : (bs [UInt8.ofNat k]).size = 1 := rfl
  have hsy : (rp 0 31).size = 31 := rp_size _ _
  generalize bs [UInt8.ofNat k] = X at HOC hcat hsx
  generalize rp 0 31 = Y at HR hcat hsy
  clear h8
  obtain ⟨i5, h51, h52, h53, _⟩ := info_parts info5
  have HFL := Lib.hid (fill1 k)
  have H5 := Lib.hid (And.intro h51 (And.intro h52 h53))
  clear h51 h52 h53
  go_enter Tryd.func20, Tryd.ntmps20
  go_upto_region 1 with fail
  have hcvA := HOC.out ((w.alloc (.cells #[.int .u8 (k : Int)] 5)).drew) w.heap.size (heap_alloc_new w _)
  have hB1 := (bstep1 (o := .cells #[.int .u8 (k : Int)] 5) (Below.refl w.heap.size w)).drew
  have hB2 := (Below.refl w.heap.size w).drew
  have HB1 := Lib.hid hB1
  have HB2 := Lib.hid hB2
  clear hB1 hB2
  go_region_with (go_at_call 21; (with_reducible refine (HR.out _).mono ?_); rintro e V ⟨rfl, hb⟩; (try have hcvB := HOC.out V w.heap.size ((hb.block _ (by simp)).trans (heap_alloc_new w _))); have hcvC := HOC.out (V.alloc (.cells #[.int .u8 (k : Int)] 5)) V.heap.size (heap_alloc_new V _); have HBV := Lib.hid hb; clear hb)
  · go_wp2
    go_ret
    exact ⟨rfl, bstep HB1.out HBV.out⟩
  · go_wp2
    go_ret
    exact ⟨rfl, bstep HB1.out HBV.out⟩
  · go_wp2
    go_ret
    exact ⟨rfl, bstep1 (bstep HB2.out HBV.out)⟩
end Go.Proofs.YtbadiljligcenaaDoor
