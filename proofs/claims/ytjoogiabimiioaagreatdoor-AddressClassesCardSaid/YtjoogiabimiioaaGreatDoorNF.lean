/- Contracts of readPort and readFour. -/
import Derived.Test.YtjoogiabimiioaaGreatDoorNB
import Derived.Test.YtjoogiabimiioaaGreatDoorND
import Derived.Test.YtjoogiabimiioaaGreatDoorNE
namespace Go.Proofs.YtjoogiabimiioaaGreatDoor
open Go.RowKit Go.ChangeShapes
theorem Only.belowNew {w W V : World} {o : Obj} {g : Nat} (hg : g = w.heap.size) (hW : w.alloc o = W) (ho : Only g W V) : Below w.heap.size w V := by
  subst hg hW
  refine ⟨ho.os, ho.tape, ho.output, ?_, fun j hj => ?_⟩
  · have := ho.size; rw [World.size_alloc] at this; omega
  · have h1 : j < (w.alloc o).heap.size := by rw [World.size_alloc]; omega
    have h2 : some j ≠ some w.heap.size := fun e => by cases e; omega
    rw [ho.block j h1 h2]; exact Below.heap_alloc w _ j hj
theorem plc_val (np base max : Nat) (row : List Nat) (ps : List (List UInt8)) (hrow : row.length = np) (h0 : ∀ v ∈ row, v ≤ max) :
    (plc row (rdP np base max 0 ps).1).length = np ∧ ∀ v ∈ plc row (rdP np base max 0 ps).1, v ≤ max :=
  ⟨by rw [plc_length row _ (by have := rdP_len np base max ps 0 (Nat.zero_le _); omega)]; exact hrow, plc_le h0 (rdP_le np base max ps 0)⟩
set_option maxRecDepth 100000 in
set_option maxHeartbeats 2000000 in
theorem readPort_any (s : List UInt8) (w : World) (hs : s.length ≤ 1000) :
    Calls Tryz.prog 51 #[.string (bs s)] w fun e w' => e = .returned (.tuple #[.int .i64 (((plc [0] (rdP 1 10 65535 0 (splP 58 s)).1).getD 0 0 : Nat) : Int), .bool (rdP 1 10 65535 0 (splP 58 s)).2]) ∧ Below w.heap.size w w' := by
  obtain ⟨n, hn, hr, hle⟩ : ∃ n, (plc [0] (rdP 1 10 65535 0 (splP 58 s)).1).getD 0 0 = n ∧ rwK .u16 (plc [0] (rdP 1 10 65535 0 (splP 58 s)).1) = #[.int .u16 (n : Int)] ∧ n ≤ 65535 := by
    obtain ⟨h1, h2⟩ := plc_val 1 10 65535 [0] (splP 58 s) rfl (by simp)
    rcases hp : plc [0] (rdP 1 10 65535 0 (splP 58 s)).1 with _ | ⟨v, _ | _⟩
    · rw [hp] at h1; cases h1
    · exact ⟨v, rfl, rfl, h2 v (by rw [hp]; simp)⟩
    · rw [hp] at h1; cases h1
  have HR : Hid (∀ W, W.heap[w.heap.size]? = some (.cells #[.int .u16 0] 126 (0, 0)) → Calls Tryz.prog 85 #[.slice (some ⟨w.heap.size, 0, none⟩) 1 1, .string (bs s), .string ⟨#[58]⟩, .int .i64 10] W fun e w' =>
      e = .returned (.tuple #[.int .i64 ((rdP 1 10 65535 0 (splP 58 s)).1.length : Int), .bool (rdP 1 10 65535 0 (splP 58 s)).2]) ∧ Only w.heap.size W w' ∧ w'.heap[w.heap.size]? = some (.cells #[.int .u16 (n : Int)] 126 (0, 0))) :=
    Lib.hid (fun W h => by rw [← hr]; exact read85_any 126 w.heap.size 1 10 [0] 58 s W (.inl rfl) (by decide) rfl hs h)
  have HN := Lib.hid (heap_alloc_new w (.cells #[.int .u16 0] 126))
  have hw : wrap64 (n : Int) = (n : Int) := w64_nat (x := n) (by omega)
  rw [hn]
  clear hn hr hle hs
  generalize (rdP 1 10 65535 0 (splP 58 s)).2 = rr at HR ⊢
  generalize ((rdP 1 10 65535 0 (splP 58 s)).1.length : Int) = cc at HR
  go_enter Tryz.func51, Tryz.ntmps51
  go_upto_region 2 with fail
  refine wp_region_lit ?_
  go_wp2_with (go_at_call 85; (with_reducible refine (HR.out _ HN.out).mono ?_); rintro e V ⟨rfl, ho, hrow⟩; (have hb := ho.belowNew rfl rfl); (have hc : V.cell? ⟨w.heap.size, 0, none⟩ = some (.int .u16 (n : Int)) := cell_of_row V w.heap.size 0 _ 126 (0, 0) hrow); clear ho hrow)
  go_ret2
  exact ⟨congrArg (fun z => Ending.returned (Value.tuple #[Value.int .i64 z, Value.bool rr])) hw, hb⟩
def fourL (s : List UInt8) : List UInt8 := (plc [0, 0, 0, 0] (rdP 4 10 255 0 (splP 46 s)).1).map UInt8.ofNat
def fourR (s : List UInt8) : Bool := (rdP 4 10 255 0 (splP 46 s)).2 && ((rdP 4 10 255 0 (splP 46 s)).1.length == 4)
set_option maxRecDepth 100000 in
set_option maxHeartbeats 2000000 in
theorem readFour_any (s : List UInt8) (w : World) (hs : s.length ≤ 1000) :
    Calls Tryz.prog 48 #[.string (bs s)] w fun e w' => e = .returned (.tuple #[.string (bs (fourL s)), .bool (fourR s)]) ∧ Below w.heap.size w w' := by
  have HCV : Hid (∀ V : World, V.heap[w.heap.size]? = some (.cells (rwK .u8 (plc [0, 0, 0, 0] (rdP 4 10 255 0 (splP 46 s)).1)) 122 (0, 0)) → (convert 54 9 (.slice (some ⟨w.heap.size, 0, none⟩) 4 4)).run Tryz.prog V = .ok (.string (bs (fourL s))) V) := Lib.hid (fun V hV => by
    obtain ⟨h1, h2⟩ := plc_val 4 10 255 [0, 0, 0, 0] (splP 46 s) rfl (by simp)
    have hl : (fourL s).length = 4 := by rw [fourL, List.length_map]; exact h1
    have h := tail_conv (W := V) (g := w.heap.size) (L := fourL s) 0 4 4 (fun j hj => ⟨by
      rw [cell_of_row V w.heap.size j _ 122 (0, 0) hV]
      unfold fourL at hj ⊢
      rw [List.length_map] at hj
      have h3 := h2 _ (List.getElem_mem hj)
      simp [rwK, hj]
      omega, frozen_of_row V _ _ _ _ hV⟩) (by rw [hl])
    exact h)
  have HR : Hid (∀ W, W.heap[w.heap.size]? = some (.cells #[.int .u8 0, .int .u8 0, .int .u8 0, .int .u8 0] 122 (0, 0)) → Calls Tryz.prog 83 #[.slice (some ⟨w.heap.size, 0, none⟩) 4 4, .string (bs s), .string ⟨#[46]⟩, .int .i64 10] W fun e w' =>
      e = .returned (.tuple #[.int .i64 ((rdP 4 10 255 0 (splP 46 s)).1.length : Int), .bool (rdP 4 10 255 0 (splP 46 s)).2]) ∧ Only w.heap.size W w' ∧ w'.heap[w.heap.size]? = some (.cells (rwK .u8 (plc [0, 0, 0, 0] (rdP 4 10 255 0 (splP 46 s)).1)) 122 (0, 0))) :=
    Lib.hid (fun W h => read83_any 122 w.heap.size 4 10 [0, 0, 0, 0] 46 s W (.inl rfl) (by decide) rfl hs h)
  have HN := Lib.hid (heap_alloc_new w (.cells #[.int .u8 0, .int .u8 0, .int .u8 0, .int .u8 0] 122))
  obtain ⟨L, hL⟩ : ∃ L, bs (fourL s) = L := ⟨_, rfl⟩
  rw [hL] at HCV ⊢
  rw [fourR]
  generalize rwK .u8 (plc [0, 0, 0, 0] (rdP 4 10 255 0 (splP 46 s)).1) = row at HR HCV
  generalize (rdP 4 10 255 0 (splP 46 s)).2 = rr at HR ⊢
  generalize (rdP 4 10 255 0 (splP 46 s)).1.length = cc at HR ⊢
  clear hL hs
  rcases rr with _ | _
  · go_enter Tryz.func48, Tryz.ntmps48
    go_upto_region 2 with fail
    refine wp_region_lit ?_
    go_wp2_with (go_at_call 83; (with_reducible refine (HR.out _ HN.out).mono ?_); rintro e V ⟨rfl, ho, hrow⟩; (have hb := ho.belowNew rfl rfl); (have hc := HCV.out V hrow); clear ho hrow)
    go_ret2
    exact ⟨rfl, hb⟩
  · by_cases h4 : cc = 4
    · have e1 : (cc : Int) = 4 := by omega
      have e2 : (cc == 4) = true := by rw [h4]; rfl
      rw [e2]
      clear e2 h4
      go_enter Tryz.func48, Tryz.ntmps48
      go_upto_region 2 with fail
      refine wp_region_lit ?_
      go_wp2_with (go_at_call 83; (with_reducible refine (HR.out _ HN.out).mono ?_); rintro e V ⟨rfl, ho, hrow⟩; (have hb := ho.belowNew rfl rfl); (have hc := HCV.out V hrow); clear ho hrow)
      go_ret2
      exact ⟨rfl, hb⟩
    · have e1 : ((cc : Int) == 4) = false := beq_false_of_ne (by omega)
      have e3 : ¬ (cc : Int) = 4 := by omega
      have e2 : (cc == 4) = false := beq_false_of_ne h4
      rw [e2]
      clear e2 h4
      go_enter Tryz.func48, Tryz.ntmps48
      go_upto_region 2 with fail
      refine wp_region_lit ?_
      go_wp2_with (go_at_call 83; (with_reducible refine (HR.out _ HN.out).mono ?_); rintro e V ⟨rfl, ho, hrow⟩; (have hb := ho.belowNew rfl rfl); (have hc := HCV.out V hrow); clear ho hrow)
      go_ret2
      exact ⟨rfl, hb⟩
end Go.Proofs.YtjoogiabimiioaaGreatDoor
