/- OctetsDigits returns true. -/
import Derived.Test.YtebaagmbnbbflaaDoorL
import Derived.Test.YtebaagmbnbbflaaDoorDP
import Derived.Test.YtebaagmbnbbflaaDoorTX
import Derived.Deep.RegionWith
import Derived.Deep.DeepCutAuto
namespace Go.Proofs.YtebaagmbnbbflaaDoor
open Go.RowKit Go.ChangeShapes

theorem hexd (z H : ByteArray) (w : World) (hD : Digits w) (hs : z.size ≤ 1000) (hH : hexB z = H) :
    Calls Tryd.prog 29 #[.string z] w fun e w' => e = .returned (.string H) ∧ Below w.heap.size w w' := by
  subst hH; exact hex_any z w hD (by omega)
theorem upd (z H U : ByteArray) (w : World) (hs : z.size ≤ 1000) (hH : hexB z = H) (hU : upB z = U) :
    Calls Tryd.prog 37 #[.string H] w fun e w' => e = .returned (.string U) ∧ Below w.heap.size w w' := by
  subst hH hU
  exact Tryd.strings_ToUpper_ascii (hexB z) w (by rw [hexB_size]; omega) (hexB_ascii z)
/-- A draw before, a draw behind: below a block number nothing turns. -/
theorem bel_of_drew {B : Nat} {a w : World} (h : Below B a.drew w) : Below B a w := ⟨h.os, h.tape, h.output, h.size, h.block⟩
theorem pstep2 {W W' : World} {x y : Value} {t u : TypeId} (h : Below (((W.alloc (.cells #[x] t)).alloc (.cells #[y] u)).drew).heap.size ((W.alloc (.cells #[x] t)).alloc (.cells #[y] u)).drew W') :
    W'.cell? ⟨W.heap.size, 0, none⟩ = some x ∧ W'.cell? ⟨W.heap.size + 1, 0, none⟩ = some y ∧ Below W.heap.size W W' := pstep (bel_of_drew h)

theorem unhex_nil (X : ByteArray) (w : World) (hD : Digits w) (hs : X.size ≤ 1000) (hX : ¬ okUn X) :
    Calls Tryd.prog 30 #[.string X] w fun e w' => e = .returned (.tuple #[.string ⟨#[]⟩, .int .i64 5]) ∧ Below w.heap.size w w' := unhex_no X w hD hs hX

set_option maxRecDepth 1000000 in
set_option maxHeartbeats 8000000 in
theorem digits_true (s : ByteArray) (c : Int) (w : World) (hD : Digits w) (hs : s.size ≤ maxLen) (hc0 : 0 ≤ c) (hc1 : c ≤ 255) :
    Calls Tryd.prog 8 #[.string s, .int .u8 c] w fun e w' => e = .returned (.bool true) ∧ Below w.heap.size w w' := by
  have HD := Lib.hid hD
  clear hD
  have hcs := cut_any s
  have hmf : ∀ (fn : Fn) (first cap : Array Value) (w : World), (Instr.makeFunc fn first cap).run Tryd.prog w = .ok (.func fn first cap) w := fun _ _ _ _ => rfl
  obtain ⟨C, hC⟩ : ∃ C, (⟨#[UInt8.ofNat c.toNat]⟩ : ByteArray) = C := ⟨_, rfl⟩
  have hone : ∀ (W : World) (b : Nat), W.cell? ⟨b, 0, none⟩ = some (.int .u8 c) → (convert 56 9 (.slice (some ⟨b, 0, none⟩) 1 1)).run Tryd.prog W = .ok (.string C) W := by
    subst hC
    intro W b hcell
    have hcc : ((UInt8.ofNat c.toNat).toNat : Int) = c := by rw [UInt8.toNat_ofNat_of_lt' (by simp [UInt8.size]; omega)]; omega
    exact run_convert_bytes_back _ 56 9 5 ⟨b, 0, none⟩ 1 [UInt8.ofNat c.toNat] Tryd.underlying56 Tryd.underlying5 Tryd.underlying9 fun j hj => by
      have hj0 : j = 0 := by simp at hj; omega
      subst hj0
      rw [show (⟨b, 0, none⟩ : Addr).add 0 = ⟨b, 0, none⟩ from rfl, hcell]
      simp only [List.getElem_cons_zero, hcc]
  have hCs : C.size ≤ 1 := by subst hC; exact Nat.le_refl _
  obtain ⟨D, hD⟩ : ∃ D, hexB C = D := ⟨_, rfl⟩
  have hDs : D.size ≤ 2 := by rw [← hD, hexB_size]; omega
  unfold maxLen at hs
  go_enter Tryd.func8, Tryd.ntmps8
  go_wp2_with (first | (go_at_call 10; refine (works_true _ HD.out).mono ?_; rintro e W1 ⟨rfl, hB1⟩))
  generalize s.extract 0 (min (s.size : Int) 300).toNat = z at hcs ⊢
  obtain ⟨H, hH⟩ : ∃ H, hexB z = H := ⟨_, rfl⟩
  have hHs : H.size = 2 * z.size := by rw [← hH, hexB_size]
  have hH6 : H.size ≤ 600 := by omega
  have hlen : ((H.size : Int) != 2 * (z.size : Int)) = false := by simp; omega
  have hk1 : ¬ 9223372036854775807 < z.size + C.size := by omega
  have hk2 : ¬ 9223372036854775807 < H.size + D.size := by omega
  have hwr : IntKind.i64.wrap (2 * (z.size : Int)) = 2 * (z.size : Int) := IntWalk.i64_in _ ⟨by omega, by omega⟩
  have hsn : hexB (z ++ C) = H ++ D := by rw [← hC, hexB_snoc, hH, hC, hD]
  have hzc : (z ++ C).size ≤ 1000 := by rw [ByteArray.size_append]; omega
  have hok : okUn H := by rw [← hH]; exact hexB_ok z
  have hbk : (⟨(unL H (H.size / 2)).toArray⟩ : ByteArray) = z := by rw [← hH]; exact hexB_back z
  have HHS := Lib.hid hHs
  have HH := Lib.hid hH
  have HDD := Lib.hid hD
  have HSN := Lib.hid hsn
  have HOK := Lib.hid hok
  have HBK := Lib.hid hbk
  have HCC := Lib.hid hC
  have HZC := Lib.hid hzc
  clear hHs hH hD hsn hok hbk hC hzc
  refine (hexd z H _ (HD.out.below hB1) (by omega) HH.out).mono ?_
  rintro e W2 ⟨rfl, hB2⟩
  have hB := bstep hB1 hB2
  clear hB1 hB2
  go_upto_region 5 with fail
  go_cut [46] (fun s46 wx => s46 = .bool false ∧ Below w.heap.size w wx)
  case first =>
    go_region_with (first
      | (go_at_call 36; refine (puts_any _ _ _).mono ?_; rintro e X ⟨rfl, rfl⟩)
      | (go_at_call 30; refine (unhex_yes H z _ ?_ (by omega) HOK.out HBK.out).mono ?_; exact Digits.drew (HD.out.below (bstep2 hB)); rintro e W3 ⟨rfl, h3⟩; obtain ⟨p3, q3, h3⟩ := pstep2 h3; have B3 := bstep hB h3; have hz3 := B3.size; clear h3)
      | (go_at_call 57; refine (puts1_yes _ _ _ _ _ p3 q3).mono ?_; rintro e X2 ⟨rfl, rfl⟩; clear p3 q3)
      | (go_at_call_of 29 (z ++ C); refine (hexd (z ++ C) (H ++ D) _ ?_ HZC.out HSN.out).mono ?_; exact HD.out.below (by go_grown); rintro e W4 ⟨rfl, h4⟩; have hcA : W4.cell? ⟨W3.heap.size, 0, none⟩ = some (.int .u8 c) := (h4.cell (p := ⟨W3.heap.size, 0, none⟩) (by go_size)).trans (by simp [World.cell?_alloc_some]); (try (have hcB : W4.cell? ⟨W3.heap.size + 1, 0, none⟩ = some (.int .u8 c) := (h4.cell (p := ⟨W3.heap.size + 1, 0, none⟩) (by go_size)).trans (by simp))); have B4 : Below w.heap.size w W4 := bstep (by go_grown) h4; have hz4 := B4.size; have hy4 := h4.size; (try simp at hy4); clear h4)
      | (go_at_call_of 29 (Value.string C); refine (hexd C D _ ?_ (by omega) HDD.out).mono ?_; exact HD.out.below (by go_grown); rintro e W5 ⟨rfl, h5⟩; have B5 : Below w.heap.size w W5 := bstep (by go_grown) h5; clear h5))
    all_goals (first | (go_meet; exact ⟨rfl, B5⟩) | (go_wp2_with fail; go_meet; exact ⟨rfl, B5⟩))
  case rest =>
    obtain ⟨rfl, hB3⟩ := hcut
    obtain ⟨U, hU⟩ : ∃ U, upB z = U := ⟨_, rfl⟩
    have hUs : U.size ≤ 1000 := by rw [← hU, upB_size]; omega
    have HU := Lib.hid hU
    obtain ⟨Y, hY⟩ : ∃ Y, H.extract 0 (H.size - 1) = Y := ⟨_, rfl⟩
    have hYs : Y.size ≤ 1000 := by rw [← hY, ByteArray.size_extract]; omega
    have HY := Lib.hid hY
    clear hU hY
    have hz1000 : z.size ≤ 1000 := by omega
    by_cases hz0 : 0 < z.size
    · have hH0 : 0 < H.size := by have := HHS.out; omega
      have tg : decide ((0 : Int) < (H.size : Int)) = true := by simp; omega
      have HYN := Lib.hid (show ¬ okUn Y by rw [← HY.out, ← HH.out]; exact cut_bad z hz0)
      have hwx : IntKind.i64.wrap ((H.size : Int) - 1) = (H.size : Int) - 1 := IntWalk.i64_in _ ⟨by omega, by omega⟩
      have hsl : ∀ wx : World, (Instr.slice 9 (.string H) none (some (.int .i64 ((H.size : Int) - 1))) none).run Tryd.prog wx = .ok (.string Y) wx := fun wx => by
        have := run_slice_string_h (P := Tryd.prog) (w := wx) (t := 9) (s := H) Tryd.underlying9 .i64 ((H.size : Int) - 1) (by omega) (by omega)
        rw [this, show ((H.size : Int) - 1).toNat = H.size - 1 from by omega, HY.out]
      go_wp2_with fail
      go_region_held3 (fun _ => True) (first | trivial) (first
        | (go_at_call 36; refine (puts_any _ _ _).mono ?_; rintro e X ⟨rfl, rfl⟩)
        | (go_at_call 30; refine (unhex_nil Y _ ?_ hYs HYN.out).mono ?_; exact Digits.drew (HD.out.below (bstep2 hB3)); rintro e W6 ⟨rfl, h6⟩; obtain ⟨p6, q6, h6⟩ := pstep2 h6; have B6 := bstep hB3 h6; clear h6)
        | (go_at_call 57; refine (puts1_yes _ _ _ _ _ p6 q6).mono ?_; rintro e X6 ⟨rfl, rfl⟩; clear p6 q6))
      have B7 := B6
      go_wp2_with fail
      refine (upd z H U _ hz1000 HH.out HU.out).mono ?_
      rintro e W8 ⟨rfl, h8⟩
      have B8 := bstep (by first | exact B7 | exact B7 _) h8
      clear h8
      go_wp2_with fail
      · go_ret
        exact ⟨rfl, B8⟩
      · have hul : ¬ U.toList = H.toList := by assumption
        have hud : ¬ U = H := fun e => hul (by rw [e])
        have HUN := Lib.hid (show ¬ okUn U by rw [← HU.out]; exact up_bad z (by rw [HU.out, HH.out]; exact hud))
        clear hud
        refine (puts_any _ _ _).mono ?_
        rintro e Z8 ⟨rfl, rfl⟩
        go_wp2_with fail
        refine (unhex_nil U _ (HD.out.below (bstep2 B8)) hUs HUN.out).mono ?_
        rintro e W9 ⟨rfl, h9⟩
        obtain ⟨p9, q9, h9⟩ := pstep h9
        have B9 := bstep B8 h9
        clear h9
        go_wp2_with fail
        refine (puts1_yes _ _ _ _ _ p9 q9).mono ?_
        rintro e Z9 ⟨rfl, rfl⟩
        go_wp2
        go_ret
        exact ⟨rfl, B9⟩
    · have hH0 : H.size = 0 := by have := HHS.out; omega
      have tg : decide ((0 : Int) < (H.size : Int)) = false := decide_eq_false (by omega)
      have tgN : decide (0 < H.size) = false := decide_eq_false (by omega)
      have HH0 := Lib.hid hH0
      have HZ0 := Lib.hid hz0
      clear hz0 hH0
      go_wp2_with fail
      go_quiet (fail)
      have B7 := bel_drewN hB3
      go_wp2_with fail
      refine (upd z H U _ hz1000 HH.out HU.out).mono ?_
      rintro e W8 ⟨rfl, h8⟩
      have B8 := bstep (by first | exact B7 | exact B7 _) h8
      clear h8
      go_wp2_with fail
      · go_ret
        exact ⟨rfl, B8⟩
      · have hul : ¬ U.toList = H.toList := by assumption
        have hud : ¬ U = H := fun e => hul (by rw [e])
        have HUN := Lib.hid (show ¬ okUn U by rw [← HU.out]; exact up_bad z (by rw [HU.out, HH.out]; exact hud))
        clear hud
        refine (puts_any _ _ _).mono ?_
        rintro e Z8 ⟨rfl, rfl⟩
        go_wp2_with fail
        refine (unhex_nil U _ (HD.out.below (bstep2 B8)) hUs HUN.out).mono ?_
        rintro e W9 ⟨rfl, h9⟩
        obtain ⟨p9, q9, h9⟩ := pstep h9
        have B9 := bstep B8 h9
        clear h9
        go_wp2_with fail
        refine (puts1_yes _ _ _ _ _ p9 q9).mono ?_
        rintro e Z9 ⟨rfl, rfl⟩
        go_wp2
        go_ret
        exact ⟨rfl, B9⟩
end Go.Proofs.YtebaagmbnbbflaaDoor
