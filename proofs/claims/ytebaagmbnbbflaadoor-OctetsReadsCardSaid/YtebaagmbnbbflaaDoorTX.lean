/- OctetsTexts returns true. -/
import Derived.Test.YtebaagmbnbbflaaDoorL
import Derived.Test.YtebaagmbnbbflaaDoorZ2
namespace Go.Proofs.YtebaagmbnbbflaaDoor
open Go.RowKit Go.ChangeShapes

theorem cut_any (s : ByteArray) : (s.extract 0 (min (s.size : Int) 300).toNat).size ≤ 300 := by
  rw [ByteArray.size_extract]; omega
theorem refHex_is (s H : ByteArray) (w : World) (hs : s.size ≤ 300) (hH : (⟨(hexL s.data.toList).toArray⟩ : ByteArray) = H) :
    Calls Tryd.prog 28 #[.string s] w fun e w' => e = .returned (.string H) ∧ Below w.heap.size w w' := by
  subst hH; exact refHex_any s w (by omega)
theorem hex_is (s H : ByteArray) (w : World) (hD : Digits w) (hs : s.size ≤ 300) (hH : (⟨(hexL s.data.toList).toArray⟩ : ByteArray) = H) :
    Calls Tryd.prog 29 #[.string s] w fun e w' => e = .returned (.string H) ∧ Below w.heap.size w w' := by
  subst hH; exact hex_any s w hD (by omega)
theorem hex_size {s H : ByteArray} (hs : s.size ≤ 300) (hH : (⟨(hexL s.data.toList).toArray⟩ : ByteArray) = H) : H.size ≤ 600 := by
  subst hH
  show (hexL s.data.toList).toArray.size ≤ 600
  rw [List.size_toArray, hexL_length]
  simp; omega

theorem conv_bytes (W : World) (H : ByteArray) : ∃ cap W3, (convert 9 56 (.string H)).run Tryd.prog W = .ok (.slice (some ⟨W.heap.size, 0, none⟩) H.size cap) W3 ∧
    (∀ j, j < H.size → W3.cell? ⟨W.heap.size, j, none⟩ = some (.int .u8 (tAt H j : Int)) ∧ W3.frozen? ⟨W.heap.size, j, none⟩ = false) ∧ Below W.heap.size W W3 ∧ W.heap.size < W3.heap.size := by
  refine ⟨_, _, run_bytes_of_string W 9 56 5 H Tryd.underlying9 Tryd.underlying56 Tryd.underlying5, fun j hj => ⟨?_, ?_⟩, ((Below.refl _ _).drew).alloc (Nat.le_refl _) _, by simp⟩
  · have h1 := World.cell?_alloc_mark W.drew (bytesRow H (grownCap W H.size 0 5)) 5 ((bytesRow H (grownCap W H.size 0 5)).size, (bytesRow H (grownCap W H.size 0 5)).size + 1) j
    refine h1.trans ((bytesRow_at H _ j hj).trans ?_)
    rw [← tAt_eq H j hj]
    rfl
  · have h1 := World.frozen?_alloc_mark W.drew (bytesRow H (grownCap W H.size 0 5)) 5 (bytesRow H (grownCap W H.size 0 5)).size ((bytesRow H (grownCap W H.size 0 5)).size + 1) j
    refine h1.trans ?_
    have : H.data.size ≤ (bytesRow H (grownCap W H.size 0 5)).size := by unfold bytesRow; simp
    have h2 : H.size = H.data.size := rfl
    rw [decide_eq_false (by omega)]
    rfl
theorem conv_back (W : World) (B cap n : Nat) (f : Nat → UInt8) (h : ∀ j, j < n → W.cell? ⟨B, j, none⟩ = some (.int .u8 ((f j).toNat : Int))) :
    ∃ T : ByteArray, T.size = n ∧ (convert 56 9 (.slice (some ⟨B, 0, none⟩) n cap)).run Tryd.prog W = .ok (.string T) W := by
  have hl : ((List.range n).map f).length = n := by simp
  refine ⟨⟨((List.range n).map f).toArray⟩, by show ((List.range n).map f).toArray.size = n; simp, ?_⟩
  have := run_convert_bytes_back W 56 9 5 ⟨B, 0, none⟩ cap ((List.range n).map f) Tryd.underlying56 Tryd.underlying5 Tryd.underlying9 fun j hj => by
    have hj' : j < n := by rw [← hl]; exact hj
    have ha : (⟨B, 0, none⟩ : Addr).add j = ⟨B, j, none⟩ := by unfold Addr.add; split <;> simp_all
    rw [ha, h j hj']
    simp
  rw [hl] at this
  exact this
theorem idx57 (a b c d : ByteArray) (ha : a.size ≤ 1000) (hb : b.size ≤ 1000) (hc : c.size ≤ 1000) (hd : d.size ≤ 1000) (j : Nat) (hj : j < 4) : ∃ X : ByteArray, X.size ≤ 1000 ∧ ∀ w : World, (Instr.index 57 (.agg #[.string a, .string b, .string c, .string d]) (.int .i64 (j : Int))).run Tryd.prog w = .ok (.string X) w := by
  match j, hj with
  | 0, _ => exact ⟨a, ha, fun w => by kernel_rfl⟩
  | 1, _ => exact ⟨b, hb, fun w => by kernel_rfl⟩
  | 2, _ => exact ⟨c, hc, fun w => by kernel_rfl⟩
  | 3, _ => exact ⟨d, hd, fun w => by kernel_rfl⟩
  | n + 4, h => exact absurd h (by omega)
theorem unhex_yes (X U : ByteArray) (w : World) (hD : Digits w) (hs : X.size ≤ 1000) (hX : okUn X) (hU : (⟨(unL X (X.size / 2)).toArray⟩ : ByteArray) = U) :
    Calls Tryd.prog 30 #[.string X] w fun e w' => e = .returned (.tuple #[.string U, .int .i64 0]) ∧ Below w.heap.size w w' := by
  subst hU; rw [← unRes_yes hX]; exact unhex_any X w hD (by omega)
theorem unhex_no (X : ByteArray) (w : World) (hD : Digits w) (hs : X.size ≤ 1000) (hX : ¬ okUn X) :
    Calls Tryd.prog 30 #[.string X] w fun e w' => e = .returned (.tuple #[.string ByteArray.empty, .int .i64 5]) ∧ Below w.heap.size w w' := by
  rw [← unRes_no hX]; exact unhex_any X w hD (by omega)
theorem refUnhex_yes (X U : ByteArray) (w : World) (hs : X.size ≤ 1000) (hX : okUn X) (hU : (⟨(unL X (X.size / 2)).toArray⟩ : ByteArray) = U) :
    Calls Tryd.prog 31 #[.string X] w fun e w' => e = .returned (.tuple #[.string U, .bool true]) ∧ Below w.heap.size w w' := by
  subst hU; rw [← refRes_yes hX]; exact refUnhex_any X w (by omega)
theorem refUnhex_no (X : ByteArray) (w : World) (hs : X.size ≤ 1000) (hX : ¬ okUn X) :
    Calls Tryd.prog 31 #[.string X] w fun e w' => e = .returned (.tuple #[.string ByteArray.empty, .bool false]) ∧ Below w.heap.size w w' := by
  rw [← refRes_no hX]; exact refUnhex_any X w (by omega)

set_option maxRecDepth 100000 in
set_option maxHeartbeats 8000000 in
theorem texts_true (s t : ByteArray) (p c : Int) (w : World) (hD : Digits w) (hs : s.size ≤ maxLen) (ht : t.size ≤ maxLen) (hp0 : 0 ≤ p) (hp1 : p ≤ 65535) (hc0 : 0 ≤ c) (hc1 : c ≤ 255) :
    Calls Tryd.prog 5 #[.string s, .string t, .int .u16 p, .int .u8 c] w fun e w' => e = .returned (.bool true) ∧ Below w.heap.size w w' := by
  have HD := Lib.hid hD
  clear hD
  have hcs := cut_any s
  have hct := cut_any t
  unfold maxLen at hs ht
  go_enter Tryd.func5, Tryd.ntmps5
  go_wp2_with (go_at_call 10; refine (works_true _ HD.out).mono ?_; rintro e W1 ⟨rfl, hB1⟩)
  go_quiet (fail)
  generalize s.extract 0 (min (s.size : Int) 300).toNat = z at hcs ⊢
  generalize t.extract 0 (min (t.size : Int) 300).toNat = y at hct ⊢
  obtain ⟨H, hH⟩ : ∃ H, (⟨(hexL z.data.toList).toArray⟩ : ByteArray) = H := ⟨_, rfl⟩
  have hH6 := hex_size hcs hH
  have HH := Lib.hid hH
  clear hH
  go_wp2_with fail
  refine (refHex_is z H _ hcs HH.out).mono ?_
  rintro e W2 ⟨rfl, hB2⟩
  have hB2' := bstep (bel_drewN hB1 _) hB2
  obtain ⟨cap, W3, hrun, hcell, hB3, hlt3⟩ := conv_bytes W2 H
  have HCELL := Lib.hid hcell
  have hB3' := bstep hB2' hB3
  have hz2 := hB2'.size
  clear hcell hB2 hB3
  by_cases hpos : 0 < H.size
  · have hq0 : 0 ≤ p % (H.size : Int) := Int.emod_nonneg _ (by omega)
    have hq1 : p % (H.size : Int) < (H.size : Int) := Int.emod_lt_of_pos _ (by omega)
    obtain ⟨q, hq⟩ := Int.eq_ofNat_of_zero_le hq0
    have hq2 : q < H.size := by omega
    have hqc := (HCELL.out q hq2).1
    have hqf := (HCELL.out q hq2).2
    have hBs : Below w.heap.size w (W3.setCell ⟨W2.heap.size, q, none⟩ (.int .u8 c)) := hB3'.setCell (p := ⟨W2.heap.size, q, none⟩) hz2 _
    go_wp2_with fail
    refine (hex_is z H _ (HD.out.below hBs) hcs HH.out).mono ?_
    rintro e W4 ⟨rfl, h4⟩
    have hB4 := bstep hBs h4
    obtain ⟨T, hT, hback⟩ := conv_back W4 W2.heap.size cap H.size (fun j => if j = q then UInt8.ofNat c.toNat else UInt8.ofNat (tAt H j)) (fun j hj => by
      have h5 := h4.cell (p := ⟨W2.heap.size, j, none⟩) (by simpa [World.setCell] using hlt3)
      rw [h5]
      by_cases e : j = q
      · subst e
        rw [World.cell?_setCell_same' _ _ _ (by rw [hqc]; rfl), if_pos rfl, UInt8.toNat_ofNat_of_lt' (by simp [UInt8.size]; omega)]
        rw [Int.toNat_of_nonneg hc0]
      · rw [World.cell?_setCell_other _ _ _ _ (by intro h; injection h with _ h2 _; exact e h2.symm), (HCELL.out j hj).1, if_neg e, UInt8.toNat_ofNat_of_lt' (tAt_lt H j)])
    clear h4 hqc hqf HCELL hBs
    go_wp2
    go_loopw [55] (fun i wr => ∃ j : Nat, j ≤ 4 ∧ i = .int .i64 j ∧ Below w.heap.size w wr) (fun i _ => 4 - (intOf i).toNat)
    case atStart => exact ⟨0, by omega, rfl, hB4⟩
    case round =>
      obtain ⟨j, hj, rfl, hB⟩ := hrel
      by_cases hlt : j < 4
      · obtain ⟨X, hX, hidx⟩ := idx57 y H T (H ++ ⟨#[48]⟩) (by omega) (by omega) (by omega) (by rw [ByteArray.size_append]; show H.size + 1 ≤ 1000; omega) j hlt
        by_cases hok : okUn X
        · have HOK := Lib.hid hok
          obtain ⟨U, hU⟩ : ∃ U, (⟨(unL X (X.size / 2)).toArray⟩ : ByteArray) = U := ⟨_, rfl⟩
          have HU := Lib.hid hU
          clear hok hU
          go_wp2_with (first | (go_at_call 30; refine (unhex_yes X U _ (HD.out.below hB) hX HOK.out HU.out).mono ?_; rintro e w5 ⟨rfl, h5⟩; have B5 := bstep hB h5; clear h5) | (go_at_call 31; refine (refUnhex_yes X U _ hX HOK.out HU.out).mono ?_; rintro e w6 ⟨rfl, h6⟩; have B6 := bstep B5 h6; clear h6))
          go_roundw
          case rel => exact ⟨j + 1, by omega, by go_num, B6⟩
          case measure => simp [intOf]; omega
        · have HOK := Lib.hid hok
          clear hok
          go_wp2_with (first | (go_at_call 30; refine (unhex_no X _ (HD.out.below hB) hX HOK.out).mono ?_; rintro e w5 ⟨rfl, h5⟩; have B5 := bstep hB h5; clear h5) | (go_at_call 31; refine (refUnhex_no X _ hX HOK.out).mono ?_; rintro e w6 ⟨rfl, h6⟩; have B6 := bstep B5 h6; clear h6))
          go_roundw
          case rel => exact ⟨j + 1, by omega, by go_num, B6⟩
          case measure => simp [intOf]; omega
      · go_wp2
        go_ret
        exact ⟨rfl, hB⟩
  · have h0 : H.size = 0 := by omega
    have H0 := Lib.hid h0
    go_wp2_with fail
    refine (hex_is z H _ (HD.out.below hB3') hcs HH.out).mono ?_
    rintro e W4 ⟨rfl, h4⟩
    have hB4 := bstep hB3' h4
    obtain ⟨T, hT, hback⟩ := conv_back W4 W2.heap.size cap 0 (fun _ => 0) (fun j hj => absurd hj (by omega))
    clear h4 HCELL h0
    go_wp2
    go_loopw [55] (fun i wr => ∃ j : Nat, j ≤ 4 ∧ i = .int .i64 j ∧ Below w.heap.size w wr) (fun i _ => 4 - (intOf i).toNat)
    case atStart => exact ⟨0, by omega, rfl, hB4⟩
    case round =>
      obtain ⟨j, hj, rfl, hB⟩ := hrel
      by_cases hlt : j < 4
      · obtain ⟨X, hX, hidx⟩ := idx57 y H T (H ++ ⟨#[48]⟩) (by omega) (by omega) (by omega) (by rw [ByteArray.size_append]; show H.size + 1 ≤ 1000; omega) j hlt
        by_cases hok : okUn X
        · have HOK := Lib.hid hok
          obtain ⟨U, hU⟩ : ∃ U, (⟨(unL X (X.size / 2)).toArray⟩ : ByteArray) = U := ⟨_, rfl⟩
          have HU := Lib.hid hU
          clear hok hU
          go_wp2_with (first | (go_at_call 30; refine (unhex_yes X U _ (HD.out.below hB) hX HOK.out HU.out).mono ?_; rintro e w5 ⟨rfl, h5⟩; have B5 := bstep hB h5; clear h5) | (go_at_call 31; refine (refUnhex_yes X U _ hX HOK.out HU.out).mono ?_; rintro e w6 ⟨rfl, h6⟩; have B6 := bstep B5 h6; clear h6))
          go_roundw
          case rel => exact ⟨j + 1, by omega, by go_num, B6⟩
          case measure => simp [intOf]; omega
        · have HOK := Lib.hid hok
          clear hok
          go_wp2_with (first | (go_at_call 30; refine (unhex_no X _ (HD.out.below hB) hX HOK.out).mono ?_; rintro e w5 ⟨rfl, h5⟩; have B5 := bstep hB h5; clear h5) | (go_at_call 31; refine (refUnhex_no X _ hX HOK.out).mono ?_; rintro e w6 ⟨rfl, h6⟩; have B6 := bstep B5 h6; clear h6))
          go_roundw
          case rel => exact ⟨j + 1, by omega, by go_num, B6⟩
          case measure => simp [intOf]; omega
      · go_wp2
        go_ret
        exact ⟨rfl, hB⟩
end Go.Proofs.YtebaagmbnbbflaaDoor
