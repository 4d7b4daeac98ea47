/- The reference of layer 7: Class. -/
import Derived.Test.YtjoogiabimiioaaGreatDoorRA
import Derived.Test.YtjoogiabimiioaaGreatDoorPD
namespace Go.Proofs.YtjoogiabimiioaaGreatDoor
open Go.RowKit Go.ChangeShapes
theorem oct2 (x y : UInt8) : UInt8.ofNat ((x.toNat * 256 + y.toNat) / 256) = x ∧ UInt8.ofNat ((x.toNat * 256 + y.toNat) % 256) = y := by
  have hx := x.toNat_lt
  have hy := y.toNat_lt
  constructor
  · rw [show (x.toNat * 256 + y.toNat) / 256 = x.toNat by omega]; exact UInt8.ofNat_toNat
  · rw [show (x.toNat * 256 + y.toNat) % 256 = y.toNat by omega]; exact UInt8.ofNat_toNat
theorem grp16 (a0 a1 a2 a3 a4 a5 a6 a7 a8 a9 a10 a11 a12 a13 a14 a15 : UInt8) : grpL [a0, a1, a2, a3, a4, a5, a6, a7, a8, a9, a10, a11, a12, a13, a14, a15] = [a0.toNat * 256 + a1.toNat, a2.toNat * 256 + a3.toNat, a4.toNat * 256 + a5.toNat, a6.toNat * 256 + a7.toNat, a8.toNat * 256 + a9.toNat, a10.toNat * 256 + a11.toNat, a12.toNat * 256 + a13.toNat, a14.toNat * 256 + a15.toNat] := by
  simp [grpL, prF, seF, gN, Z8, show List.range 8 = [0, 1, 2, 3, 4, 5, 6, 7] from rfl, Fin.ofNat]
  rfl
theorem grp4 (a b c d : UInt8) : grpL [a, b, c, d] = [a.toNat * 256 + b.toNat, c.toNat * 256 + d.toNat, 0, 0, 0, 0, 0, 0] := by
  simp [grpL, prF, seF, gN, Z8, show List.range 2 = [0, 1] from rfl, Fin.ofNat]
theorem dropWhile_nil {α : Type} (p : α → Bool) : ∀ l : List α, l.dropWhile p = [] ↔ ∀ x ∈ l, p x = true
  | [] => by simp
  | x :: l => by
    rw [List.dropWhile_cons]
    by_cases h : p x = true
    · rw [if_pos h, dropWhile_nil p l]; simp [h]
    · rw [if_neg h]; simp [h]
theorem octL_grpL_ (a0 a1 a2 a3 a4 a5 a6 a7 a8 a9 a10 a11 a12 a13 a14 a15 : UInt8) : octL (grpL [a0, a1, a2, a3, a4, a5, a6, a7, a8, a9, a10, a11, a12, a13, a14, a15]) = [a0, a1, a2, a3, a4, a5, a6, a7, a8, a9, a10, a11, a12, a13, a14, a15] := by
  rw [grp16]
  simp only [octL, List.flatMap_cons, List.flatMap_nil, List.cons_append, List.nil_append, (oct2 a0 a1).1, (oct2 a0 a1).2, (oct2 a2 a3).1, (oct2 a2 a3).2, (oct2 a4 a5).1, (oct2 a4 a5).2, (oct2 a6 a7).1, (oct2 a6 a7).2, (oct2 a8 a9).1, (oct2 a8 a9).2, (oct2 a10 a11).1, (oct2 a10 a11).2, (oct2 a12 a13).1, (oct2 a12 a13).2, (oct2 a14 a15).1, (oct2 a14 a15).2]
theorem octL_grpL (s : List UInt8) (h : s.length = 16) : octL (grpL s) = s := by
  match s, h with
  | [a0, a1, a2, a3, a4, a5, a6, a7, a8, a9, a10, a11, a12, a13, a14, a15], _ => exact octL_grpL_ a0 a1 a2 a3 a4 a5 a6 a7 a8 a9 a10 a11 a12 a13 a14 a15
/-- The host whose last octet is 1. -/
def oneL : List UInt8 := List.replicate 15 0 ++ [1]
theorem grp_one (s : List UInt8) (h : s.length = 4 ∨ s.length = 16) : (grpL s == L8) = ((bs s).toList == (bs oneL).toList) := by
  rw [Lib.toList_data, Lib.toList_data, bs_data, bs_data, Bool.eq_iff_iff, beq_iff_eq, beq_iff_eq]
  rcases h with h | h
  · match s, h with
    | [a, b, c, d], _ =>
      constructor
      · intro e
        rw [grp4] at e
        have := congrArg (fun l : List Nat => l.getD 7 0) e
        exact absurd this (by show ¬ (0 = 1); decide)
      · intro e
        have := congrArg List.length e
        simp [oneL] at this
  · constructor
    · intro e
      have := octL_grpL s h
      rw [e] at this
      rw [← this]; rfl
    · rintro rfl; rfl
theorem all_zero (s : List UInt8) : zerB (bs s) = s.all (· == 0) := by
  unfold zerB
  rw [bs_data, Bool.eq_iff_iff, List.isEmpty_iff]
  unfold Lib.trimB Lib.trimLeftB Lib.trimRightB
  rw [dropWhile_nil, List.all_eq_true]
  constructor
  · intro h
    have h2 : s.reverse.dropWhile (· == 0) = [] := by
      rcases hd : s.reverse.dropWhile (· == 0) with _ | ⟨x, r⟩
      · rfl
      · have hx : (x == 0) = true := h x (by rw [hd]; simp)
        have := List.head?_dropWhile_not (fun y : UInt8 => y == 0) s.reverse
        rw [hd] at this
        simp at this
        simp at hx
        exact absurd hx this
    rw [dropWhile_nil] at h2
    exact fun x hx => h2 x (List.mem_reverse.2 hx)
  · intro h
    have h2 : s.reverse.dropWhile (· == 0) = [] := (dropWhile_nil _ _).2 fun x hx => h x (List.mem_reverse.1 hx)
    rw [h2]; simp
def C15o : Array Value := (List.replicate 15 (Value.int .u8 0)).toArray
theorem make15 (w : World) : (Instr.makeSlice 54 (.int .i64 15) (.int .i64 15)).run Tryz.prog w = .ok (.slice (some ⟨w.heap.size, 0, none⟩) 15 15) (w.alloc (.cells C15o 5)) := by kernel_rfl
theorem conv15 (W : World) (g : Nat) (h : W.heap[g]? = some (.cells C15o 5 (0, 0))) : (convert 54 9 (.slice (some ⟨g, 0, none⟩) 15 15)).run Tryz.prog W = .ok (.string (bs (List.replicate 15 0))) W := by
  refine run_convert_bytes_back (P := Tryz.prog) W 54 9 5 ⟨g, 0, none⟩ 15 (List.replicate 15 0) Tryz.underlying54 Tryz.underlying5 Tryz.underlying9 (fun j hj => ?_)
  rw [WideShapes.add_plain, cell_of_row _ g (0 + j) _ 5 (0, 0) h, Nat.zero_add, C15o, List.getElem?_toArray]
  exact byC_get (l := List.replicate 15 0) hj
theorem conv1 (W : World) (g : Nat) (h : W.heap[g]? = some (.cells #[.int .u8 1] 5 (0, 0))) : (convert 54 9 (.slice (some ⟨g, 0, none⟩) 1 1)).run Tryz.prog W = .ok (.string (bs [1])) W := by
  refine run_convert_bytes_back (P := Tryz.prog) W 54 9 5 ⟨g, 0, none⟩ 1 [1] Tryz.underlying54 Tryz.underlying5 Tryz.underlying9 (fun j hj => ?_)
  rw [WideShapes.add_plain, cell_of_row _ g (0 + j) _ 5 (0, 0) h, Nat.zero_add]
  change (byC [1]).toArray[j]? = _
  rw [List.getElem?_toArray]
  exact byC_get hj
theorem addOne (W : World) : (binOp .add 9 (.string (bs (List.replicate 15 0))) (.string (bs [1]))).run Tryz.prog W = .ok (.string (bs oneL)) W := by kernel_rfl
theorem fo4 : fo [255, 255, 255, 255] = [255, 255, 255, 255] := rfl
theorem cls_eq (s : List UInt8) (h : s.length = 4 ∨ s.length = 16) : clsN s = if zerB (bs s) then 2 else if w4 (bs s) [127] 8 || ((bs s).toList == (bs oneL).toList) then 3 else if w4 (bs s) [169, 254] 16 || w6 (bs s) 65152 10 then 4 else if w4 (bs s) [10] 8 || w4 (bs s) [172, 16] 12 || w4 (bs s) [192, 168] 16 || w6 (bs s) 64512 7 then 5 else if w4 (bs s) [224] 4 || ((bs s).toList == (bs [255, 255, 255, 255]).toList) || w6 (bs s) 65280 8 then 6 else 1 := by
  rw [← grp_one s h]; rfl
set_option maxRecDepth 100000 in
set_option maxHeartbeats 16000000 in
theorem rClass_any (s : List UInt8) (w : World) (hs : s.length = 4 ∨ s.length = 16) : Calls Tryz.prog 27 #[.string (bs s)] w fun e w' => e = .returned (.int .i64 (clsN s : Int)) ∧ Below w.heap.size w w' := by
  have hsl : s.length ≤ 16 := by omega
  have F0 := Lib.hid (fun W => four44_lit 127 0 0 0 127 0 0 0 W rfl rfl rfl rfl)
  have T0 : Hid (∀ W, Calls Tryz.prog 29 #[.string (bs s), .string (bs [127, 0, 0, 0]), .int .i64 8] W fun e w' => e = .returned (.bool (w4 (bs s) [127] 8)) ∧ w' = W) := Lib.hid (fun W => rWithin_any (bs s) (bs [127, 0, 0, 0]) 8 W (by decide) (by decide) (by rw [bs_size]; omega))
  have F2 := Lib.hid (fun W => four44_lit 169 254 0 0 169 254 0 0 W rfl rfl rfl rfl)
  have T2 : Hid (∀ W, Calls Tryz.prog 29 #[.string (bs s), .string (bs [169, 254, 0, 0]), .int .i64 16] W fun e w' => e = .returned (.bool (w4 (bs s) [169, 254] 16)) ∧ w' = W) := Lib.hid (fun W => rWithin_any (bs s) (bs [169, 254, 0, 0]) 16 W (by decide) (by decide) (by rw [bs_size]; omega))
  have F3 := Lib.hid (fun W => sixteen_lit 254 128 254 128 W rfl rfl)
  have T3 : Hid (∀ W, Calls Tryz.prog 29 #[.string (bs s), .string (bs (si 254 128)), .int .i64 10] W fun e w' => e = .returned (.bool (w6 (bs s) 65152 10)) ∧ w' = W) := Lib.hid (fun W => rWithin_any (bs s) (bs (si 254 128)) 10 W (by decide) (by decide) (by rw [bs_size]; omega))
  have F4 := Lib.hid (fun W => four44_lit 10 0 0 0 10 0 0 0 W rfl rfl rfl rfl)
  have T4 : Hid (∀ W, Calls Tryz.prog 29 #[.string (bs s), .string (bs [10, 0, 0, 0]), .int .i64 8] W fun e w' => e = .returned (.bool (w4 (bs s) [10] 8)) ∧ w' = W) := Lib.hid (fun W => rWithin_any (bs s) (bs [10, 0, 0, 0]) 8 W (by decide) (by decide) (by rw [bs_size]; omega))
  have F5 := Lib.hid (fun W => four44_lit 172 16 0 0 172 16 0 0 W rfl rfl rfl rfl)
  have T5 : Hid (∀ W, Calls Tryz.prog 29 #[.string (bs s), .string (bs [172, 16, 0, 0]), .int .i64 12] W fun e w' => e = .returned (.bool (w4 (bs s) [172, 16] 12)) ∧ w' = W) := Lib.hid (fun W => rWithin_any (bs s) (bs [172, 16, 0, 0]) 12 W (by decide) (by decide) (by rw [bs_size]; omega))
  have F6 := Lib.hid (fun W => four44_lit 192 168 0 0 192 168 0 0 W rfl rfl rfl rfl)
  have T6 : Hid (∀ W, Calls Tryz.prog 29 #[.string (bs s), .string (bs [192, 168, 0, 0]), .int .i64 16] W fun e w' => e = .returned (.bool (w4 (bs s) [192, 168] 16)) ∧ w' = W) := Lib.hid (fun W => rWithin_any (bs s) (bs [192, 168, 0, 0]) 16 W (by decide) (by decide) (by rw [bs_size]; omega))
  have F7 := Lib.hid (fun W => sixteen_lit 252 0 252 0 W rfl rfl)
  have T7 : Hid (∀ W, Calls Tryz.prog 29 #[.string (bs s), .string (bs (si 252 0)), .int .i64 7] W fun e w' => e = .returned (.bool (w6 (bs s) 64512 7)) ∧ w' = W) := Lib.hid (fun W => rWithin_any (bs s) (bs (si 252 0)) 7 W (by decide) (by decide) (by rw [bs_size]; omega))
  have F8 := Lib.hid (fun W => four44_lit 224 0 0 0 224 0 0 0 W rfl rfl rfl rfl)
  have T8 : Hid (∀ W, Calls Tryz.prog 29 #[.string (bs s), .string (bs [224, 0, 0, 0]), .int .i64 4] W fun e w' => e = .returned (.bool (w4 (bs s) [224] 4)) ∧ w' = W) := Lib.hid (fun W => rWithin_any (bs s) (bs [224, 0, 0, 0]) 4 W (by decide) (by decide) (by rw [bs_size]; omega))
  have F9 := Lib.hid (fun W => four44_lit 255 255 255 255 255 255 255 255 W rfl rfl rfl rfl)
  have F10 := Lib.hid (fun W => sixteen_lit 255 0 255 0 W rfl rfl)
  have T10 : Hid (∀ W, Calls Tryz.prog 29 #[.string (bs s), .string (bs (si 255 0)), .int .i64 8] W fun e w' => e = .returned (.bool (w6 (bs s) 65280 8)) ∧ w' = W) := Lib.hid (fun W => rWithin_any (bs s) (bs (si 255 0)) 8 W (by decide) (by decide) (by rw [bs_size]; omega))
  rw [cls_eq s hs]
  have HIX := Lib.hid (fun i (h : i < (bs s).size) W => idx_str (bs s) i h W)
  have HBI := Lib.hid (fun i (h : i < (bs s).size) => bs_idx s i h)
  have hz := all_zero s
  have hsz : (bs s).size = s.length := rfl
  obtain ⟨n, hn⟩ : ∃ n, s.length = n := ⟨_, rfl⟩
  rw [hn] at hsz
  have HZ : Hid (∀ k, k < n → (s.take (k + 1)).all (· == 0) = ((s.take k).all (· == 0) && (s.getD k 0 == 0))) := Lib.hid fun k hk => by
    have hk2 : k < s.length := by omega
    rw [List.take_succ_eq_append_getElem hk2, List.all_append, List.getD_eq_getElem?_getD, List.getElem?_eq_getElem hk2]
    simp
  have HZE : Hid ((s.take n).all (· == 0) = zerB (bs s)) := Lib.hid (by rw [hz, List.take_of_length_le (by omega)])
  have HN := Lib.hid (show n ≤ 16 by omega)
  have HAD : Hid (bs (List.replicate 15 0) ++ bs [1] = bs oneL) := Lib.hid (bs_append _ _).symm
  clear hz hn hs hsl
  generalize zerB (bs s) = bz at *
  generalize w4 (bs s) [127] 8 = b0 at *
  generalize bs [127, 0, 0, 0] = X0 at *
  generalize w4 (bs s) [169, 254] 16 = b2 at *
  generalize bs [169, 254, 0, 0] = X2 at *
  generalize w6 (bs s) 65152 10 = b3 at *
  generalize bs (si 254 128) = X3 at *
  generalize w4 (bs s) [10] 8 = b4 at *
  generalize bs [10, 0, 0, 0] = X4 at *
  generalize w4 (bs s) [172, 16] 12 = b5 at *
  generalize bs [172, 16, 0, 0] = X5 at *
  generalize w4 (bs s) [192, 168] 16 = b6 at *
  generalize bs [192, 168, 0, 0] = X6 at *
  generalize w6 (bs s) 64512 7 = b7 at *
  generalize bs (si 252 0) = X7 at *
  generalize w4 (bs s) [224] 4 = b8 at *
  generalize bs [224, 0, 0, 0] = X8 at *
  generalize bs [255, 255, 255, 255] = X9 at *
  generalize w6 (bs s) 65280 8 = b10 at *
  generalize bs (si 255 0) = X10 at *
  generalize bs oneL = ONE at *
  generalize bs s = S at *
  have K0 := Lib.hid (Below.refl w.heap.size w)
  go_enter Tryz.func27, Tryz.ntmps27
  go_upto_region 3 with fail
  go_loopw [3, 4] (fun z i wr => ∃ k : Nat, k ≤ n ∧ z = .bool ((s.take k).all (· == 0)) ∧ i = .int .i64 (k : Int) ∧ w = wr) (fun _ i _ => n - (intOf i).toNat)
  case atStart => exact ⟨0, by omega, rfl, rfl, rfl⟩
  case round =>
    obtain ⟨k, hk, rfl, rfl, rfl⟩ := hrel
    by_cases hlt : k < n
    · have hkS : k < S.size := by omega
      have hkI : (k : Int) < (n : Int) := by omega
      obtain ⟨x, hx⟩ : ∃ x, S[k].toNat = x := ⟨_, rfl⟩
      have hgx : (s.getD k 0 == 0) = (x == 0) := by
        rw [← HBI.out k hkS, ← hx, Bool.eq_iff_iff, beq_iff_eq, beq_iff_eq]
        exact ⟨fun h => by rw [h]; rfl, fun h => UInt8.toNat_inj.1 h⟩
      have hzk := HZ.out k hlt
      rw [hgx] at hzk
      obtain ⟨z, hz⟩ : ∃ z, (s.take k).all (· == 0) = z := ⟨_, rfl⟩
      rw [hz] at hzk ⊢
      have HZK := Lib.hid hzk
      have HWK : Hid (wrap64 ((k : Int) + 1) = (k : Int) + 1) := Lib.hid (w64_nat (x := k + 1) (by have := HN.out; omega))
      have HLT := Lib.hid hlt
      clear hz hzk hgx hk hlt
      rcases z with _ | _
      · go_wp2_with fail
        exact ⟨⟨k + 1, HLT.out, by rw [HZK.out]; rfl, by (first | rfl | (rw [HWK.out]; rfl)), by (first | trivial | rfl)⟩, by rw [HWK.out]; have := HLT.out; simp [intOf]; omega⟩
      · by_cases hx0 : x = 0
        · have e1 : (x : Int) = 0 := by omega
          have e2 : ((x : Int) == 0) = true := beq_iff_eq.2 e1
          have HX := Lib.hid hx0
          clear hx0
          go_wp2_with fail
          exact ⟨⟨k + 1, HLT.out, by rw [HZK.out, HX.out]; rfl, by (first | rfl | (rw [HWK.out]; rfl)), by (first | trivial | rfl)⟩, by rw [HWK.out]; have := HLT.out; simp [intOf]; omega⟩
        · have e1 : ¬ (x : Int) = 0 := by omega
          have e2 : ((x : Int) == 0) = false := beq_false_of_ne e1
          have HX := Lib.hid (beq_false_of_ne hx0)
          clear hx0
          go_wp2_with fail
          exact ⟨⟨k + 1, HLT.out, by rw [HZK.out, HX.out]; rfl, by (first | rfl | (rw [HWK.out]; rfl)), by (first | trivial | rfl)⟩, by rw [HWK.out]; have := HLT.out; simp [intOf]; omega⟩
    · obtain rfl : k = n := by omega
      rw [HZE.out]
      clear HZE HZ HIX HBI hlt hk
      have hmk := make15
      have had := HAD.out
      have hal : ¬ 9223372036854775807 < (bs (List.replicate 15 0)).size + (bs [1]).size := by rw [bs_size, bs_size, List.length_replicate]; decide
      have k1 := conv15 (w.alloc (.cells C15o 5)).drew w.heap.size (heap_alloc_new w _)
      have k2 := conv15 ((w.alloc (.cells C15o 5)).alloc (.cells #[.int .u8 1] 5)).drew w.heap.size ((Below.heap_alloc (w.alloc (.cells C15o 5)) _ _ (by simp)).trans (heap_alloc_new w _))
      have k3 := conv1 ((w.alloc (.cells C15o 5)).alloc (.cells #[.int .u8 1] 5)).drew (w.heap.size + 1) (by have := heap_alloc_new (w.alloc (.cells C15o 5)) (.cells #[.int .u8 1] 5); rw [World.size_alloc] at this; exact this)
      have k4 := conv1 (w.alloc (.cells #[.int .u8 1] 5)).drew w.heap.size (heap_alloc_new w _)
      have k5 := conv1 ((w.alloc (.cells #[.int .u8 1] 5)).alloc (.cells C15o 5)).drew w.heap.size ((Below.heap_alloc (w.alloc (.cells #[.int .u8 1] 5)) _ _ (by simp)).trans (heap_alloc_new w _))
      have k6 := conv15 ((w.alloc (.cells #[.int .u8 1] 5)).alloc (.cells C15o 5)).drew (w.heap.size + 1) (by have := heap_alloc_new (w.alloc (.cells #[.int .u8 1] 5)) (.cells C15o 5); rw [World.size_alloc] at this; exact this)
      generalize bs (List.replicate 15 0) = Z15 at *
      generalize bs [1] = O1 at *
      go_upto_region 6 with fail
      go_cut [5] (fun v wx => v = .string ONE ∧ Hid (Below w.heap.size w wx))
      case first =>
        go_region
        all_goals (
          go_wp2_with fail
          go_meet
          exact ⟨rfl, Lib.hid (by go_grown)⟩)
      case rest =>
      obtain ⟨rfl, K0⟩ := hcut
      clear k1 k2 k3 k4 k5 k6 had hmk hal HAD hsz HN
      rcases bz with _ | _
      rotate_left
      · skip
        go_wp2_with (first
    | (go_at_call 44; (first | (with_reducible refine (F0.out _ ).mono ?_) | (with_reducible refine (F2.out _ ).mono ?_) | (with_reducible refine (F4.out _ ).mono ?_) | (with_reducible refine (F5.out _ ).mono ?_) | (with_reducible refine (F6.out _ ).mono ?_) | (with_reducible refine (F8.out _ ).mono ?_) | (with_reducible refine (F9.out _ ).mono ?_)); rintro e V ⟨rfl, hb⟩; (have K0 := Lib.hid (bstep K0.out hb)); clear hb)
    | (go_at_call 58; (first | (with_reducible refine (F3.out _ ).mono ?_) | (with_reducible refine (F7.out _ ).mono ?_) | (with_reducible refine (F10.out _ ).mono ?_)); rintro e V ⟨rfl, hb⟩; (have K0 := Lib.hid (bstep K0.out hb)); clear hb)
    | (go_at_call 29; (first | (with_reducible refine (T0.out _ ).mono ?_) | (with_reducible refine (T2.out _ ).mono ?_) | (with_reducible refine (T3.out _ ).mono ?_) | (with_reducible refine (T4.out _ ).mono ?_) | (with_reducible refine (T5.out _ ).mono ?_) | (with_reducible refine (T6.out _ ).mono ?_) | (with_reducible refine (T7.out _ ).mono ?_) | (with_reducible refine (T8.out _ ).mono ?_) | (with_reducible refine (T10.out _ ).mono ?_)); rintro e V ⟨rfl, rfl⟩))
        all_goals (
          go_ret
          exact ⟨rfl, K0.out⟩)
      · skip
        rcases b0 with _ | _
        rotate_left
        · skip
          go_wp2_with (first
    | (go_at_call 44; (first | (with_reducible refine (F0.out _ ).mono ?_) | (with_reducible refine (F2.out _ ).mono ?_) | (with_reducible refine (F4.out _ ).mono ?_) | (with_reducible refine (F5.out _ ).mono ?_) | (with_reducible refine (F6.out _ ).mono ?_) | (with_reducible refine (F8.out _ ).mono ?_) | (with_reducible refine (F9.out _ ).mono ?_)); rintro e V ⟨rfl, hb⟩; (have K0 := Lib.hid (bstep K0.out hb)); clear hb)
    | (go_at_call 58; (first | (with_reducible refine (F3.out _ ).mono ?_) | (with_reducible refine (F7.out _ ).mono ?_) | (with_reducible refine (F10.out _ ).mono ?_)); rintro e V ⟨rfl, hb⟩; (have K0 := Lib.hid (bstep K0.out hb)); clear hb)
    | (go_at_call 29; (first | (with_reducible refine (T0.out _ ).mono ?_) | (with_reducible refine (T2.out _ ).mono ?_) | (with_reducible refine (T3.out _ ).mono ?_) | (with_reducible refine (T4.out _ ).mono ?_) | (with_reducible refine (T5.out _ ).mono ?_) | (with_reducible refine (T6.out _ ).mono ?_) | (with_reducible refine (T7.out _ ).mono ?_) | (with_reducible refine (T8.out _ ).mono ?_) | (with_reducible refine (T10.out _ ).mono ?_)); rintro e V ⟨rfl, rfl⟩))
          all_goals (
            go_ret
            exact ⟨rfl, K0.out⟩)
        · skip
          by_cases hONE : S.toList = ONE.toList
          · have eONE := beq_iff_eq.2 hONE
            go_wp2_with (first
    | (go_at_call 44; (first | (with_reducible refine (F0.out _ ).mono ?_) | (with_reducible refine (F2.out _ ).mono ?_) | (with_reducible refine (F4.out _ ).mono ?_) | (with_reducible refine (F5.out _ ).mono ?_) | (with_reducible refine (F6.out _ ).mono ?_) | (with_reducible refine (F8.out _ ).mono ?_) | (with_reducible refine (F9.out _ ).mono ?_)); rintro e V ⟨rfl, hb⟩; (have K0 := Lib.hid (bstep K0.out hb)); clear hb)
    | (go_at_call 58; (first | (with_reducible refine (F3.out _ ).mono ?_) | (with_reducible refine (F7.out _ ).mono ?_) | (with_reducible refine (F10.out _ ).mono ?_)); rintro e V ⟨rfl, hb⟩; (have K0 := Lib.hid (bstep K0.out hb)); clear hb)
    | (go_at_call 29; (first | (with_reducible refine (T0.out _ ).mono ?_) | (with_reducible refine (T2.out _ ).mono ?_) | (with_reducible refine (T3.out _ ).mono ?_) | (with_reducible refine (T4.out _ ).mono ?_) | (with_reducible refine (T5.out _ ).mono ?_) | (with_reducible refine (T6.out _ ).mono ?_) | (with_reducible refine (T7.out _ ).mono ?_) | (with_reducible refine (T8.out _ ).mono ?_) | (with_reducible refine (T10.out _ ).mono ?_)); rintro e V ⟨rfl, rfl⟩))
            all_goals (
              go_ret
              exact ⟨rfl, K0.out⟩)
          · have eONE := beq_false_of_ne hONE
            rcases b2 with _ | _
            rotate_left
            · skip
              go_wp2_with (first
    | (go_at_call 44; (first | (with_reducible refine (F0.out _ ).mono ?_) | (with_reducible refine (F2.out _ ).mono ?_) | (with_reducible refine (F4.out _ ).mono ?_) | (with_reducible refine (F5.out _ ).mono ?_) | (with_reducible refine (F6.out _ ).mono ?_) | (with_reducible refine (F8.out _ ).mono ?_) | (with_reducible refine (F9.out _ ).mono ?_)); rintro e V ⟨rfl, hb⟩; (have K0 := Lib.hid (bstep K0.out hb)); clear hb)
    | (go_at_call 58; (first | (with_reducible refine (F3.out _ ).mono ?_) | (with_reducible refine (F7.out _ ).mono ?_) | (with_reducible refine (F10.out _ ).mono ?_)); rintro e V ⟨rfl, hb⟩; (have K0 := Lib.hid (bstep K0.out hb)); clear hb)
    | (go_at_call 29; (first | (with_reducible refine (T0.out _ ).mono ?_) | (with_reducible refine (T2.out _ ).mono ?_) | (with_reducible refine (T3.out _ ).mono ?_) | (with_reducible refine (T4.out _ ).mono ?_) | (with_reducible refine (T5.out _ ).mono ?_) | (with_reducible refine (T6.out _ ).mono ?_) | (with_reducible refine (T7.out _ ).mono ?_) | (with_reducible refine (T8.out _ ).mono ?_) | (with_reducible refine (T10.out _ ).mono ?_)); rintro e V ⟨rfl, rfl⟩))
              all_goals (
                go_ret
                exact ⟨rfl, K0.out⟩)
            · skip
              rcases b3 with _ | _
              rotate_left
              · skip
                go_wp2_with (first
    | (go_at_call 44; (first | (with_reducible refine (F0.out _ ).mono ?_) | (with_reducible refine (F2.out _ ).mono ?_) | (with_reducible refine (F4.out _ ).mono ?_) | (with_reducible refine (F5.out _ ).mono ?_) | (with_reducible refine (F6.out _ ).mono ?_) | (with_reducible refine (F8.out _ ).mono ?_) | (with_reducible refine (F9.out _ ).mono ?_)); rintro e V ⟨rfl, hb⟩; (have K0 := Lib.hid (bstep K0.out hb)); clear hb)
    | (go_at_call 58; (first | (with_reducible refine (F3.out _ ).mono ?_) | (with_reducible refine (F7.out _ ).mono ?_) | (with_reducible refine (F10.out _ ).mono ?_)); rintro e V ⟨rfl, hb⟩; (have K0 := Lib.hid (bstep K0.out hb)); clear hb)
    | (go_at_call 29; (first | (with_reducible refine (T0.out _ ).mono ?_) | (with_reducible refine (T2.out _ ).mono ?_) | (with_reducible refine (T3.out _ ).mono ?_) | (with_reducible refine (T4.out _ ).mono ?_) | (with_reducible refine (T5.out _ ).mono ?_) | (with_reducible refine (T6.out _ ).mono ?_) | (with_reducible refine (T7.out _ ).mono ?_) | (with_reducible refine (T8.out _ ).mono ?_) | (with_reducible refine (T10.out _ ).mono ?_)); rintro e V ⟨rfl, rfl⟩))
                all_goals (
                  go_ret
                  exact ⟨rfl, K0.out⟩)
              · skip
                rcases b4 with _ | _
                rotate_left
                · skip
                  go_wp2_with (first
    | (go_at_call 44; (first | (with_reducible refine (F0.out _ ).mono ?_) | (with_reducible refine (F2.out _ ).mono ?_) | (with_reducible refine (F4.out _ ).mono ?_) | (with_reducible refine (F5.out _ ).mono ?_) | (with_reducible refine (F6.out _ ).mono ?_) | (with_reducible refine (F8.out _ ).mono ?_) | (with_reducible refine (F9.out _ ).mono ?_)); rintro e V ⟨rfl, hb⟩; (have K0 := Lib.hid (bstep K0.out hb)); clear hb)
    | (go_at_call 58; (first | (with_reducible refine (F3.out _ ).mono ?_) | (with_reducible refine (F7.out _ ).mono ?_) | (with_reducible refine (F10.out _ ).mono ?_)); rintro e V ⟨rfl, hb⟩; (have K0 := Lib.hid (bstep K0.out hb)); clear hb)
    | (go_at_call 29; (first | (with_reducible refine (T0.out _ ).mono ?_) | (with_reducible refine (T2.out _ ).mono ?_) | (with_reducible refine (T3.out _ ).mono ?_) | (with_reducible refine (T4.out _ ).mono ?_) | (with_reducible refine (T5.out _ ).mono ?_) | (with_reducible refine (T6.out _ ).mono ?_) | (with_reducible refine (T7.out _ ).mono ?_) | (with_reducible refine (T8.out _ ).mono ?_) | (with_reducible refine (T10.out _ ).mono ?_)); rintro e V ⟨rfl, rfl⟩))
                  all_goals (
                    go_ret
                    exact ⟨rfl, K0.out⟩)
                · skip
                  rcases b5 with _ | _
                  rotate_left
                  · skip
                    go_wp2_with (first
    | (go_at_call 44; (first | (with_reducible refine (F0.out _ ).mono ?_) | (with_reducible refine (F2.out _ ).mono ?_) | (with_reducible refine (F4.out _ ).mono ?_) | (with_reducible refine (F5.out _ ).mono ?_) | (with_reducible refine (F6.out _ ).mono ?_) | (with_reducible refine (F8.out _ ).mono ?_) | (with_reducible refine (F9.out _ ).mono ?_)); rintro e V ⟨rfl, hb⟩; (have K0 := Lib.hid (bstep K0.out hb)); clear hb)
    | (go_at_call 58; (first | (with_reducible refine (F3.out _ ).mono ?_) | (with_reducible refine (F7.out _ ).mono ?_) | (with_reducible refine (F10.out _ ).mono ?_)); rintro e V ⟨rfl, hb⟩; (have K0 := Lib.hid (bstep K0.out hb)); clear hb)
    | (go_at_call 29; (first | (with_reducible refine (T0.out _ ).mono ?_) | (with_reducible refine (T2.out _ ).mono ?_) | (with_reducible refine (T3.out _ ).mono ?_) | (with_reducible refine (T4.out _ ).mono ?_) | (with_reducible refine (T5.out _ ).mono ?_) | (with_reducible refine (T6.out _ ).mono ?_) | (with_reducible refine (T7.out _ ).mono ?_) | (with_reducible refine (T8.out _ ).mono ?_) | (with_reducible refine (T10.out _ ).mono ?_)); rintro e V ⟨rfl, rfl⟩))
                    all_goals (
                      go_ret
                      exact ⟨rfl, K0.out⟩)
                  · skip
                    rcases b6 with _ | _
                    rotate_left
                    · skip
                      go_wp2_with (first
    | (go_at_call 44; (first | (with_reducible refine (F0.out _ ).mono ?_) | (with_reducible refine (F2.out _ ).mono ?_) | (with_reducible refine (F4.out _ ).mono ?_) | (with_reducible refine (F5.out _ ).mono ?_) | (with_reducible refine (F6.out _ ).mono ?_) | (with_reducible refine (F8.out _ ).mono ?_) | (with_reducible refine (F9.out _ ).mono ?_)); rintro e V ⟨rfl, hb⟩; (have K0 := Lib.hid (bstep K0.out hb)); clear hb)
    | (go_at_call 58; (first | (with_reducible refine (F3.out _ ).mono ?_) | (with_reducible refine (F7.out _ ).mono ?_) | (with_reducible refine (F10.out _ ).mono ?_)); rintro e V ⟨rfl, hb⟩; (have K0 := Lib.hid (bstep K0.out hb)); clear hb)
    | (go_at_call 29; (first | (with_reducible refine (T0.out _ ).mono ?_) | (with_reducible refine (T2.out _ ).mono ?_) | (with_reducible refine (T3.out _ ).mono ?_) | (with_reducible refine (T4.out _ ).mono ?_) | (with_reducible refine (T5.out _ ).mono ?_) | (with_reducible refine (T6.out _ ).mono ?_) | (with_reducible refine (T7.out _ ).mono ?_) | (with_reducible refine (T8.out _ ).mono ?_) | (with_reducible refine (T10.out _ ).mono ?_)); rintro e V ⟨rfl, rfl⟩))
                      all_goals (
                        go_ret
                        exact ⟨rfl, K0.out⟩)
                    · skip
                      rcases b7 with _ | _
                      rotate_left
                      · skip
                        go_wp2_with (first
    | (go_at_call 44; (first | (with_reducible refine (F0.out _ ).mono ?_) | (with_reducible refine (F2.out _ ).mono ?_) | (with_reducible refine (F4.out _ ).mono ?_) | (with_reducible refine (F5.out _ ).mono ?_) | (with_reducible refine (F6.out _ ).mono ?_) | (with_reducible refine (F8.out _ ).mono ?_) | (with_reducible refine (F9.out _ ).mono ?_)); rintro e V ⟨rfl, hb⟩; (have K0 := Lib.hid (bstep K0.out hb)); clear hb)
    | (go_at_call 58; (first | (with_reducible refine (F3.out _ ).mono ?_) | (with_reducible refine (F7.out _ ).mono ?_) | (with_reducible refine (F10.out _ ).mono ?_)); rintro e V ⟨rfl, hb⟩; (have K0 := Lib.hid (bstep K0.out hb)); clear hb)
    | (go_at_call 29; (first | (with_reducible refine (T0.out _ ).mono ?_) | (with_reducible refine (T2.out _ ).mono ?_) | (with_reducible refine (T3.out _ ).mono ?_) | (with_reducible refine (T4.out _ ).mono ?_) | (with_reducible refine (T5.out _ ).mono ?_) | (with_reducible refine (T6.out _ ).mono ?_) | (with_reducible refine (T7.out _ ).mono ?_) | (with_reducible refine (T8.out _ ).mono ?_) | (with_reducible refine (T10.out _ ).mono ?_)); rintro e V ⟨rfl, rfl⟩))
                        all_goals (
                          go_ret
                          exact ⟨rfl, K0.out⟩)
                      · skip
                        rcases b8 with _ | _
                        rotate_left
                        · skip
                          go_wp2_with (first
    | (go_at_call 44; (first | (with_reducible refine (F0.out _ ).mono ?_) | (with_reducible refine (F2.out _ ).mono ?_) | (with_reducible refine (F4.out _ ).mono ?_) | (with_reducible refine (F5.out _ ).mono ?_) | (with_reducible refine (F6.out _ ).mono ?_) | (with_reducible refine (F8.out _ ).mono ?_) | (with_reducible refine (F9.out _ ).mono ?_)); rintro e V ⟨rfl, hb⟩; (have K0 := Lib.hid (bstep K0.out hb)); clear hb)
    | (go_at_call 58; (first | (with_reducible refine (F3.out _ ).mono ?_) | (with_reducible refine (F7.out _ ).mono ?_) | (with_reducible refine (F10.out _ ).mono ?_)); rintro e V ⟨rfl, hb⟩; (have K0 := Lib.hid (bstep K0.out hb)); clear hb)
    | (go_at_call 29; (first | (with_reducible refine (T0.out _ ).mono ?_) | (with_reducible refine (T2.out _ ).mono ?_) | (with_reducible refine (T3.out _ ).mono ?_) | (with_reducible refine (T4.out _ ).mono ?_) | (with_reducible refine (T5.out _ ).mono ?_) | (with_reducible refine (T6.out _ ).mono ?_) | (with_reducible refine (T7.out _ ).mono ?_) | (with_reducible refine (T8.out _ ).mono ?_) | (with_reducible refine (T10.out _ ).mono ?_)); rintro e V ⟨rfl, rfl⟩))
                          all_goals (
                            go_ret
                            exact ⟨rfl, K0.out⟩)
                        · skip
                          by_cases hX9 : S.toList = X9.toList
                          · have eX9 := beq_iff_eq.2 hX9
                            go_wp2_with (first
    | (go_at_call 44; (first | (with_reducible refine (F0.out _ ).mono ?_) | (with_reducible refine (F2.out _ ).mono ?_) | (with_reducible refine (F4.out _ ).mono ?_) | (with_reducible refine (F5.out _ ).mono ?_) | (with_reducible refine (F6.out _ ).mono ?_) | (with_reducible refine (F8.out _ ).mono ?_) | (with_reducible refine (F9.out _ ).mono ?_)); rintro e V ⟨rfl, hb⟩; (have K0 := Lib.hid (bstep K0.out hb)); clear hb)
    | (go_at_call 58; (first | (with_reducible refine (F3.out _ ).mono ?_) | (with_reducible refine (F7.out _ ).mono ?_) | (with_reducible refine (F10.out _ ).mono ?_)); rintro e V ⟨rfl, hb⟩; (have K0 := Lib.hid (bstep K0.out hb)); clear hb)
    | (go_at_call 29; (first | (with_reducible refine (T0.out _ ).mono ?_) | (with_reducible refine (T2.out _ ).mono ?_) | (with_reducible refine (T3.out _ ).mono ?_) | (with_reducible refine (T4.out _ ).mono ?_) | (with_reducible refine (T5.out _ ).mono ?_) | (with_reducible refine (T6.out _ ).mono ?_) | (with_reducible refine (T7.out _ ).mono ?_) | (with_reducible refine (T8.out _ ).mono ?_) | (with_reducible refine (T10.out _ ).mono ?_)); rintro e V ⟨rfl, rfl⟩))
                            all_goals (
                              go_ret
                              exact ⟨rfl, K0.out⟩)
                          · have eX9 := beq_false_of_ne hX9
                            rcases b10 with _ | _
                            rotate_left
                            · skip
                              go_wp2_with (first
    | (go_at_call 44; (first | (with_reducible refine (F0.out _ ).mono ?_) | (with_reducible refine (F2.out _ ).mono ?_) | (with_reducible refine (F4.out _ ).mono ?_) | (with_reducible refine (F5.out _ ).mono ?_) | (with_reducible refine (F6.out _ ).mono ?_) | (with_reducible refine (F8.out _ ).mono ?_) | (with_reducible refine (F9.out _ ).mono ?_)); rintro e V ⟨rfl, hb⟩; (have K0 := Lib.hid (bstep K0.out hb)); clear hb)
    | (go_at_call 58; (first | (with_reducible refine (F3.out _ ).mono ?_) | (with_reducible refine (F7.out _ ).mono ?_) | (with_reducible refine (F10.out _ ).mono ?_)); rintro e V ⟨rfl, hb⟩; (have K0 := Lib.hid (bstep K0.out hb)); clear hb)
    | (go_at_call 29; (first | (with_reducible refine (T0.out _ ).mono ?_) | (with_reducible refine (T2.out _ ).mono ?_) | (with_reducible refine (T3.out _ ).mono ?_) | (with_reducible refine (T4.out _ ).mono ?_) | (with_reducible refine (T5.out _ ).mono ?_) | (with_reducible refine (T6.out _ ).mono ?_) | (with_reducible refine (T7.out _ ).mono ?_) | (with_reducible refine (T8.out _ ).mono ?_) | (with_reducible refine (T10.out _ ).mono ?_)); rintro e V ⟨rfl, rfl⟩))
                              all_goals (
                                go_ret
                                exact ⟨rfl, K0.out⟩)
                            · skip
                              go_wp2_with (first
    | (go_at_call 44; (first | (with_reducible refine (F0.out _ ).mono ?_) | (with_reducible refine (F2.out _ ).mono ?_) | (with_reducible refine (F4.out _ ).mono ?_) | (with_reducible refine (F5.out _ ).mono ?_) | (with_reducible refine (F6.out _ ).mono ?_) | (with_reducible refine (F8.out _ ).mono ?_) | (with_reducible refine (F9.out _ ).mono ?_)); rintro e V ⟨rfl, hb⟩; (have K0 := Lib.hid (bstep K0.out hb)); clear hb)
    | (go_at_call 58; (first | (with_reducible refine (F3.out _ ).mono ?_) | (with_reducible refine (F7.out _ ).mono ?_) | (with_reducible refine (F10.out _ ).mono ?_)); rintro e V ⟨rfl, hb⟩; (have K0 := Lib.hid (bstep K0.out hb)); clear hb)
    | (go_at_call 29; (first | (with_reducible refine (T0.out _ ).mono ?_) | (with_reducible refine (T2.out _ ).mono ?_) | (with_reducible refine (T3.out _ ).mono ?_) | (with_reducible refine (T4.out _ ).mono ?_) | (with_reducible refine (T5.out _ ).mono ?_) | (with_reducible refine (T6.out _ ).mono ?_) | (with_reducible refine (T7.out _ ).mono ?_) | (with_reducible refine (T8.out _ ).mono ?_) | (with_reducible refine (T10.out _ ).mono ?_)); rintro e V ⟨rfl, rfl⟩))
                              all_goals (
                                go_ret
                                exact ⟨rfl, K0.out⟩)
end Go.Proofs.YtjoogiabimiioaaGreatDoor
