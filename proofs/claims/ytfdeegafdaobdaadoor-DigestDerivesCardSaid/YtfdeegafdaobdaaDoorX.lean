/- Contracts of More and End. -/
import Derived.Test.YtfdeegafdaobdaaDoorV
namespace Go.Proofs.YtfdeegafdaobdaaDoor
open Go.RowKit Go.ChangeShapes

abbrev hzV : Value := .agg #[.int .u32 0, .int .u32 0, .int .u32 0, .int .u32 0, .int .u32 0, .int .u32 0, .int .u32 0, .int .u32 0, .string ByteArray.empty, .int .i64 0]
/-- An empty digest that is being made lies at block g. -/
def Hz (W : World) (g : Nat) : Prop := W.heap[g]? = some (.cells #[.int .u32 0, .int .u32 0, .int .u32 0, .int .u32 0, .int .u32 0, .int .u32 0, .int .u32 0, .int .u32 0, .string ⟨#[]⟩, .int .i64 0] 44 (0, 0))
theorem Hz.below {W W' : World} {g B : Nat} (h : Hz W g) (hb : Below B W W') (hg : g < B) : Hz W' g := (hb.block g hg).trans h
theorem Hz.lt {W : World} {g : Nat} (h : Hz W g) : g < W.heap.size := (Array.getElem?_eq_some_iff.1 h).1
theorem Hz.alloc {W : World} {g : Nat} (h : Hz W g) (o : Obj) : Hz (W.alloc o) g := (Below.heap_alloc W o g h.lt).trans h
theorem Hz.new (w : World) (o : Obj) : Hz ((w.alloc o).alloc (.cells #[.int .u32 0, .int .u32 0, .int .u32 0, .int .u32 0, .int .u32 0, .int .u32 0, .int .u32 0, .int .u32 0, .string ⟨#[]⟩, .int .i64 0] 44)) (w.heap.size + 1) := by
  unfold Hz
  rw [show w.heap.size + 1 = (w.alloc o).heap.size by simp]
  exact heap_alloc_new _ _
theorem Hz.cells {W : World} {g : Nat} (h : Hz W g) : (W.cell? ⟨g, 0, none⟩ = some (.int .u32 0) ∧ W.cell? ⟨g, 1, none⟩ = some (.int .u32 0) ∧ W.cell? ⟨g, 2, none⟩ = some (.int .u32 0) ∧ W.cell? ⟨g, 3, none⟩ = some (.int .u32 0) ∧ W.cell? ⟨g, 4, none⟩ = some (.int .u32 0) ∧ W.cell? ⟨g, 5, none⟩ = some (.int .u32 0) ∧ W.cell? ⟨g, 6, none⟩ = some (.int .u32 0) ∧ W.cell? ⟨g, 7, none⟩ = some (.int .u32 0)) ∧ W.cell? ⟨g, 8, none⟩ = some (.string ⟨#[]⟩) ∧ W.cell? ⟨g, 9, none⟩ = some (.int .i64 0) :=
  ⟨⟨cell_of_row W g 0 _ 44 (0, 0) h, cell_of_row W g 1 _ 44 (0, 0) h, cell_of_row W g 2 _ 44 (0, 0) h, cell_of_row W g 3 _ 44 (0, 0) h, cell_of_row W g 4 _ 44 (0, 0) h, cell_of_row W g 5 _ 44 (0, 0) h, cell_of_row W g 6 _ 44 (0, 0) h, cell_of_row W g 7 _ 44 (0, 0) h⟩, cell_of_row W g 8 _ 44 (0, 0) h, cell_of_row W g 9 _ 44 (0, 0) h⟩
theorem Hz.free {W : World} {g : Nat} (h : Hz W g) (i : Nat) : W.frozen? ⟨g, i, none⟩ = false := frozen_of_row W g i _ 44 h
set_option maxRecDepth 100000 in
set_option maxHeartbeats 1000000 in
theorem moreP_bad (s : W8) (t : ByteArray) (n : Int) (x : ByteArray) (w : World) (ht : t.size ≤ 140737488351232) (h : ¬ okH t n) :
    Calls Tryd.prog 22 #[hsV s t n, .string x] w fun e w' => e = .returned (.tuple #[hzV, .int .i64 2]) ∧ Below w.heap.size w w' := by
  have hk := Lib.hid fun w => verify_no s t n w ht h
  clear h
  go_enter Tryd.func22, Tryd.ntmps22
  go_wp2_with fail
  (with_reducible refine (hk.out _).mono ?_)
  rintro e w1 ⟨rfl, hb1⟩
  have hB1 : Below w.heap.size w w1 := Below.trans (by go_grown) (hb1.mono (by simp; omega))
  have E1 : Hz w1 (w.heap.size + 1) := Hz.below (B := ((w.alloc (.cells #[wd s.a, wd s.b, wd s.c, wd s.d, wd s.e, wd s.f, wd s.g, wd s.h, Value.string t, Value.int IntKind.i64 n] 44)).alloc (.cells #[.int .u32 0, .int .u32 0, .int .u32 0, .int .u32 0, .int .u32 0, .int .u32 0, .int .u32 0, .int .u32 0, .string ⟨#[]⟩, .int .i64 0] 44)).heap.size) (Hz.new w _) hb1 (by simp)
  have y3 : w.heap.size + 1 < w1.heap.size := E1.lt
  have HE1 := Lib.hid E1
  have HB1 := Lib.hid hB1
  clear hb1 E1 hB1
  go_upto_region 3 with fail
  have E := HE1.out.alloc (.cells #[.int .u32 0, .int .u32 0, .int .u32 0, .int .u32 0, .int .u32 0, .int .u32 0, .int .u32 0, .int .u32 0, .string ⟨#[]⟩, .int .i64 0, .pointer none] 76)
  have B : Below w.heap.size w (w1.alloc (.cells #[.int .u32 0, .int .u32 0, .int .u32 0, .int .u32 0, .int .u32 0, .int .u32 0, .int .u32 0, .int .u32 0, .string ⟨#[]⟩, .int .i64 0, .pointer none] 76)) := HB1.out.alloc HB1.out.size _
  have hW : w1.alloc (.cells #[.int .u32 0, .int .u32 0, .int .u32 0, .int .u32 0, .int .u32 0, .int .u32 0, .int .u32 0, .int .u32 0, .string ⟨#[]⟩, .int .i64 0, .pointer none] 76) = w1.alloc (.cells #[.int .u32 0, .int .u32 0, .int .u32 0, .int .u32 0, .int .u32 0, .int .u32 0, .int .u32 0, .int .u32 0, .string ByteArray.empty, .int .i64 0, .pointer none] 76) := rfl
  rw [hW] at E B
  clear hW
  generalize w1.alloc (.cells #[.int .u32 0, .int .u32 0, .int .u32 0, .int .u32 0, .int .u32 0, .int .u32 0, .int .u32 0, .int .u32 0, .string ByteArray.empty, .int .i64 0, .pointer none] 76) = W at E B ⊢
  obtain ⟨⟨c0, c1, c2, c3, c4, c5, c6, c7⟩, c8, c9⟩ := E.cells
  have f0 := E.free 0
  have f1 := E.free 1
  have f2 := E.free 2
  have f3 := E.free 3
  have f4 := E.free 4
  have f5 := E.free 5
  have f6 := E.free 6
  have f7 := E.free 7
  have f8 := E.free 8
  have f9 := E.free 9
  have HB := Lib.hid B
  have HE := Lib.hid E
  clear E B HE1 HB1 hk
  go_wp2
  have hB := HB.out
  exact bodyPost_ret (v := .tuple #[hzV, .int .i64 2]) (by simp [results, Tryd.results22, go_sem, *]; try rfl) rfl ⟨rfl, by go_grown⟩
set_option maxRecDepth 100000 in
set_option maxHeartbeats 1000000 in
theorem moreP_long (s : W8) (t : ByteArray) (n : Int) (x : ByteArray) (w : World) (ht : t.size ≤ 140737488351232) (h : okH t n) (hx : 4096 < x.size) (hx2 : x.size ≤ 140737488351232) :
    Calls Tryd.prog 22 #[hsV s t n, .string x] w fun e w' => e = .returned (.tuple #[hzV, .int .i64 3]) ∧ Below w.heap.size w w' := by
  have hk : Hid (∀ w, Calls Tryd.prog 51 #[hsV s t n] w fun e w' => ∃ kb, e = .returned (.tuple #[mkV s t n kb, .int .i64 0]) ∧ Arr w' kb 103 KL ∧ w.heap.size ≤ kb ∧ Below w.heap.size w w') := Lib.hid fun w => verify_ok s t n w ht h
  have hL := isLong_1 x true (by simp [lng, hx]) hx2
  clear h hx
  go_enter Tryd.func22, Tryd.ntmps22
  go_wp2_with fail
  (with_reducible refine (hk.out _).mono ?_)
  rintro e w1 ⟨kb, rfl, hA, hkb, hb1⟩
  have hB1 : Below w.heap.size w w1 := Below.trans (by go_grown) (hb1.mono (by simp; omega))
  have E1 : Hz w1 (w.heap.size + 1) := Hz.below (B := ((w.alloc (.cells #[wd s.a, wd s.b, wd s.c, wd s.d, wd s.e, wd s.f, wd s.g, wd s.h, Value.string t, Value.int IntKind.i64 n] 44)).alloc (.cells #[.int .u32 0, .int .u32 0, .int .u32 0, .int .u32 0, .int .u32 0, .int .u32 0, .int .u32 0, .int .u32 0, .string ⟨#[]⟩, .int .i64 0] 44)).heap.size) (Hz.new w _) hb1 (by simp)
  have y3 : w.heap.size + 1 < w1.heap.size := E1.lt
  have HE1 := Lib.hid E1
  have HB1 := Lib.hid hB1
  clear hb1 E1 hB1
  clear hA hkb
  go_upto_region 5 with (first | (go_at_call 36; (with_reducible refine (hL _ _ (by simp)).mono ?_); rintro e w' ⟨rfl, rfl⟩))
  have E := (HE1.out.alloc (.cells #[wd s.a, wd s.b, wd s.c, wd s.d, wd s.e, wd s.f, wd s.g, wd s.h, Value.string t, Value.int IntKind.i64 n, .pointer (some ⟨kb, 0, none⟩)] 76)).alloc (.cells #[.string x] 9)
  have B : Below w.heap.size w ((w1.alloc (.cells #[wd s.a, wd s.b, wd s.c, wd s.d, wd s.e, wd s.f, wd s.g, wd s.h, Value.string t, Value.int IntKind.i64 n, .pointer (some ⟨kb, 0, none⟩)] 76)).alloc (.cells #[.string x] 9)) := (HB1.out.alloc HB1.out.size _).alloc (HB1.out.alloc HB1.out.size _).size _
  generalize (w1.alloc (.cells #[wd s.a, wd s.b, wd s.c, wd s.d, wd s.e, wd s.f, wd s.g, wd s.h, Value.string t, Value.int IntKind.i64 n, .pointer (some ⟨kb, 0, none⟩)] 76)).alloc (.cells #[.string x] 9) = W at E B ⊢
  obtain ⟨⟨c0, c1, c2, c3, c4, c5, c6, c7⟩, c8, c9⟩ := E.cells
  have f0 := E.free 0
  have f1 := E.free 1
  have f2 := E.free 2
  have f3 := E.free 3
  have f4 := E.free 4
  have f5 := E.free 5
  have f6 := E.free 6
  have f7 := E.free 7
  have f8 := E.free 8
  have f9 := E.free 9
  have HB := Lib.hid B
  have HE := Lib.hid E
  clear E B HE1 HB1 hk hL
  go_wp2
  have hB := HB.out
  exact bodyPost_ret (v := .tuple #[hzV, .int .i64 3]) (by simp [results, Tryd.results22, go_sem, *]; try rfl) rfl ⟨rfl, by go_grown⟩
set_option maxRecDepth 100000 in
set_option maxHeartbeats 1000000 in
theorem moreP_big (s : W8) (t : ByteArray) (n : Int) (x : ByteArray) (w : World) (ht : t.size ≤ 140737488351232) (h : okH t n) (hx : x.size ≤ 4096) (hb : 1099511627776 < n + x.size) :
    Calls Tryd.prog 22 #[hsV s t n, .string x] w fun e w' => e = .returned (.tuple #[hzV, .int .i64 6]) ∧ Below w.heap.size w w' := by
  have hk : Hid (∀ w, Calls Tryd.prog 51 #[hsV s t n] w fun e w' => ∃ kb, e = .returned (.tuple #[mkV s t n kb, .int .i64 0]) ∧ Arr w' kb 103 KL ∧ w.heap.size ≤ kb ∧ Below w.heap.size w w') := Lib.hid fun w => verify_ok s t n w ht h
  have hL := isLong_1 x false (lng_no fun y hy => by obtain rfl := List.mem_singleton.1 hy; exact hx) (by omega)
  obtain ⟨h0, h1, -⟩ := h
  have tb : decide (1099511627776 < n + x.size) = true := by simp; omega
  clear hb
  go_enter Tryd.func22, Tryd.ntmps22
  go_wp2_with fail
  (with_reducible refine (hk.out _).mono ?_)
  rintro e w1 ⟨kb, rfl, hA, hkb, hb1⟩
  have hB1 : Below w.heap.size w w1 := Below.trans (by go_grown) (hb1.mono (by simp; omega))
  have E1 : Hz w1 (w.heap.size + 1) := Hz.below (B := ((w.alloc (.cells #[wd s.a, wd s.b, wd s.c, wd s.d, wd s.e, wd s.f, wd s.g, wd s.h, Value.string t, Value.int IntKind.i64 n] 44)).alloc (.cells #[.int .u32 0, .int .u32 0, .int .u32 0, .int .u32 0, .int .u32 0, .int .u32 0, .int .u32 0, .int .u32 0, .string ⟨#[]⟩, .int .i64 0] 44)).heap.size) (Hz.new w _) hb1 (by simp)
  have y3 : w.heap.size + 1 < w1.heap.size := E1.lt
  have HE1 := Lib.hid E1
  have HB1 := Lib.hid hB1
  clear hb1 E1 hB1
  clear hA hkb
  go_upto_region 7 with (first | (go_at_call 36; (with_reducible refine (hL _ _ (by simp)).mono ?_); rintro e w' ⟨rfl, rfl⟩))
  have E := (HE1.out.alloc (.cells #[wd s.a, wd s.b, wd s.c, wd s.d, wd s.e, wd s.f, wd s.g, wd s.h, Value.string t, Value.int IntKind.i64 n, .pointer (some ⟨kb, 0, none⟩)] 76)).alloc (.cells #[.string x] 9)
  have B : Below w.heap.size w ((w1.alloc (.cells #[wd s.a, wd s.b, wd s.c, wd s.d, wd s.e, wd s.f, wd s.g, wd s.h, Value.string t, Value.int IntKind.i64 n, .pointer (some ⟨kb, 0, none⟩)] 76)).alloc (.cells #[.string x] 9)) := (HB1.out.alloc HB1.out.size _).alloc (HB1.out.alloc HB1.out.size _).size _
  generalize (w1.alloc (.cells #[wd s.a, wd s.b, wd s.c, wd s.d, wd s.e, wd s.f, wd s.g, wd s.h, Value.string t, Value.int IntKind.i64 n, .pointer (some ⟨kb, 0, none⟩)] 76)).alloc (.cells #[.string x] 9) = W at E B ⊢
  obtain ⟨⟨c0, c1, c2, c3, c4, c5, c6, c7⟩, c8, c9⟩ := E.cells
  have f0 := E.free 0
  have f1 := E.free 1
  have f2 := E.free 2
  have f3 := E.free 3
  have f4 := E.free 4
  have f5 := E.free 5
  have f6 := E.free 6
  have f7 := E.free 7
  have f8 := E.free 8
  have f9 := E.free 9
  have HB := Lib.hid B
  have HE := Lib.hid E
  clear E B HE1 HB1 hk hL
  go_wp2
  have hB := HB.out
  exact bodyPost_ret (v := .tuple #[hzV, .int .i64 6]) (by simp [results, Tryd.results22, go_sem, *]; try rfl) rfl ⟨rfl, by go_grown⟩
set_option maxRecDepth 100000 in
set_option maxHeartbeats 1000000 in
theorem moreP_raw (s p : W8) (t u : ByteArray) (n m : Int) (x : ByteArray) (w : World) (ht : t.size ≤ 140737488351232) (h : okH t n) (hx : x.size ≤ 4096) (hb : n + x.size ≤ 1099511627776)
    (hm : ∀ kb, MoreTo kb s t n x p u m) :
    Calls Tryd.prog 22 #[hsV s t n, .string x] w fun e w' => e = .returned (.tuple #[hsV p u m, .int .i64 0]) ∧ Below w.heap.size w w' := by
  have hk : Hid (∀ w, Calls Tryd.prog 51 #[hsV s t n] w fun e w' => ∃ kb, e = .returned (.tuple #[mkV s t n kb, .int .i64 0]) ∧ Arr w' kb 103 KL ∧ w.heap.size ≤ kb ∧ Below w.heap.size w w') := Lib.hid fun w => verify_ok s t n w ht h
  unfold MoreTo at hm
  have hL := isLong_1 x false (lng_no fun y hy => by obtain rfl := List.mem_singleton.1 hy; exact hx) (by omega)
  obtain ⟨h0, h1, -⟩ := h
  have tb : decide (1099511627776 < n + x.size) = false := by simp; omega
  have HM := Lib.hid hm
  have hfl : ∀ kb0 W, (Instr.field 76 (mkV p u m kb0) 0).run Tryd.prog W = .ok (hsV p u m) W := fun _ W => by kernel_rfl
  clear hb hm
  go_enter Tryd.func22, Tryd.ntmps22
  go_wp2_with fail
  (with_reducible refine (hk.out _).mono ?_)
  rintro e w1 ⟨kb, rfl, hA, hkb, hb1⟩
  have hB1 : Below w.heap.size w w1 := Below.trans (by go_grown) (hb1.mono (by simp; omega))
  have E1 : Hz w1 (w.heap.size + 1) := Hz.below (B := ((w.alloc (.cells #[wd s.a, wd s.b, wd s.c, wd s.d, wd s.e, wd s.f, wd s.g, wd s.h, Value.string t, Value.int IntKind.i64 n] 44)).alloc (.cells #[.int .u32 0, .int .u32 0, .int .u32 0, .int .u32 0, .int .u32 0, .int .u32 0, .int .u32 0, .int .u32 0, .string ⟨#[]⟩, .int .i64 0] 44)).heap.size) (Hz.new w _) hb1 (by simp)
  have y3 : w.heap.size + 1 < w1.heap.size := E1.lt
  have HE1 := Lib.hid E1
  have HB1 := Lib.hid hB1
  clear hb1 E1 hB1
  have HA := Lib.hid hA
  clear hA hkb
  go_upto_region 8 with (first | (go_at_call 36; (with_reducible refine (hL _ _ (by simp)).mono ?_); rintro e w' ⟨rfl, rfl⟩))
  have E := (HE1.out.alloc (.cells #[wd s.a, wd s.b, wd s.c, wd s.d, wd s.e, wd s.f, wd s.g, wd s.h, Value.string t, Value.int IntKind.i64 n, .pointer (some ⟨kb, 0, none⟩)] 76)).alloc (.cells #[.string x] 9)
  have B : Below w.heap.size w ((w1.alloc (.cells #[wd s.a, wd s.b, wd s.c, wd s.d, wd s.e, wd s.f, wd s.g, wd s.h, Value.string t, Value.int IntKind.i64 n, .pointer (some ⟨kb, 0, none⟩)] 76)).alloc (.cells #[.string x] 9)) := (HB1.out.alloc HB1.out.size _).alloc (HB1.out.alloc HB1.out.size _).size _
  have HA2 := Lib.hid ((HA.out.alloc (.cells #[wd s.a, wd s.b, wd s.c, wd s.d, wd s.e, wd s.f, wd s.g, wd s.h, Value.string t, Value.int IntKind.i64 n, .pointer (some ⟨kb, 0, none⟩)] 76)).alloc (.cells #[.string x] 9))
  go_wp2_with fail
  (with_reducible refine (HM.out _ _ HA2.out).mono ?_)
  rintro e W ⟨rfl, hb2⟩
  have E := E.below hb2 E.lt
  have B := B.trans (hb2.mono B.size)
  clear hb2
  obtain ⟨⟨c0, c1, c2, c3, c4, c5, c6, c7⟩, c8, c9⟩ := E.cells
  have f0 := E.free 0
  have f1 := E.free 1
  have f2 := E.free 2
  have f3 := E.free 3
  have f4 := E.free 4
  have f5 := E.free 5
  have f6 := E.free 6
  have f7 := E.free 7
  have f8 := E.free 8
  have f9 := E.free 9
  have HB := Lib.hid B
  have HE := Lib.hid E
  clear E B HE1 HB1 HA HA2 hk hL HM
  go_wp2
  have hB := HB.out
  exact bodyPost_ret (v := .tuple #[hsV p u m, .int .i64 0]) (by simp [results, Tryd.results22, go_sem, *]; try rfl) rfl ⟨rfl, by go_grown⟩
def okHH (h : HH) : Prop := h.w.ok ∧ h.count ≤ 1099511627776 ∧ h.tail.length = h.count % 64
theorem okHH.okH {h : HH} (hh : okHH h) : okH (bs h.tail) h.count := ⟨by omega, by have := hh.2.1; omega, by rw [bs_size]; have := hh.2.2; omega⟩
theorem okHH.tail {h : HH} (hh : okHH h) : h.tail.length < 64 := by have := hh.2.2; omega
theorem moreP_ok (h : HH) (hh : okHH h) (x : List UInt8) (w : World) (hx : x.length ≤ 4096) (hb : h.count + x.length ≤ 1099511627776) :
    Calls Tryd.prog 22 #[hsV h.w (bs h.tail) h.count, .string (bs x)] w fun e w' => e = .returned (.tuple #[hsV (moreH KL h x).w (bs (moreH KL h x).tail) (moreH KL h x).count, .int .i64 0]) ∧ Below w.heap.size w w' := by
  have := hh.tail
  have := hh.2.1
  exact moreP_raw _ _ _ _ _ _ _ w (by rw [bs_size]; omega) hh.okH (by rw [bs_size]; exact hx) (by rw [bs_size]; omega) (fun kb => more_to h hh.1 kb x (by omega) (by omega))
theorem okHH.more {h : HH} (hh : okHH h) (x : List UInt8) (hb : h.count + x.length ≤ 1099511627776) : okHH (moreH KL h x) := by
  refine ⟨moreH_ok KL hh.1 x, hb, ?_⟩
  show ((h.tail ++ x).drop ((h.tail ++ x).length / 64 * 64)).length = (h.count + x.length) % 64
  have := hh.2.2
  rw [List.length_drop, List.length_append]; omega
theorem startH_okHH : okHH startH := ⟨IW_ok, by decide, rfl⟩
set_option maxRecDepth 100000 in
set_option maxHeartbeats 1000000 in
theorem endP_bad (s : W8) (t : ByteArray) (n : Int) (w : World) (ht : t.size ≤ 140737488351232) (h : ¬ okH t n) :
    Calls Tryd.prog 25 #[hsV s t n] w fun e w' => e = .returned (.tuple #[.string ByteArray.empty, .int .i64 2]) ∧ Below w.heap.size w w' := by
  have hk := fun w => verify_no s t n w ht h
  clear h
  go_enter Tryd.func25, Tryd.ntmps25
  go_wp2_with (first | (go_at_call 51; (with_reducible refine (hk _).mono ?_); rintro e w1 ⟨rfl, hb1⟩; obtain ⟨hc1, hf1⟩ := bcell hb1; have hz1 := hb1.size; (try simp at hz1); have y3 : w.heap.size < w1.heap.size := (by omega)))
  have hB1 : Below w.heap.size w w1 := Below.trans (by go_grown) (hb1.mono (by simp))
  clear hz1 hk
  go_ret2
  exact ⟨rfl, by go_grown⟩
set_option maxRecDepth 100000 in
set_option maxHeartbeats 1000000 in
theorem endP_raw (s : W8) (t : ByteArray) (n : Int) (o : ByteArray) (w : World) (ht : t.size ≤ 140737488351232) (h : okH t n) (he : ∀ kb, EndTo kb s t n o) :
    Calls Tryd.prog 25 #[hsV s t n] w fun e w' => e = .returned (.tuple #[.string o, .int .i64 0]) ∧ Below w.heap.size w w' := by
  have hk := fun w => verify_ok s t n w ht h
  unfold Verified at hk
  unfold EndTo at he
  have HE := Lib.hid he
  clear h he
  go_enter Tryd.func25, Tryd.ntmps25
  go_wp2_with (first | (go_at_call 51; (with_reducible refine (hk _).mono ?_); rintro e w1 ⟨kb, rfl, hA, hkb, hb1⟩; obtain ⟨hc1, hf1⟩ := bcell hb1; have hz1 := hb1.size; (try simp at hz1); have y3 : w.heap.size < w1.heap.size := (by omega)) | (go_at_call 39; (with_reducible refine (HE.out _ _ (hA.alloc _)).mono ?_); rintro e w2 ⟨rfl, hb2⟩; have hz2 := hb2.size; (try simp at hz2)))
  have hB1 : Below w.heap.size w w1 := Below.trans (by go_grown) (hb1.mono (by simp))
  have hB2 : Below w.heap.size w w2 := Below.trans (by go_grown) (hb2.mono (by simp; omega))
  clear hz1 hz2 hk hA hkb hB1
  go_ret2
  exact ⟨rfl, by go_grown⟩
theorem endP_ok (h : HH) (hh : okHH h) (w : World) :
    Calls Tryd.prog 25 #[hsV h.w (bs h.tail) h.count] w fun e w' => e = .returned (.tuple #[.string (bs (endH KL h)), .int .i64 0]) ∧ Below w.heap.size w w' := by
  have := hh.tail
  exact endP_raw _ _ _ _ w (by rw [bs_size]; omega) hh.okH (fun kb => end_to h hh.1 kb hh.tail hh.2.1)
end Go.Proofs.YtfdeegafdaobdaaDoor
