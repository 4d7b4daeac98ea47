/- Contract of end: the digest of what is being made. -/
import Derived.Test.YtfdeegafdaobdaaDoorK
import Derived.Deep.RegionLaw
import Derived.Deep.AppendLies
namespace Go.Proofs.YtfdeegafdaobdaaDoor
open Go.RowKit Go.ChangeShapes
theorem Mk.put {W : World} {g : Nat} {s : W8} {t : ByteArray} {n : Int} {kb : Nat} (h : Mk W g s t n kb) (s' : W8) (t' : ByteArray) (n' : Int) (kb' : Nat) : Mk (put11 W g s' t' n' kb') g s' t' n' kb' := by
  have h1 : (W.setCell ⟨g, 0, none⟩ (wd s'.a)).heap[g]? = some (.cells #[wd s'.a, wd s.b, wd s.c, wd s.d, wd s.e, wd s.f, wd s.g, wd s.h, .string t, .int .i64 n, .pointer (some ⟨kb, 0, none⟩)] 76 (0, 0)) := heap_setCell_same W g 0 _ 76 (wd s'.a) h
  have h2 : ((W.setCell ⟨g, 0, none⟩ (wd s'.a)).setCell ⟨g, 1, none⟩ (wd s'.b)).heap[g]? = some (.cells #[wd s'.a, wd s'.b, wd s.c, wd s.d, wd s.e, wd s.f, wd s.g, wd s.h, .string t, .int .i64 n, .pointer (some ⟨kb, 0, none⟩)] 76 (0, 0)) := heap_setCell_same (W.setCell ⟨g, 0, none⟩ (wd s'.a)) g 1 _ 76 (wd s'.b) h1
  have h3 : (((W.setCell ⟨g, 0, none⟩ (wd s'.a)).setCell ⟨g, 1, none⟩ (wd s'.b)).setCell ⟨g, 2, none⟩ (wd s'.c)).heap[g]? = some (.cells #[wd s'.a, wd s'.b, wd s'.c, wd s.d, wd s.e, wd s.f, wd s.g, wd s.h, .string t, .int .i64 n, .pointer (some ⟨kb, 0, none⟩)] 76 (0, 0)) := heap_setCell_same ((W.setCell ⟨g, 0, none⟩ (wd s'.a)).setCell ⟨g, 1, none⟩ (wd s'.b)) g 2 _ 76 (wd s'.c) h2
  have h4 : ((((W.setCell ⟨g, 0, none⟩ (wd s'.a)).setCell ⟨g, 1, none⟩ (wd s'.b)).setCell ⟨g, 2, none⟩ (wd s'.c)).setCell ⟨g, 3, none⟩ (wd s'.d)).heap[g]? = some (.cells #[wd s'.a, wd s'.b, wd s'.c, wd s'.d, wd s.e, wd s.f, wd s.g, wd s.h, .string t, .int .i64 n, .pointer (some ⟨kb, 0, none⟩)] 76 (0, 0)) := heap_setCell_same (((W.setCell ⟨g, 0, none⟩ (wd s'.a)).setCell ⟨g, 1, none⟩ (wd s'.b)).setCell ⟨g, 2, none⟩ (wd s'.c)) g 3 _ 76 (wd s'.d) h3
  have h5 : (((((W.setCell ⟨g, 0, none⟩ (wd s'.a)).setCell ⟨g, 1, none⟩ (wd s'.b)).setCell ⟨g, 2, none⟩ (wd s'.c)).setCell ⟨g, 3, none⟩ (wd s'.d)).setCell ⟨g, 4, none⟩ (wd s'.e)).heap[g]? = some (.cells #[wd s'.a, wd s'.b, wd s'.c, wd s'.d, wd s'.e, wd s.f, wd s.g, wd s.h, .string t, .int .i64 n, .pointer (some ⟨kb, 0, none⟩)] 76 (0, 0)) := heap_setCell_same ((((W.setCell ⟨g, 0, none⟩ (wd s'.a)).setCell ⟨g, 1, none⟩ (wd s'.b)).setCell ⟨g, 2, none⟩ (wd s'.c)).setCell ⟨g, 3, none⟩ (wd s'.d)) g 4 _ 76 (wd s'.e) h4
  have h6 : ((((((W.setCell ⟨g, 0, none⟩ (wd s'.a)).setCell ⟨g, 1, none⟩ (wd s'.b)).setCell ⟨g, 2, none⟩ (wd s'.c)).setCell ⟨g, 3, none⟩ (wd s'.d)).setCell ⟨g, 4, none⟩ (wd s'.e)).setCell ⟨g, 5, none⟩ (wd s'.f)).heap[g]? = some (.cells #[wd s'.a, wd s'.b, wd s'.c, wd s'.d, wd s'.e, wd s'.f, wd s.g, wd s.h, .string t, .int .i64 n, .pointer (some ⟨kb, 0, none⟩)] 76 (0, 0)) := heap_setCell_same (((((W.setCell ⟨g, 0, none⟩ (wd s'.a)).setCell ⟨g, 1, none⟩ (wd s'.b)).setCell ⟨g, 2, none⟩ (wd s'.c)).setCell ⟨g, 3, none⟩ (wd s'.d)).setCell ⟨g, 4, none⟩ (wd s'.e)) g 5 _ 76 (wd s'.f) h5
  have h7 : (((((((W.setCell ⟨g, 0, none⟩ (wd s'.a)).setCell ⟨g, 1, none⟩ (wd s'.b)).setCell ⟨g, 2, none⟩ (wd s'.c)).setCell ⟨g, 3, none⟩ (wd s'.d)).setCell ⟨g, 4, none⟩ (wd s'.e)).setCell ⟨g, 5, none⟩ (wd s'.f)).setCell ⟨g, 6, none⟩ (wd s'.g)).heap[g]? = some (.cells #[wd s'.a, wd s'.b, wd s'.c, wd s'.d, wd s'.e, wd s'.f, wd s'.g, wd s.h, .string t, .int .i64 n, .pointer (some ⟨kb, 0, none⟩)] 76 (0, 0)) := heap_setCell_same ((((((W.setCell ⟨g, 0, none⟩ (wd s'.a)).setCell ⟨g, 1, none⟩ (wd s'.b)).setCell ⟨g, 2, none⟩ (wd s'.c)).setCell ⟨g, 3, none⟩ (wd s'.d)).setCell ⟨g, 4, none⟩ (wd s'.e)).setCell ⟨g, 5, none⟩ (wd s'.f)) g 6 _ 76 (wd s'.g) h6
  have h8 : ((((((((W.setCell ⟨g, 0, none⟩ (wd s'.a)).setCell ⟨g, 1, none⟩ (wd s'.b)).setCell ⟨g, 2, none⟩ (wd s'.c)).setCell ⟨g, 3, none⟩ (wd s'.d)).setCell ⟨g, 4, none⟩ (wd s'.e)).setCell ⟨g, 5, none⟩ (wd s'.f)).setCell ⟨g, 6, none⟩ (wd s'.g)).setCell ⟨g, 7, none⟩ (wd s'.h)).heap[g]? = some (.cells #[wd s'.a, wd s'.b, wd s'.c, wd s'.d, wd s'.e, wd s'.f, wd s'.g, wd s'.h, .string t, .int .i64 n, .pointer (some ⟨kb, 0, none⟩)] 76 (0, 0)) := heap_setCell_same (((((((W.setCell ⟨g, 0, none⟩ (wd s'.a)).setCell ⟨g, 1, none⟩ (wd s'.b)).setCell ⟨g, 2, none⟩ (wd s'.c)).setCell ⟨g, 3, none⟩ (wd s'.d)).setCell ⟨g, 4, none⟩ (wd s'.e)).setCell ⟨g, 5, none⟩ (wd s'.f)).setCell ⟨g, 6, none⟩ (wd s'.g)) g 7 _ 76 (wd s'.h) h7
  have h9 : (((((((((W.setCell ⟨g, 0, none⟩ (wd s'.a)).setCell ⟨g, 1, none⟩ (wd s'.b)).setCell ⟨g, 2, none⟩ (wd s'.c)).setCell ⟨g, 3, none⟩ (wd s'.d)).setCell ⟨g, 4, none⟩ (wd s'.e)).setCell ⟨g, 5, none⟩ (wd s'.f)).setCell ⟨g, 6, none⟩ (wd s'.g)).setCell ⟨g, 7, none⟩ (wd s'.h)).setCell ⟨g, 8, none⟩ (.string t')).heap[g]? = some (.cells #[wd s'.a, wd s'.b, wd s'.c, wd s'.d, wd s'.e, wd s'.f, wd s'.g, wd s'.h, .string t', .int .i64 n, .pointer (some ⟨kb, 0, none⟩)] 76 (0, 0)) := heap_setCell_same ((((((((W.setCell ⟨g, 0, none⟩ (wd s'.a)).setCell ⟨g, 1, none⟩ (wd s'.b)).setCell ⟨g, 2, none⟩ (wd s'.c)).setCell ⟨g, 3, none⟩ (wd s'.d)).setCell ⟨g, 4, none⟩ (wd s'.e)).setCell ⟨g, 5, none⟩ (wd s'.f)).setCell ⟨g, 6, none⟩ (wd s'.g)).setCell ⟨g, 7, none⟩ (wd s'.h)) g 8 _ 76 (.string t') h8
  have h10 : ((((((((((W.setCell ⟨g, 0, none⟩ (wd s'.a)).setCell ⟨g, 1, none⟩ (wd s'.b)).setCell ⟨g, 2, none⟩ (wd s'.c)).setCell ⟨g, 3, none⟩ (wd s'.d)).setCell ⟨g, 4, none⟩ (wd s'.e)).setCell ⟨g, 5, none⟩ (wd s'.f)).setCell ⟨g, 6, none⟩ (wd s'.g)).setCell ⟨g, 7, none⟩ (wd s'.h)).setCell ⟨g, 8, none⟩ (.string t')).setCell ⟨g, 9, none⟩ (.int .i64 n')).heap[g]? = some (.cells #[wd s'.a, wd s'.b, wd s'.c, wd s'.d, wd s'.e, wd s'.f, wd s'.g, wd s'.h, .string t', .int .i64 n', .pointer (some ⟨kb, 0, none⟩)] 76 (0, 0)) := heap_setCell_same (((((((((W.setCell ⟨g, 0, none⟩ (wd s'.a)).setCell ⟨g, 1, none⟩ (wd s'.b)).setCell ⟨g, 2, none⟩ (wd s'.c)).setCell ⟨g, 3, none⟩ (wd s'.d)).setCell ⟨g, 4, none⟩ (wd s'.e)).setCell ⟨g, 5, none⟩ (wd s'.f)).setCell ⟨g, 6, none⟩ (wd s'.g)).setCell ⟨g, 7, none⟩ (wd s'.h)).setCell ⟨g, 8, none⟩ (.string t')) g 9 _ 76 (.int .i64 n') h9
  have h11 : (((((((((((W.setCell ⟨g, 0, none⟩ (wd s'.a)).setCell ⟨g, 1, none⟩ (wd s'.b)).setCell ⟨g, 2, none⟩ (wd s'.c)).setCell ⟨g, 3, none⟩ (wd s'.d)).setCell ⟨g, 4, none⟩ (wd s'.e)).setCell ⟨g, 5, none⟩ (wd s'.f)).setCell ⟨g, 6, none⟩ (wd s'.g)).setCell ⟨g, 7, none⟩ (wd s'.h)).setCell ⟨g, 8, none⟩ (.string t')).setCell ⟨g, 9, none⟩ (.int .i64 n')).setCell ⟨g, 10, none⟩ (.pointer (some ⟨kb', 0, none⟩))).heap[g]? = some (.cells #[wd s'.a, wd s'.b, wd s'.c, wd s'.d, wd s'.e, wd s'.f, wd s'.g, wd s'.h, .string t', .int .i64 n', .pointer (some ⟨kb', 0, none⟩)] 76 (0, 0)) := heap_setCell_same ((((((((((W.setCell ⟨g, 0, none⟩ (wd s'.a)).setCell ⟨g, 1, none⟩ (wd s'.b)).setCell ⟨g, 2, none⟩ (wd s'.c)).setCell ⟨g, 3, none⟩ (wd s'.d)).setCell ⟨g, 4, none⟩ (wd s'.e)).setCell ⟨g, 5, none⟩ (wd s'.f)).setCell ⟨g, 6, none⟩ (wd s'.g)).setCell ⟨g, 7, none⟩ (wd s'.h)).setCell ⟨g, 8, none⟩ (.string t')).setCell ⟨g, 9, none⟩ (.int .i64 n')) g 10 _ 76 (.pointer (some ⟨kb', 0, none⟩)) h10
  unfold put11 put8
  exact h11
/-- Word k of eight, by value. -/
theorem index8 (s : W8) (k : Nat) (hk : k < 8) (w : World) : (Instr.index 42 (.agg #[wd s.a, wd s.b, wd s.c, wd s.d, wd s.e, wd s.f, wd s.g, wd s.h]) (.int .i64 (k : Int))).run Tryd.prog w = .ok (wd (s.list.getD k 0)) w :=
  run_index_ws (P := Tryd.prog) w 42 41 8 s.list .i64 k Tryd.underlying42 rfl hk (size41 w) (agg41 w)
theorem W8.all {s : W8} (h : s.ok) : AllW s.list := by
  intro x hx
  simp [W8.list] at hx
  obtain ⟨⟨a, b, c, d⟩, ⟨e, f, g, k⟩⟩ := h
  rcases hx with rfl | rfl | rfl | rfl | rfl | rfl | rfl | rfl <;> assumption
set_option maxRecDepth 100000 in
set_option maxHeartbeats 4000000 in
theorem end_raw (s q : W8) (t c mt : ByteArray) (n : Nat) (mc : Int) (kb : Nat) (w : World) (hK : Arr w kb 103 KL) (hq : q.ok)
    (hm : ∀ w', Arr w' kb 103 KL → Calls Tryd.prog 38 #[mkV s t n kb, .string c] w' fun e w'' => e = .returned (mkV q mt mc kb) ∧ Below w'.heap.size w' w'')
    (hc : ∀ w', Calls Tryd.prog 62 #[.int .i64 (n : Int)] w' fun e w'' => e = .returned (.string c) ∧ Below w'.heap.size w' w'') :
    Calls Tryd.prog 39 #[mkV s t n kb] w fun e w' => e = .returned (.string (bs (octs q.list))) ∧ Below w.heap.size w w' := by
  have HK := Lib.hid hK
  have HM := Lib.hid hm
  have HQ := Lib.hid hq
  have hkb := hK.lt
  clear hK hm hq
  go_enter Tryd.func39, Tryd.ntmps39
  go_wp2
  have M0 : Mk (w.alloc (Obj.cells #[wd s.a, wd s.b, wd s.c, wd s.d, wd s.e, wd s.f, wd s.g, wd s.h, Value.string t, Value.int IntKind.i64 n, Value.pointer (some ⟨kb, 0, none⟩)] 76)) w.heap.size s t n kb := heap_alloc_new w _
  have K0 := HK.out.alloc (Obj.cells #[wd s.a, wd s.b, wd s.c, wd s.d, wd s.e, wd s.f, wd s.g, wd s.h, Value.string t, Value.int IntKind.i64 n, Value.pointer (some ⟨kb, 0, none⟩)] 76)
  have B0 : Below w.heap.size w (w.alloc (Obj.cells #[wd s.a, wd s.b, wd s.c, wd s.d, wd s.e, wd s.f, wd s.g, wd s.h, Value.string t, Value.int IntKind.i64 n, Value.pointer (some ⟨kb, 0, none⟩)] 76)) := by go_grown
  generalize (w.alloc (Obj.cells #[wd s.a, wd s.b, wd s.c, wd s.d, wd s.e, wd s.f, wd s.g, wd s.h, Value.string t, Value.int IntKind.i64 n, Value.pointer (some ⟨kb, 0, none⟩)] 76)) = W at M0 K0 B0 ⊢
  have z := M0.lt
  have MH := Lib.hid M0
  have KH := Lib.hid K0
  have BH := Lib.hid B0
  clear M0 K0 B0
  obtain ⟨⟨⟨c0, c1, c2, c3⟩, ⟨c4, c5, c6, c7⟩⟩, ⟨c8, c9, c10⟩⟩ := MH.out.cells
  go_region_law (first | (go_simp; go_at_call 62; (with_reducible refine (hc _).mono ?_); rintro e w1 ⟨rfl, hb0⟩; have hb1 : Below W.heap.size W w1 := (by first | exact hb0 | exact (Below.refl _ W).drew.trans hb0); clear hb0; have M1 := Mk.below MH.out hb1 z; have K1 := Arr.below KH.out hb1 (Arr.lt KH.out); have z1 := Mk.lt M1; obtain ⟨⟨⟨d0, d1, d2, d3⟩, ⟨d4, d5, d6, d7⟩⟩, ⟨d8, d9, d10⟩⟩ := Mk.cells M1; have B1 := Below.trans BH.out (hb1.mono (Below.size BH.out))) | (go_simp; go_at_call 38; (with_reducible refine (HM.out _ K1).mono ?_); rintro e w2 ⟨rfl, hb2⟩; have M2 := Mk.below M1 hb2 z1; have K2 := Arr.below K1 hb2 (Arr.lt K1); have B2 := Below.trans B1 (hb2.mono (Below.size B1)); have q0 := Mk.free M2 0; have q1 := Mk.free M2 1; have q2 := Mk.free M2 2; have q3 := Mk.free M2 3; have q4 := Mk.free M2 4; have q5 := Mk.free M2 5; have q6 := Mk.free M2 6; have q7 := Mk.free M2 7; have q8 := Mk.free M2 8; have q9 := Mk.free M2 9; have q10 := Mk.free M2 10; obtain ⟨⟨⟨e0, e1, e2, e3⟩, ⟨e4, e5, e6, e7⟩⟩, ⟨e8, e9, e10⟩⟩ := Mk.cells M2; clear c0 c1 c2 c3 c4 c5 c6 c7 c8 c9 c10 d0 d1 d2 d3 d4 d5 d6 d7 d8 d9 d10 hb1 hb2))
  all_goals
    have M3 : Mk (((((((((((w2.setCell ⟨w.heap.size, 0, none⟩ (wd q.a)).setCell ⟨w.heap.size, 1, none⟩ (wd q.b)).setCell ⟨w.heap.size, 2, none⟩ (wd q.c)).setCell ⟨w.heap.size, 3, none⟩ (wd q.d)).setCell ⟨w.heap.size, 4, none⟩ (wd q.e)).setCell ⟨w.heap.size, 5, none⟩ (wd q.f)).setCell ⟨w.heap.size, 6, none⟩ (wd q.g)).setCell ⟨w.heap.size, 7, none⟩ (wd q.h)).setCell ⟨w.heap.size, 8, none⟩ (.string mt)).setCell ⟨w.heap.size, 9, none⟩ (.int .i64 mc)).setCell ⟨w.heap.size, 10, none⟩ (.pointer (some ⟨kb, 0, none⟩))) w.heap.size q mt mc kb := Mk.put M2 q mt mc kb
    have B3 : Below w.heap.size w (((((((((((w2.setCell ⟨w.heap.size, 0, none⟩ (wd q.a)).setCell ⟨w.heap.size, 1, none⟩ (wd q.b)).setCell ⟨w.heap.size, 2, none⟩ (wd q.c)).setCell ⟨w.heap.size, 3, none⟩ (wd q.d)).setCell ⟨w.heap.size, 4, none⟩ (wd q.e)).setCell ⟨w.heap.size, 5, none⟩ (wd q.f)).setCell ⟨w.heap.size, 6, none⟩ (wd q.g)).setCell ⟨w.heap.size, 7, none⟩ (wd q.h)).setCell ⟨w.heap.size, 8, none⟩ (.string mt)).setCell ⟨w.heap.size, 9, none⟩ (.int .i64 mc)).setCell ⟨w.heap.size, 10, none⟩ (.pointer (some ⟨kb, 0, none⟩))) := put11_below B2 (Nat.le_refl _) q mt mc kb
    clear q0 q1 q2 q3 q4 q5 q6 q7 q8 q9 q10 e0 e1 e2 e3 e4 e5 e6 e7 e8 e9 e10 M2 B2 K2 M1 B1 K1
    generalize (((((((((((w2.setCell ⟨w.heap.size, 0, none⟩ (wd q.a)).setCell ⟨w.heap.size, 1, none⟩ (wd q.b)).setCell ⟨w.heap.size, 2, none⟩ (wd q.c)).setCell ⟨w.heap.size, 3, none⟩ (wd q.d)).setCell ⟨w.heap.size, 4, none⟩ (wd q.e)).setCell ⟨w.heap.size, 5, none⟩ (wd q.f)).setCell ⟨w.heap.size, 6, none⟩ (wd q.g)).setCell ⟨w.heap.size, 7, none⟩ (wd q.h)).setCell ⟨w.heap.size, 8, none⟩ (.string mt)).setCell ⟨w.heap.size, 9, none⟩ (.int .i64 mc)).setCell ⟨w.heap.size, 10, none⟩ (.pointer (some ⟨kb, 0, none⟩))) = W3 at M3 B3 ⊢
    obtain ⟨⟨⟨c0, c1, c2, c3⟩, ⟨c4, c5, c6, c7⟩⟩, _⟩ := M3.cells
    clear M3
    go_wp2
    clear c0 c1 c2 c3 c4 c5 c6 c7
    go_loopw [3, 17] (fun v i wr => ∃ k : Nat, k ≤ 8 ∧ i = .int .i64 k ∧ v = .string (bs (octs (q.list.take k))) ∧ Below w.heap.size w wr) (fun _ i _ => 8 - (intOf i).toNat)
    case atStart => exact ⟨0, Nat.zero_le _, rfl, rfl, B3⟩
    case round =>
      obtain ⟨k, hk, rfl, rfl, hB⟩ := hrel
      clear B3
      by_cases hlt : k < 8
      · have hix := index8 q k hlt
        have hw := (W8.all HQ.out).get k
        have hs : octs (q.list.take (k + 1)) = octs (q.list.take k) ++ beB 4 (q.list.getD k 0) := by
          rw [List.take_succ_eq_append_getElem (by rw [W8.list_length]; exact hlt), octs_snoc, List.getD_eq_getElem?_getD, List.getElem?_eq_getElem (by rw [W8.list_length]; exact hlt)]; rfl
        have hsz : (octs (q.list.take k)).length ≤ 32 := by rw [octs_length, List.length_take, W8.list_length]; omega
        obtain ⟨x, hx⟩ : ∃ x, q.list.getD k 0 = x := ⟨_, rfl⟩
        rw [hx] at hix hw hs
        have hp : ∀ w, Calls Tryd.prog 63 #[.int .i64 4, .int .i64 (x : Int)] w fun e w' => e = .returned (.tuple #[.string (bs (beB 4 x)), .int .i64 0]) ∧ Below w.heap.size w w' := fun w => put_ok 4 x w (by decide) (by decide) (by unfold isW at hw; omega) (by unfold isW at hw; omega)
        have HS : Hid (bs (octs (q.list.take k)) ++ bs (beB 4 x) = bs (octs (q.list.take (k + 1)))) := Lib.hid (by rw [bs_append, ← hs])
        have hl1 : (bs (beB 4 x)).size = 4 := by rw [bs_size, beB_length]
        have hl2 : (bs (octs (q.list.take k))).size ≤ 32 := by rw [bs_size]; exact hsz
        obtain ⟨y, hy⟩ : ∃ y, bs (beB 4 x) = y := ⟨_, rfl⟩
        obtain ⟨v, hv⟩ : ∃ v, bs (octs (q.list.take k)) = v := ⟨_, rfl⟩
        rw [hy] at hp HS hl1
        rw [hv] at HS hl2 ⊢
        have hl1' : y.size ≤ 4 := by omega
        unfold isW at hw
        clear hx hs hy hv hl1 hsz
        go_wp2_with (go_at_call 63; (with_reducible refine (hp _).mono ?_); rintro e w4 ⟨rfl, hb4⟩)
        go_roundw
        case rel => exact ⟨k + 1, by omega, by go_num, by rw [← HS.out], hB.trans (hb4.mono hB.size)⟩
        case measure => simp [intOf]; omega
      · obtain rfl : k = 8 := by omega
        go_wp2
        go_ret
        exact ⟨by rw [List.take_of_length_le (Nat.le_of_eq (W8.list_length q))]; rfl, hB⟩
theorem end_any (h : HH) (hs : h.w.ok) (kb : Nat) (w : World) (hK : Arr w kb 103 KL) (htl : h.tail.length < 64) (hn : h.count ≤ 1099511627776) :
    Calls Tryd.prog 39 #[mkV h.w (bs h.tail) h.count kb] w fun e w' => e = .returned (.string (bs (endH KL h))) ∧ Below w.heap.size w w' := by
  have hcl : (closeL h.count).length ≤ 80 := by
    simp [closeL, beB_length]; omega
  have h1 := end_raw h.w (moreH KL h (closeL h.count)).w (bs h.tail) (bs (closeL h.count)) (bs (moreH KL h (closeL h.count)).tail) h.count (moreH KL h (closeL h.count)).count kb w hK (mixB_ok KL hs _ _)
    (fun w' ha => more_any h hs kb (bs (closeL h.count)) w' ha (by rw [bs_size]; omega) hn) (fun w' => closing_any h.count w' hn)
  rw [octs_all] at h1
  exact h1
end Go.Proofs.YtfdeegafdaobdaaDoor
