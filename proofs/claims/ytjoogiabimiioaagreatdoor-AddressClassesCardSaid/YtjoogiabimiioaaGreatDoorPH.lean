/- Contract of a draft's address: some valid address. -/
import Derived.Test.YtjoogiabimiioaaGreatDoorPF
namespace Go.Proofs.YtjoogiabimiioaaGreatDoor
open Go.RowKit Go.ChangeShapes
theorem four44_any (a b c d : Int) (w : World) : Calls Tryz.prog 44 #[.int .i64 a, .int .i64 b, .int .i64 c, .int .i64 d] w fun e w' => (∃ s : List UInt8, s.length = 4 ∧ e = .returned (.string (bs s))) ∧ Below w.heap.size w w' := by
  have hu : ∀ x : Int, ∃ y : UInt8, IntKind.u8.wrap x = (y.toNat : Int) := fun x => by
    refine ⟨UInt8.ofNat (x % 256).toNat, ?_⟩
    rw [UInt8.toNat_ofNat_of_lt' (by show (x % 256).toNat < 256; omega), IntKind.wrap_u8]
    omega
  obtain ⟨a', ha⟩ := hu a
  obtain ⟨b', hb⟩ := hu b
  obtain ⟨c', hc⟩ := hu c
  obtain ⟨d', hd⟩ := hu d
  have hr := heap_alloc_new w (.cells (byC [a', b', c', d']).toArray 5)
  have hcv := run_convert_bytes_back (P := Tryz.prog) (w.alloc (.cells (byC [a', b', c', d']).toArray 5)) 54 9 5 ⟨w.heap.size, 0, none⟩ 4 [a', b', c', d'] Tryz.underlying54 Tryz.underlying5 Tryz.underlying9 (fun j hj => by
    rw [WideShapes.add_plain, cell_of_row _ w.heap.size (0 + j) _ 5 (0, 0) hr]
    rw [Nat.zero_add, List.getElem?_toArray]; exact byC_get hj)
  change (convert 54 9 (.slice (some ⟨w.heap.size, 0, none⟩) 4 4)).run Tryz.prog (w.alloc (.cells #[by8 a', by8 b', by8 c', by8 d'] 5)) = .ok (.string (bs [a', b', c', d'])) _ at hcv
  generalize hR : bs [a', b', c', d'] = R at hcv
  clear hu hr
  go_enter Tryz.func44, Tryz.ntmps44
  go_wp2
  go_ret
  exact ⟨⟨[a', b', c', d'], rfl, by rw [hR]; rfl⟩, by go_grown⟩
def dC (lo : Bool) (q0 q1 q2 q3 q4 q5 q6 q7 pt : Nat) : Array Value := #[.bool lo, .int .u16 (q0 : Int), .int .u16 (q1 : Int), .int .u16 (q2 : Int), .int .u16 (q3 : Int), .int .u16 (q4 : Int), .int .u16 (q5 : Int), .int .u16 (q6 : Int), .int .u16 (q7 : Int), .int .u16 (pt : Int)]
/-- The memory of a draft: what was drawn, the result, the address. -/
structure Dm (w : World) (ds : Array Value) (h : ByteArray) (p : Int) (W : World) : Prop where
  b : Below w.heap.size w W
  d : W.heap[w.heap.size]? = some (.cells ds 27 (0, 0))
  r : W.heap[w.heap.size + 1]? = some (.cells #[.string ⟨#[]⟩, .int .i64 0] 23 (0, 0))
  a : W.heap[w.heap.size + 2]? = some (.cells #[.string h, .int .i64 p] 23 (0, 0))
theorem Dm.below {w W V : World} {ds : Array Value} {h : ByteArray} {p : Int} (k : Dm w ds h p W) (hb : Below W.heap.size W V) : Dm w ds h p V :=
  ⟨bstep k.b hb, (hb.block _ (Array.getElem?_eq_some_iff.1 k.d).1).trans k.d, (hb.block _ (Array.getElem?_eq_some_iff.1 k.r).1).trans k.r, (hb.block _ (Array.getElem?_eq_some_iff.1 k.a).1).trans k.a⟩
theorem Dm.new (w : World) (ds : Array Value) (h : ByteArray) (p : Int) : Dm w ds h p (((w.alloc (.cells ds 27)).alloc (.cells #[.string ⟨#[]⟩, .int .i64 0] 23)).alloc (.cells #[.string h, .int .i64 p] 23)) := by
  obtain ⟨h1, h2, h3, _⟩ := three_at w (.cells ds 27) (.cells #[.string ⟨#[]⟩, .int .i64 0] 23) (.cells #[.string h, .int .i64 p] 23) _ rfl
  exact ⟨((((Below.refl _ w).alloc (Nat.le_refl _) _).alloc (by simp) _).alloc (by simp; omega) _), h1, h2, h3⟩
theorem idx86 (r : Nat) (h : r < 8) : ∃ v : Int, ∀ W, (Instr.index 86 (.agg #[.int .i64 10, .int .i64 127, .int .i64 169, .int .i64 172, .int .i64 192, .int .i64 224, .int .i64 255, .int .i64 0]) (.int .u16 (r : Int))).run Tryz.prog W = .ok (.int .i64 v) W := by
  have h8 : r = 0 ∨ r = 1 ∨ r = 2 ∨ r = 3 ∨ r = 4 ∨ r = 5 ∨ r = 6 ∨ r = 7 := by omega
  rcases h8 with rfl | rfl | rfl | rfl | rfl | rfl | rfl | rfl
  · exact ⟨10, fun W => by kernel_rfl⟩
  · exact ⟨127, fun W => by kernel_rfl⟩
  · exact ⟨169, fun W => by kernel_rfl⟩
  · exact ⟨172, fun W => by kernel_rfl⟩
  · exact ⟨192, fun W => by kernel_rfl⟩
  · exact ⟨224, fun W => by kernel_rfl⟩
  · exact ⟨255, fun W => by kernel_rfl⟩
  · exact ⟨0, fun W => by kernel_rfl⟩
theorem idx87 (r : Nat) (h : r < 6) : ∃ v : Int, ∀ W, (Instr.index 87 (.agg #[.int .i64 0, .int .i64 254, .int .i64 16, .int .i64 168, .int .i64 31, .int .i64 255]) (.int .u16 (r : Int))).run Tryz.prog W = .ok (.int .i64 v) W := by
  have h8 : r = 0 ∨ r = 1 ∨ r = 2 ∨ r = 3 ∨ r = 4 ∨ r = 5 := by omega
  rcases h8 with rfl | rfl | rfl | rfl | rfl | rfl
  · exact ⟨0, fun W => by kernel_rfl⟩
  · exact ⟨254, fun W => by kernel_rfl⟩
  · exact ⟨16, fun W => by kernel_rfl⟩
  · exact ⟨168, fun W => by kernel_rfl⟩
  · exact ⟨31, fun W => by kernel_rfl⟩
  · exact ⟨255, fun W => by kernel_rfl⟩
theorem idx89 (r : Nat) (h : r < 4) : ∃ v : Nat, v < 65536 ∧ ∀ W, (Instr.index 89 (.agg #[.int .i64 65152, .int .i64 64512, .int .i64 65282, .int .i64 8193]) (.int .u16 (r : Int))).run Tryz.prog W = .ok (.int .i64 (v : Int)) W := by
  have h8 : r = 0 ∨ r = 1 ∨ r = 2 ∨ r = 3 := by omega
  rcases h8 with rfl | rfl | rfl | rfl
  · exact ⟨65152, by decide, fun W => by kernel_rfl⟩
  · exact ⟨64512, by decide, fun W => by kernel_rfl⟩
  · exact ⟨65282, by decide, fun W => by kernel_rfl⟩
  · exact ⟨8193, by decide, fun W => by kernel_rfl⟩
theorem mods (q m r : Nat) (h : q % m = r) : (q : Int) % (m : Int) = (r : Int) ∧ (q : Int).tmod (m : Int) = (r : Int) := by
  subst h
  rw [Int.tmod_eq_emod_of_nonneg (by omega)]
  exact ⟨by simp, by simp⟩
theorem size23 : (Tryz.prog.info? 23).map (·.size) = some 2 := by kernel_rfl
theorem row2_one (a : ByteArray) (b : Int) : (#[.string a, .int .i64 b] : Array Value).all (·.oneCell') = true := by simp [Value.oneCell']
theorem Dm.host {w W : World} {ds : Array Value} {h : ByteArray} {p : Int} (k : Dm w ds h p W) (h' : ByteArray) : Dm w ds h' p (W.setCell ⟨w.heap.size + 2, 0, none⟩ (.string h')) :=
  ⟨below_setCell k.b (by omega) 0 _, (heap_setCell_other W _ _ _ (by show w.heap.size ≠ w.heap.size + 2; omega)).trans k.d, (heap_setCell_other W _ _ _ (by show w.heap.size + 1 ≠ w.heap.size + 2; omega)).trans k.r, heap_setCell_same W (w.heap.size + 2) 0 #[.string h, .int .i64 p] 23 _ k.a⟩
theorem Dm.done {w W : World} {ds : Array Value} {h : ByteArray} {p : Int} (k : Dm w ds h p W) : (W.setRow (w.heap.size + 1) #[.string h, .int .i64 p]).heap[w.heap.size + 1]? = some (.cells #[.string h, .int .i64 p] 23 (0, 0)) ∧ Below w.heap.size w (W.setRow (w.heap.size + 1) #[.string h, .int .i64 p]) :=
  ⟨setRow_heap W _ _ _ 23 (0, 0) k.r, below_setRow k.b (by omega) _⟩
theorem end12 {tmps : Array Value} {W : World} {g : Nat} {cs : Array Value} {Q : Ending → World → Prop} (hp : tmps.getD 2 undef = .pointer (some ⟨g, 0, none⟩)) (hg : W.heap[g]? = some (.cells cs 23 (0, 0))) (hs : cs.size = 2)
    (hq : Q (.returned (.agg cs)) W) : bodyPost Tryz.prog Tryz.f12 Q .ret { tmps := tmps, defers := [] } W :=
  bodyPost_ret (results_cell_row rfl _ _ g 23 cs (0, 0) _ hp hg Tryz.underlying23 rfl (by rw [hs]; exact size23)) rfl hq
/-- The octets beside a draft's memory. -/
structure Dl (w : World) (ds : Array Value) (p : Int) (v : Value) (n : Nat) (xs : List UInt8) (W : World) : Prop where
  m : Dm w ds ⟨#[]⟩ p W
  o : W.ownsRow (w.heap.size + 3) 5 1 v n (byC xs)
  z : w.heap.size + 3 ≤ W.heap.size
  l : xs.length = n
set_option maxRecDepth 100000 in
set_option maxHeartbeats 8000000 in
theorem Addr_any (lo : Bool) (q0 q1 q2 q3 q4 q5 q6 q7 pt : Nat) (w : World) (h0 : q0 < 65536) (h1 : q1 < 65536) (h2 : q2 < 65536) (h3 : q3 < 65536) (h4 : q4 < 65536) (h5 : q5 < 65536) (h6 : q6 < 65536) (h7 : q7 < 65536) (hp : pt < 65536) :
    Calls Tryz.prog 12 #[.agg (dC lo q0 q1 q2 q3 q4 q5 q6 q7 pt)] w fun e w' => (∃ (s : List UInt8) (p : Nat), e = .returned (.agg #[.string (bs s), .int .i64 (p : Int)]) ∧ (s.length = 4 ∨ s.length = 16) ∧ p ≤ 65535) ∧ Below w.heap.size w w' := by
  have HD := Lib.hid (Dm.new w (dC lo q0 q1 q2 q3 q4 q5 q6 q7 pt) ⟨#[]⟩ (pt : Int))
  have wp : wrap64 (pt : Int) = (pt : Int) := w64_nat (x := pt) (by omega)
  have HP := Lib.hid hp
  have HF := Lib.hid (fun a b c d W => four44_any a b c d W)
  go_enter Tryz.func12, Tryz.ntmps12
  unfold dC
  go_upto_region 2 with fail
  change Code.wp _ _ _ _ (((w.alloc (.cells (dC lo q0 q1 q2 q3 q4 q5 q6 q7 pt) 27)).alloc (.cells #[.string ⟨#[]⟩, .int .i64 0] 23)).alloc (.cells #[.string ⟨#[]⟩, .int .i64 (pt : Int)] 23))
  generalize ((w.alloc (.cells (dC lo q0 q1 q2 q3 q4 q5 q6 q7 pt) 27)).alloc (.cells #[.string ⟨#[]⟩, .int .i64 0] 23)).alloc (.cells #[.string ⟨#[]⟩, .int .i64 (pt : Int)] 23) = V at HD ⊢
  clear wp hp
  rcases lo with _ | _
  · have c0 : V.cell? ⟨w.heap.size, 0, none⟩ = some (.bool false) := cell_of_row _ _ 0 _ 27 (0, 0) HD.out.d
    have c1 : V.cell? ⟨w.heap.size, 1, none⟩ = some (.int .u16 (q0 : Int)) := cell_of_row _ _ 1 _ 27 (0, 0) HD.out.d
    have c2 : V.cell? ⟨w.heap.size, 2, none⟩ = some (.int .u16 (q1 : Int)) := cell_of_row _ _ 2 _ 27 (0, 0) HD.out.d
    have c3 : V.cell? ⟨w.heap.size, 3, none⟩ = some (.int .u16 (q2 : Int)) := cell_of_row _ _ 3 _ 27 (0, 0) HD.out.d
    have c4 : V.cell? ⟨w.heap.size, 4, none⟩ = some (.int .u16 (q3 : Int)) := cell_of_row _ _ 4 _ 27 (0, 0) HD.out.d
    obtain ⟨r0, e0⟩ : ∃ r, q0 % 8 = r := ⟨_, rfl⟩
    obtain ⟨r1, e1⟩ : ∃ r, q1 % 6 = r := ⟨_, rfl⟩
    obtain ⟨a0, a1⟩ := mods q0 8 r0 e0
    obtain ⟨b0, b1⟩ := mods q1 6 r1 e1
    obtain ⟨v0, hv0⟩ := idx86 r0 (by omega)
    obtain ⟨v1, hv1⟩ := idx87 r1 (by omega)
    clear e0 e1 h4 h5 h6 h7
    change (q0 : Int) % 8 = (r0 : Int) at a0
    change (q0 : Int).tmod 8 = (r0 : Int) at a1
    change (q1 : Int) % 6 = (r1 : Int) at b0
    change (q1 : Int).tmod 6 = (r1 : Int) at b1
    rcases Nat.lt_or_ge q0 40000 with g0 | g0 <;> rcases Nat.lt_or_ge q1 40000 with g1 | g1
    · have i0 : ¬ (40000 : Int) ≤ (q0 : Int) := by omega
      have i1 : ¬ (40000 : Int) ≤ (q1 : Int) := by omega
      clear g0 g1
      go_wp2_with (first
        | (go_at_call 44; (with_reducible refine (HF.out _ _ _ _ _).mono ?_); rintro e V2 ⟨⟨s, hs, rfl⟩, hb⟩; (have HD2 := Lib.hid (HD.out.below hb)); clear hb; (have d0 : V2.cell? ⟨w.heap.size + 2, 0, none⟩ = some (.string ⟨#[]⟩) := cell_of_row _ _ 0 _ 23 (0, 0) HD2.out.a); (have f0 : V2.frozen? ⟨w.heap.size + 2, 0, none⟩ = false := frozen_of_row _ _ _ _ _ HD2.out.a); (have HD3 := Lib.hid (HD2.out.host (bs s))); (have HD4 := Lib.hid HD3.out.done))
        | (refine wpList_load_row rfl 23 _ rfl (w.heap.size + 2) rfl 23 #[.string (bs s), .int .i64 (pt : Int)] (0, 0) _ HD3.out.a Tryz.underlying23 rfl size23 ?_)
        | (refine wpList_store_row rfl 23 _ _ rfl (w.heap.size + 1) #[.string (bs s), .int .i64 (pt : Int)] rfl rfl 23 #[.string ⟨#[]⟩, .int .i64 0] HD3.out.r size23 rfl (row2_one _ _) ?_))
      (try simp only [Exit.inBlock, Exit.then])
      refine end12 rfl HD4.out.1 rfl ?_
      exact ⟨⟨s, pt, rfl, .inl hs, by have := HP.out; omega⟩, HD4.out.2⟩
    · have i0 : ¬ (40000 : Int) ≤ (q0 : Int) := by omega
      have i1 : (40000 : Int) ≤ (q1 : Int) := by omega
      clear g0 g1
      go_wp2_with (first
        | (go_at_call 44; (with_reducible refine (HF.out _ _ _ _ _).mono ?_); rintro e V2 ⟨⟨s, hs, rfl⟩, hb⟩; (have HD2 := Lib.hid (HD.out.below hb)); clear hb; (have d0 : V2.cell? ⟨w.heap.size + 2, 0, none⟩ = some (.string ⟨#[]⟩) := cell_of_row _ _ 0 _ 23 (0, 0) HD2.out.a); (have f0 : V2.frozen? ⟨w.heap.size + 2, 0, none⟩ = false := frozen_of_row _ _ _ _ _ HD2.out.a); (have HD3 := Lib.hid (HD2.out.host (bs s))); (have HD4 := Lib.hid HD3.out.done))
        | (refine wpList_load_row rfl 23 _ rfl (w.heap.size + 2) rfl 23 #[.string (bs s), .int .i64 (pt : Int)] (0, 0) _ HD3.out.a Tryz.underlying23 rfl size23 ?_)
        | (refine wpList_store_row rfl 23 _ _ rfl (w.heap.size + 1) #[.string (bs s), .int .i64 (pt : Int)] rfl rfl 23 #[.string ⟨#[]⟩, .int .i64 0] HD3.out.r size23 rfl (row2_one _ _) ?_))
      (try simp only [Exit.inBlock, Exit.then])
      refine end12 rfl HD4.out.1 rfl ?_
      exact ⟨⟨s, pt, rfl, .inl hs, by have := HP.out; omega⟩, HD4.out.2⟩
    · have i0 : (40000 : Int) ≤ (q0 : Int) := by omega
      have i1 : ¬ (40000 : Int) ≤ (q1 : Int) := by omega
      clear g0 g1
      go_wp2_with (first
        | (go_at_call 44; (with_reducible refine (HF.out _ _ _ _ _).mono ?_); rintro e V2 ⟨⟨s, hs, rfl⟩, hb⟩; (have HD2 := Lib.hid (HD.out.below hb)); clear hb; (have d0 : V2.cell? ⟨w.heap.size + 2, 0, none⟩ = some (.string ⟨#[]⟩) := cell_of_row _ _ 0 _ 23 (0, 0) HD2.out.a); (have f0 : V2.frozen? ⟨w.heap.size + 2, 0, none⟩ = false := frozen_of_row _ _ _ _ _ HD2.out.a); (have HD3 := Lib.hid (HD2.out.host (bs s))); (have HD4 := Lib.hid HD3.out.done))
        | (refine wpList_load_row rfl 23 _ rfl (w.heap.size + 2) rfl 23 #[.string (bs s), .int .i64 (pt : Int)] (0, 0) _ HD3.out.a Tryz.underlying23 rfl size23 ?_)
        | (refine wpList_store_row rfl 23 _ _ rfl (w.heap.size + 1) #[.string (bs s), .int .i64 (pt : Int)] rfl rfl 23 #[.string ⟨#[]⟩, .int .i64 0] HD3.out.r size23 rfl (row2_one _ _) ?_))
      (try simp only [Exit.inBlock, Exit.then])
      refine end12 rfl HD4.out.1 rfl ?_
      exact ⟨⟨s, pt, rfl, .inl hs, by have := HP.out; omega⟩, HD4.out.2⟩
    · have i0 : (40000 : Int) ≤ (q0 : Int) := by omega
      have i1 : (40000 : Int) ≤ (q1 : Int) := by omega
      clear g0 g1
      go_wp2_with (first
        | (go_at_call 44; (with_reducible refine (HF.out _ _ _ _ _).mono ?_); rintro e V2 ⟨⟨s, hs, rfl⟩, hb⟩; (have HD2 := Lib.hid (HD.out.below hb)); clear hb; (have d0 : V2.cell? ⟨w.heap.size + 2, 0, none⟩ = some (.string ⟨#[]⟩) := cell_of_row _ _ 0 _ 23 (0, 0) HD2.out.a); (have f0 : V2.frozen? ⟨w.heap.size + 2, 0, none⟩ = false := frozen_of_row _ _ _ _ _ HD2.out.a); (have HD3 := Lib.hid (HD2.out.host (bs s))); (have HD4 := Lib.hid HD3.out.done))
        | (refine wpList_load_row rfl 23 _ rfl (w.heap.size + 2) rfl 23 #[.string (bs s), .int .i64 (pt : Int)] (0, 0) _ HD3.out.a Tryz.underlying23 rfl size23 ?_)
        | (refine wpList_store_row rfl 23 _ _ rfl (w.heap.size + 1) #[.string (bs s), .int .i64 (pt : Int)] rfl rfl 23 #[.string ⟨#[]⟩, .int .i64 0] HD3.out.r size23 rfl (row2_one _ _) ?_))
      (try simp only [Exit.inBlock, Exit.then])
      refine end12 rfl HD4.out.1 rfl ?_
      exact ⟨⟨s, pt, rfl, .inl hs, by have := HP.out; omega⟩, HD4.out.2⟩
  · have c0 : V.cell? ⟨w.heap.size, 0, none⟩ = some (.bool true) := cell_of_row _ _ 0 _ 27 (0, 0) HD.out.d
    have HL0 : Hid (Dl w (dC true q0 q1 q2 q3 q4 q5 q6 q7 pt) (pt : Int) (.slice none 0 0) (2 * 0) [] V) := Lib.hid ⟨HD.out, ⟨rfl, .inl ⟨rfl, rfl⟩⟩, (by have := (Array.getElem?_eq_some_iff.1 HD.out.a).1; omega), rfl⟩
    have HC : Hid (∀ k, k < 8 → ∃ x : Nat, x < 65536 ∧ (dC true q0 q1 q2 q3 q4 q5 q6 q7 pt)[1 + k]? = some (.int .u16 (x : Int))) := Lib.hid fun k hk => by
      have h8 : k = 0 ∨ k = 1 ∨ k = 2 ∨ k = 3 ∨ k = 4 ∨ k = 5 ∨ k = 6 ∨ k = 7 := by omega
      rcases h8 with rfl | rfl | rfl | rfl | rfl | rfl | rfl | rfl
      · exact ⟨q0, h0, rfl⟩
      · exact ⟨q1, h1, rfl⟩
      · exact ⟨q2, h2, rfl⟩
      · exact ⟨q3, h3, rfl⟩
      · exact ⟨q4, h4, rfl⟩
      · exact ⟨q5, h5, rfl⟩
      · exact ⟨q6, h6, rfl⟩
      · exact ⟨q7, h7, rfl⟩
    obtain ⟨r0, e0⟩ : ∃ r, q0 % 7 = r := ⟨_, rfl⟩
    have HQ := Lib.hid (mods q0 7 r0 e0)
    have hcz : (dC true q0 q1 q2 q3 q4 q5 q6 q7 pt)[1]? = some (.int .u16 (q0 : Int)) := rfl
    clear h0 h1 h2 h3 h4 h5 h6 h7 HF e0
    go_upto_region 13 with fail
    generalize dC true q0 q1 q2 q3 q4 q5 q6 q7 pt = ds at *
    clear HD c0
    change Hid (Dl w ds (pt : Int) (.slice none 0 0) 0 [] V) at HL0
    go_loopw [6, 7, 8] (fun v i _ wr => ∃ (k : Nat) (xs : List UInt8), k ≤ 8 ∧ i = .int .i64 (k : Int) ∧ Hid (Dl w ds (pt : Int) v (2 * k) xs wr)) (fun _ i _ _ => 8 - (intOf i).toNat)
    case atStart => exact ⟨0, [], by omega, rfl, HL0⟩
    case round =>
      clear HL0
      obtain ⟨k, xs, hk, rfl, HL⟩ := hrel
      by_cases hlt : k < 8
      · have hki : (k : Int) < 8 := by omega
        obtain ⟨x, hx, hxc⟩ := HC.out k hlt
        have hc : wr.cell? ⟨w.heap.size, 1 + k, none⟩ = some (.int .u16 (x : Int)) := (cell_of_row _ _ (1 + k) _ 27 (0, 0) HL.out.m.d).trans hxc
        have hcq : wr.cell? ⟨w.heap.size, 1, none⟩ = some (.int .u16 (q0 : Int)) := (cell_of_row _ _ 1 _ 27 (0, 0) HL.out.m.d).trans hcz
        clear hxc
        obtain ⟨m, em⟩ : ∃ r, x % 5 = r := ⟨_, rfl⟩
        obtain ⟨m0, m1⟩ := mods x 5 m em
        change (x : Int) % 5 = (m : Int) at m0
        change (x : Int).tmod 5 = (m : Int) at m1
        clear em
        go_upto_if 72 with fail
        go_cut [8] from 61 to 96 (fun v wx => ∃ x : Nat, x < 65536 ∧ v = .int .i64 (x : Int) ∧ wr = wx)
        case first =>
          rcases Nat.lt_or_ge m 3 with g | g
          · have g3 : (m : Int) < 3 := by omega
            go_wp2_with fail
            go_meet
            exact ⟨0, by omega, rfl, rfl⟩
          · have g3 : ¬ (m : Int) < 3 := by omega
            go_wp2_with fail
            go_meet
            exact ⟨x, hx, rfl, rfl⟩
        case rest =>
        obtain ⟨y, hy, rfl, rfl⟩ := hcut
        clear hc hx m0 m1
        have q0e := HQ.out.1
        have q1e := HQ.out.2
        change (q0 : Int) % 7 = (r0 : Int) at q0e
        change (q0 : Int).tmod 7 = (r0 : Int) at q1e
        go_upto_region 18 with fail
        go_cut [81] from 61 to 96 (fun v wx => ∃ b : Bool, v = .bool b ∧ (b = true → r0 < 4) ∧ wr = wx)
        case first =>
          rcases Nat.eq_zero_or_pos k with g | g
          · subst g
            rcases Nat.lt_or_ge r0 4 with g | g
            · have g3 : (r0 : Int) < 4 := by omega
              go_wp2_with fail
              go_meet
              exact ⟨true, rfl, fun _ => g, rfl⟩
            · have g3 : ¬ (r0 : Int) < 4 := by omega
              go_wp2_with fail
              go_meet
              exact ⟨false, rfl, fun h => (by cases h), rfl⟩
          · have g3 : ¬ (k : Int) = 0 := by omega
            have g4 : ((k : Int) == 0) = false := beq_false_of_ne g3
            go_wp2_with fail
            go_meet
            exact ⟨false, rfl, fun h => (by cases h), rfl⟩
        case rest =>
        obtain ⟨b, rfl, hb4, rfl⟩ := hcut
        go_upto_if 81 with fail
        go_cut [8] from 61 to 96 (fun v wx => ∃ x : Nat, x < 65536 ∧ v = .int .i64 (x : Int) ∧ wr = wx)
        case first =>
          rcases b with _ | _
          · go_wp2_with fail
            go_meet
            exact ⟨y, hy, rfl, rfl⟩
          · obtain ⟨v, hv, hix⟩ := idx89 r0 (hb4 rfl)
            go_wp2_with fail
            go_meet
            exact ⟨v, hv, rfl, rfl⟩
        case rest =>
        obtain ⟨x, hx, rfl, rfl⟩ := hcut
        clear hcq q0e q1e hy
        obtain ⟨y, hyv⟩ : ∃ y, x / 256 = y := ⟨_, rfl⟩
        obtain ⟨z, hzv⟩ : ∃ z, x % 256 = z := ⟨_, rfl⟩
        have hyB : y < 256 := by omega
        have hzB : z < 256 := by omega
        have a1 : (x : Int) / 256 = (y : Int) := by omega
        have a2 : (x : Int).tdiv 256 = (y : Int) := by rw [Int.tdiv_eq_ediv_of_nonneg (by omega)]; omega
        obtain ⟨c1, c2⟩ := mods x 256 z hzv
        change (x : Int) % 256 = (z : Int) at c1
        change (x : Int).tmod 256 = (z : Int) at c2
        have b1 : IntKind.u8.wrap (y : Int) = (y : Int) := by rw [IntKind.wrap_u8]; omega
        have b2 : IntKind.u8.wrap (z : Int) = (z : Int) := by rw [IntKind.wrap_u8]; omega
        have hby : byC [UInt8.ofNat y, UInt8.ofNat z] = [.int .u8 (y : Int), .int .u8 (z : Int)] := by
          have e1 : (UInt8.ofNat y).toNat = y := UInt8.toNat_ofNat_of_lt' (by show y < 256; omega)
          have e2 : (UInt8.ofNat z).toNat = z := UInt8.toNat_ofNat_of_lt' (by show z < 256; omega)
          simp [byC, e1, e2]
        have HO : Hid (byC xs ++ [.int .u8 (y : Int), .int .u8 (z : Int)] = byC (xs ++ [UInt8.ofNat y, UInt8.ofNat z])) := Lib.hid (by rw [← hby, byC_append])
        clear hx hyv hzv hby hb4
        go_upto_region 20 with fail
        have HR : Hid ((wr.alloc (.cells #[.int .u8 (y : Int), .int .u8 (z : Int)] 5)).ownsRow (w.heap.size + 3) 5 1 u6 (2 * k) (byC xs) ∧ w.heap.size + 3 ≤ (wr.alloc (.cells #[.int .u8 (y : Int), .int .u8 (z : Int)] 5)).heap.size) := Lib.hid ⟨HL.out.o.alloc _, by have := HL.out.z; rw [World.size_alloc]; omega⟩
        go_wp2_with (refine wpList_plain (o := ⟨some 96, _, _, _, _, _⟩) rfl fun K hK => ?_; refine wp_append_two _ _ rfl (w.heap.size + 3) _ (2 * k) (byC xs) rfl HR.out.1 wr.heap.size rfl (y : Int) (z : Int) (heap_alloc_new wr _) (by omega) HR.out.2 ?_; intro v2 w3 hown3 hg3; refine hK _ _ ?_)
        have hg4 : (wr.alloc (.cells #[.int .u8 (y : Int), .int .u8 (z : Int)] 5)).grownBy w3 u6.ownBlock := hg3
        rw [HO.out] at hown3
        have hB3 : Below (w.heap.size + 3) wr w3 := ((Below.refl (w.heap.size + 3) wr).alloc HL.out.z _).grown hg4 (by have := HL.out.z; simp; omega) (fun g hg => by have := (HL.out.o.lt g hg).1; omega)
        have hM := HL.out.m
        have hM3 : Dm w ds ⟨#[]⟩ (pt : Int) w3 := ⟨hM.b.trans (hB3.mono (by omega)), (hB3.block _ (by omega)).trans hM.d, (hB3.block _ (by omega)).trans hM.r, (hB3.block _ (by omega)).trans hM.a⟩
        exact ⟨⟨k + 1, xs ++ [UInt8.ofNat y, UInt8.ofNat z], by omega, by go_num, Lib.hid ⟨hM3, hown3, by have := hg4.size; have := HR.out.2; omega, by rw [List.length_append, HL.out.l]; simp; omega⟩⟩, by simp [intOf]; omega⟩
      · obtain rfl : k = 8 := by omega
        have hxl : xs.length = 16 := HL.out.l
        have hcv := string_of_own (w := wr) (l := xs) (by rw [hxl]; exact HL.out.o)
        change (convert 54 9 u6).run Tryz.prog wr = .ok (.string (bs xs)) wr at hcv
        have HD2 := Lib.hid HL.out.m
        have d0 : wr.cell? ⟨w.heap.size + 2, 0, none⟩ = some (.string ⟨#[]⟩) := cell_of_row _ _ 0 _ 23 (0, 0) HD2.out.a
        have f0 : wr.frozen? ⟨w.heap.size + 2, 0, none⟩ = false := frozen_of_row _ _ _ _ _ HD2.out.a
        have HD3 := Lib.hid (HD2.out.host (bs xs))
        have HD4 := Lib.hid HD3.out.done
        clear HL HC HQ
        go_wp2_with (first
          | (refine wpList_load_row rfl 23 _ rfl (w.heap.size + 2) rfl 23 #[.string (bs xs), .int .i64 (pt : Int)] (0, 0) _ HD3.out.a Tryz.underlying23 rfl size23 ?_)
          | (refine wpList_store_row rfl 23 _ _ rfl (w.heap.size + 1) #[.string (bs xs), .int .i64 (pt : Int)] rfl rfl 23 #[.string ⟨#[]⟩, .int .i64 0] HD3.out.r size23 rfl (row2_one _ _) ?_))
        (try simp only [Exit.inBlock, Exit.then])
        refine end12 rfl HD4.out.1 rfl ?_
        exact ⟨⟨xs, pt, rfl, .inr hxl, by have := HP.out; omega⟩, HD4.out.2⟩
end Go.Proofs.YtjoogiabimiioaaGreatDoor
