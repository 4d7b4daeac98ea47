/- Contracts of Derive. -/
import Derived.Test.YtfdeegafdaobdaaDoorC
import Derived.Test.YtfdeegafdaobdaaDoorShelf2
namespace Go.Proofs.YtfdeegafdaobdaaDoor
open Go.RowKit Go.ChangeShapes

theorem BuilderAt_below {T e : TypeId} {B b : Nat} {p : Value} {l : List Value} {W W' : World} (h : Lib.BuilderAt T e B b p l W) (hb : Below W.heap.size W W') : Lib.BuilderAt T e B b p l W' := by
  have hlt := h.lt
  obtain ⟨hB, v, hv, hown, hne⟩ := h
  exact ⟨hB, v, (hb.block b hlt).trans hv, hown.kept (row := none) ⟨hb.os, hb.tape, hb.output, hb.size, fun k hk _ => hb.block k hk⟩ (Classical.em _), hne⟩
theorem IsBuilder_below {T e : TypeId} {B b : Nat} {l : List Value} {W W' : World} (h : Lib.IsBuilder T e B b l W) (hb : Below W.heap.size W W') : Lib.IsBuilder T e B b l W' :=
  h.elim (fun x => .inl (BuilderAt_below x hb)) (fun x => .inr (BuilderAt_below x hb))
theorem IsBuilder_lt {T e : TypeId} {B b : Nat} {l : List Value} {W : World} (h : Lib.IsBuilder T e B b l W) : b < W.heap.size := h.elim (·.lt) (·.lt)

/-- The derived octets' pieces. -/
def tagL (key label : List UInt8) : Nat → List UInt8
  | 0 => []
  | k + 1 => macB key (tagL key label k ++ label ++ [UInt8.ofNat (k + 1)])
def outL (key label : List UInt8) : Nat → List UInt8
  | 0 => []
  | k + 1 => outL key label k ++ tagL key label (k + 1)
def derB (secret salt label : List UInt8) (n : Nat) : List UInt8 := (outL (macB salt secret) label 8).take n
theorem tagL_len (key label : List UInt8) (k : Nat) : (tagL key label (k + 1)).length = 32 := macB_length _ _
theorem tagL_le (key label : List UInt8) (k : Nat) : (tagL key label k).length ≤ 32 := by
  cases k with
  | zero => simp [tagL]
  | succ k => rw [tagL_len]; exact Nat.le_refl _
theorem outL_len (key label : List UInt8) : ∀ k, (outL key label k).length = 32 * k
  | 0 => rfl
  | k + 1 => by rw [outL, List.length_append, outL_len key label k, tagL_len]; omega
theorem outL_pre (key label : List UInt8) (k : Nat) : ∀ j, ∃ r, outL key label (k + j) = outL key label k ++ r
  | 0 => ⟨[], by simp⟩
  | j + 1 => by
    obtain ⟨r, hr⟩ := outL_pre key label k j
    exact ⟨r ++ tagL key label (k + j + 1), by rw [← Nat.add_assoc, outL, hr, List.append_assoc]⟩
theorem outL_take (key label : List UInt8) (n k : Nat) (hk : n ≤ 32 * k) (h8 : k ≤ 8) : (outL key label k).take n = (outL key label 8).take n := by
  obtain ⟨r, hr⟩ := outL_pre key label k (8 - k)
  rw [show k + (8 - k) = 8 by omega] at hr
  rw [hr, List.take_append_of_le_length (by rw [outL_len]; exact hk)]
theorem derB_len (secret salt label : List UInt8) (n : Nat) (hn : n ≤ 255) : (derB secret salt label n).length = n := by
  unfold derB; rw [List.length_take, outL_len]; omega

set_option maxRecDepth 100000 in
set_option maxHeartbeats 1000000 in
theorem derive_long (s t u : ByteArray) (n : Int) (w : World) (h : lng [s, t, u] = true) (hs : s.size ≤ 140737488351232) (ht : t.size ≤ 140737488351232) (hu : u.size ≤ 140737488351232) :
    Calls Tryd.prog 28 #[.string s, .string t, .string u, .int .i64 n] w fun e w' => e = .returned (.tuple #[.string ByteArray.empty, .int .i64 3]) ∧ Below w.heap.size w w' := by
  have hL := isLong_3 s t u true h hs ht hu
  clear h
  go_enter Tryd.func28, Tryd.ntmps28
  go_wp2_with (first | (go_at_call 36; (with_reducible refine (hL _ _ (by simp) (by simp) (by simp)).mono ?_); rintro e w' ⟨rfl, rfl⟩))
  go_ret2
  exact ⟨rfl, by go_grown⟩
set_option maxRecDepth 100000 in
set_option maxHeartbeats 1000000 in
theorem derive_arg (s t u : ByteArray) (n : Int) (w : World) (h : lng [s, t, u] = false) (hs : s.size ≤ 140737488351232) (ht : t.size ≤ 140737488351232) (hu : u.size ≤ 140737488351232) (hn : n < 0 ∨ 255 < n) :
    Calls Tryd.prog 28 #[.string s, .string t, .string u, .int .i64 n] w fun e w' => e = .returned (.tuple #[.string ByteArray.empty, .int .i64 2]) ∧ Below w.heap.size w w' := by
  have hL := isLong_3 s t u false h hs ht hu
  clear h
  by_cases h0 : n < 0
  · clear hn
    go_enter Tryd.func28, Tryd.ntmps28
    go_wp2_with (first | (go_at_call 36; (with_reducible refine (hL _ _ (by simp) (by simp) (by simp)).mono ?_); rintro e w' ⟨rfl, rfl⟩))
    all_goals go_ret2
    all_goals exact ⟨rfl, by go_grown⟩
  · have h1 : 255 < n := by omega
    clear hn
    go_enter Tryd.func28, Tryd.ntmps28
    go_wp2_with (first | (go_at_call 36; (with_reducible refine (hL _ _ (by simp) (by simp) (by simp)).mono ?_); rintro e w' ⟨rfl, rfl⟩))
    all_goals go_ret2
    all_goals exact ⟨rfl, by go_grown⟩
set_option maxRecDepth 100000 in
set_option maxHeartbeats 4000000 in
theorem derive_ok (s t u : List UInt8) (n : Nat) (w : World) (hs : s.length ≤ 4096) (ht : t.length ≤ 4096) (hu : u.length ≤ 4096) (hn : n ≤ 255) :
    Calls Tryd.prog 28 #[.string (bs s), .string (bs t), .string (bs u), .int .i64 n] w fun e w' => e = .returned (.tuple #[.string (bs (derB s t u n)), .int .i64 0]) ∧ Below w.heap.size w w' := by
  have hL := isLong_3 (bs s) (bs t) (bs u) false (lng_no fun x hx => by
    simp only [List.mem_cons, List.not_mem_nil, or_false] at hx
    rcases hx with rfl | rfl | rfl
    · exact hs
    · exact ht
    · exact hu) (by rw [bs_size]; omega) (by rw [bs_size]; omega) (by rw [bs_size]; omega)
  have hb : ∀ w, Calls Tryd.prog 37 #[] w fun e w' => ∃ kb, e = .returned (mkV IW ByteArray.empty 0 kb) ∧ Arr w' kb 103 KL ∧ w.heap.size ≤ kb ∧ Below w.heap.size w w' := begin_any
  obtain ⟨key, hkey⟩ : ∃ key, macB t s = key := ⟨_, rfl⟩
  have hkl : key.length = 32 := by rw [← hkey]; exact macB_length _ _
  have hc1 : ∀ kb w, Arr w kb 103 KL → Calls Tryd.prog 43 #[mkV IW ByteArray.empty 0 kb, .string (bs t), .string (bs s)] w fun e w' => e = .returned (.string (bs key)) ∧ Below w.heap.size w w' := fun kb w ha => by
    rw [← hkey]; exact code_any kb t s w ha (by omega) (by omega)
  have hc2 : ∀ k kb w, Arr w kb 103 KL → Calls Tryd.prog 43 #[mkV IW ByteArray.empty 0 kb, .string (bs key), .string (bs (tagL key u k) ++ bs u ++ ⟨#[UInt8.ofNat (k + 1)]⟩)] w fun e w' => e = .returned (.string (bs (tagL key u (k + 1)))) ∧ Below w.heap.size w w' := fun k kb w ha => by
    have := tagL_le key u k
    rw [bs_append, show (⟨#[UInt8.ofNat (k + 1)]⟩ : ByteArray) = bs [UInt8.ofNat (k + 1)] from rfl, bs_append]
    exact code_any kb key _ w ha (by omega) (by simp only [List.length_append, List.length_singleton]; omega)
  have hder : derB s t u n = (outL key u 8).take n := by unfold derB; rw [hkey]
  rw [hder]
  obtain ⟨p, hp⟩ : ∃ p, IW = p := ⟨_, rfl⟩
  rw [hp] at hb hc1 hc2
  have HB := Lib.hid hb
  have HC1 := Lib.hid hc1
  have HC2 := Lib.hid hc2
  clear hb hc1 hc2 hp hkey hder hkl
  go_enter Tryd.func28, Tryd.ntmps28
  go_wp2_with (first | (go_at_call 36; (with_reducible refine (hL _ _ (by simp) (by simp) (by simp)).mono ?_); rintro e w' ⟨rfl, rfl⟩) | (go_at_call 37; (with_reducible refine (HB.out _).mono ?_); rintro e w1 ⟨kb, rfl, hA, hkb, hb1⟩) | (go_at_call 43; (with_reducible refine (HC1.out _ _ (hA.alloc _)).mono ?_); rintro e w2 ⟨rfl, hb2⟩))
  have z1 := hb1.size
  have hB1 : Below w.heap.size w w1 := Below.trans (by go_grown) (hb1.mono (by simp))
  have hMk : Mk (w1.alloc (Obj.cells #[wd p.a, wd p.b, wd p.c, wd p.d, wd p.e, wd p.f, wd p.g, wd p.h, Value.string ByteArray.empty, Value.int IntKind.i64 0, Value.pointer (some ⟨kb, 0, none⟩)] 76)) w1.heap.size p ByteArray.empty 0 kb := heap_alloc_new w1 _
  have hMk2 := hMk.below hb2 hMk.lt
  have hA2 := (hA.alloc (Obj.cells #[wd p.a, wd p.b, wd p.c, wd p.d, wd p.e, wd p.f, wd p.g, wd p.h, Value.string ByteArray.empty, Value.int IntKind.i64 0, Value.pointer (some ⟨kb, 0, none⟩)] 76)).below hb2 (hA.alloc _).lt
  have hB2 : Below w.heap.size w w2 := Below.trans (hB1.alloc hB1.size _) (hb2.mono (hB1.alloc hB1.size _).size)
  have hI0 : Lib.IsBuilder 88 5 w2.heap.size w2.heap.size [] (w2.alloc (.cells #[.pointer none, .slice none 0 0] 88)) := Lib.fresh_isBuilder 88 5 w2
  have hg1 : w1.heap.size < w2.heap.size := hMk2.lt
  have hg2 : kb < w2.heap.size := hA2.lt
  have hg3 := hB2.size
  have HM0 := Lib.hid (hMk2.below ((Below.refl w2.heap.size w2).alloc (Nat.le_refl _) (.cells #[.pointer none, .slice none 0 0] 88)) hg1)
  have HA0 := Lib.hid (hA2.alloc (.cells #[.pointer none, .slice none 0 0] 88))
  have HB0 := Lib.hid (hB2.alloc hB2.size (.cells #[.pointer none, .slice none 0 0] 88))
  have HI0 := Lib.hid hI0
  obtain ⟨B, hB⟩ : ∃ B, w2.heap.size = B := ⟨_, rfl⟩
  obtain ⟨g, hg⟩ : ∃ g, w1.heap.size = g := ⟨_, rfl⟩
  rw [hB] at HI0 hg1 hg2 hg3
  rw [hg] at HM0 hg1
  clear hb1 hb2 hB1 hMk hMk2 hA2 hB2 hI0 hA hkb z1
  generalize w2.alloc (.cells #[.pointer none, .slice none 0 0] 88) = W0 at HM0 HA0 HB0 HI0 ⊢
  rw [hB, hg]
  clear hB hg w1 w2 HB HC1 hL
  go_loopw [13, 14] (fun a13 a14 wr => ∃ k : Nat, k ≤ 8 ∧ a13 = .string (bs (tagL key u k)) ∧ a14 = .int .u8 ((k : Int) + 1) ∧ Mk wr g p ByteArray.empty 0 kb ∧ Arr wr kb 103 KL ∧ Lib.IsBuilder 88 5 B B (Lib.byteCells (outL key u k)) wr ∧ Below w.heap.size w wr) (fun _ a14 _ => 10 - (intOf a14).toNat)
  case atStart => exact ⟨0, by omega, rfl, rfl, HM0.out, HA0.out, HI0.out, HB0.out⟩
  case round =>
    obtain ⟨k, hk, rfl, rfl, hM, hA, hI, hBr⟩ := hrel
    have hlen : (Lib.byteCells (outL key u k)).length = 32 * k := by rw [Lib.byteCells_length, outL_len]
    have hLn := Tryd.Builder_Len B B _ wr hI
    rw [hlen] at hLn
    obtain ⟨m, hm⟩ : ∃ m, 32 * k = m := ⟨_, rfl⟩
    rw [hm] at hLn hlen
    have hLen : Calls Tryd.prog 48 #[.pointer (some ⟨B, 0, none⟩)] wr fun e w' => e = .returned (.int .i64 (m : Int)) ∧ wr = w' := hLn.mono fun _ _ h => ⟨h.1, h.2.symm⟩
    have HLen := Lib.hid hLen
    have HM := Lib.hid hM
    have HA := Lib.hid hA
    have HI := Lib.hid hI
    have HBr := Lib.hid hBr
    have Hlen := Lib.hid hlen
    clear hLn hLen hlen hI hBr HM0 HA0 HB0 HI0
    by_cases hlt : m < n
    · have hk8 : k < 8 := by omega
      have Hm := Lib.hid hm
      have tl : decide (m < n) = true := decide_eq_true hlt
      have hck := fun w => HC2.out k kb w
      have e1 : (UInt8.ofNat (k + 1)).toNat = k + 1 := by rw [UInt8.toNat_ofNat', Nat.mod_eq_of_lt (by omega)]
      obtain ⟨cb, hcb⟩ : ∃ cb, UInt8.ofNat (k + 1) = cb := ⟨_, rfl⟩
      rw [hcb] at hck e1
      have hcv : ∀ W : World, W.cell? ⟨wr.heap.size, 0, none⟩ = some (.int .u8 ((k : Int) + 1)) → (convert 65 9 (.slice (some ⟨wr.heap.size, 0, none⟩) 1 1)).run Tryd.prog W = .ok (.string ⟨#[cb]⟩) W := fun W hc =>
        run_convert_bytes_back (P := Tryd.prog) W 65 9 5 ⟨wr.heap.size, 0, none⟩ 1 [cb] Tryd.underlying65 Tryd.underlying5 Tryd.underlying9 fun j hj => by
          obtain rfl : j = 0 := by simpa using hj
          have hadd : (⟨wr.heap.size, 0, none⟩ : Addr).add 0 = ⟨wr.heap.size, 0, none⟩ := by unfold Addr.add; split <;> simp_all
          rw [hadd, hc]
          show some (Value.int .u8 ((k : Int) + 1)) = some (Value.int .u8 (cb.toNat : Int))
          rw [e1]; rfl
      have HCK := Lib.hid hck
      obtain ⟨⟨⟨c0, c1, c2, c3⟩, ⟨c4, c5, c6, c7⟩⟩, ⟨c8, c9, c10⟩⟩ := hM.cells
      have hM1 := HM.out.lt
      have l1 : (bs (tagL key u k)).size ≤ 32 := tagL_le key u k
      have l2 : (bs u).size ≤ 4096 := hu
      have l3 : m ≤ 255 := by omega
      clear hm hlt hM hA hck e1 hcb
      go_wp2_with (first | (go_at_call 48; (with_reducible refine (HLen.out).mono ?_); rintro e w' ⟨rfl, rfl⟩) | (go_at_call 43; (with_reducible refine (HCK.out _ (HA.out.alloc _)).mono ?_); rintro e w3 ⟨rfl, hb3⟩; have hI3 := IsBuilder_below (IsBuilder_below HI.out ((Below.refl _ wr).alloc (Nat.le_refl _) _)) hb3; have hz3 := IsBuilder_lt hI3) | (go_at_call 47; (with_reducible refine (Tryd.Builder_WriteString B B _ _ _ hI3 (by rw [Hlen.out, bs_size, tagL_len]; omega) (by omega)).mono ?_); rintro e w4 ⟨rfl, hI4, hb4⟩))
      have hI5 : Lib.IsBuilder 88 5 B B (Lib.byteCells (outL key u (k + 1))) w4 := by
        rw [outL, Lib.byteCells_append]; exact Or.inr hI4
      have hM4 := ((HM.out.below ((Below.refl wr.heap.size wr).alloc (Nat.le_refl _) _) HM.out.lt).below hb3 (by have := HM.out.lt; simp; omega)).below hb4 hg1
      have hA4 := ((HA.out.alloc _).below hb3 (HA.out.alloc _).lt).below hb4 hg2
      have hB4 : Below w.heap.size w w4 := ((HBr.out.alloc HBr.out.size _).trans (hb3.mono (HBr.out.alloc HBr.out.size _).size)).trans (hb4.mono hg3)
      have Hz := Lib.hid hz3
      clear hb3 hb4 hI3 hI4 hz3
      go_roundw
      case rel => exact ⟨k + 1, by omega, rfl, by go_num, hM4, hA4, hI5, hB4⟩
      case measure => simp [intOf]; omega
    · have Hm := Lib.hid hm
      have tl : decide (m < n) = false := decide_eq_false hlt
      have hST := Tryd.Builder_String_any B B (outL key u k) wr HI.out (Nat.le_of_lt (IsBuilder_lt HI.out))
      obtain ⟨o, ho⟩ : ∃ o, (⟨(outL key u k).toArray⟩ : ByteArray) = o := ⟨_, rfl⟩
      have hos : o.size = m := by rw [← ho, ← hm]; exact outL_len key u k
      have hsl : ∀ wx : World, (Instr.slice 9 (.string o) none (some (.int .i64 (n : Int))) none).run Tryd.prog wx = .ok (.string (bs ((outL key u 8).take n))) wx := fun wx => by
        have := run_slice_string_h (P := Tryd.prog) (w := wx) (t := 9) (s := o) Tryd.underlying9 .i64 (n : Int) (by omega) (by omega)
        rw [this, ext_bs, List.drop_zero, show ((n : Int).toNat - 0) = n by omega, ← ho]
        show Result.ok (Value.string (bs ((outL key u k).take n))) wx = _
        rw [outL_take key u n k (by omega) hk]
      rw [ho] at hST
      have HST := Lib.hid hST
      clear hm hlt hM hA hST ho hos
      go_wp2_with (first | (go_at_call 48; (with_reducible refine (HLen.out).mono ?_); rintro e w' ⟨rfl, rfl⟩) | (go_at_call 49; (with_reducible refine (HST.out).mono ?_); rintro e w4 ⟨rfl, hb4⟩))
      go_ret2
      exact ⟨rfl, HBr.out.trans (hb4.mono hg3)⟩
end Go.Proofs.YtfdeegafdaobdaaDoor
