/- Contracts of boxTag, boxKey, split, checker. -/
import Derived.Test.YtnfefkcfifnjnaaDoorML
import Derived.Deep.RegionHeld3
namespace Go.Proofs.YtnfefkcfifnjnaaDoor
open Go.RowKit Go.ChangeShapes
theorem bs_append (a b : List UInt8) : bs (a ++ b) = bs a ++ bs b := by apply ByteArray.ext; simp [bs]
theorem joinO_cov (e h : List UInt8) : joinO [e, h, octV e.length 8 ++ octV h.length 8] = covO e h := by
  have : padO (octV e.length 8 ++ octV h.length 8) = octV e.length 8 ++ octV h.length 8 := by
    unfold padO
    rw [List.length_append, octV_length, octV_length]
    simp
  simp only [joinO, List.map_cons, List.map_nil, List.flatten_cons, List.flatten_nil, this, List.append_nil, covO, List.append_assoc]
theorem covO_length (e h : List UInt8) : (covO e h).length ≤ e.length + h.length + 46 := by
  have h1 := padO_length e
  have h2 := padO_length h
  unfold covO
  rw [List.length_append, List.length_append, List.length_append, octV_length, octV_length]
  omega
set_option maxRecDepth 100000 in
set_option maxHeartbeats 4000000 in
theorem boxTag_any (k e h : List UInt8) (w : World) (hk : k.length = 32) (he : e.length ≤ 8192) (hh : h.length ≤ 8192) :
    Calls Tryd.prog 46 #[.string (bs k), .string (bs e), .string (bs h)] w fun r w' => r = .returned (.string (bs (tagO k (covO e h)))) ∧ Below w.heap.size w w' := by
  have hc := fun (n : Nat) w hn => count_any n w hn
  have hj : ∀ (pb : Nat) w, w.heap[pb]? = some (.cells #[.string (bs e), .string (bs h), .string (bs (octV e.length 8) ++ bs (octV h.length 8))] 9 (0, 0)) → Calls Tryd.prog 76 #[.slice (some ⟨pb, 0, none⟩) 3 3] w fun r w' => r = .returned (.string (bs (covO e h))) ∧ Below w.heap.size w w' := fun pb w hb => by
    have := joined_any [e, h, octV e.length 8 ++ octV h.length 8] pb w rfl (fun p hp => by
      simp only [List.mem_cons, List.not_mem_nil, or_false] at hp
      rcases hp with rfl | rfl | rfl
      · exact he
      · exact hh
      · rw [List.length_append, octV_length, octV_length]; decide) (by
        rw [List.map_cons, List.map_cons, List.map_cons, List.map_nil, bs_append]; exact hb)
    rw [joinO_cov] at this
    exact this
  have ht : ∀ w, Calls Tryd.prog 42 #[.string (bs k), .string (bs (covO e h))] w fun r w' => r = .returned (.string (bs (tagO k (covO e h)))) ∧ Below w.heap.size w w' := fun w => tagOf_any k (covO e h) w hk (by have := covO_length e h; omega)
  have h1 : ∀ w, Calls Tryd.prog 77 #[.int .i64 ((bs e).size : Int)] w fun r w' => r = .returned (.string (bs (octV e.length 8))) ∧ Below w.heap.size w w' := fun w => count_any e.length w (by omega)
  have h2 : ∀ w, Calls Tryd.prog 77 #[.int .i64 ((bs h).size : Int)] w fun r w' => r = .returned (.string (bs (octV h.length 8))) ∧ Below w.heap.size w w' := fun w => count_any h.length w (by omega)
  obtain ⟨C1, hC1⟩ : ∃ C, bs (octV e.length 8) = C := ⟨_, rfl⟩
  obtain ⟨C2, hC2⟩ : ∃ C, bs (octV h.length 8) = C := ⟨_, rfl⟩
  have s1 : C1.size = 8 := by rw [← hC1, bs_size, octV_length]
  have s2 : C2.size = 8 := by rw [← hC2, bs_size, octV_length]
  obtain ⟨T, hT⟩ : ∃ C, bs (tagO k (covO e h)) = C := ⟨_, rfl⟩
  obtain ⟨V, hV⟩ : ∃ C, bs (covO e h) = C := ⟨_, rfl⟩
  obtain ⟨E, hE⟩ : ∃ C, bs e = C := ⟨_, rfl⟩
  obtain ⟨H, hH⟩ : ∃ C, bs h = C := ⟨_, rfl⟩
  obtain ⟨K, hK⟩ : ∃ C, bs k = C := ⟨_, rfl⟩
  rw [hC1] at h1 hj
  rw [hC2] at h2 hj
  rw [hT] at ht ⊢
  rw [hV] at ht hj
  rw [hE] at h1 hj ⊢
  rw [hH] at h2 hj ⊢
  rw [hK] at ht ⊢
  have H1 := Lib.hid h1
  have H2 := Lib.hid h2
  have HJ := Lib.hid hj
  have HT := Lib.hid ht
  clear h1 h2 hj ht hc hC1 hC2 hT hV hE hH hK hk he hh
  go_enter Tryd.func46, Tryd.ntmps46
  go_wp2_with (first
    | (go_at_call 77; (with_reducible refine (H1.out _).mono ?_); rintro r w1 ⟨rfl, hb1⟩; clear H1)
    | (go_at_call 77; (with_reducible refine (H2.out _).mono ?_); rintro r w2 ⟨rfl, hb2⟩; have hn2 := heap_alloc_new w2 (.cells #[.string E, .string H, .string (C1 ++ C2)] 9))
    | (go_at_call 76; (with_reducible refine (HJ.out _ _ hn2).mono ?_); rintro r w3 ⟨rfl, hb3⟩)
    | (go_at_call 42; (with_reducible refine (HT.out _).mono ?_); rintro r w4 ⟨rfl, hb4⟩))
  go_ret
  have B2 := hb1.trans (hb2.mono hb1.size)
  have B3 : Below w.heap.size w w3 := (B2.alloc B2.size _).trans (hb3.mono (by simp; have := B2.size; omega))
  exact ⟨rfl, B3.trans (hb4.mono B3.size)⟩
set_option maxRecDepth 100000 in
set_option maxHeartbeats 1000000 in
theorem boxKey_no (s t : ByteArray) (w : World) (hg : good s t 0 = false) :
    Calls Tryd.prog 45 #[.string s, .string t] w fun e w' => e = .returned (.tuple #[.string ⟨#[]⟩, .int .i64 2]) ∧ w = w' := by
  have H := Lib.hid fun w => block_no s t 0 w hg
  clear hg
  go_enter Tryd.func45, Tryd.ntmps45
  go_wp2_with (go_at_call 26; (with_reducible refine (H.out _).mono ?_); rintro e V ⟨rfl, rfl⟩)
  go_ret2
  exact ⟨rfl, rfl⟩
/-- The key of a box's tag. -/
def bkO (k n : List UInt8) : List UInt8 := (blockO k n 0).take 32
theorem bkO_length (k n : List UInt8) : (bkO k n).length = 32 := by rw [bkO, List.length_take, blockO_length]; rfl
set_option maxRecDepth 100000 in
set_option maxHeartbeats 1000000 in
theorem boxKey_ok (k n : List UInt8) (w : World) (hk : k.length = 32) (hn : n.length = 12) :
    Calls Tryd.prog 45 #[.string (bs k), .string (bs n)] w fun e w' => e = .returned (.tuple #[.string (bs (bkO k n)), .int .i64 0]) ∧ Below w.heap.size w w' := by
  have h1 : ∀ w, Calls Tryd.prog 26 #[.string (bs k), .string (bs n), .int .i64 0] w fun e w' => e = .returned (.tuple #[.string (bs (blockO k n 0)), .int .i64 0]) ∧ Below w.heap.size w w' := fun w => block_ok k n 0 w hk hn (by decide)
  have hz : (bs (blockO k n 0)).size = 64 := by rw [bs_size, blockO_length]
  have hx : (bs (blockO k n 0)).extract 0 32 = bs (bkO k n) := by rw [ext_bs, bs_data]; rfl
  obtain ⟨B, hB⟩ : ∃ B, bs (blockO k n 0) = B := ⟨_, rfl⟩
  obtain ⟨X, hX⟩ : ∃ B, bs (bkO k n) = B := ⟨_, rfl⟩
  rw [hB] at h1 hz hx
  rw [hX] at hx ⊢
  have H := Lib.hid h1
  clear h1 hB hX
  go_enter Tryd.func45, Tryd.ntmps45
  go_wp2_with (go_at_call 26; (with_reducible refine (H.out _).mono ?_); rintro e V ⟨rfl, hb⟩)
  go_ret2
  exact ⟨rfl, hb⟩
set_option maxRecDepth 100000 in
set_option maxHeartbeats 1000000 in
theorem split_any (s : ByteArray) (m : Nat) (w : World) (hs : s.size = m + 16) (hm : m ≤ 140737488355328) :
    Calls Tryd.prog 48 #[.string s] w fun e w' => e = .returned (.tuple #[.string (s.extract 0 m), .string (s.extract m (m + 16))]) ∧ Below w.heap.size w w' := by
  have e1 : (s.size : Int) - 16 = (m : Int) := by omega
  have e2 : (m : Int) ≤ (s.size : Int) := by omega
  have e3 : (0 : Int) ≤ (m : Int) := by omega
  have e4 : (m : Int) ≤ (m : Int) + 16 := by omega
  go_enter Tryd.func48, Tryd.ntmps48
  go_wp2
  go_region_held3 (fun _ => True)
    (first | trivial)
    (first | fail)
  all_goals go_wp2
  all_goals go_ret2
  all_goals exact ⟨rfl, (Below.refl _ _).drew⟩
set_option maxHeartbeats 1000000 in
theorem checker_any (k e : ByteArray) (w : World) :
    Calls Tryd.prog 47 #[.string k, .string e] w fun r w' => r = .returned (.func (.func 78) #[] #[.pointer (some ⟨w.heap.size, 0, none⟩), .pointer (some ⟨w.heap.size + 1, 0, none⟩)]) ∧ w' = (w.alloc (.cells #[.string k] 9)).alloc (.cells #[.string e] 9) := by
  have hmf : ∀ (fn : Fn) (first cap : Array Value) (w : World), (Instr.makeFunc fn first cap).run Tryd.prog w = .ok (.func fn first cap) w := fun _ _ _ _ => rfl
  go_enter Tryd.func47, Tryd.ntmps47
  go_wp2
  go_ret
  exact ⟨rfl, rfl⟩
theorem bs_ext_l (a b : List UInt8) : (bs (a ++ b)).extract 0 a.length = bs a := by rw [ext_bs, bs_data]; simp
theorem bs_ext_r (a b : List UInt8) (hb : b.length = 16) : (bs (a ++ b)).extract a.length (a.length + 16) = bs b := by
  rw [ext_bs, bs_data, List.drop_append_of_le_length (Nat.le_refl _), List.drop_length, List.nil_append, Nat.add_sub_cancel_left, List.take_of_length_le (by omega)]
set_option maxRecDepth 100000 in
set_option maxHeartbeats 4000000 in
theorem checker1_any (k e h t : List UInt8) (p1 p2 : Addr) (w : World) (h1 : w.cell? p1 = some (.string (bs k))) (h2 : w.cell? p2 = some (.string (bs e))) (hp1 : p1.block < w.heap.size) (hp2 : p2.block < w.heap.size)
    (hk : k.length = 32) (he : e.length ≤ 8192) (hh : h.length ≤ 8192) (ht : t.length = 16) (b : Bool) (hb : b = decide (t = tagO k (covO e h))) :
    Calls Tryd.prog 78 #[.string (bs (h ++ t)), .pointer (some p1), .pointer (some p2)] w fun r w' => r = .returned (.bool b) ∧ Below w.heap.size w w' := by
  have hs : ∀ w, Calls Tryd.prog 48 #[.string (bs (h ++ t))] w fun r w' => r = .returned (.tuple #[.string (bs h), .string (bs t)]) ∧ Below w.heap.size w w' := fun w => by
    have := split_any (bs (h ++ t)) h.length w (by rw [bs_size, List.length_append, ht]) (by omega)
    rw [bs_ext_l, bs_ext_r h t ht] at this
    exact this
  have hx : ∀ w, Calls Tryd.prog 46 #[.string (bs k), .string (bs e), .string (bs h)] w fun r w' => r = .returned (.string (bs (tagO k (covO e h)))) ∧ Below w.heap.size w w' := fun w => boxTag_any k e h w hk he hh
  obtain ⟨X, hX⟩ : ∃ X, tagO k (covO e h) = X := ⟨_, rfl⟩
  rw [hX] at hx hb
  have HS := Lib.hid hs
  have HX := Lib.hid hx
  have HB := Lib.hid hb
  have c1 : ∀ V, Below w.heap.size w V → V.cell? p1 = some (.string (bs k)) := fun V hV => (hV.cell hp1).trans h1
  have c2 : ∀ V, Below w.heap.size w V → V.cell? p2 = some (.string (bs e)) := fun V hV => (hV.cell hp2).trans h2
  have C1 := Lib.hid c1
  have C2 := Lib.hid c2
  clear hs hx hb hX hk he hh ht h1 h2 c1 c2
  go_enter Tryd.func78, Tryd.ntmps78
  go_wp2_with (first
    | (go_at_call 48; (with_reducible refine (HS.out _).mono ?_); rintro r w1 ⟨rfl, hb1⟩; have d1 := C1.out _ hb1; have d2 := C2.out _ hb1)
    | (go_at_call 46; (with_reducible refine (HX.out _).mono ?_); rintro r w2 ⟨rfl, hb2⟩))
  go_ret
  refine ⟨?_, hb1.trans (hb2.mono hb1.size)⟩
  refine ret_b ?_
  show ((bs t).toList == (bs X).toList) = b
  rw [HB.out, ByteArray.toList_eq, ByteArray.toList_eq, bs_data, bs_data]
  by_cases h : t = X
  · subst h; simp
  · simp [h]
end Go.Proofs.YtnfefkcfifnjnaaDoor
