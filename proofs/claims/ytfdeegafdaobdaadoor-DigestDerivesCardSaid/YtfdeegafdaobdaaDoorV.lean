/- Contracts of Sum and Mac. -/
import Derived.Test.YtfdeegafdaobdaaDoorU2
import Derived.Test.YtfdeegafdaobdaaDoorL
namespace Go.Proofs.YtfdeegafdaobdaaDoor
open Go.RowKit Go.ChangeShapes

theorem isLong_1 (s : ByteArray) (b : Bool) (hb : lng [s] = b) (hs : s.size ≤ 140737488351232) (g : Nat) (w : World) (hc : w.cell? ⟨g, 0, none⟩ = some (.string s)) :
    Calls Tryd.prog 36 #[.slice (some ⟨g, 0, none⟩) 1 1] w fun e w' => e = .returned (.bool b) ∧ w = w' := by
  subst hb
  exact isLong_any [s] 1 g w rfl (by decide) (fun j hj => by obtain rfl : j = 0 := by omega
                                                             exact hc) (fun j hj => by obtain rfl : j = 0 := by omega
                                                                                       exact hs)
theorem isLong_2 (s t : ByteArray) (b : Bool) (hb : lng [s, t] = b) (hs : s.size ≤ 140737488351232) (ht : t.size ≤ 140737488351232) (g : Nat) (w : World) (hc : w.cell? ⟨g, 0, none⟩ = some (.string s)) (hd : w.cell? ⟨g, 1, none⟩ = some (.string t)) :
    Calls Tryd.prog 36 #[.slice (some ⟨g, 0, none⟩) 2 2] w fun e w' => e = .returned (.bool b) ∧ w = w' := by
  subst hb
  refine isLong_any [s, t] 2 g w rfl (by decide) (fun j hj => ?_) (fun j hj => ?_)
  · rcases (by omega : j = 0 ∨ j = 1) with rfl | rfl
    · exact hc
    · exact hd
  · rcases (by omega : j = 0 ∨ j = 1) with rfl | rfl
    · exact hs
    · exact ht
theorem isLong_3 (s t u : ByteArray) (b : Bool) (hb : lng [s, t, u] = b) (hs : s.size ≤ 140737488351232) (ht : t.size ≤ 140737488351232) (hu : u.size ≤ 140737488351232) (g : Nat) (w : World) (hc : w.cell? ⟨g, 0, none⟩ = some (.string s)) (hd : w.cell? ⟨g, 1, none⟩ = some (.string t)) (he : w.cell? ⟨g, 2, none⟩ = some (.string u)) :
    Calls Tryd.prog 36 #[.slice (some ⟨g, 0, none⟩) 3 3] w fun e w' => e = .returned (.bool b) ∧ w = w' := by
  subst hb
  refine isLong_any [s, t, u] 3 g w rfl (by decide) (fun j hj => ?_) (fun j hj => ?_)
  · rcases (by omega : j = 0 ∨ j = 1 ∨ j = 2) with rfl | rfl | rfl
    · exact hc
    · exact hd
    · exact he
  · rcases (by omega : j = 0 ∨ j = 1 ∨ j = 2) with rfl | rfl | rfl
    · exact hs
    · exact ht
    · exact hu
theorem lng_no {l : List ByteArray} (h : ∀ s, s ∈ l → s.size ≤ 4096) : lng l = false := by
  unfold lng
  rw [List.any_eq_false]
  intro s hs
  have := h s hs
  simp; omega
theorem lng_cons (s : ByteArray) (l : List ByteArray) : lng (s :: l) = (decide (4096 < s.size) || lng l) := rfl
set_option maxRecDepth 100000 in
set_option maxHeartbeats 1000000 in
theorem sum_long (s : ByteArray) (w : World) (h : 4096 < s.size) (hs : s.size ≤ 140737488351232) :
    Calls Tryd.prog 15 #[.string s] w fun e w' => e = .returned (.tuple #[.string ByteArray.empty, .int .i64 3]) ∧ Below w.heap.size w w' := by
  have hL := isLong_1 s true (by simp [lng, h]) hs
  clear h
  go_enter Tryd.func15, Tryd.ntmps15
  go_wp2_with (first | (go_at_call 36; (with_reducible refine (hL _ _ (by simp)).mono ?_); rintro e w' ⟨rfl, rfl⟩))
  go_ret2
  exact ⟨rfl, by go_grown⟩
set_option maxRecDepth 100000 in
set_option maxHeartbeats 1000000 in
theorem sum_ok (s : List UInt8) (w : World) (h : s.length ≤ 4096) :
    Calls Tryd.prog 15 #[.string (bs s)] w fun e w' => e = .returned (.tuple #[.string (bs (sumB s)), .int .i64 0]) ∧ Below w.heap.size w w' := by
  have hL := isLong_1 (bs s) false (lng_no fun x hx => by obtain rfl := List.mem_singleton.1 hx; exact h) (by rw [bs_size]; omega)
  have l0 : startH.tail.length = 0 := rfl
  have c0 : startH.count = 0 := rfl
  have hm : ∀ kb, MoreTo kb IW ByteArray.empty 0 (bs s) (moreH KL startH s).w (bs (moreH KL startH s).tail) (moreH KL startH s).count := fun kb => more_to startH startH_ok kb s (by omega) (by omega)
  have he : ∀ kb, EndTo kb (moreH KL startH s).w (bs (moreH KL startH s).tail) (moreH KL startH s).count (bs (sumB s)) := fun kb => end_to _ (moreH_ok KL startH_ok s) kb (moreH_tail _ _ _) (by rw [moreH_count]; omega)
  have hb := begin_any
  unfold Begun at hb
  unfold MoreTo at hm
  unfold EndTo at he
  obtain ⟨p, hp⟩ : ∃ p, IW = p := ⟨_, rfl⟩
  obtain ⟨q, hq⟩ : ∃ p, (moreH KL startH s).w = p := ⟨_, rfl⟩
  obtain ⟨t, ht⟩ : ∃ p, bs (moreH KL startH s).tail = p := ⟨_, rfl⟩
  obtain ⟨n, hn⟩ : ∃ p, ((moreH KL startH s).count : Int) = p := ⟨_, rfl⟩
  rw [hp] at hm hb
  rw [hq, ht, hn] at hm he
  have HM := Lib.hid hm
  have HE := Lib.hid he
  have HB := Lib.hid hb
  clear hm he hb hp hq ht hn l0 c0 h
  go_enter Tryd.func15, Tryd.ntmps15
  go_wp2_with (first | (go_at_call 36; (with_reducible refine (hL _ _ (by simp)).mono ?_); rintro e w' ⟨rfl, rfl⟩) | (go_at_call 37; (with_reducible refine (HB.out _).mono ?_); rintro e w1 ⟨kb, rfl, hA, hkb, hb1⟩) | (go_at_call 38; (with_reducible refine (HM.out _ _ hA).mono ?_); rintro e w2 ⟨rfl, hb2⟩; have hA2 := Arr.below hA hb2 (Arr.lt hA)) | (go_at_call 39; (with_reducible refine (HE.out _ _ hA2).mono ?_); rintro e w3 ⟨rfl, hb3⟩))
  go_ret2
  have hB1 : Below w.heap.size w w1 := Below.trans (by go_grown) (hb1.mono (by simp))
  exact ⟨rfl, (hB1.trans (hb2.mono hB1.size)).trans (hb3.mono (Nat.le_trans hB1.size hb2.size))⟩
set_option maxRecDepth 100000 in
set_option maxHeartbeats 1000000 in
theorem mac_long (k s : ByteArray) (w : World) (h : lng [k, s] = true) (hk : k.size ≤ 140737488351232) (hs : s.size ≤ 140737488351232) :
    Calls Tryd.prog 18 #[.string k, .string s] w fun e w' => e = .returned (.tuple #[.string ByteArray.empty, .int .i64 3]) ∧ Below w.heap.size w w' := by
  have hL := isLong_2 k s true h hk hs
  clear h
  go_enter Tryd.func18, Tryd.ntmps18
  go_wp2_with (first | (go_at_call 36; (with_reducible refine (hL _ _ (by simp) (by simp)).mono ?_); rintro e w' ⟨rfl, rfl⟩))
  go_ret2
  exact ⟨rfl, by go_grown⟩
set_option maxRecDepth 100000 in
set_option maxHeartbeats 1000000 in
theorem mac_ok (k s : List UInt8) (w : World) (hk : k.length ≤ 4096) (hs : s.length ≤ 4096) :
    Calls Tryd.prog 18 #[.string (bs k), .string (bs s)] w fun e w' => e = .returned (.tuple #[.string (bs (macB k s)), .int .i64 0]) ∧ Below w.heap.size w w' := by
  have hL := isLong_2 (bs k) (bs s) false (lng_no fun x hx => by rcases List.mem_cons.1 hx with rfl | hx; exact hk; obtain rfl := List.mem_singleton.1 hx; exact hs) (by rw [bs_size]; omega) (by rw [bs_size]; omega)
  have hc := fun kb w ha => code_any kb k s w ha (by omega) (by omega)
  have hb := begin_any
  unfold Begun at hb
  obtain ⟨p, hp⟩ : ∃ p, IW = p := ⟨_, rfl⟩
  rw [hp] at hc hb
  have HC := Lib.hid hc
  have HB := Lib.hid hb
  clear hc hb hp hk hs
  go_enter Tryd.func18, Tryd.ntmps18
  go_wp2_with (first | (go_at_call 36; (with_reducible refine (hL _ _ (by simp) (by simp)).mono ?_); rintro e w' ⟨rfl, rfl⟩) | (go_at_call 37; (with_reducible refine (HB.out _).mono ?_); rintro e w1 ⟨kb, rfl, hA, hkb, hb1⟩) | (go_at_call 43; (with_reducible refine (HC.out _ _ hA).mono ?_); rintro e w2 ⟨rfl, hb2⟩))
  go_ret2
  have hB1 : Below w.heap.size w w1 := Below.trans (by go_grown) (hb1.mono (by simp))
  exact ⟨rfl, hB1.trans (hb2.mono hB1.size)⟩
end Go.Proofs.YtfdeegafdaobdaaDoor
