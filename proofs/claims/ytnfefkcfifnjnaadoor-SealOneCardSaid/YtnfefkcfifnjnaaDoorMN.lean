/- Contracts of Seal and Open. -/
import Derived.Test.YtnfefkcfifnjnaaDoorMM
namespace Go.Proofs.YtnfefkcfifnjnaaDoor
open Go.RowKit Go.ChangeShapes
/-- The box. -/
def sealO (k n e p : List UInt8) : List UInt8 := appO k n 1 p ++ tagO (bkO k n) (covO e (appO k n 1 p))
theorem sealO_length (k n e p : List UInt8) : (sealO k n e p).length = p.length + 16 := by rw [sealO, List.length_append, appO_length, tagO_length]
set_option maxRecDepth 100000 in
set_option maxHeartbeats 1000000 in
theorem seal_arg (k n e p : ByteArray) (w : World) (hg : good k n 0 = false) :
    Calls Tryd.prog 20 #[.string k, .string n, .string e, .string p] w fun r w' => r = .returned (.tuple #[.string ⟨#[]⟩, .int .i64 2]) ∧ w = w' := by
  have H := Lib.hid fun w => boxKey_no k n w hg
  clear hg
  go_enter Tryd.func20, Tryd.ntmps20
  go_wp2_with (go_at_call 45; (with_reducible refine (H.out _).mono ?_); rintro e V ⟨rfl, rfl⟩)
  go_ret2
  exact ⟨rfl, rfl⟩
set_option maxRecDepth 100000 in
set_option maxHeartbeats 1000000 in
theorem seal_long (k n : List UInt8) (e p : ByteArray) (w : World) (hk : k.length = 32) (hn : n.length = 12) (hl : 4096 < e.size ∨ 4096 < p.size) :
    Calls Tryd.prog 20 #[.string (bs k), .string (bs n), .string e, .string p] w fun r w' => r = .returned (.tuple #[.string ⟨#[]⟩, .int .i64 3]) ∧ Below w.heap.size w w' := by
  have H := Lib.hid fun w => boxKey_ok k n w hk hn
  by_cases h1 : 4096 < e.size
  · clear hl
    go_enter Tryd.func20, Tryd.ntmps20
    go_wp2_with (go_at_call 45; (with_reducible refine (H.out _).mono ?_); rintro e V ⟨rfl, hb⟩)
    go_ret2
    exact ⟨rfl, hb⟩
  · have h2 : 4096 < p.size := by omega
    clear hl
    go_enter Tryd.func20, Tryd.ntmps20
    go_wp2_with (go_at_call 45; (with_reducible refine (H.out _).mono ?_); rintro e V ⟨rfl, hb⟩)
    go_ret2
    exact ⟨rfl, hb⟩
set_option maxRecDepth 100000 in
set_option maxHeartbeats 2000000 in
theorem seal_ok (k n e p : List UInt8) (w : World) (hk : k.length = 32) (hn : n.length = 12) (he : e.length ≤ 4096) (hp : p.length ≤ 4096) :
    Calls Tryd.prog 20 #[.string (bs k), .string (bs n), .string (bs e), .string (bs p)] w fun r w' => r = .returned (.tuple #[.string (bs (sealO k n e p)), .int .i64 0]) ∧ Below w.heap.size w w' := by
  have h1 : ∀ w, Calls Tryd.prog 23 #[.string (bs k), .string (bs n), .int .i64 1, .string (bs p)] w fun r w' => r = .returned (.tuple #[.string (bs (appO k n 1 p)), .int .i64 0]) ∧ Below w.heap.size w w' := fun w => apply_ok k n 1 p w hk hn (by decide) hp (by omega)
  have h2 : ∀ w, Calls Tryd.prog 46 #[.string (bs (bkO k n)), .string (bs e), .string (bs (appO k n 1 p))] w fun r w' => r = .returned (.string (bs (tagO (bkO k n) (covO e (appO k n 1 p))))) ∧ Below w.heap.size w w' := fun w => boxTag_any _ e _ w (bkO_length k n) (by omega) (by rw [appO_length]; omega)
  have e1 : bs (sealO k n e p) = bs (appO k n 1 p) ++ bs (tagO (bkO k n) (covO e (appO k n 1 p))) := bs_append _ _
  have z1 : (bs (appO k n 1 p)).size ≤ 4096 := by rw [bs_size, appO_length]; exact hp
  have z2 : (bs (tagO (bkO k n) (covO e (appO k n 1 p)))).size = 16 := by rw [bs_size, tagO_length]
  have z3 : (bs e).size ≤ 4096 := he
  have z4 : (bs p).size ≤ 4096 := hp
  have H := Lib.hid fun w => boxKey_ok k n w hk hn
  rw [e1]
  obtain ⟨A, hA⟩ : ∃ A, bs (appO k n 1 p) = A := ⟨_, rfl⟩
  obtain ⟨T, hT⟩ : ∃ A, bs (tagO (bkO k n) (covO e (appO k n 1 p))) = A := ⟨_, rfl⟩
  rw [hA] at h1 h2 z1 ⊢
  rw [hT] at h2 z2 ⊢
  have H1 := Lib.hid h1
  have H2 := Lib.hid h2
  clear h1 h2 hA hT e1 hk hn he hp
  go_enter Tryd.func20, Tryd.ntmps20
  go_wp2_with (first
    | (go_at_call 45; (with_reducible refine (H.out _).mono ?_); rintro r w1 ⟨rfl, hb1⟩)
    | (go_at_call 23; (with_reducible refine (H1.out _).mono ?_); rintro r w2 ⟨rfl, hb2⟩)
    | (go_at_call 46; (with_reducible refine (H2.out _).mono ?_); rintro r w3 ⟨rfl, hb3⟩))
  go_ret2
  have B2 := hb1.trans (hb2.mono hb1.size)
  exact ⟨rfl, B2.trans (hb3.mono B2.size)⟩
set_option maxRecDepth 100000 in
set_option maxHeartbeats 1000000 in
theorem open_arg (k n e p : ByteArray) (w : World) (hg : good k n 0 = false) :
    Calls Tryd.prog 22 #[.string k, .string n, .string e, .string p] w fun r w' => r = .returned (.tuple #[.string ⟨#[]⟩, .int .i64 2]) ∧ w = w' := by
  have H := Lib.hid fun w => boxKey_no k n w hg
  clear hg
  go_enter Tryd.func22, Tryd.ntmps22
  go_wp2_with (go_at_call 45; (with_reducible refine (H.out _).mono ?_); rintro e V ⟨rfl, rfl⟩)
  go_ret2
  exact ⟨rfl, rfl⟩
set_option maxRecDepth 100000 in
set_option maxHeartbeats 1000000 in
theorem open_long (k n : List UInt8) (e p : ByteArray) (w : World) (hk : k.length = 32) (hn : n.length = 12) (hl : 4096 < e.size ∨ 4112 < p.size) :
    Calls Tryd.prog 22 #[.string (bs k), .string (bs n), .string e, .string p] w fun r w' => r = .returned (.tuple #[.string ⟨#[]⟩, .int .i64 3]) ∧ Below w.heap.size w w' := by
  have H := Lib.hid fun w => boxKey_ok k n w hk hn
  by_cases h1 : 4096 < e.size
  · clear hl
    go_enter Tryd.func22, Tryd.ntmps22
    go_wp2_with (go_at_call 45; (with_reducible refine (H.out _).mono ?_); rintro e V ⟨rfl, hb⟩)
    go_ret2
    exact ⟨rfl, hb⟩
  · have h2 : 4112 < p.size := by omega
    clear hl
    go_enter Tryd.func22, Tryd.ntmps22
    go_wp2_with (go_at_call 45; (with_reducible refine (H.out _).mono ?_); rintro e V ⟨rfl, hb⟩)
    go_ret2
    exact ⟨rfl, hb⟩
set_option maxRecDepth 100000 in
set_option maxHeartbeats 1000000 in
theorem open_short (k n : List UInt8) (e p : ByteArray) (w : World) (hk : k.length = 32) (hn : n.length = 12) (he : e.size ≤ 4096) (hp : p.size < 16) :
    Calls Tryd.prog 22 #[.string (bs k), .string (bs n), .string e, .string p] w fun r w' => r = .returned (.tuple #[.string ⟨#[]⟩, .int .i64 7]) ∧ Below w.heap.size w w' := by
  have H := Lib.hid fun w => boxKey_ok k n w hk hn
  go_enter Tryd.func22, Tryd.ntmps22
  go_wp2_with (go_at_call 45; (with_reducible refine (H.out _).mono ?_); rintro e V ⟨rfl, hb⟩)
  go_ret2
  exact ⟨rfl, hb⟩
set_option maxRecDepth 100000 in
set_option maxHeartbeats 4000000 in
theorem open_raw (k n e h t : List UInt8) (w : World) (hk : k.length = 32) (hn : n.length = 12) (he : e.length ≤ 4096) (hh : h.length ≤ 4096) (ht : t.length = 16) (b : Bool) (hb : b = decide (t = tagO (bkO k n) (covO e h))) :
    Calls Tryd.prog 22 #[.string (bs k), .string (bs n), .string (bs e), .string (bs (h ++ t))] w fun r w' => r = .returned (bif b then .tuple #[.string (bs (appO k n 1 h)), .int .i64 0] else .tuple #[.string ⟨#[]⟩, .int .i64 9]) ∧ Below w.heap.size w w' := by
  have h1 : ∀ w, Calls Tryd.prog 23 #[.string (bs k), .string (bs n), .int .i64 1, .string (bs h)] w fun r w' => r = .returned (.tuple #[.string (bs (appO k n 1 h)), .int .i64 0]) ∧ Below w.heap.size w w' := fun w => apply_ok k n 1 h w hk hn (by decide) hh (by omega)
  have hs : ∀ w, Calls Tryd.prog 48 #[.string (bs (h ++ t))] w fun r w' => r = .returned (.tuple #[.string (bs h), .string (bs t)]) ∧ Below w.heap.size w w' := fun w => by
    have := split_any (bs (h ++ t)) h.length w (by rw [bs_size, List.length_append, ht]) (by omega)
    rw [bs_ext_l, bs_ext_r h t ht] at this
    exact this
  have h2 : ∀ V : World, Calls Tryd.prog 78 #[.string (bs (h ++ t)), .pointer (some ⟨V.heap.size, 0, none⟩), .pointer (some ⟨V.heap.size + 1, 0, none⟩)] ((V.alloc (.cells #[.string (bs (bkO k n))] 9)).alloc (.cells #[.string (bs e)] 9)) fun r w' => r = .returned (.bool b) ∧ Below ((V.alloc (.cells #[.string (bs (bkO k n))] 9)).alloc (.cells #[.string (bs e)] 9)).heap.size ((V.alloc (.cells #[.string (bs (bkO k n))] 9)).alloc (.cells #[.string (bs e)] 9)) w' := fun V => by
    refine checker1_any (bkO k n) e h t ⟨V.heap.size, 0, none⟩ ⟨V.heap.size + 1, 0, none⟩ _ ?_ ?_ (by simp; omega) (by simp) (bkO_length k n) (by omega) (by omega) ht b hb
    · exact cell_of_row _ _ 0 _ 9 (0, 0) ((Below.heap_alloc _ _ _ (by simp)).trans (heap_alloc_new V _))
    · have := heap_alloc_new (V.alloc (.cells #[.string (bs (bkO k n))] 9)) (.cells #[.string (bs e)] 9)
      rw [World.size_alloc] at this
      exact cell_of_row _ _ 0 _ 9 (0, 0) this
  have z1 : (bs (h ++ t)).size ≤ 4112 := by rw [bs_size, List.length_append]; omega
  have z2 : 16 ≤ (bs (h ++ t)).size := by rw [bs_size, List.length_append]; omega
  have z3 : (bs e).size ≤ 4096 := he
  have H := Lib.hid fun w => boxKey_ok k n w hk hn
  obtain ⟨A, hA⟩ : ∃ A, bs (appO k n 1 h) = A := ⟨_, rfl⟩
  obtain ⟨X, hX⟩ : ∃ A, bs (h ++ t) = A := ⟨_, rfl⟩
  rw [hA] at h1 ⊢
  rw [hX] at h2 hs z1 z2 ⊢
  have H1 := Lib.hid h1
  have H2 := Lib.hid h2
  have HS := Lib.hid hs
  clear h1 h2 hs hA hX hk hn he hh ht hb
  cases b
  · go_enter Tryd.func22, Tryd.ntmps22
    go_wp2_with (first
      | (go_at_call 45; (with_reducible refine (H.out _).mono ?_); rintro r w1 ⟨rfl, hb1⟩)
      | (go_at_call 47; (with_reducible refine (checker_any _ _ _).mono ?_); rintro r w2 ⟨rfl, rfl⟩)
      | (go_at_call 78; (with_reducible refine (H2.out _).mono ?_); rintro r w3 ⟨rfl, hb3⟩))
    go_ret2
    have B2 := (hb1.alloc hb1.size (.cells #[.string (bs (bkO k n))] 9)).alloc (by rw [World.size_alloc]; have := hb1.size; omega) (.cells #[.string (bs e)] 9)
    exact ⟨rfl, B2.trans (hb3.mono B2.size)⟩
  · go_enter Tryd.func22, Tryd.ntmps22
    go_wp2_with (first
      | (go_at_call 45; (with_reducible refine (H.out _).mono ?_); rintro r w1 ⟨rfl, hb1⟩)
      | (go_at_call 47; (with_reducible refine (checker_any _ _ _).mono ?_); rintro r w2 ⟨rfl, rfl⟩)
      | (go_at_call 78; (with_reducible refine (H2.out _).mono ?_); rintro r w3 ⟨rfl, hb3⟩)
      | (go_at_call 48; (with_reducible refine (HS.out _).mono ?_); rintro r w4 ⟨rfl, hb4⟩)
      | (go_at_call 23; (with_reducible refine (H1.out _).mono ?_); rintro r w5 ⟨rfl, hb5⟩))
    go_ret2
    have B2 := (hb1.alloc hb1.size (.cells #[.string (bs (bkO k n))] 9)).alloc (by rw [World.size_alloc]; have := hb1.size; omega) (.cells #[.string (bs e)] 9)
    have B3 := B2.trans (hb3.mono B2.size)
    have B4 := B3.trans (hb4.mono B3.size)
    exact ⟨rfl, B4.trans (hb5.mono B4.size)⟩
end Go.Proofs.YtnfefkcfifnjnaaDoor
