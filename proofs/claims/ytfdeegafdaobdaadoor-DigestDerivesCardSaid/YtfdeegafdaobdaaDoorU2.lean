/- Contract of code: the code of octets with a longer key. -/
import Derived.Test.YtfdeegafdaobdaaDoorU
namespace Go.Proofs.YtfdeegafdaobdaaDoor
open Go.RowKit Go.ChangeShapes

set_option maxRecDepth 100000 in
set_option maxHeartbeats 4000000 in
theorem code_long (p p0 p1 p2 p3 p4 : W8) (t t0 t1 t2 t3 t4 : ByteArray) (n n0 n1 n2 n3 n4 : Int) (kb : Nat) (key key2 s x1 x2 i o : ByteArray) (w : World) (hK : Arr w kb 103 KL) (hk : 64 < key.size) (hk2 : key.size ≤ 140737488351232)
    (m0 : MoreTo kb p t n key p0 t0 n0) (e0 : EndTo kb p0 t0 n0 key2)
    (h1 : PadTo key2 54 x1) (h2 : PadTo key2 92 x2) (m1 : MoreTo kb p t n x1 p1 t1 n1) (m2 : MoreTo kb p1 t1 n1 s p2 t2 n2) (e1 : EndTo kb p2 t2 n2 i)
    (m3 : MoreTo kb p t n x2 p3 t3 n3) (m4 : MoreTo kb p3 t3 n3 i p4 t4 n4) (e2 : EndTo kb p4 t4 n4 o) :
    Calls Tryd.prog 43 #[mkV p t n kb, .string key, .string s] w fun e w' => e = .returned (.string o) ∧ Below w.heap.size w w' := by
  unfold PadTo at h1 h2
  unfold MoreTo at m0 m1 m2 m3 m4
  unfold EndTo at e0 e1 e2
  have HK := Lib.hid hK
  have H1 := Lib.hid h1
  have H9 := Lib.hid m0
  have H10 := Lib.hid e0
  have H2 := Lib.hid h2
  have H3 := Lib.hid m1
  have H4 := Lib.hid m2
  have H5 := Lib.hid e1
  have H6 := Lib.hid m3
  have H7 := Lib.hid m4
  have H8 := Lib.hid e2
  clear hK h1 h2 m0 e0 m1 m2 e1 m3 m4 e2
  go_enter Tryd.func43, Tryd.ntmps43
  go_wp2_with fail
  have M0 : Mk (w.alloc (Obj.cells #[wd p.a, wd p.b, wd p.c, wd p.d, wd p.e, wd p.f, wd p.g, wd p.h, Value.string t, Value.int IntKind.i64 n, Value.pointer (some ⟨kb, 0, none⟩)] 76)) w.heap.size p t n kb := heap_alloc_new w _
  have K0 := HK.out.alloc (Obj.cells #[wd p.a, wd p.b, wd p.c, wd p.d, wd p.e, wd p.f, wd p.g, wd p.h, Value.string t, Value.int IntKind.i64 n, Value.pointer (some ⟨kb, 0, none⟩)] 76)
  have B0 : Below w.heap.size w (w.alloc (Obj.cells #[wd p.a, wd p.b, wd p.c, wd p.d, wd p.e, wd p.f, wd p.g, wd p.h, Value.string t, Value.int IntKind.i64 n, Value.pointer (some ⟨kb, 0, none⟩)] 76)) := by go_grown
  generalize (w.alloc (Obj.cells #[wd p.a, wd p.b, wd p.c, wd p.d, wd p.e, wd p.f, wd p.g, wd p.h, Value.string t, Value.int IntKind.i64 n, Value.pointer (some ⟨kb, 0, none⟩)] 76)) = W at M0 K0 B0 ⊢
  have z := M0.lt
  have MH := Lib.hid M0
  have KH := Lib.hid K0
  have BH := Lib.hid B0
  clear M0 K0 B0
  refine (H9.out _ KH.out).mono ?_
  rintro e v1 ⟨rfl, hb0⟩
  have N1 := Mk.below MH.out hb0 z
  have L1 := Arr.below KH.out hb0 (Arr.lt KH.out)
  have y1 := Mk.lt N1
  have C1 := Below.trans BH.out (hb0.mono (Below.size BH.out))
  clear hb0
  go_wp2_with fail
  refine (H10.out _ L1).mono ?_
  rintro e w9 ⟨rfl, hb0⟩
  have M9 := Mk.below N1 hb0 y1
  have K9 := Arr.below L1 hb0 (Arr.lt L1)
  have z9 := Mk.lt M9
  have B9 := Below.trans C1 (hb0.mono (Below.size C1))
  clear hb0 N1 L1 y1 C1 MH KH BH z
  go_wp2
  go_region_held3 (fun w' => ((w'.cell? ⟨w.heap.size, 0, none⟩ = some (wd p.a) ∧ w'.cell? ⟨w.heap.size, 1, none⟩ = some (wd p.b) ∧ w'.cell? ⟨w.heap.size, 2, none⟩ = some (wd p.c) ∧ w'.cell? ⟨w.heap.size, 3, none⟩ = some (wd p.d)) ∧ (w'.cell? ⟨w.heap.size, 4, none⟩ = some (wd p.e) ∧ w'.cell? ⟨w.heap.size, 5, none⟩ = some (wd p.f) ∧ w'.cell? ⟨w.heap.size, 6, none⟩ = some (wd p.g) ∧ w'.cell? ⟨w.heap.size, 7, none⟩ = some (wd p.h))) ∧ (w'.cell? ⟨w.heap.size, 8, none⟩ = some (.string t) ∧ w'.cell? ⟨w.heap.size, 9, none⟩ = some (.int .i64 n) ∧ w'.cell? ⟨w.heap.size, 10, none⟩ = some (.pointer (some ⟨kb, 0, none⟩))))
    (first | (with_reducible exact M4.cells) | (with_reducible exact M3.cells) | (with_reducible exact M2.cells) | (with_reducible exact M1.cells) | exact Mk.cells M9)
    (first | (go_at_call 66; (with_reducible refine (H1.out _).mono ?_); rintro e w1 ⟨rfl, hb0⟩; have hb1 : Below w9.heap.size w9 w1 := (by first | exact hb0 | exact (Below.refl _ w9).drew.trans hb0); clear hb0; have M1 := Mk.below M9 hb1 z9; have K1 := Arr.below K9 hb1 (Arr.lt K9); have z1 := Mk.lt M1; have B1 := Below.trans B9 (hb1.mono (Below.size B9))) | (go_at_call 38; (with_reducible refine (H3.out _ K1).mono ?_); rintro e w2 ⟨rfl, hb0⟩; have hb2 : Below w1.heap.size w1 w2 := (by first | exact hb0 | exact (Below.refl _ w1).drew.trans hb0); clear hb0; have M2 := Mk.below M1 hb2 z1; have K2 := Arr.below K1 hb2 (Arr.lt K1); have z2 := Mk.lt M2; have B2 := Below.trans B1 (hb2.mono (Below.size B1))) | (go_at_call 38; (with_reducible refine (H4.out _ K2).mono ?_); rintro e w3 ⟨rfl, hb0⟩; have hb3 : Below w2.heap.size w2 w3 := (by first | exact hb0 | exact (Below.refl _ w2).drew.trans hb0); clear hb0; have M3 := Mk.below M2 hb3 z2; have K3 := Arr.below K2 hb3 (Arr.lt K2); have z3 := Mk.lt M3; have B3 := Below.trans B2 (hb3.mono (Below.size B2))) | (go_at_call 39; (with_reducible refine (H5.out _ K3).mono ?_); rintro e w4 ⟨rfl, hb0⟩; have hb4 : Below w3.heap.size w3 w4 := (by first | exact hb0 | exact (Below.refl _ w3).drew.trans hb0); clear hb0; have M4 := Mk.below M3 hb4 z3; have K4 := Arr.below K3 hb4 (Arr.lt K3); have z4 := Mk.lt M4; have B4 := Below.trans B3 (hb4.mono (Below.size B3))))
  all_goals go_wp2
  all_goals (clear M1 M2 M3 K1 K2 K3 z1 z2 z3 B1 B2 B3 M9 K9 z9 B9)
  go_region_held3 (fun w' => ((w'.cell? ⟨w.heap.size, 0, none⟩ = some (wd p.a) ∧ w'.cell? ⟨w.heap.size, 1, none⟩ = some (wd p.b) ∧ w'.cell? ⟨w.heap.size, 2, none⟩ = some (wd p.c) ∧ w'.cell? ⟨w.heap.size, 3, none⟩ = some (wd p.d)) ∧ (w'.cell? ⟨w.heap.size, 4, none⟩ = some (wd p.e) ∧ w'.cell? ⟨w.heap.size, 5, none⟩ = some (wd p.f) ∧ w'.cell? ⟨w.heap.size, 6, none⟩ = some (wd p.g) ∧ w'.cell? ⟨w.heap.size, 7, none⟩ = some (wd p.h))) ∧ (w'.cell? ⟨w.heap.size, 8, none⟩ = some (.string t) ∧ w'.cell? ⟨w.heap.size, 9, none⟩ = some (.int .i64 n) ∧ w'.cell? ⟨w.heap.size, 10, none⟩ = some (.pointer (some ⟨kb, 0, none⟩))))
    (first | (with_reducible exact M8.cells) | (with_reducible exact M7.cells) | (with_reducible exact M6.cells) | (with_reducible exact M5.cells) | exact Mk.cells M4)
    (first | (go_at_call 66; (with_reducible refine (H2.out _).mono ?_); rintro e w5 ⟨rfl, hb0⟩; have hb5 : Below w4.heap.size w4 w5 := (by first | exact hb0 | exact (Below.refl _ w4).drew.trans hb0); clear hb0; have M5 := Mk.below M4 hb5 z4; have K5 := Arr.below K4 hb5 (Arr.lt K4); have z5 := Mk.lt M5; have B5 := Below.trans B4 (hb5.mono (Below.size B4))) | (go_at_call 38; (with_reducible refine (H6.out _ K5).mono ?_); rintro e w6 ⟨rfl, hb0⟩; have hb6 : Below w5.heap.size w5 w6 := (by first | exact hb0 | exact (Below.refl _ w5).drew.trans hb0); clear hb0; have M6 := Mk.below M5 hb6 z5; have K6 := Arr.below K5 hb6 (Arr.lt K5); have z6 := Mk.lt M6; have B6 := Below.trans B5 (hb6.mono (Below.size B5))) | (go_at_call 38; (with_reducible refine (H7.out _ K6).mono ?_); rintro e w7 ⟨rfl, hb0⟩; have hb7 : Below w6.heap.size w6 w7 := (by first | exact hb0 | exact (Below.refl _ w6).drew.trans hb0); clear hb0; have M7 := Mk.below M6 hb7 z6; have K7 := Arr.below K6 hb7 (Arr.lt K6); have z7 := Mk.lt M7; have B7 := Below.trans B6 (hb7.mono (Below.size B6))) | (go_at_call 39; (with_reducible refine (H8.out _ K7).mono ?_); rintro e w8 ⟨rfl, hb0⟩; have hb8 : Below w7.heap.size w7 w8 := (by first | exact hb0 | exact (Below.refl _ w7).drew.trans hb0); clear hb0; have M8 := Mk.below M7 hb8 z7; have K8 := Arr.below K7 hb8 (Arr.lt K7); have z8 := Mk.lt M8; have B8 := Below.trans B7 (hb8.mono (Below.size B7))))
  all_goals go_wp2
  all_goals go_ret
  all_goals exact ⟨rfl, B8⟩
theorem moreH_tail (K : List Nat) (h : HH) (s : List UInt8) : (moreH K h s).tail.length < 64 := by
  show ((h.tail ++ s).drop _).length < 64
  rw [List.length_drop]; omega
theorem pad_to (key : List UInt8) (c : UInt8) (hk : key.length ≤ 64) : PadTo (bs key) (c.toNat : Int) (bs (padK key c)) := fun w' => changed_any (bs key) c w' hk
theorem more_to (h : HH) (hs : h.w.ok) (kb : Nat) (x : List UInt8) (hsz : h.tail.length + x.length ≤ 140737488351232) (hn : h.count ≤ 1099511627776) :
    MoreTo kb h.w (bs h.tail) h.count (bs x) (moreH KL h x).w (bs (moreH KL h x).tail) (moreH KL h x).count := fun w' ha => more_any h hs kb (bs x) w' ha hsz hn
theorem end_to (h : HH) (hs : h.w.ok) (kb : Nat) (htl : h.tail.length < 64) (hn : h.count ≤ 1099511627776) : EndTo kb h.w (bs h.tail) h.count (bs (endH KL h)) := fun w' ha => end_any h hs kb w' ha htl hn
theorem padK_length (k : List UInt8) (c : UInt8) (hk : k.length ≤ 64) : (padK k c).length = 64 := by simp [padK]; omega
theorem moreH_ok (K : List Nat) {h : HH} (hs : h.w.ok) (s : List UInt8) : (moreH K h s).w.ok := mixB_ok K hs _ _
theorem moreH_count (K : List Nat) (h : HH) (s : List UInt8) : (moreH K h s).count = h.count + s.length := rfl
theorem startH_ok : startH.w.ok := IW_ok
/-- The code with a key of at most 64 octets. -/
def macS (k s : List UInt8) : List UInt8 := endH KL (moreH KL (moreH KL startH (padK k 92)) (endH KL (moreH KL (moreH KL startH (padK k 54)) s)))
theorem macB_short (k s : List UInt8) (h : k.length ≤ 64) : macB k s = macS k s := by
  unfold macB macS; rw [if_neg (by omega)]
theorem macB_long (k s : List UInt8) (h : 64 < k.length) : macB k s = macS (sumB k) s := by
  unfold macB macS; rw [if_pos h]
theorem code_any (kb : Nat) (key s : List UInt8) (w : World) (hK : Arr w kb 103 KL) (hk : key.length ≤ 1099511627000) (hs : s.length ≤ 1099511627000) :
    Calls Tryd.prog 43 #[mkV IW ByteArray.empty 0 kb, .string (bs key), .string (bs s)] w fun e w' => e = .returned (.string (bs (macB key s))) ∧ Below w.heap.size w w' := by
  have main : ∀ k : List UInt8, k.length ≤ 64 → (PadTo (bs k) 54 (bs (padK k 54)) ∧ PadTo (bs k) 92 (bs (padK k 92))) ∧
      MoreTo kb IW ByteArray.empty 0 (bs (padK k 54)) (moreH KL startH (padK k 54)).w (bs (moreH KL startH (padK k 54)).tail) (moreH KL startH (padK k 54)).count ∧
      MoreTo kb (moreH KL startH (padK k 54)).w (bs (moreH KL startH (padK k 54)).tail) (moreH KL startH (padK k 54)).count (bs s) (moreH KL (moreH KL startH (padK k 54)) s).w (bs (moreH KL (moreH KL startH (padK k 54)) s).tail) (moreH KL (moreH KL startH (padK k 54)) s).count ∧
      EndTo kb (moreH KL (moreH KL startH (padK k 54)) s).w (bs (moreH KL (moreH KL startH (padK k 54)) s).tail) (moreH KL (moreH KL startH (padK k 54)) s).count (bs (endH KL (moreH KL (moreH KL startH (padK k 54)) s))) ∧
      MoreTo kb IW ByteArray.empty 0 (bs (padK k 92)) (moreH KL startH (padK k 92)).w (bs (moreH KL startH (padK k 92)).tail) (moreH KL startH (padK k 92)).count ∧
      MoreTo kb (moreH KL startH (padK k 92)).w (bs (moreH KL startH (padK k 92)).tail) (moreH KL startH (padK k 92)).count (bs (endH KL (moreH KL (moreH KL startH (padK k 54)) s))) (moreH KL (moreH KL startH (padK k 92)) (endH KL (moreH KL (moreH KL startH (padK k 54)) s))).w (bs (moreH KL (moreH KL startH (padK k 92)) (endH KL (moreH KL (moreH KL startH (padK k 54)) s))).tail) (moreH KL (moreH KL startH (padK k 92)) (endH KL (moreH KL (moreH KL startH (padK k 54)) s))).count ∧
      EndTo kb (moreH KL (moreH KL startH (padK k 92)) (endH KL (moreH KL (moreH KL startH (padK k 54)) s))).w (bs (moreH KL (moreH KL startH (padK k 92)) (endH KL (moreH KL (moreH KL startH (padK k 54)) s))).tail) (moreH KL (moreH KL startH (padK k 92)) (endH KL (moreH KL (moreH KL startH (padK k 54)) s))).count (bs (macS k s)) := by
    intro k hk
    have a1 := padK_length k 54 hk
    have a2 := padK_length k 92 hk
    have a3 := endH_length KL (moreH KL (moreH KL startH (padK k 54)) s)
    have t1 := moreH_tail KL startH (padK k 54)
    have t2 := moreH_tail KL startH (padK k 92)
    have o1 := moreH_ok KL startH_ok (padK k 54)
    have o2 := moreH_ok KL startH_ok (padK k 92)
    have c0 : startH.count = 0 := rfl
    have l0 : startH.tail.length = 0 := rfl
    refine ⟨⟨pad_to k 54 hk, pad_to k 92 hk⟩, more_to startH startH_ok kb _ (by omega) (by omega), more_to _ o1 kb s (by omega) (by rw [moreH_count]; omega), end_to _ (moreH_ok KL o1 s) kb (moreH_tail _ _ _) (by rw [moreH_count, moreH_count]; omega), more_to startH startH_ok kb _ (by omega) (by omega), more_to _ o2 kb _ (by omega) (by rw [moreH_count]; omega), end_to _ (moreH_ok KL o2 _) kb (moreH_tail _ _ _) (by rw [moreH_count, moreH_count]; omega)⟩
  by_cases h : key.length ≤ 64
  · rw [macB_short key s h]
    obtain ⟨⟨h1, h2⟩, m1, m2, e1, m3, m4, e2⟩ := main key h
    exact code_short _ _ _ _ _ _ _ _ _ _ _ _ _ _ _ kb _ _ _ _ _ _ w hK h h1 h2 m1 m2 e1 m3 m4 e2
  · have h' : 64 < key.length := by omega
    rw [macB_long key s h']
    obtain ⟨⟨h1, h2⟩, m1, m2, e1, m3, m4, e2⟩ := main (sumB key) (by rw [sumB_length]; decide)
    have l0 : startH.tail.length = 0 := rfl
    have c0 : startH.count = 0 := rfl
    exact code_long _ _ _ _ _ _ _ _ _ _ _ _ _ _ _ _ _ _ kb _ _ _ _ _ _ _ w hK h' (show (bs key).size ≤ _ by rw [bs_size]; omega) (more_to startH startH_ok kb key (by omega) (by omega)) (end_to _ (moreH_ok KL startH_ok key) kb (moreH_tail _ _ _) (by rw [moreH_count]; omega)) h1 h2 m1 m2 e1 m3 m4 e2
end Go.Proofs.YtfdeegafdaobdaaDoor
