/- Contracts of clamped, isKey, Clamp, told, and of the reference's Clamp and Sized. -/
import Derived.Test.YtbadiljligcenaaDoorFB
namespace Go.Proofs.YtbadiljligcenaaDoor
open Go.RowKit Go.ChangeShapes
theorem all256 (f : Nat → Bool) (h : (List.range 256).all f = true) (a : UInt8) : f a.toNat = true := List.all_eq_true.1 h _ (List.mem_range.2 a.toNat_lt)
theorem c_not7 (a : UInt8) : bits .andNot .u8 (a.toNat : Int) 7 = ((a &&& 248).toNat : Int) := by
  have := all256 (fun n => bits .andNot .u8 (n : Int) 7 == ((UInt8.ofNat n &&& 248).toNat : Int)) (by decide +kernel) a
  simpa using this
theorem c_not128 (a : UInt8) : bits .andNot .u8 (a.toNat : Int) 128 = ((a &&& 127).toNat : Int) := by
  have := all256 (fun n => bits .andNot .u8 (n : Int) 128 == ((UInt8.ofNat n &&& 127).toNat : Int)) (by decide +kernel) a
  simpa using this
theorem c_or64 (a : UInt8) : bits .or .u8 (a.toNat : Int) 64 = ((a ||| 64).toNat : Int) := by
  have := all256 (fun n => bits .or .u8 (n : Int) 64 == ((UInt8.ofNat n ||| 64).toNat : Int)) (by decide +kernel) a
  simpa using this
theorem c_low (a : UInt8) : (a &&& 248).toNat = a.toNat / 8 * 8 := by
  have := all256 (fun n => (UInt8.ofNat n &&& 248).toNat == n / 8 * 8) (by decide +kernel) a
  simpa using this
theorem c_high (a : UInt8) : ((a &&& 127) ||| 64).toNat = a.toNat % 64 + 64 := by
  have := all256 (fun n => ((UInt8.ofNat n &&& 127) ||| 64).toNat == n % 64 + 64) (by decide +kernel) a
  simpa using this
theorem string_of_oc {w : World} {g cap : Nat} {l : List UInt8} (h : Oc w g l) : (convert 32 9 (.slice (some ⟨g, 0, none⟩) l.length cap)).run Tryd.prog w = .ok (.string (bs l)) w :=
  run_convert_bytes_back (P := Tryd.prog) w 32 9 5 ⟨g, 0, none⟩ cap l Tryd.underlying32 Tryd.underlying5 Tryd.underlying9 fun j hj => by
    have hadd : (⟨g, 0, none⟩ : Addr).add j = ⟨g, j, none⟩ := by unfold Addr.add; split <;> simp_all
    rw [hadd, (h j hj).1, List.getD_eq_getElem?_getD, List.getElem?_eq_getElem hj]; rfl
theorem clN_length (s : List UInt8) : (clN s).length = s.length := by simp [clN]
set_option maxRecDepth 100000 in
set_option maxHeartbeats 4000000 in
theorem clamped_any (s : List UInt8) (w : World) (hs : s.length = 32) :
    Calls Tryd.prog 26 #[.string (bs s)] w fun e w' => e = .returned (.string (bs (clN s))) ∧ Below w.heap.size w w' := by
  obtain ⟨cap, W1, hcap, hconv, hO1, hB1, hz1⟩ := bytes_made (bs s) w
  rw [bs_size, hs] at hcap hconv
  rw [bs_data] at hO1
  obtain ⟨cx0, cf0⟩ := hO1 0 (by omega)
  have hO2 := hO1.set 0 (s.getD 0 0 &&& 248)
  have cx1 := (hO2 31 (by rw [List.length_set]; omega)).1
  have e31 : (s.set 0 (s.getD 0 0 &&& 248)).getD 31 0 = s.getD 31 0 := by rw [List.getD_eq_getElem?_getD, List.getElem?_set_ne (by decide), List.getD_eq_getElem?_getD]
  rw [e31] at cx1
  have cf1 := (hO2 31 (by rw [List.length_set]; omega)).2
  have hO3 := hO2.set 31 ((s.getD 31 0 &&& 127) ||| 64)
  have hcv := string_of_oc (cap := cap) hO3
  have hB3 := (hB1.setCell (p := ⟨w.heap.size, 0, none⟩) (Nat.le_refl _) (by8 (s.getD 0 0 &&& 248))).setCell (p := ⟨w.heap.size, 31, none⟩) (Nat.le_refl _) (by8 ((s.getD 31 0 &&& 127) ||| 64))
  change (convert 32 9 (.slice (some ⟨w.heap.size, 0, none⟩) (clN s).length cap)).run Tryd.prog _ = .ok (.string (bs (clN s))) _ at hcv
  rw [clN_length, hs] at hcv
  obtain ⟨R, hR⟩ : ∃ R, clN s = R := ⟨_, rfl⟩
  rw [hR] at hcv ⊢
  obtain ⟨a, ha⟩ : ∃ a, s.getD 0 0 = a := ⟨_, rfl⟩
  obtain ⟨b, hb⟩ : ∃ a, s.getD 31 0 = a := ⟨_, rfl⟩
  rw [ha] at cx0 cx1 cf1 hcv hB3
  rw [hb] at cx1 hcv hB3
  have a1 := c_not7 a
  have a2 := c_not128 b
  have a3 := c_or64 (b &&& 127)
  obtain ⟨a', ha'⟩ : ∃ x, (a &&& 248) = x := ⟨_, rfl⟩
  obtain ⟨b1, hb1⟩ : ∃ x, (b &&& 127) = x := ⟨_, rfl⟩
  obtain ⟨b', hb'⟩ : ∃ x, (b1 ||| 64) = x := ⟨_, rfl⟩
  rw [ha'] at a1 cx1 cf1 hcv hB3
  rw [hb1] at a2 a3 hcv hB3
  rw [hb'] at a3 hcv hB3
  clear ha hb ha' hb1 hb'
  have HB := Lib.hid hB3
  clear hO1 hO2 hO3 hB1 hB3 hz1 hR e31 hs
  go_enter Tryd.func26, Tryd.ntmps26
  go_wp2
  go_ret
  exact ⟨rfl, HB.out⟩
set_option maxRecDepth 100000 in
set_option maxHeartbeats 4000000 in
theorem rclamp (s : List UInt8) (w : World) (hs : s.length = 32) :
    Calls Tryd.prog 14 #[.string (bs s)] w fun e w' => e = .returned (.string (bs (clN s))) ∧ Below w.heap.size w w' := by
  obtain ⟨cap, W1, hcap, hconv, hO1, hB1, hz1⟩ := bytes_made (bs s) w
  rw [bs_size, hs] at hcap hconv
  rw [bs_data] at hO1
  obtain ⟨cx0, cf0⟩ := hO1 0 (by omega)
  have hO2 := hO1.set 0 (s.getD 0 0 &&& 248)
  have cx1 := (hO2 31 (by rw [List.length_set]; omega)).1
  have e31 : (s.set 0 (s.getD 0 0 &&& 248)).getD 31 0 = s.getD 31 0 := by rw [List.getD_eq_getElem?_getD, List.getElem?_set_ne (by decide), List.getD_eq_getElem?_getD]
  rw [e31] at cx1
  have cf1 := (hO2 31 (by rw [List.length_set]; omega)).2
  have hO3 := hO2.set 31 ((s.getD 31 0 &&& 127) ||| 64)
  have hcv := string_of_oc (cap := cap) hO3
  have hB3 := (hB1.setCell (p := ⟨w.heap.size, 0, none⟩) (Nat.le_refl _) (by8 (s.getD 0 0 &&& 248))).setCell (p := ⟨w.heap.size, 31, none⟩) (Nat.le_refl _) (by8 ((s.getD 31 0 &&& 127) ||| 64))
  change (convert 32 9 (.slice (some ⟨w.heap.size, 0, none⟩) (clN s).length cap)).run Tryd.prog _ = .ok (.string (bs (clN s))) _ at hcv
  rw [clN_length, hs] at hcv
  obtain ⟨R, hR⟩ : ∃ R, clN s = R := ⟨_, rfl⟩
  rw [hR] at hcv ⊢
  obtain ⟨a, ha⟩ : ∃ a, s.getD 0 0 = a := ⟨_, rfl⟩
  obtain ⟨b, hb⟩ : ∃ a, s.getD 31 0 = a := ⟨_, rfl⟩
  rw [ha] at cx0 cx1 cf1 hcv hB3
  rw [hb] at cx1 hcv hB3
  have h1 := c_low a
  have h2 := c_high b
  obtain ⟨a', ha'⟩ : ∃ x, (a &&& 248) = x := ⟨_, rfl⟩
  obtain ⟨b', hb'⟩ : ∃ x, ((b &&& 127) ||| 64) = x := ⟨_, rfl⟩
  rw [ha'] at h1 cx1 cf1 hcv hB3
  rw [hb'] at h2 hcv hB3
  have hal := a.toNat_lt
  have hbl := b.toNat_lt
  obtain ⟨x, hx⟩ : ∃ x, a.toNat = x := ⟨_, rfl⟩
  obtain ⟨y, hy⟩ : ∃ x, b.toNat = x := ⟨_, rfl⟩
  change W1.cell? _ = some (.int .u8 (a.toNat : Int)) at cx0
  change World.cell? _ _ = some (.int .u8 (b.toNat : Int)) at cx1
  rw [hx] at cx0 hal h1
  rw [hy] at cx1 hbl h2
  obtain ⟨q, hq⟩ : ∃ q, x / 8 = q := ⟨_, rfl⟩
  obtain ⟨r, hr⟩ : ∃ q, y % 64 = q := ⟨_, rfl⟩
  rw [hq] at h1
  rw [hr] at h2
  have q1 : (x : Int) / 8 = (q : Int) := by omega
  have q2 : (x : Int).tdiv 8 = (q : Int) := by rw [Int.tdiv_eq_ediv_of_nonneg (by omega)]; omega
  have r1 : (y : Int) % 64 = (r : Int) := by omega
  have r2 : (y : Int).tmod 64 = (r : Int) := by rw [Int.tmod_eq_emod_of_nonneg (by omega)]; omega
  have w1 : IntKind.u8.wrap (q : Int) = (q : Int) := by rw [IntKind.wrap_u8']; omega
  have w2 : IntKind.u8.wrap (r : Int) = (r : Int) := by rw [IntKind.wrap_u8']; omega
  have w3 : IntKind.u8.wrap ((q : Int) * 8) = (a'.toNat : Int) := by rw [IntKind.wrap_u8']; omega
  have w4 : IntKind.u8.wrap ((r : Int) + 64) = (b'.toNat : Int) := by rw [IntKind.wrap_u8']; omega
  clear ha hb ha' hb' hx hy hq hr h1 h2 hal hbl
  have HB := Lib.hid hB3
  clear hO1 hO2 hO3 hB1 hB3 hz1 hR e31 hs
  go_enter Tryd.func14, Tryd.ntmps14
  go_wp2
  go_ret
  exact ⟨rfl, HB.out⟩
set_option maxRecDepth 100000 in
theorem isKey_any (S : ByteArray) (w : World) : Calls Tryd.prog 25 #[.string S] w fun e w' => e = .returned (.bool (decide ((S.size : Int) = 32))) ∧ w' = w := by
  go_enter Tryd.func25, Tryd.ntmps25
  go_wp2
  go_ret
  exact ⟨rfl, rfl⟩
set_option maxRecDepth 100000 in
set_option maxHeartbeats 4000000 in
/-- Clamp: of a string that is no key. -/
theorem Clamp_no (S : ByteArray) (w : World) (h : S.size ≠ 32) : Calls Tryd.prog 13 #[.string S] w fun e w' => e = .returned (.tuple #[.string ⟨#[]⟩, .int .i64 2]) ∧ w' = w := by
  have hk := isKey_any S w
  rw [decide_eq_false (by omega)] at hk
  have HK := Lib.hid hk
  clear hk
  go_enter Tryd.func13, Tryd.ntmps13
  go_wp2_with fail
  (with_reducible refine HK.out.mono ?_)
  rintro e w1 ⟨rfl, rfl⟩
  go_wp2
  go_ret2
  exact ⟨rfl, rfl⟩
set_option maxRecDepth 100000 in
set_option maxHeartbeats 4000000 in
theorem Clamp_yes (s : List UInt8) (w : World) (h : s.length = 32) : Calls Tryd.prog 13 #[.string (bs s)] w fun e w' => e = .returned (.tuple #[.string (bs (clN s)), .int .i64 0]) ∧ Below w.heap.size w w' := by
  have hk := isKey_any (bs s) w
  rw [decide_eq_true (by rw [bs_size]; omega)] at hk
  have HK := Lib.hid hk
  have HC := Lib.hid (clamped_any s w h)
  obtain ⟨S, hS⟩ : ∃ S, bs s = S := ⟨_, rfl⟩
  obtain ⟨R, hR⟩ : ∃ R, bs (clN s) = R := ⟨_, rfl⟩
  rw [hS] at HK HC ⊢
  rw [hR] at HC ⊢
  clear hk h hS hR
  go_enter Tryd.func13, Tryd.ntmps13
  go_wp2_with fail
  (with_reducible refine HK.out.mono ?_)
  rintro e w1 ⟨rfl, rfl⟩
  go_wp2_with fail
  (with_reducible refine HC.out.mono ?_)
  rintro e w1 ⟨rfl, hb⟩
  have HB := Lib.hid hb
  clear hb HC HK
  go_wp2
  go_ret2
  exact ⟨rfl, HB.out⟩
end Go.Proofs.YtbadiljligcenaaDoor
