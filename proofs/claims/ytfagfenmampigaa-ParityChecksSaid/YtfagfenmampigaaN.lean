/- The walk of ParityCuts. -/
import Derived.Test.YtfagfenmampigaaX
namespace Go.Proofs.Ytfagfenmampigaa
open Go.RowKit Go.ChangeShapes
def ct (s : ByteArray) : List UInt8 := (s.extract 0 (min (s.size : Int) 200).toNat).data.toList
theorem ct_le (s : ByteArray) : (ct s).length ≤ 200 := by
  have : (s.extract 0 (min (s.size : Int) 200).toNat).size ≤ 200 := by rw [ByteArray.size_extract]; omega
  exact this
def al (ss : List ByteArray) : Nat → List UInt8
  | 0 => []
  | k + 1 => al ss k ++ ct (ss.getD k ByteArray.empty)
theorem al_le (ss : List ByteArray) : ∀ k, (al ss k).length ≤ 200 * k
  | 0 => by simp [al]
  | k + 1 => by
    have := al_le ss k
    have := ct_le (ss.getD k ByteArray.empty)
    rw [al, List.length_append]; omega
theorem slice_min29 (A : Option Addr) (len cap : Nat) (hl : len ≤ cap) (wx : World) : (Instr.slice 29 (.slice A len cap) none (some (.int .i64 (min (len : Int) 8))) none).run Try.prog wx = .ok (.slice A (min len 8) cap) wx := by
  have := run_slice_h (P := Try.prog) (w := wx) 29 A len cap (by kernel_rfl) .i64 (min (len : Int) 8) (by omega) (by omega)
  rw [this, show (min (len : Int) 8).toNat = min len 8 by omega]
  have hs : (sizeOf (Try.prog.elem 29)).run Try.prog wx = .ok 1 wx := by kernel_rfl
  rw [hs]
  cases A <;> simp [sliced, Result.andThen, Addr.add]
theorem more_le {c n : Nat} (hc : isW c) (hn : isW n) (s : List UInt8) : moreN c n s ≤ 4294967295 := by
  have := more_W hc hn s; unfold isW at this; omega
set_option maxRecDepth 1000000 in
set_option maxHeartbeats 8000000 in
theorem cuts_one (A : Option Addr) (len cap : Nat) (ss : List ByteArray) (w : World) (hlc : len ≤ cap) (hcap : cap ≤ maxLen)
    (hA : ∀ k, k < len → ∃ b off, A = some ⟨b, off, none⟩ ∧ b < w.heap.size ∧ w.cell? ⟨b, off + k, none⟩ = some (.string (ss.getD k ByteArray.empty)) ∧ (ss.getD k ByteArray.empty).size ≤ 9223372036854775807) :
    Calls Try.prog 6 #[.slice A len cap, .bool false] w fun e w' => e = .returned (.bool true) ∧ Below w.heap.size w w' := by
  have K0 : Wk w w [] := Wk.start
  unfold maxLen at hcap
  have hsl := slice_min29 A len cap hlc
  obtain ⟨q, hq⟩ : ∃ q, min len 8 = q := ⟨_, rfl⟩
  rw [hq] at hsl
  have hq8 : q ≤ 8 := by omega
  have hql : q ≤ len := by omega
  have HA := Lib.hid hA
  obtain ⟨c, hc⟩ : ∃ c, kC false = c := ⟨_, rfl⟩
  have cW : isW c := by rw [← hc]; exact kC_W false
  have HC1 : Hid (∀ (s : List UInt8) (w : World), s.length ≤ 4096 → Calls Try.prog 14 #[.int .i64 1, .string (bs s)] w fun e w' => e = .returned (.tuple #[.int .i64 ((moreN c 0 s : Nat) : Int), .int .i64 0]) ∧ Below w.heap.size w w') := Lib.hid (by rw [← hc]; exact fun s w hs => crc_yes false s w hs)
  have HC2 : Hid (∀ (crc : Nat) (s : List UInt8) (w : World), crc ≤ 4294967295 → s.length ≤ 4096 → Calls Try.prog 13 #[.int .i64 1, .int .i64 (crc : Int), .string (bs s)] w fun e w' => e = .returned (.tuple #[.int .i64 ((moreN c crc s : Nat) : Int), .int .i64 0]) ∧ Below w.heap.size w w') := Lib.hid (by rw [← hc]; exact fun crc s w h hs => more_yes false crc s w h hs)
  have HC3 : Hid (∀ (x y n : Nat) (w : World), x ≤ 4294967295 → y ≤ 4294967295 → n ≤ 1073741824 → (n = 0 → y = 0) → Calls Try.prog 19 #[.int .i64 1, .int .i64 (x : Int), .int .i64 (y : Int), .int .i64 (n : Int)] w fun e w' => e = .returned (.tuple #[.int .i64 ((joinN c x y n : Nat) : Int), .int .i64 0]) ∧ Below w.heap.size w w') := Lib.hid (by rw [← hc]; exact fun x y n w h1 h2 h3 h4 => join_yes false x y n w h1 h2 h3 h4)
  have CW := Lib.hid cW
  clear hA hq hc cW
  go_enter Try.func6, Try.ntmps6
  go_wp2_with fail
  refine (works_true _).mono ?_
  rintro e W1 ⟨rfl, h1⟩
  have K1 := K0.step h1
  clear h1 K0
  go_wp2_with fail
  have K1H := Lib.hid K1
  clear K1
  go_loopw [6, 7, 8, 26] (fun s6 s7 s8 i wr => ∃ k : Nat, k ≤ q ∧ i = .int .i64 k ∧ s6 = .string (bs (al ss k)) ∧ s7 = .int .i64 ((moreN c 0 (al ss k) : Nat) : Int) ∧ s8 = .int .i64 ((moreN c 0 (al ss k) : Nat) : Int) ∧ Hid (Wk w wr [])) (fun _ _ _ i _ => 8 - (intOf i).toNat)
  case atStart => exact ⟨0, Nat.zero_le _, rfl, rfl, by rw [show al ss 0 = [] from rfl, moreN_nil]; rfl, by rw [show al ss 0 = [] from rfl, moreN_nil]; rfl, K1H⟩
  case round =>
    clear K1H
    obtain ⟨k, hk, rfl, rfl, rfl, rfl, HK⟩ := hrel
    clear hsl
    have hal := al_le ss k
    obtain ⟨L, hL⟩ : ∃ L, al ss k = L := ⟨_, rfl⟩
    rw [hL] at hal ⊢
    by_cases hlt : k < q
    · have hL2 : al ss (k + 1) = L ++ ct (ss.getD k ByteArray.empty) := by rw [al, hL]
      obtain ⟨b, off, rfl, hbw, hc0, hss⟩ := HA.out k (by omega)
      obtain ⟨sk, hsk⟩ : ∃ sk, ss.getD k ByteArray.empty = sk := ⟨_, rfl⟩
      rw [hsk] at hL2 hc0 hss
      have hc1 : wr.cell? ⟨b, off + k, none⟩ = some (.string sk) := (HK.out.b.cell (p := ⟨b, off + k, none⟩) hbw).trans hc0
      have hct := ct_le sk
      obtain ⟨xb, hxb⟩ : ∃ xb, sk.extract 0 (min (sk.size : Int) 200).toNat = xb := ⟨_, rfl⟩
      have hxb2 : bs (ct sk) = xb := hxb
      obtain ⟨yb, hyb⟩ : ∃ yb, bs L ++ xb = yb := ⟨_, rfl⟩
      have hyb2 : bs (L ++ ct sk) = yb := by rw [bs_append, hxb2, hyb]
      have lx : xb.size = (ct sk).length := by rw [← hxb2, bs_size]
      have h0W : isW 0 := by unfold isW; decide
      have hn1 := more_le CW.out h0W L
      have hn2 := more_le CW.out h0W (ct sk)
      have hz2 : (ct sk).length = 0 → moreN c 0 (ct sk) = 0 := fun h => by rw [List.length_eq_zero_iff.1 h, moreN_nil]
      have c1 : Hid (∀ W, Calls Try.prog 14 #[.int .i64 1, .string xb] W fun e w' => e = .returned (.tuple #[.int .i64 ((moreN c 0 (ct sk) : Nat) : Int), .int .i64 0]) ∧ Below W.heap.size W w') := Lib.hid (fun W => by
        have h := HC1.out (ct sk) W (by omega)
        rw [hxb2] at h
        exact h)
      have c2 : Hid (∀ W, Calls Try.prog 13 #[.int .i64 1, .int .i64 ((moreN c 0 L : Nat) : Int), .string xb] W fun e w' => e = .returned (.tuple #[.int .i64 ((moreN c 0 (al ss (k + 1)) : Nat) : Int), .int .i64 0]) ∧ Below W.heap.size W w') := Lib.hid (fun W => by
        have h := HC2.out (moreN c 0 L) (ct sk) W hn1 (by omega)
        rw [hxb2, ← moreN_append, ← hL2] at h
        exact h)
      have c3 : Hid (∀ W, Calls Try.prog 19 #[.int .i64 1, .int .i64 ((moreN c 0 L : Nat) : Int), .int .i64 ((moreN c 0 (ct sk) : Nat) : Int), .int .i64 (xb.size : Int)] W fun e w' => e = .returned (.tuple #[.int .i64 ((moreN c 0 (al ss (k + 1)) : Nat) : Int), .int .i64 0]) ∧ Below W.heap.size W w') := Lib.hid (fun W => by
        have h := HC3.out (moreN c 0 L) (moreN c 0 (ct sk)) (ct sk).length W hn1 hn2 (by omega) hz2
        rw [join_more, ← moreN_append, ← hL2, ← lx] at h
        exact h)
      have HAL2 : Hid (Value.string yb = .string (bs (al ss (k + 1)))) := Lib.hid (by rw [hL2, hyb2])
      obtain ⟨n0, hn0⟩ : ∃ x : Nat, moreN c 0 L = x := ⟨_, rfl⟩
      obtain ⟨n3, hn3⟩ : ∃ x : Nat, moreN c 0 (ct sk) = x := ⟨_, rfl⟩
      obtain ⟨n2, hn4⟩ : ∃ x : Nat, moreN c 0 (al ss (k + 1)) = x := ⟨_, rfl⟩
      rw [hn0, hn4] at c2
      rw [hn0, hn3, hn4] at c3
      rw [hn3] at c1
      have HN2 := Lib.hid hn4
      rw [hn0]
      have K1 := HK.out
      have lL : (bs L).size ≤ 1600 := by rw [bs_size]; omega
      have lxb : xb.size ≤ 200 := by omega
      have k0 : (0 : Int) ≤ (k : Int) := by omega
      have k1 : (k : Int) < (q : Int) := by omega
      generalize bs L = LB at hyb lL ⊢
      clear hxb2 hyb2 hL2 hL hsk hct hn0 hn3 hn4 hz2 hn1 hn2 h0W lx hal hc0 HK hlt HC1 HC2 HC3 HA CW
      go_wp2_with (first
        | (go_at_call 14; (with_reducible refine (c1.out _).mono ?_); rintro e V ⟨rfl, hb⟩; with_reducible replace K1 := Wk.step K1 hb; clear hb)
        | (go_at_call 13; (with_reducible refine (c2.out _).mono ?_); rintro e V ⟨rfl, hb⟩; with_reducible replace K1 := Wk.step K1 hb; clear hb)
        | (go_at_call 19; (with_reducible refine (c3.out _).mono ?_); rintro e V ⟨rfl, hb⟩; with_reducible replace K1 := Wk.step K1 hb; clear hb))
      go_roundw
      case rel => exact ⟨k + 1, by omega, by go_num, HAL2.out, by rw [HN2.out], by rw [HN2.out], Lib.hid K1⟩
      case measure => simp [intOf]; omega
    · obtain rfl : k = q := by omega
      have c1 : Hid (∀ W, Calls Try.prog 14 #[.int .i64 1, .string (bs L)] W fun e w' => e = .returned (.tuple #[.int .i64 ((moreN c 0 L : Nat) : Int), .int .i64 0]) ∧ Below W.heap.size W w') := Lib.hid (fun W => HC1.out L W (by omega))
      have K0 := HK.out
      obtain ⟨n0, hn0⟩ : ∃ x : Nat, moreN c 0 L = x := ⟨_, rfl⟩
      rw [hn0] at c1 ⊢
      have tt : (((n0 : Nat) : Int) == (n0 : Int)) = true := beq_self_eq_true _
      generalize bs L = LB at c1 ⊢
      clear hL hal HK hlt HC1 HC2 HC3 HA CW hn0
      go_wp2_with (first
        | (go_at_call 23; (with_reducible refine (is_any _ _).mono ?_); rintro e V ⟨rfl, hp, hz, hb⟩; with_reducible replace K0 := Wk.step K0 hb; clear hb)
        | (go_at_call 14; (with_reducible refine (c1.out _).mono ?_); rintro e V ⟨rfl, hb⟩; obtain ⟨K0, hp, hz⟩ := Wk.keep1 K0 hp hz hb; clear hb)
        | (go_at_call 43; (with_reducible refine (is1_yes _ _ _ hp).mono ?_); rintro e V ⟨rfl, rfl⟩))
      go_ret
      exact ⟨rfl, K0.b⟩
set_option maxRecDepth 1000000 in
set_option maxHeartbeats 8000000 in
theorem cuts_two (A : Option Addr) (len cap : Nat) (ss : List ByteArray) (w : World) (hlc : len ≤ cap) (hcap : cap ≤ maxLen)
    (hA : ∀ k, k < len → ∃ b off, A = some ⟨b, off, none⟩ ∧ b < w.heap.size ∧ w.cell? ⟨b, off + k, none⟩ = some (.string (ss.getD k ByteArray.empty)) ∧ (ss.getD k ByteArray.empty).size ≤ 9223372036854775807) :
    Calls Try.prog 6 #[.slice A len cap, .bool true] w fun e w' => e = .returned (.bool true) ∧ Below w.heap.size w w' := by
  have K0 : Wk w w [] := Wk.start
  unfold maxLen at hcap
  have hsl := slice_min29 A len cap hlc
  obtain ⟨q, hq⟩ : ∃ q, min len 8 = q := ⟨_, rfl⟩
  rw [hq] at hsl
  have hq8 : q ≤ 8 := by omega
  have hql : q ≤ len := by omega
  have HA := Lib.hid hA
  obtain ⟨c, hc⟩ : ∃ c, kC true = c := ⟨_, rfl⟩
  have cW : isW c := by rw [← hc]; exact kC_W true
  have HC1 : Hid (∀ (s : List UInt8) (w : World), s.length ≤ 4096 → Calls Try.prog 14 #[.int .i64 2, .string (bs s)] w fun e w' => e = .returned (.tuple #[.int .i64 ((moreN c 0 s : Nat) : Int), .int .i64 0]) ∧ Below w.heap.size w w') := Lib.hid (by rw [← hc]; exact fun s w hs => crc_yes true s w hs)
  have HC2 : Hid (∀ (crc : Nat) (s : List UInt8) (w : World), crc ≤ 4294967295 → s.length ≤ 4096 → Calls Try.prog 13 #[.int .i64 2, .int .i64 (crc : Int), .string (bs s)] w fun e w' => e = .returned (.tuple #[.int .i64 ((moreN c crc s : Nat) : Int), .int .i64 0]) ∧ Below w.heap.size w w') := Lib.hid (by rw [← hc]; exact fun crc s w h hs => more_yes true crc s w h hs)
  have HC3 : Hid (∀ (x y n : Nat) (w : World), x ≤ 4294967295 → y ≤ 4294967295 → n ≤ 1073741824 → (n = 0 → y = 0) → Calls Try.prog 19 #[.int .i64 2, .int .i64 (x : Int), .int .i64 (y : Int), .int .i64 (n : Int)] w fun e w' => e = .returned (.tuple #[.int .i64 ((joinN c x y n : Nat) : Int), .int .i64 0]) ∧ Below w.heap.size w w') := Lib.hid (by rw [← hc]; exact fun x y n w h1 h2 h3 h4 => join_yes true x y n w h1 h2 h3 h4)
  have CW := Lib.hid cW
  clear hA hq hc cW
  go_enter Try.func6, Try.ntmps6
  go_wp2_with fail
  refine (works_true _).mono ?_
  rintro e W1 ⟨rfl, h1⟩
  have K1 := K0.step h1
  clear h1 K0
  go_wp2_with fail
  have K1H := Lib.hid K1
  clear K1
  go_loopw [6, 7, 8, 26] (fun s6 s7 s8 i wr => ∃ k : Nat, k ≤ q ∧ i = .int .i64 k ∧ s6 = .string (bs (al ss k)) ∧ s7 = .int .i64 ((moreN c 0 (al ss k) : Nat) : Int) ∧ s8 = .int .i64 ((moreN c 0 (al ss k) : Nat) : Int) ∧ Hid (Wk w wr [])) (fun _ _ _ i _ => 8 - (intOf i).toNat)
  case atStart => exact ⟨0, Nat.zero_le _, rfl, rfl, by rw [show al ss 0 = [] from rfl, moreN_nil]; rfl, by rw [show al ss 0 = [] from rfl, moreN_nil]; rfl, K1H⟩
  case round =>
    clear K1H
    obtain ⟨k, hk, rfl, rfl, rfl, rfl, HK⟩ := hrel
    clear hsl
    have hal := al_le ss k
    obtain ⟨L, hL⟩ : ∃ L, al ss k = L := ⟨_, rfl⟩
    rw [hL] at hal ⊢
    by_cases hlt : k < q
    · have hL2 : al ss (k + 1) = L ++ ct (ss.getD k ByteArray.empty) := by rw [al, hL]
      obtain ⟨b, off, rfl, hbw, hc0, hss⟩ := HA.out k (by omega)
      obtain ⟨sk, hsk⟩ : ∃ sk, ss.getD k ByteArray.empty = sk := ⟨_, rfl⟩
      rw [hsk] at hL2 hc0 hss
      have hc1 : wr.cell? ⟨b, off + k, none⟩ = some (.string sk) := (HK.out.b.cell (p := ⟨b, off + k, none⟩) hbw).trans hc0
      have hct := ct_le sk
      obtain ⟨xb, hxb⟩ : ∃ xb, sk.extract 0 (min (sk.size : Int) 200).toNat = xb := ⟨_, rfl⟩
      have hxb2 : bs (ct sk) = xb := hxb
      obtain ⟨yb, hyb⟩ : ∃ yb, bs L ++ xb = yb := ⟨_, rfl⟩
      have hyb2 : bs (L ++ ct sk) = yb := by rw [bs_append, hxb2, hyb]
      have lx : xb.size = (ct sk).length := by rw [← hxb2, bs_size]
      have h0W : isW 0 := by unfold isW; decide
      have hn1 := more_le CW.out h0W L
      have hn2 := more_le CW.out h0W (ct sk)
      have hz2 : (ct sk).length = 0 → moreN c 0 (ct sk) = 0 := fun h => by rw [List.length_eq_zero_iff.1 h, moreN_nil]
      have c1 : Hid (∀ W, Calls Try.prog 14 #[.int .i64 2, .string xb] W fun e w' => e = .returned (.tuple #[.int .i64 ((moreN c 0 (ct sk) : Nat) : Int), .int .i64 0]) ∧ Below W.heap.size W w') := Lib.hid (fun W => by
        have h := HC1.out (ct sk) W (by omega)
        rw [hxb2] at h
        exact h)
      have c2 : Hid (∀ W, Calls Try.prog 13 #[.int .i64 2, .int .i64 ((moreN c 0 L : Nat) : Int), .string xb] W fun e w' => e = .returned (.tuple #[.int .i64 ((moreN c 0 (al ss (k + 1)) : Nat) : Int), .int .i64 0]) ∧ Below W.heap.size W w') := Lib.hid (fun W => by
        have h := HC2.out (moreN c 0 L) (ct sk) W hn1 (by omega)
        rw [hxb2, ← moreN_append, ← hL2] at h
        exact h)
      have c3 : Hid (∀ W, Calls Try.prog 19 #[.int .i64 2, .int .i64 ((moreN c 0 L : Nat) : Int), .int .i64 ((moreN c 0 (ct sk) : Nat) : Int), .int .i64 (xb.size : Int)] W fun e w' => e = .returned (.tuple #[.int .i64 ((moreN c 0 (al ss (k + 1)) : Nat) : Int), .int .i64 0]) ∧ Below W.heap.size W w') := Lib.hid (fun W => by
        have h := HC3.out (moreN c 0 L) (moreN c 0 (ct sk)) (ct sk).length W hn1 hn2 (by omega) hz2
        rw [join_more, ← moreN_append, ← hL2, ← lx] at h
        exact h)
      have HAL2 : Hid (Value.string yb = .string (bs (al ss (k + 1)))) := Lib.hid (by rw [hL2, hyb2])
      obtain ⟨n0, hn0⟩ : ∃ x : Nat, moreN c 0 L = x := ⟨_, rfl⟩
      obtain ⟨n3, hn3⟩ : ∃ x : Nat, moreN c 0 (ct sk) = x := ⟨_, rfl⟩
      obtain ⟨n2, hn4⟩ : ∃ x : Nat, moreN c 0 (al ss (k + 1)) = x := ⟨_, rfl⟩
      rw [hn0, hn4] at c2
      rw [hn0, hn3, hn4] at c3
      rw [hn3] at c1
      have HN2 := Lib.hid hn4
      rw [hn0]
      have K1 := HK.out
      have lL : (bs L).size ≤ 1600 := by rw [bs_size]; omega
      have lxb : xb.size ≤ 200 := by omega
      have k0 : (0 : Int) ≤ (k : Int) := by omega
      have k1 : (k : Int) < (q : Int) := by omega
      generalize bs L = LB at hyb lL ⊢
      clear hxb2 hyb2 hL2 hL hsk hct hn0 hn3 hn4 hz2 hn1 hn2 h0W lx hal hc0 HK hlt HC1 HC2 HC3 HA CW
      go_wp2_with (first
        | (go_at_call 14; (with_reducible refine (c1.out _).mono ?_); rintro e V ⟨rfl, hb⟩; with_reducible replace K1 := Wk.step K1 hb; clear hb)
        | (go_at_call 13; (with_reducible refine (c2.out _).mono ?_); rintro e V ⟨rfl, hb⟩; with_reducible replace K1 := Wk.step K1 hb; clear hb)
        | (go_at_call 19; (with_reducible refine (c3.out _).mono ?_); rintro e V ⟨rfl, hb⟩; with_reducible replace K1 := Wk.step K1 hb; clear hb))
      go_roundw
      case rel => exact ⟨k + 1, by omega, by go_num, HAL2.out, by rw [HN2.out], by rw [HN2.out], Lib.hid K1⟩
      case measure => simp [intOf]; omega
    · obtain rfl : k = q := by omega
      have c1 : Hid (∀ W, Calls Try.prog 14 #[.int .i64 2, .string (bs L)] W fun e w' => e = .returned (.tuple #[.int .i64 ((moreN c 0 L : Nat) : Int), .int .i64 0]) ∧ Below W.heap.size W w') := Lib.hid (fun W => HC1.out L W (by omega))
      have K0 := HK.out
      obtain ⟨n0, hn0⟩ : ∃ x : Nat, moreN c 0 L = x := ⟨_, rfl⟩
      rw [hn0] at c1 ⊢
      have tt : (((n0 : Nat) : Int) == (n0 : Int)) = true := beq_self_eq_true _
      generalize bs L = LB at c1 ⊢
      clear hL hal HK hlt HC1 HC2 HC3 HA CW hn0
      go_wp2_with (first
        | (go_at_call 23; (with_reducible refine (is_any _ _).mono ?_); rintro e V ⟨rfl, hp, hz, hb⟩; with_reducible replace K0 := Wk.step K0 hb; clear hb)
        | (go_at_call 14; (with_reducible refine (c1.out _).mono ?_); rintro e V ⟨rfl, hb⟩; obtain ⟨K0, hp, hz⟩ := Wk.keep1 K0 hp hz hb; clear hb)
        | (go_at_call 43; (with_reducible refine (is1_yes _ _ _ hp).mono ?_); rintro e V ⟨rfl, rfl⟩))
      go_ret
      exact ⟨rfl, K0.b⟩
end Go.Proofs.Ytfagfenmampigaa
