/- Contract of low: the octets of a number. -/
import Derived.Test.YtnfefkcfifnjnaaDoorMD
namespace Go.Proofs.YtnfefkcfifnjnaaDoor
open Go.RowKit Go.ChangeShapes
theorem info110 : (Tryd.prog.info? 110).map (fun i => i.size) = some 5 := by kernel_rfl
theorem hld_small (v k j : Nat) (h : 8 * j ≤ 26 * k) (h2 : 26 * k ≤ 8 * j + 33) : hld v k j < 2 ^ 33 := by
  have h1 := hld_lt v k j h
  have h2 : 2 ^ (26 * k - 8 * j) ≤ 2 ^ 33 := Nat.pow_le_pow_right (by decide) (by omega)
  omega
set_option maxRecDepth 100000 in
set_option maxHeartbeats 8000000 in
theorem low_any (v : Nat) (w : World) :
    Calls Tryd.prog 98 #[nv v] w fun e w' => e = .returned (.string (bs (octV v 16))) ∧ Below w.heap.size w w' := by
  obtain ⟨i0, hi, hz0, hz1, hz2⟩ := info_parts info5
  have h1 := Lar.new w 110 (lm v)
  have hB : Below w.heap.size w (w.alloc (.cells (lsC (lm v)) 110)) := by go_grown
  have HA := Lib.hid h1
  have HB := Lib.hid hB
  have HI := Lib.hid (idx_limb (lm v) (lm_length v))
  clear h1 hB
  go_enter Tryd.func98, Tryd.ntmps98
  go_upto_region 3 with (first | (at_make; refine wpList_make_own _ rfl _ _ 25 rfl (w.heap.size + 1) 5 i0 (.int .u8 0) 1 Tryd.underlying25 hi hz0 hz1 .i64 .i64 _ 16 rfl rfl ?_ ?_ ?_ ?_ ?_; omega; rw [hz2]; omega; (unfold maxLen; omega); (simp); intro w1 hown1 hg1))
  have HA1 : Hid (Lar w1 w.heap.size 110 (lm v)) := Lib.hid ((hg1.block _ HA.out.lt (fun e => by cases e)).trans HA.out)
  have HB1 : Hid (Below w.heap.size w w1) := Lib.hid (HB.out.grown hg1 (by simp) (fun g hg => by cases hg))
  have hz1' : w.heap.size + 1 ≤ w1.heap.size := by have := hg1.size; rw [World.size_alloc] at this; exact this
  rw [World.size_alloc] at hown1
  clear HA HB hg1
  go_upto_region 4 with (refine wpList_load_row rfl 108 _ rfl w.heap.size rfl 110 (lsC (lm v)) (0, 0) _ HA1.out Tryd.underlying108 rfl (by rw [size108, lsC_size, lm_length]) ?_)
  clear HA1
  go_loopw [3, 4, 5, 11] (fun o h b i wr => ∃ k : Nat, k ≤ 5 ∧ i = .int .i64 k ∧ b = .int .i64 ((26 * k - 8 * (26 * k / 8) : Nat) : Int) ∧ h = .int .u64 ((hld v k (26 * k / 8) : Nat) : Int) ∧ Hid (wr.ownsRow (w.heap.size + 1) 5 1 o (26 * k / 8) (byC (octV v (26 * k / 8)))) ∧ Hid (Below w.heap.size w wr) ∧ w.heap.size + 1 ≤ wr.heap.size) (fun _ _ _ i _ => 5 - (intOf i).toNat)
  case atStart => exact ⟨0, by omega, rfl, rfl, by simp [hld, Nat.mod_one], Lib.hid hown1, HB1, hz1'⟩
  case round =>
    clear HB1 hown1 hz1'
    obtain ⟨k, hk, rfl, rfl, rfl, HO, HB, hzz⟩ := hrel
    by_cases hlt : k < 5
    · have hix := HI.out k wr hlt
      have hg := dig_get 5 v k hlt
      obtain ⟨j0, hj0⟩ : ∃ j, 26 * k / 8 = j := ⟨_, rfl⟩
      rw [hj0] at HO ⊢
      have hd := hld_limb v k j0 (by omega)
      have hs1 := hld_small v k j0 (by omega) (by omega)
      have hs2 := hld_small v (k + 1) j0 (by omega) (by omega)
      obtain ⟨b, hb⟩ : ∃ b, 26 * k - 8 * j0 = b := ⟨_, rfl⟩
      obtain ⟨x, hx⟩ : ∃ x, (lm v).getD k 0 = x := ⟨_, rfl⟩
      have hxe : v / 67108864 ^ k % 67108864 = x := by rw [← hx]; exact hg.symm
      have hxl : x < 67108864 := by rw [← hxe]; exact Nat.mod_lt _ (by decide)
      rw [hx] at hix
      rw [hb, hxe] at hd
      rw [hb]
      obtain ⟨h, hh⟩ : ∃ h, hld v k j0 = h := ⟨_, rfl⟩
      obtain ⟨h2, hh2⟩ : ∃ h, hld v (k + 1) j0 = h := ⟨_, rfl⟩
      obtain ⟨xs, hxs⟩ : ∃ xs, x * 2 ^ b = xs := ⟨_, rfl⟩
      rw [hh, hh2, hxs] at hd
      rw [hh] at hs1 ⊢
      rw [hh2] at hs2
      have hb8 : b < 8 := by omega
      have hxsb : xs < 2 ^ 34 := by
        have h1 : 2 ^ b ≤ 2 ^ 7 := Nat.pow_le_pow_right (by decide) (by omega)
        have h2 := Nat.mul_le_mul (show x ≤ 67108863 by omega) h1
        rw [hxs] at h2
        omega
      have a1 : IntKind.u64.wrap ((x : Int) * 2 ^ b) = (xs : Int) := by
        have e2 : (x : Int) * 2 ^ b = ((x * 2 ^ b : Nat) : Int) := by simp
        rw [e2, hxs]; exact u64_back (by omega)
      have a2 : bits .or .u64 (h : Int) (xs : Int) = (h2 : Int) := by rw [u64_or (by omega) (by omega), hd]
      have b0 : (0 : Int) ≤ (b : Int) := by omega
      have k5 : (k : Int) < 5 := by omega
      have hbb : b + 26 = 26 * (k + 1) - 8 * j0 := by omega
      have HH2 := Lib.hid hh2
      have HJ := Lib.hid hj0
      clear hg hd hx hxe hh hh2 hxs hs1 hs2 hb hj0
      go_wp2_with fail
      clear hix a1 a2
      go_loopw [3, 4, 5] (fun o h b wr => ∃ j : Nat, j0 ≤ j ∧ 8 * j ≤ 26 * (k + 1) ∧ b = .int .i64 ((26 * (k + 1) - 8 * j : Nat) : Int) ∧ h = .int .u64 ((hld v (k + 1) j : Nat) : Int) ∧ Hid (wr.ownsRow (w.heap.size + 1) 5 1 o j (byC (octV v j))) ∧ Hid (Below w.heap.size w wr) ∧ w.heap.size + 1 ≤ wr.heap.size) (fun _ _ b _ => (intOf b).toNat)
      case atStart => exact ⟨j0, Nat.le_refl _, by have := HJ.out; omega, by rw [← hbb]; rfl, by rw [HH2.out], HO, HB, hzz⟩
      case round =>
        clear HO HB hzz
        obtain ⟨j, hjj, hj26, rfl, rfl, HO, HB, hzz⟩ := hrel
        obtain ⟨c, hc⟩ : ∃ c, 26 * (k + 1) - 8 * j = c := ⟨_, rfl⟩
        rw [hc]
        have hj0 := HJ.out
        have hc40 : c ≤ 40 := by omega
        by_cases h8 : 8 ≤ c
        · obtain ⟨d, hd⟩ : ∃ d, c - 8 = d := ⟨_, rfl⟩
          have e8 : (c : Int) - 8 = (d : Int) := by omega
          obtain ⟨ho1, ho2⟩ := hld_oct v (k + 1) j (by omega)
          have hs1 := hld_small v (k + 1) j (by omega) (by omega)
          obtain ⟨h, hh⟩ : ∃ h, hld v (k + 1) j = h := ⟨_, rfl⟩
          rw [hh] at ho1 ho2 hs1 ⊢
          obtain ⟨y, hy⟩ : ∃ y, h % 256 = y := ⟨_, rfl⟩
          have a1 : IntKind.u8.wrap (h : Int) = (y : Int) := by rw [IntKind.wrap_u8']; omega
          have a2 : (h : Int) / 256 = ((hld v (k + 1) (j + 1) : Nat) : Int) := by rw [← ho2]; simp
          have hrow : byC (octV v j) ++ [.int .u8 (y : Int)] = byC (octV v (j + 1)) := by
            rw [octV_succ, ← byC_append, ← ho1, hy]
            have : ((UInt8.ofNat y).toNat : Int) = (y : Int) := by rw [UInt8.toNat_ofNat']; omega
            simp [byC]; omega
          have hj17 : j ≤ 16 := by omega
          have c8 : (8 : Int) ≤ (c : Int) := by omega
          have HROW := Lib.hid hrow
          have HC := Lib.hid hc
          clear hrow hy ho1 ho2 hh hs1 hc
          go_wp2_with (first | (at_builtin; refine wpList_append_own _ rfl _ _ 25 rfl (w.heap.size + 1) 5 i0 (.int .u8 0) 1 1 Tryd.underlying25 hi hz0 hz1 hz2 rfl (by decide) _ j _ rfl (HO.out.alloc _) ⟨wr.heap.size, 0, none⟩ 1 1 [.int .u8 (y : Int)] rfl rfl ?_ ?_ ?_ ?_ ?_ ?_; exact World.news_of_block (cs := #[.int .u8 (y : Int)]) (t := 5) (fr := (0, 0)) (heap_alloc_new wr _); (simp [Value.oneCell']); (unfold maxLen; omega); omega; (simp; omega); intro v2 w3 hown3 hg3 _))
          rw [HROW.out] at hown3
          have hB3 : Below w.heap.size w w3 := (HB.out.alloc (by omega) _).grown hg3 (by simp; omega) (fun g hg => by have := (HO.out.lt g hg).1; omega)
          have hz3 : w.heap.size + 1 ≤ w3.heap.size := by have := hg3.size; rw [World.size_alloc] at this; omega
          have HO3 := Lib.hid hown3
          have HB3 := Lib.hid hB3
          clear hown3 hg3 hB3 HO HB
          go_wp2
          go_roundw
          case rel =>
            exact ⟨j + 1, by omega, by have := HC.out; omega, by have := HC.out; rw [show 26 * (k + 1) - 8 * (j + 1) = d by omega], rfl, HO3, HB3, hz3⟩
          case measure => simp [intOf]; omega
        · have e : 26 * (k + 1) / 8 = j := by omega
          have hc2 : 26 * (k + 1) - 8 * (26 * (k + 1) / 8) = c := by rw [e]; exact hc
          have c8 : ¬ (8 : Int) ≤ (c : Int) := by omega
          have HE := Lib.hid e
          have HC2 := Lib.hid hc2
          clear e hc hc2
          go_wp2
          go_roundw
          case rel => exact ⟨k + 1, by omega, by go_num, by rw [HC2.out], by rw [HE.out], by rw [HE.out]; exact HO, HB, hzz⟩
          case measure => simp [intOf]; omega
    · obtain rfl : k = 5 := by omega
      have hcv := string_of_own (w := wr) (l := octV v 16) (by rw [octV_length]; exact HO.out)
      go_wp2
      go_ret
      exact ⟨rfl, HB.out⟩
end Go.Proofs.YtnfefkcfifnjnaaDoor
