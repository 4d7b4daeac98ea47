/- The reference: read. -/
import Derived.Test.YtbadiljligcenaaDoorGG
import Derived.Test.YtbadiljligcenaaDoorFI
namespace Go.Proofs.YtbadiljligcenaaDoor
open Go.RowKit Go.ChangeShapes
/-- Two octets as a digit. -/
def two8 (s : List UInt8) (i : Nat) : Nat := (s.getD (2 * i) 0).toNat + 256 * (s.getD (2 * i + 1) 0).toNat
theorem two8_lt (s : List UInt8) (i : Nat) : two8 s i < 65536 := by
  have h1 := (s.getD (2 * i) 0).toNat_lt
  have h2 := (s.getD (2 * i + 1) 0).toNat_lt
  unfold two8
  omega
theorem vah_two8 : ∀ (m : Nat) (s : List UInt8), s.length = 2 * m → vah ((List.range m).map (two8 s)) = num s
  | 0, s, h => by rw [List.length_eq_zero_iff.1 h]; rfl
  | m + 1, [], h => by simp at h
  | m + 1, [x], h => by simp at h; omega
  | m + 1, x :: y :: t, h => by
    have ih := vah_two8 m t (by simp at h; omega)
    have e : (List.range m).map (two8 (x :: y :: t) ∘ Nat.succ) = (List.range m).map (two8 t) := by
      apply List.map_congr_left
      intro i _
      show two8 (x :: y :: t) (i + 1) = two8 t i
      unfold two8
      rw [show 2 * (i + 1) = 2 * i + 1 + 1 by omega, show 2 * i + 1 + 1 + 1 = (2 * i + 1) + 1 + 1 by omega]
      rfl
    rw [List.range_succ_eq_map, List.map_cons, List.map_map, e, vah, ih, num, num]
    show x.toNat + 256 * y.toNat + 65536 * num t = _
    omega
theorem top_cut (l : List Nat) (h : l.length = 16) (hb : ∀ x ∈ l, x < 65536) : l.set 15 (l.getD 15 0 % 32768) = dN (vah l % two255) := by
  have hl : ∀ x ∈ l.set 15 (l.getD 15 0 % 32768), x < 65536 := by
    intro x hx
    rcases List.mem_or_eq_of_mem_set hx with hx | rfl
    · exact hb x hx
    · omega
  have hv : vah (l.set 15 (l.getD 15 0 % 32768)) = vah l % two255 := by
    have e1 := take_vah l 15 (by omega)
    have e2 := take_vah (l.set 15 (l.getD 15 0 % 32768)) 15 (by rw [List.length_set]; omega)
    rw [List.take_of_length_le (by omega)] at e1
    rw [List.take_of_length_le (by rw [List.length_set]; omega), List.take_set_of_le (by omega)] at e2
    have e3 : (l.set 15 (l.getD 15 0 % 32768)).getD 15 0 = l.getD 15 0 % 32768 := by
      rw [List.getD_eq_getElem?_getD, List.getElem?_set_self (by omega)]; rfl
    rw [e3] at e2
    have hlt := vah_lt (l.take 15) (fun x hx => hb x (List.mem_of_mem_take hx))
    rw [List.length_take, Nat.min_eq_left (by omega)] at hlt
    have ht : two255 = 65536 ^ 15 * 32768 := by decide
    rw [e1, e2, ht]
    generalize vah (l.take 15) = L at hlt
    generalize l.getD 15 0 = x
    generalize 65536 ^ 15 = P at hlt
    have hx := Nat.div_add_mod x 32768
    have e5 : L + P * x = (L + P * (x % 32768)) + P * 32768 * (x / 32768) := by
      have e6 : P * x = P * (32768 * (x / 32768) + x % 32768) := by rw [hx]
      rw [e6, Nat.mul_add, ← Nat.mul_assoc]
      omega
    have h7 : L + P * (x % 32768) < P * 32768 := by
      have h8 : x % 32768 + 1 ≤ 32768 := Nat.mod_lt _ (by decide)
      have h9 := Nat.mul_le_mul_left P h8
      rw [Nat.mul_add, Nat.mul_one] at h9
      omega
    rw [e5, Nat.add_mul_mod_self_left, Nat.mod_eq_of_lt h7]
  rw [← hv, dN_vah _ (by rw [List.length_set]; exact h) hl]
set_option maxRecDepth 100000 in
set_option maxHeartbeats 8000000 in
theorem read_any (s : List UInt8) (w : World) (hs : s.length = 32) : Calls Tryd.prog 30 #[.string (bs s)] w fun e w' => e = .returned (.agg (niC (dN (num s % two255)))) ∧ Below w.heap.size w w' := by
  have hz := zero48
  have hA1 : Iar ((w.alloc (.cells (niC Z16) 48)).alloc (.cells (niC Z16) 48)) w.heap.size 48 Z16 := (Iar.new w 48 Z16).alloc _
  have hA2 : Iar ((w.alloc (.cells (niC Z16) 48)).alloc (.cells (niC Z16) 48)) (w.heap.size + 1) 48 Z16 := by
    have h := Iar.new (w.alloc (.cells (niC Z16) 48)) 48 Z16
    rwa [World.size_alloc] at h
  have hB : Below w.heap.size w ((w.alloc (.cells (niC Z16) 48)).alloc (.cells (niC Z16) 48)) := bstep1 (bstep1 (Below.refl _ _))
  have H0 : Hid (Iar ((w.alloc (.cells (niC Z16) 48)).alloc (.cells (niC Z16) 48)) w.heap.size 48 Z16 ∧ Iar ((w.alloc (.cells (niC Z16) 48)).alloc (.cells (niC Z16) 48)) (w.heap.size + 1) 48 (mkL (two8 s) 0) ∧ Below w.heap.size w ((w.alloc (.cells (niC Z16) 48)).alloc (.cells (niC Z16) 48))) := Lib.hid ⟨hA1, by rw [mkL_zero]; exact hA2, hB⟩
  have hsz : (bs s).size = 32 := by rw [bs_size]; exact hs
  have HG : Hid (∀ j (h : j < (bs s).size), (bs s)[j] = s.getD j 0) := Lib.hid (fun j h => by
    have : (bs s)[j] = s[j]'(by rw [bs_size] at h; exact h) := rfl
    rw [this, List.getD_eq_getElem?_getD, List.getElem?_eq_getElem]; rfl)
  have HFIN : Hid ((mkL (two8 s) 16).set 15 (two8 s 15 % 32768) = dN (num s % two255)) := Lib.hid (by
    have h := top_cut (mkL (two8 s) 16) (mkL_length _ _) (fun x hx => by have := mkL_le (two8 s) 16 65535 (fun i _ => by have := two8_lt s i; omega) x hx; omega)
    rw [show (mkL (two8 s) 16).getD 15 0 = two8 s 15 by simp [mkL], mkL_map, vah_two8 16 s hs, ← mkL_map] at h
    exact h)
  generalize bs s = S at hsz HG ⊢
  clear hA1 hA2 hB hs
  go_enter Tryd.func30, Tryd.ntmps30
  go_upto_region 2 with fail
  clear hz
  generalize World.alloc (World.alloc w _) _ = V at H0 ⊢
  go_wp2
  go_loopw [4] (fun i wr => ∃ k : Nat, k ≤ 16 ∧ i = .int .i64 (k : Int) ∧ Hid (Iar wr w.heap.size 48 Z16 ∧ Iar wr (w.heap.size + 1) 48 (mkL (two8 s) k) ∧ Below w.heap.size w wr)) (fun i _ => 16 - (intOf i).toNat)
  case atStart => exact ⟨0, by omega, rfl, H0⟩
  case round =>
    clear H0
    obtain ⟨k, hk, rfl, H1⟩ := hrel
    by_cases hlt : k < 16
    · have hki : (k : Int) < 16 := by omega
      have co := H1.out.2.1.getD (i := k) (by rw [mkL_length]; exact hlt)
      have cf := H1.out.2.1.free k
      obtain ⟨p, hp⟩ : ∃ p, 2 * k = p := ⟨_, rfl⟩
      obtain ⟨p1, hp1⟩ : ∃ p1, p + 1 = p1 := ⟨_, rfl⟩
      have hpS : p < S.size := by omega
      have hp1S : p1 < S.size := by omega
      have hx0 := HG.out p hpS
      have hy0 := HG.out p1 hp1S
      obtain ⟨x, hx⟩ : ∃ x, (s.getD p 0).toNat = x := ⟨_, rfl⟩
      obtain ⟨y, hy⟩ : ∃ x, (s.getD p1 0).toNat = x := ⟨_, rfl⟩
      have hSx : (S[p]).toNat = x := by rw [hx0]; exact hx
      have hSy : (S[p1]).toNat = y := by rw [hy0]; exact hy
      have hx8 : x < 256 := by rw [← hx]; exact (s.getD p 0).toNat_lt
      have hy8 : y < 256 := by rw [← hy]; exact (s.getD p1 0).toNat_lt
      obtain ⟨y2, hy2⟩ : ∃ z, 256 * y = z := ⟨_, rfl⟩
      obtain ⟨z, hz⟩ : ∃ z, x + y2 = z := ⟨_, rfl⟩
      have hzz : z = two8 s k := by unfold two8; rw [hp, hp1, hx, hy, hy2, hz]
      have R2 := H1.out.2.1.set k z
      rw [hzz, mkL_set _ _ hlt, ← hzz] at R2
      have R1 := H1.out.1.other (a := ⟨w.heap.size + 1, k, none⟩) (show w.heap.size ≠ w.heap.size + 1 by omega) (li z)
      have RB := H1.out.2.2.setCell (p := ⟨w.heap.size + 1, k, none⟩) (show w.heap.size ≤ w.heap.size + 1 by omega) (li z)
      have HR := Lib.hid (And.intro R1.drew (And.intro R2.drew RB.drew))
      generalize (mkL (two8 s) k).getD k 0 = old at co
      have a1 : (2 : Int) * (k : Int) = (p : Int) := by omega
      have a2 : (p : Int) + 1 = (p1 : Int) := by omega
      have a3 : (256 : Int) * (y : Int) = (y2 : Int) := by omega
      have a4 : (x : Int) + (y2 : Int) = (z : Int) := by omega
      have hpi : (p : Int) < (S.size : Int) := by omega
      have hp1i : (p1 : Int) < (S.size : Int) := by omega
      have hzB : z < 9223372036854775808 := by omega
      have hyB : y2 < 9223372036854775808 := by omega
      have hpB : p < 9223372036854775808 := by omega
      have hp1B : p1 < 9223372036854775808 := by omega
      have hxB : x < 9223372036854775808 := by omega
      have hyyB : y < 9223372036854775808 := by omega
      clear hp hp1 hx0 hy0 hx hy hx8 hy8 hy2 hz hzz R1 R2 RB H1 hsz
      have b1 := i64_nat hpB
      have b2 := i64_nat hp1B
      have b3 := i64_nat hyB
      have b4 := i64_nat hxB
      have b5 := i64_nat hyyB
      have b6 := w64_nat hzB
      clear hzB hyB hpB hp1B hxB hyyB
      go_upto_region 5 with fail
      refine wp_region_still_tail 15 (by kernel_rfl) (by kernel_rfl) ?_
      change wpStill _ _ (World.drew wr) (fun a' => wpList _ _ _ _ a' (World.drew wr)) _ _
      simp only [List.take_succ_cons, List.take_zero, List.drop_succ_cons, List.drop_zero]
      repeat still_step
      refine wpStill_nil ?_
      go_wp2
      go_roundw
      case rel => exact ⟨k + 1, by omega, by go_num, HR⟩
      case measure => simp [intOf]; omega
    · obtain rfl : k = 16 := by omega
      have cx := H1.out.2.1.getD (i := 15) (by rw [mkL_length]; decide)
      have cf := H1.out.2.1.free 15
      rw [show (mkL (two8 s) 16).getD 15 0 = two8 s 15 by simp [mkL]] at cx
      have R2 := H1.out.2.1.set 15 (two8 s 15 % 32768)
      rw [HFIN.out] at R2
      have hxb := two8_lt s 15
      obtain ⟨x, hx⟩ : ∃ x, two8 s 15 = x := ⟨_, rfl⟩
      rw [hx] at cx R2 hxb
      have a1 : (x : Int).tmod 32768 = ((x % 32768 : Nat) : Int) := by rw [Int.tmod_eq_emod_of_nonneg (by omega)]; rfl
      have a2 : (x : Int) % 32768 = ((x % 32768 : Nat) : Int) := rfl
      generalize hzm : x % 32768 = z at a1 a2 R2
      have hzb : z < 32768 := by omega
      have R1 := H1.out.1.other (a := ⟨w.heap.size + 1, 15, none⟩) (show w.heap.size ≠ w.heap.size + 1 by omega) (li z)
      have RB := H1.out.2.2.setCell (p := ⟨w.heap.size + 1, 15, none⟩) (show w.heap.size ≤ w.heap.size + 1 by omega) (li z)
      have HR := Lib.hid (And.intro R1 (And.intro R2 RB))
      have RB2 := Lib.hid (below_setRow RB (Nat.le_refl _) (niC (dN (num s % two255))))
      have R12 := Lib.hid (R1.row (dN (num s % two255)))
      clear R1 R2 RB H1 hx hzm HFIN
      go_wp2_with (first | (refine wpList_load_row rfl 48 _ rfl (w.heap.size + 1) rfl 48 (niC (dN (num s % two255))) (0, 0) _ HR.out.2.1 Tryd.underlying48 rfl (by rw [size48, niC_size, dN_length]) ?_) | (refine wpList_store_row rfl 48 _ _ rfl w.heap.size (niC (dN (num s % two255))) rfl rfl 48 _ HR.out.1 (by rw [size48, niC_size, dN_length]) (by rw [niC_size, niC_size, dN_length]; rfl) (niC_one _) ?_))
      exact bodyPost_ret (v := .agg (niC (dN (num s % two255)))) (results_cell_row (p := 2) (ty := 48) Tryd.results30 _ _ w.heap.size 48 _ (0, 0) _ rfl R12.out Tryd.underlying48 rfl (by rw [size48, niC_size, dN_length])) rfl ⟨rfl, RB2.out⟩
end Go.Proofs.YtbadiljligcenaaDoor
