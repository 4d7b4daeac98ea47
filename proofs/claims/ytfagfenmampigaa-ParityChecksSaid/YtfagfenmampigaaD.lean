/- Contracts of stepsWith, after, checkBehind. -/
import Derived.Test.YtfagfenmampigaaC
namespace Go.Proofs.Ytfagfenmampigaa
open Go.RowKit Go.ChangeShapes
/-- The table, of which the first k places are filled. -/
def tabL (c k : Nat) : List Nat := (List.range 256).map fun i => if i < k then e8 c i else 0
theorem tabL_length (c k : Nat) : (tabL c k).length = 256 := by simp [tabL]
theorem tabL_getD (c k i : Nat) (h : i < 256) : (tabL c k).getD i 0 = if i < k then e8 c i else 0 := by simp [tabL, List.getD_eq_getElem?_getD, h]
theorem tabL_set (c k : Nat) (h : k < 256) : (tabL c k).set k (e8 c k) = tabL c (k + 1) := by
  apply List.ext_getElem (by simp [tabL])
  intro i h1 h2
  simp only [tabL, List.getElem_set, List.getElem_map, List.getElem_range]
  by_cases e : k = i
  · subst e; rw [if_pos rfl, if_pos (by omega)]
  · rw [if_neg e]
    by_cases h3 : i < k
    · rw [if_pos h3, if_pos (by omega)]
    · rw [if_neg h3, if_neg (by omega)]
theorem tabL_one (c : Nat) : tabL c 1 = List.replicate 256 0 := by
  apply List.ext_getElem (by rw [tabL_length, List.length_replicate])
  intro i h1 h2
  simp only [tabL, List.getElem_map, List.getElem_range, List.getElem_replicate]
  by_cases h : i < 1
  · rw [if_pos h, show i = 0 by omega]; exact nst_zero c 8
  · rw [if_neg h]
/-- The table of the steps. -/
def tab (c : Nat) : List Nat := tabL c 256
theorem tab_getD (c i : Nat) (h : i < 256) : (tab c).getD i 0 = e8 c i := by unfold tab; rw [tabL_getD _ _ _ h, if_pos h]
theorem e8_add (c m l : Nat) (h : l < 2 ^ m) : e8 c (2 ^ m + l) = e8 c (2 ^ m) ^^^ e8 c l := by
  have h1 := mod_succ (2 ^ m + l) m
  have h2 : (2 ^ m + l) / 2 ^ m = 1 := by
    rw [Nat.add_comm, Nat.add_div_right _ (Nat.two_pow_pos m), Nat.div_eq_of_lt h]
  have h3 : (2 ^ m + l) % 2 ^ m = l := by rw [Nat.add_mod_left, Nat.mod_eq_of_lt h]
  have h4 : (2 ^ m + l) % 2 ^ (m + 1) = 2 ^ m + l := Nat.mod_eq_of_lt (by rw [Nat.pow_succ]; omega)
  rw [h2, h3, h4, if_pos rfl] at h1
  rw [h1]
  unfold e8
  rw [nst_xor, Nat.xor_comm]
theorem e8_W {c n : Nat} (hc : isW c) (hn : isW n) : isW (e8 c n) := nst_W hc hn 8
/-- 256 words 0. -/
def Z256 : Array Value := lsC (List.replicate 256 0)
theorem zero94 (w : World) : (zeroValue 94).run Try.prog w = .ok (.agg Z256) w := by kernel_rfl
theorem Z256_tab (c : Nat) : Z256 = lsC (tabL c 1) := by rw [tabL_one]; rfl
set_option maxRecDepth 100000 in
set_option maxHeartbeats 8000000 in
theorem steps_any (c : Nat) (w : World) (hc : isW c) : Calls Try.prog 34 #[ld c] w fun e w' => e = .returned (.pointer (some ⟨w.heap.size, 0, none⟩)) ∧ Lar w' w.heap.size 94 (tab c) ∧ Below w.heap.size w w' := by
  have HE := Lib.hid (fun n W (hn : isW n) => eight_any n c W hn hc)
  have HA := Lib.hid (fun m l (h : l < 2 ^ m) => e8_add c m l h)
  have HC := Lib.hid hc
  have HW := Lib.hid (fun n (hn : isW n) => e8_W hc hn)
  have h0 := Lar.new w 94 (tabL c 1)
  have hB : Below w.heap.size w (w.alloc (.cells (lsC (tabL c 1)) 94)) := by go_grown
  rw [← Z256_tab] at h0 hB
  have hz := zero94
  have H0 := Lib.hid h0
  have HB := Lib.hid hB
  clear h0 hB hc
  go_enter Try.func34, Try.ntmps34
  go_upto_region 2 with fail
  clear hz
  generalize World.alloc w _ = V at H0 HB ⊢
  go_wp2
  go_loopw [4, 5] (fun a _ wr => ∃ m : Nat, m ≤ 8 ∧ a = .int .i64 ((2 ^ m : Nat) : Int) ∧ Hid (Lar wr w.heap.size 94 (tabL c (2 ^ m))) ∧ Hid (Below w.heap.size w wr)) (fun a _ _ => (257 - intOf a).toNat)
  case atStart => exact ⟨0, by omega, rfl, H0, HB⟩
  case round =>
    clear H0 HB
    obtain ⟨m, hm, rfl, HR, HB⟩ := hrel
    have hp : 2 ^ m = 1 ∨ 2 ^ m = 2 ∨ 2 ^ m = 4 ∨ 2 ^ m = 8 ∨ 2 ^ m = 16 ∨ 2 ^ m = 32 ∨ 2 ^ m = 64 ∨ 2 ^ m = 128 ∨ 2 ^ m = 256 := by
      have : m = 0 ∨ m = 1 ∨ m = 2 ∨ m = 3 ∨ m = 4 ∨ m = 5 ∨ m = 6 ∨ m = 7 ∨ m = 8 := by omega
      rcases this with rfl | rfl | rfl | rfl | rfl | rfl | rfl | rfl | rfl <;> decide
    have hm8 : m < 8 → 2 ^ m ≤ 128 := fun h => by
      have := Nat.pow_le_pow_right (show 0 < 2 by decide) (show m ≤ 7 by omega)
      simpa using this
    have hs : 2 ^ (m + 1) = 2 * 2 ^ m := by rw [Nat.pow_succ]; omega
    have HAm := Lib.hid (fun l (h : l < 2 ^ m) => HA.out m l h)
    by_cases hlt : m < 8
    · have hb := hm8 hlt
      generalize 2 ^ m = b at hp hb hs HR HAm ⊢
      have HS := Lib.hid hs
      have HP := Lib.hid (show b ≠ 0 ∧ isW b ∧ b ≤ 128 by unfold isW; omega)
      clear hp hm8 hs
      have hb1 : (b : Int) < 256 := by omega
      have hb2 : (b : Int) ≤ 4294967295 := by omega
      have hcv : IntKind.u32.wrap (b : Int) = (b : Int) := IntWalk.u32_in _ (by omega)
      have hbn : b < 256 := by omega
      have cb := HR.out.getD (i := b) (by rw [tabL_length]; omega)
      have fb := HR.out.free b
      have HR2 : Hid (Lar (wr.setCell ⟨w.heap.size, b, none⟩ (ld (e8 c b))) w.heap.size 94 (tabL c (b + 1))) := Lib.hid (by
        have h := HR.out.set b (e8 c b)
        rwa [tabL_set c b hbn] at h)
      have HB2 : Hid (Below w.heap.size w (wr.setCell ⟨w.heap.size, b, none⟩ (ld (e8 c b)))) := Lib.hid (HB.out.setCell (Nat.le_refl _) _)
      clear HR HB
      go_wp2_with (go_at_call 51; (with_reducible refine (HE.out b _ HP.out.2.1).mono ?_); rintro e w' ⟨rfl, rfl⟩)
      generalize World.setCell _ _ _ = V2 at HR2 HB2 ⊢
      clear cb fb
      go_loopw [5] (fun a wx => ∃ l : Nat, 1 ≤ l ∧ l ≤ b ∧ a = .int .i64 (l : Int) ∧ Hid (Lar wx w.heap.size 94 (tabL c (b + l))) ∧ Hid (Below w.heap.size w wx)) (fun a _ => b - (intOf a).toNat)
      case atStart => exact ⟨1, by omega, by have := HP.out.1; omega, rfl, HR2, HB2⟩
      case round =>
        clear HR2 HB2
        obtain ⟨l, hl1, hl2, rfl, HR, HB⟩ := hrel
        by_cases hlb : l < b
        · have hbl : b + l < 256 := by have := HP.out.2.2; omega
          have c1 := HR.out.getD (i := b) (by rw [tabL_length]; omega)
          have c2 := HR.out.getD (i := l) (by rw [tabL_length]; omega)
          have c3 := HR.out.getD (i := b + l) (by rw [tabL_length]; omega)
          have f3 := HR.out.free (b + l)
          rw [tabL_getD _ _ _ hbn, if_pos (by omega)] at c1
          rw [tabL_getD _ _ _ (by omega), if_pos (by omega)] at c2
          have hx := u32_xor (HW.out b HP.out.2.1) (HW.out l (by unfold isW; omega))
          have he := HAm.out l hlb
          rw [← he] at hx
          have HR2 : Hid (Lar (wr.drew.setCell ⟨w.heap.size, b + l, none⟩ (ld (e8 c (b + l)))) w.heap.size 94 (tabL c (b + (l + 1)))) := Lib.hid (by
            have h := HR.out.drew.set (b + l) (e8 c (b + l))
            rwa [tabL_set c (b + l) hbl] at h)
          have HB2 : Hid (Below w.heap.size w (wr.drew.setCell ⟨w.heap.size, b + l, none⟩ (ld (e8 c (b + l))))) := Lib.hid (HB.out.drew.setCell (Nat.le_refl _) _)
          clear he HR HB
          have hlt' : (l : Int) < (b : Int) := by omega
          have HU0 := Lib.hid (show wr.drew.cell? ⟨w.heap.size, b, none⟩ = some (ld (e8 c b)) ∧ wr.drew.cell? ⟨w.heap.size, l, none⟩ = some (ld (e8 c l)) from ⟨c1, c2⟩)
          have HF := Lib.hid (And.intro c3 f3)
          clear c1 c2 c3 f3
          have i1 : (l : Int) < 256 := by omega
          have i2 : (b : Int) + (l : Int) < 256 := by omega
          have i3 : (0 : Int) ≤ (b : Int) + (l : Int) := by omega
          have i4 : IntKind.i64.wrap ((b : Int) + (l : Int)) = (b : Int) + (l : Int) := IntWalk.i64_in _ (by omega)
          have i5 : ((b : Int) + (l : Int)).toNat = b + l := by omega
          have HS3 := Lib.hid (And.intro HR2.out HB2.out)
          go_wp2
          refine region_anyC (fun _ => True) (fun w' => w'.cell? ⟨w.heap.size, b, none⟩ = some (ld (e8 c b)) ∧ w'.cell? ⟨w.heap.size, l, none⟩ = some (ld (e8 c l))) [11] (by kernel_rfl) ?_
          refine anyC_takeS (i := 0) (oi := ⟨some 21, _, _, _, _, _⟩) (v := _) rfl (by kernel_rfl) (by kernel_rfl) (by kernel_rfl) (by kernel_rfl) (fun _ _ _ h => h) (Or.inl ⟨by rfl, fun w' hw' => (by clear hw'; go_simp; try with_reducible rfl)⟩) trivial (fun _ => HU0.out) ?_
          try simp only [Act.put, List.setIfInBounds_toArray, List.set_cons_zero, List.set_cons_succ]
          refine anyC_takeS (i := 1) (oi := ⟨some 22, _, _, _, _, _⟩) (v := _) rfl (by kernel_rfl) (by kernel_rfl) (by kernel_rfl) (by kernel_rfl) (fun _ _ _ h => h) (Or.inl ⟨by rfl, fun w' hw' => (by clear hw'; go_simp; try with_reducible rfl)⟩) trivial (fun _ => HU0.out) ?_
          try simp only [Act.put, List.setIfInBounds_toArray, List.set_cons_zero, List.set_cons_succ]
          refine anyC_takeS (i := 2) (oi := ⟨some 23, _, _, _, _, _⟩) (v := _) rfl (by kernel_rfl) (by kernel_rfl) (by kernel_rfl) (by kernel_rfl) (fun _ _ _ h => h) (Or.inl ⟨by rfl, fun w' hw' => (by clear hw'; go_simp; try with_reducible rfl)⟩) trivial (fun _ => HU0.out) ?_
          try simp only [Act.put, List.setIfInBounds_toArray, List.set_cons_zero, List.set_cons_succ]
          refine anyC_takeS (i := 3) (oi := ⟨some 24, _, _, _, _, _⟩) (v := _) rfl (by kernel_rfl) (by kernel_rfl) (by kernel_rfl) (by kernel_rfl) (fun _ _ _ h => h) (Or.inl ⟨by rfl, fun w' hw' => (by clear hw'; go_simp; try with_reducible rfl)⟩) trivial (fun _ => HU0.out) ?_
          try simp only [Act.put, List.setIfInBounds_toArray, List.set_cons_zero, List.set_cons_succ]
          refine anyC_takeS (i := 4) (oi := ⟨some 25, _, _, _, _, _⟩) (v := _) rfl (by kernel_rfl) (by kernel_rfl) (by kernel_rfl) (by kernel_rfl) (fun _ _ _ h => h) (Or.inl ⟨by rfl, fun w' hw' => (by clear hw'; go_simp; try with_reducible rfl)⟩) trivial (fun _ => HU0.out) ?_
          try simp only [Act.put, List.setIfInBounds_toArray, List.set_cons_zero, List.set_cons_succ]
          refine anyC_takeU (i := 5) (oi := ⟨some 26, _, _, _, _, _⟩) (v := _) rfl (by kernel_rfl) (by kernel_rfl) (by kernel_rfl) (by kernel_rfl) (fun _ _ _ h => h) (Or.inl ⟨by rfl, fun w' hw' => (by obtain ⟨u1, u2⟩ := hw'; go_simp; try with_reducible rfl)⟩) trivial HU0.out ?_
          try simp only [Act.put, List.setIfInBounds_toArray, List.set_cons_zero, List.set_cons_succ]
          refine anyC_takeS (i := 6) (oi := ⟨some 27, _, _, _, _, _⟩) (v := _) rfl (by kernel_rfl) (by kernel_rfl) (by kernel_rfl) (by kernel_rfl) (fun _ _ _ h => h) (Or.inl ⟨by rfl, fun w' hw' => (by clear hw'; go_simp; try with_reducible rfl)⟩) trivial (fun _ => HU0.out) ?_
          try simp only [Act.put, List.setIfInBounds_toArray, List.set_cons_zero, List.set_cons_succ]
          refine anyC_takeS (i := 7) (oi := ⟨some 28, _, _, _, _, _⟩) (v := _) rfl (by kernel_rfl) (by kernel_rfl) (by kernel_rfl) (by kernel_rfl) (fun _ _ _ h => h) (Or.inl ⟨by rfl, fun w' hw' => (by clear hw'; go_simp; try with_reducible rfl)⟩) trivial (fun _ => HU0.out) ?_
          try simp only [Act.put, List.setIfInBounds_toArray, List.set_cons_zero, List.set_cons_succ]
          refine anyC_takeU (i := 8) (oi := ⟨some 29, _, _, _, _, _⟩) (v := _) rfl (by kernel_rfl) (by kernel_rfl) (by kernel_rfl) (by kernel_rfl) (fun _ _ _ h => h) (Or.inl ⟨by rfl, fun w' hw' => (by obtain ⟨u1, u2⟩ := hw'; go_simp; try with_reducible rfl)⟩) trivial HU0.out ?_
          try simp only [Act.put, List.setIfInBounds_toArray, List.set_cons_zero, List.set_cons_succ]
          refine anyC_takeS (i := 9) (oi := ⟨some 30, _, _, _, _, _⟩) (v := _) rfl (by kernel_rfl) (by kernel_rfl) (by kernel_rfl) (by kernel_rfl) (fun _ _ _ h => h) (Or.inl ⟨by rfl, fun w' hw' => (by clear hw'; go_simp; try with_reducible rfl)⟩) trivial (fun _ => HU0.out) ?_
          try simp only [Act.put, List.setIfInBounds_toArray, List.set_cons_zero, List.set_cons_succ]
          refine anyC_takeS (i := 10) (oi := ⟨some 31, _, _, _, _, _⟩) (v := _) rfl (by kernel_rfl) (by kernel_rfl) (by kernel_rfl) (by kernel_rfl) (fun _ _ _ h => h) (Or.inl ⟨by rfl, fun w' hw' => (by clear hw'; go_simp; try with_reducible rfl)⟩) trivial (fun _ => HU0.out) ?_
          try simp only [Act.put, List.setIfInBounds_toArray, List.set_cons_zero, List.set_cons_succ]
          refine anyC_keep (i := 11) (o := ⟨none, _, _, _, _, _⟩) (by kernel_rfl) rfl (fun K hK => ?_)
          rw [if_pos (by rfl)]
          obtain ⟨c3, f3⟩ := HF.out
          go_simp
          refine hK.out _ _ ⟨trivial, (fun h => absurd h (by decide))⟩ ?_
          clear hK K
          try simp only [Act.put, List.setIfInBounds_toArray, List.set_cons_zero, List.set_cons_succ]
          refine anyC_done (by kernel_rfl) ?_ _
          go_wp2
          go_roundw
          case rel => exact ⟨l + 1, by omega, by omega, by go_num, HR2, HB2⟩
          case measure => simp [intOf]; omega
        · obtain rfl : l = b := by omega
          have h256 : (l : Int) * 2 ≤ 256 := by have := HP.out.2.2; omega
          have HR2 : Hid (Lar wr w.heap.size 94 (tabL c (2 ^ (m + 1)))) := Lib.hid (by rw [HS.out, Nat.two_mul]; exact HR.out)
          clear HR
          go_wp2
          go_roundw
          case rel => exact ⟨m + 1, by omega, by rw [HS.out]; congr 1; omega, HR2, HB⟩
          case measure => simp [intOf]; have := HP.out; omega
    · obtain rfl : m = 8 := by omega
      have HR2 : Hid (Lar wr w.heap.size 94 (tab c)) := HR
      clear hm8 hp hs HR
      have e8' : ((2 ^ 8 : Nat) : Int) = 256 := rfl
      rw [e8']
      go_wp2
      go_ret
      exact ⟨rfl, HR2.out, HB.out⟩
set_option maxRecDepth 100000 in
set_option maxHeartbeats 2000000 in
theorem after_any (c n g : Nat) (w : World) (hc : isW c) (hn : isW n) (hT : Lar w g 94 (tab c)) : Calls Try.prog 52 #[.pointer (some ⟨g, 0, none⟩), ld n] w fun e w' => e = .returned (ld (e8 c n)) ∧ w' = w := by
  have hs := e8_split c n
  have hl := hT.getD (i := n % 256) (by rw [tab, tabL_length]; omega)
  rw [tab_getD c _ (Nat.mod_lt _ (by decide))] at hl
  obtain ⟨q, hq⟩ : ∃ q, n / 256 = q := ⟨_, rfl⟩
  obtain ⟨r, hr⟩ : ∃ q, n % 256 = q := ⟨_, rfl⟩
  rw [hq, hr] at hs
  rw [hr] at hl
  have hrl : r < 256 := by omega
  have hqW : isW q := by unfold isW at hn ⊢; omega
  have hx := u32_xor (e8_W hc (show isW r by unfold isW; omega)) hqW
  rw [← hs] at hx
  unfold isW at hn
  have hcv : IntKind.u8.wrap (n : Int) = (r : Int) := by rw [IntKind.wrap_u8]; omega
  have hcv2 : (n : Int) % 256 = (r : Int) := by omega
  have hi : (r : Int) < 256 := by omega
  have hsh : (n : Int) / 256 = (q : Int) := by omega
  have hsh2 : ∀ w, (Op.shift BinOp.shr IntKind.u32 (n : Int) IntKind.u64 8).run Try.prog w = .ok (.int .u32 (q : Int)) w := by
    intro w
    rw [shift_shr_any _ _ _ _ (by omega)]
    rw [show min (8 : Int).toNat IntKind.u32.bits = 8 by decide, ← hsh]
    rfl
  clear hT hs hq hr hc hqW
  go_enter Try.func52, Try.ntmps52
  go_wp2
  go_ret
  exact ⟨rfl, rfl⟩
end Go.Proofs.Ytfagfenmampigaa
