/- Contracts of matrixOf, twice, powers. -/
import Derived.Test.YtfagfenmampigaaI
namespace Go.Proofs.Ytfagfenmampigaa
open Go.RowKit Go.ChangeShapes
theorem shl_val (k : Nat) (h : k < 32) : (2 : Int) ^ k % 4294967296 = ((2 ^ k : Nat) : Int) := by
  have hp := p32 h
  unfold isW at hp
  have : (2 : Int) ^ k = ((2 ^ k : Nat) : Int) := by simp
  rw [this]
  clear this
  generalize 2 ^ k = p at hp ⊢
  omega
theorem below_st {w W : World} {g : Nat} (h : Below w.heap.size w W) (hg : w.heap.size ≤ g) (i : Nat) (v : Value) : Below w.heap.size w (W.setCell ⟨g, i, none⟩ v) := h.setCell hg v
set_option maxRecDepth 100000 in
set_option maxHeartbeats 4000000 in
theorem matrix_any (c g : Nat) (w : World) (hc : isW c) (hT : Lar w g 94 (tab c)) :
    Calls Try.prog 54 #[.func (.func 52) #[.pointer (some ⟨g, 0, none⟩)] #[]] w fun e w' => e = .returned (.agg (lsC (mat (e8 c)))) ∧ Below w.heap.size w w' := by
  have hz := zero101
  have hgl := hT.lt
  have h1 : Lar ((w.alloc (.cells Z32 101)).alloc (.cells Z32 101)) w.heap.size 101 (matK (e8 c) 0) := by
    have h := (Lar.new w 101 (matK (e8 c) 0)).alloc (.cells Z32 101)
    rwa [← Z32_mat] at h
  have h2 : Lar ((w.alloc (.cells Z32 101)).alloc (.cells Z32 101)) (w.heap.size + 1) 101 (matK (e8 c) 0) := by
    have h := Lar.new (w.alloc (.cells Z32 101)) 101 (matK (e8 c) 0)
    rwa [← Z32_mat, World.size_alloc] at h
  have hB : Below w.heap.size w ((w.alloc (.cells Z32 101)).alloc (.cells Z32 101)) := by go_grown
  have HA := Lib.hid (fun x W (hx : isW x) (hb : Below w.heap.size w W) => after_any c x g W hc hx (hT.below hb hgl))
  have HS := Lib.hid (fun k (h : k < 32) => matK_set (e8 c) k h)
  have H0 := Lib.hid (And.intro h1 (And.intro h2 hB))
  have HF := Lib.hid (show Lar ((w.alloc (.cells Z32 101)).alloc (.cells Z32 101)) w.heap.size 101 (matK (e8 c) 0) from h1)
  have HSH := Lib.hid shl_val
  have HML := Lib.hid (fun k => matK_length (e8 c) k)
  clear hT hgl h1 h2 hB hc
  go_enter Try.func54, Try.ntmps54
  go_upto_region 2 with fail
  clear hz
  generalize World.alloc (World.alloc w _) _ = V at H0 HF ⊢
  go_wp2
  go_loopw [4, 5] (fun _ i wr => ∃ k : Nat, k ≤ 32 ∧ i = .int .i64 (k : Int) ∧ Hid (Lar wr w.heap.size 101 (matK (e8 c) 0)) ∧ Hid (Lar wr (w.heap.size + 1) 101 (matK (e8 c) k)) ∧ Hid (Below w.heap.size w wr)) (fun _ i _ => 32 - (intOf i).toNat)
  case atStart => exact ⟨0, by omega, rfl, Lib.hid H0.out.1, Lib.hid H0.out.2.1, Lib.hid H0.out.2.2⟩
  case round =>
    clear H0 HF
    obtain ⟨k, hk, rfl, H1, H2, HB⟩ := hrel
    by_cases hlt : k < 32
    · have hsh := HSH.out k hlt
      have hki : (k : Int) < 32 := by omega
      have hp := p32 hlt
      have ck := H2.out.getD (i := k) (by rw [HML.out]; exact hlt)
      have fk := H2.out.free k
      have HAK := Lib.hid (HA.out (2 ^ k) wr hp HB.out)
      have R2 : Hid (Lar (wr.setCell ⟨w.heap.size + 1, k, none⟩ (ld (e8 c (2 ^ k)))) (w.heap.size + 1) 101 (matK (e8 c) (k + 1))) := Lib.hid (by
        have h := H2.out.set k (e8 c (2 ^ k))
        rwa [HS.out k hlt] at h)
      have R1 : Hid (Lar (wr.setCell ⟨w.heap.size + 1, k, none⟩ (ld (e8 c (2 ^ k)))) w.heap.size 101 (matK (e8 c) 0)) := Lib.hid (H1.out.other (a := ⟨w.heap.size + 1, k, none⟩) (by simp) _)
      have RB : Hid (Below w.heap.size w (wr.setCell ⟨w.heap.size + 1, k, none⟩ (ld (e8 c (2 ^ k))))) := Lib.hid (below_st HB.out (by omega) k _)
      generalize 2 ^ k = p at hsh hp HAK R1 R2 RB
      clear hp H1 H2 HB
      go_wp2_with (go_at_call 52; (with_reducible refine HAK.out.mono ?_); rintro e w' ⟨rfl, rfl⟩)
      go_roundw
      case rel => exact ⟨k + 1, by omega, by go_num, R1, R2, RB⟩
      case measure => simp [intOf]; omega
    · obtain rfl : k = 32 := by omega
      have RB := Lib.hid (below_setRow HB.out (Nat.le_refl _) (lsC (matK (e8 c) 32)))
      have R1 := Lib.hid (H1.out.row (matK (e8 c) 32))
      have HF := Lib.hid (matK_full (e8 c))
      have HL := Lib.hid (show (lsC (matK (e8 c) 32)).size = 32 ∧ (lsC (matK (e8 c) 0)).size = 32 by rw [lsC_size, lsC_size, matK_length, matK_length]; exact ⟨rfl, rfl⟩)
      go_wp2_with (first | (refine wpList_load_row rfl 101 _ rfl (w.heap.size + 1) rfl 101 (lsC (matK (e8 c) 32)) (0, 0) _ H2.out Try.underlying101 rfl (by rw [size101, HL.out.1]) ?_) | (refine wpList_store_row rfl 101 _ _ rfl w.heap.size (lsC (matK (e8 c) 32)) rfl rfl 101 _ H1.out (by rw [size101, HL.out.1]) (by rw [HL.out.1, HL.out.2]) (lsC_one _) ?_))
      exact bodyPost_ret (v := .agg (lsC (matK (e8 c) 32))) (results_cell_row (p := 2) (ty := 101) Try.results54 _ _ w.heap.size 101 _ (0, 0) _ rfl R1.out Try.underlying101 rfl (by rw [size101, HL.out.1])) rfl ⟨by rw [HF.out], RB.out⟩
theorem mat_comp (f : Nat → Nat) (k : Nat) (h : k < 32) : f ((mat f).getD k 0) = f (f (2 ^ k)) := by rw [mat_get f h]
set_option maxRecDepth 100000 in
set_option maxHeartbeats 4000000 in
theorem twice_any (f : Nat → Nat) (w : World) (hf : Lin f) (hW : ∀ x, isW x → isW (f x)) :
    Calls Try.prog 61 #[.agg (lsC (mat f))] w fun e w' => e = .returned (.agg (lsC (mat (fun x => f (f x))))) ∧ Below w.heap.size w w' := by
  have hz := zero101
  obtain ⟨F, hF⟩ : ∃ F : Nat → Nat, F = fun x => f (f x) := ⟨_, rfl⟩
  have hFk : ∀ k, F (2 ^ k) = f (f (2 ^ k)) := fun k => by rw [hF]
  rw [← hF]
  have h0 : Lar (((w.alloc (.cells (lsC (mat f)) 101)).alloc (.cells Z32 101)).alloc (.cells Z32 101)) w.heap.size 101 (mat f) := ((Lar.new w 101 _).alloc _).alloc _
  have h1 : Lar (((w.alloc (.cells (lsC (mat f)) 101)).alloc (.cells Z32 101)).alloc (.cells Z32 101)) (w.heap.size + 1) 101 (matK F 0) := by
    have h := (Lar.new (w.alloc (.cells (lsC (mat f)) 101)) 101 (matK F 0)).alloc (.cells Z32 101)
    rwa [← Z32_mat, World.size_alloc] at h
  have h2 : Lar (((w.alloc (.cells (lsC (mat f)) 101)).alloc (.cells Z32 101)).alloc (.cells Z32 101)) (w.heap.size + 1 + 1) 101 (matK F 0) := by
    have h := Lar.new ((w.alloc (.cells (lsC (mat f)) 101)).alloc (.cells Z32 101)) 101 (matK F 0)
    rwa [← Z32_mat, World.size_alloc, World.size_alloc] at h
  have hB : Below w.heap.size w (((w.alloc (.cells (lsC (mat f)) 101)).alloc (.cells Z32 101)).alloc (.cells Z32 101)) := by go_grown
  have HA := Lib.hid (fun x W (hx : isW x) => apply_any f x W hf hW hx)
  have HS := Lib.hid (fun k (h : k < 32) => matK_set F k h)
  have H0 := Lib.hid (And.intro h0 (And.intro h1 (And.intro h2 hB)))
  have HI := Lib.hid (fun i W (h : i < 32) => idx101 W (mat f) i (mat_length f) h)
  have HG := Lib.hid (fun i (h : i < 32) => mat_get f (b := i) h)
  have HML := Lib.hid (fun k => matK_length F k)
  have HSZ := Lib.hid (show (lsC (mat f)).size = 32 by rw [lsC_size, mat_length])
  have HFK := Lib.hid hFk
  have HW := Lib.hid hW
  have HFULL := Lib.hid (matK_full F)
  clear h0 h1 h2 hB hf hW hFk hF
  go_enter Try.func61, Try.ntmps61
  go_upto_region 2 with fail
  clear hz
  generalize World.alloc (World.alloc (World.alloc w _) _) _ = V at H0 ⊢
  go_wp2_with (refine wpList_load_row rfl 101 _ rfl w.heap.size rfl 101 (lsC (mat f)) (0, 0) _ H0.out.1 Try.underlying101 rfl (by rw [size101, HSZ.out]) ?_)
  go_loopw [4, 5, 7] (fun _ _ i wr => ∃ k : Nat, k ≤ 32 ∧ i = .int .i64 (k : Int) ∧ Hid (Lar wr w.heap.size 101 (mat f)) ∧ Hid (Lar wr (w.heap.size + 1) 101 (matK F 0)) ∧ Hid (Lar wr (w.heap.size + 1 + 1) 101 (matK F k)) ∧ Hid (Below w.heap.size w wr)) (fun _ _ i _ => 32 - (intOf i).toNat)
  case atStart => exact ⟨0, by omega, rfl, Lib.hid H0.out.1, Lib.hid H0.out.2.1, Lib.hid H0.out.2.2.1, Lib.hid H0.out.2.2.2⟩
  case round =>
    clear H0
    obtain ⟨k, hk, rfl, H0, H1, H2, HB⟩ := hrel
    by_cases hlt : k < 32
    · have hi := fun W => HI.out k W hlt
      rw [HG.out k hlt] at hi
      have hki : (k : Int) < 32 := by omega
      have hcw := HW.out _ (p32 hlt)
      have HAK := Lib.hid (HA.out (f (2 ^ k)) wr hcw)
      have hfk := HFK.out k
      have hset := HS.out k hlt
      generalize f (2 ^ k) = x at hi HAK hfk
      rw [hfk] at hset
      have HSET := Lib.hid hset
      clear hcw hfk hset
      go_wp2_with (refine wpList_load_row rfl 101 _ rfl w.heap.size rfl 101 (lsC (mat f)) (0, 0) _ H0.out Try.underlying101 rfl (by rw [size101, HSZ.out]) ?_)
      (with_reducible refine HAK.out.mono ?_)
      rintro e w2 ⟨rfl, hb⟩
      have G0 := Lib.hid (H0.out.below hb H0.out.lt)
      have G1 := Lib.hid (H1.out.below hb H1.out.lt)
      have G2 := H2.out.below hb H2.out.lt
      have GB := Lib.hid (bstep HB.out hb)
      have ck := G2.getD (i := k) (by rw [HML.out]; exact hlt)
      have fk := G2.free k
      have R2 : Hid (Lar (w2.setCell ⟨w.heap.size + 1 + 1, k, none⟩ (ld (f x))) (w.heap.size + 1 + 1) 101 (matK F (k + 1))) := Lib.hid (by
        have h := G2.set k (f x)
        rwa [HSET.out] at h)
      have R0 : Hid (Lar (w2.setCell ⟨w.heap.size + 1 + 1, k, none⟩ (ld (f x))) w.heap.size 101 (mat f)) := Lib.hid (G0.out.other (a := ⟨w.heap.size + 1 + 1, k, none⟩) (by simp; omega) _)
      have R1 : Hid (Lar (w2.setCell ⟨w.heap.size + 1 + 1, k, none⟩ (ld (f x))) (w.heap.size + 1) 101 (matK F 0)) := Lib.hid (G1.out.other (a := ⟨w.heap.size + 1 + 1, k, none⟩) (by simp) _)
      have RB : Hid (Below w.heap.size w (w2.setCell ⟨w.heap.size + 1 + 1, k, none⟩ (ld (f x)))) := Lib.hid (below_st GB.out (by omega) k _)
      clear hb H0 H1 H2 HB G2 HAK
      go_wp2
      go_roundw
      case rel => exact ⟨k + 1, by omega, by go_num, R0, R1, R2, RB⟩
      case measure => simp [intOf]; omega
    · obtain rfl : k = 32 := by omega
      have RB := Lib.hid (below_setRow HB.out (show w.heap.size ≤ w.heap.size + 1 by omega) (lsC (matK F 32)))
      have R1 := Lib.hid (H1.out.row (matK F 32))
      have HL := Lib.hid (show (lsC (matK F 32)).size = 32 ∧ (lsC (matK F 0)).size = 32 by rw [lsC_size, lsC_size, matK_length, matK_length]; exact ⟨rfl, rfl⟩)
      go_wp2_with (first | (refine wpList_load_row rfl 101 _ rfl (w.heap.size + 1 + 1) rfl 101 (lsC (matK F 32)) (0, 0) _ H2.out Try.underlying101 rfl (by rw [size101, HL.out.1]) ?_) | (refine wpList_store_row rfl 101 _ _ rfl (w.heap.size + 1) (lsC (matK F 32)) rfl rfl 101 _ H1.out (by rw [size101, HL.out.1]) (by rw [HL.out.1, HL.out.2]) (lsC_one _) ?_))
      exact bodyPost_ret (v := .agg (lsC (matK F 32))) (results_cell_row (p := 2) (ty := 101) Try.results61 _ _ (w.heap.size + 1) 101 _ (0, 0) _ rfl R1.out Try.underlying101 rfl (by rw [size101, HL.out.1])) rfl ⟨by rw [HFULL.out], RB.out⟩
theorem powers_any (M : List Nat) (w : World) : Calls Try.prog 55 #[.agg (lsC M)] w fun e w' => e = .returned (.func (.func 59) #[] #[.pointer (some ⟨w.heap.size, 0, none⟩)]) ∧ w' = w.alloc (.cells (lsC M) 101) := by
  have hmf : ∀ (fn : Fn) (first cap : Array Value) (w : World), (Instr.makeFunc fn first cap).run Try.prog w = .ok (.func fn first cap) w := fun _ _ _ _ => rfl
  go_enter Try.func55, Try.ntmps55
  go_wp2
  go_ret
  exact ⟨rfl, rfl⟩
end Go.Proofs.Ytfagfenmampigaa
