/- Contract of times: the rest of a product. -/
import Derived.Test.YtnfefkcfifnjnaaDoorMC
namespace Go.Proofs.YtnfefkcfifnjnaaDoor
open Go.RowKit Go.ChangeShapes
theorem size107 (w : World) : (sizeOf 107).run Tryd.prog w = .ok 1 w := by kernel_rfl
theorem agg107 (w : World) : (isAgg 107).run Tryd.prog w = .ok false w := by kernel_rfl
theorem idx_limb (l : List Nat) (hl : l.length = 5) (k : Nat) (w : World) (hk : k < 5) : (Instr.index 108 (.agg (lsC l)) (.int .i64 (k : Int))).run Tryd.prog w = .ok (ld (l.getD k 0)) w :=
  run_index_ls w 108 107 5 l .i64 k Tryd.underlying108 hl hk (size107 w) (agg107 w)
/-- What the loops keep: k of 25 products are added. -/
structure Ts (w : World) (n f : List Nat) (k : Nat) (wr : World) : Prop where
  hn : Lar wr w.heap.size 110 n
  hf : Lar wr (w.heap.size + 1) 110 f
  hr : Lar wr (w.heap.size + 2) 110 [0, 0, 0, 0, 0]
  hp : Lar wr (w.heap.size + 3) 110 (prodN n f k)
  hb : Below w.heap.size w wr
theorem Ts.set {w : World} {n f : List Nat} {k : Nat} {wr : World} (h : Ts w n f k wr) (i z : Nat) (e : (prodN n f k).set i z = prodN n f (k + 1)) : Ts w n f (k + 1) (wr.setCell ⟨w.heap.size + 3, i, none⟩ (ld z)) :=
  ⟨h.hn.other (a := ⟨w.heap.size + 3, i, none⟩) (by simp) _, h.hf.other (a := ⟨w.heap.size + 3, i, none⟩) (by simp) _, h.hr.other (a := ⟨w.heap.size + 3, i, none⟩) (by simp) _, by rw [← e]; exact h.hp.set i z, h.hb.setCell (p := ⟨w.heap.size + 3, i, none⟩) (by simp) _⟩
theorem prod_at (n f : List Nat) (i j : Nat) (hj : j < 5) : prodN n f (5 * i + j + 1) = (prodN n f (5 * i + j)).set ((i + j) % 5) ((prodN n f (5 * i + j)).getD ((i + j) % 5) 0 + (if 5 ≤ i + j then 5 else 1) * (n.getD i 0 * f.getD j 0)) := by
  rw [prodN, show (5 * i + j) / 5 = i by omega, show (5 * i + j) % 5 = j by omega]
set_option maxRecDepth 100000 in
set_option maxHeartbeats 8000000 in
theorem times_any (n f : List Nat) (w : World) (hn : n.length = 5) (hf : f.length = 5) (hnb : ∀ x ∈ n, x ≤ 134217728) (hfb : ∀ x ∈ f, x ≤ 67108864) :
    Calls Tryd.prog 96 #[.agg (lsC n), .agg (lsC f)] w fun e w' => e = .returned (nv (val n * val f % pP)) ∧ Below w.heap.size w w' := by
  have h1 := (((Lar.new w 110 n).alloc (.cells (lsC f) 110)).alloc (.cells (lsC [0, 0, 0, 0, 0]) 110)).alloc (.cells (lsC [0, 0, 0, 0, 0]) 110)
  have h2 := ((Lar.new (w.alloc (.cells (lsC n) 110)) 110 f).alloc (.cells (lsC [0, 0, 0, 0, 0]) 110)).alloc (.cells (lsC [0, 0, 0, 0, 0]) 110)
  have h3 := (Lar.new ((w.alloc (.cells (lsC n) 110)).alloc (.cells (lsC f) 110)) 110 [0, 0, 0, 0, 0]).alloc (.cells (lsC [0, 0, 0, 0, 0]) 110)
  have h4 := Lar.new (((w.alloc (.cells (lsC n) 110)).alloc (.cells (lsC f) 110)).alloc (.cells (lsC [0, 0, 0, 0, 0]) 110)) 110 [0, 0, 0, 0, 0]
  simp only [World.size_alloc] at h2 h3 h4
  have hB : Below w.heap.size w ((((w.alloc (.cells (lsC n) 110)).alloc (.cells (lsC f) 110)).alloc (.cells (lsC [0, 0, 0, 0, 0]) 110)).alloc (.cells (lsC [0, 0, 0, 0, 0]) 110)) := by go_grown
  have HT : Hid (Ts w n f 0 ((((w.alloc (.cells (lsC n) 110)).alloc (.cells (lsC f) 110)).alloc (.cells (lsC [0, 0, 0, 0, 0]) 110)).alloc (.cells (lsC [0, 0, 0, 0, 0]) 110))) := Lib.hid ⟨h1, h2, h3, h4, hB⟩
  have HI := Lib.hid (idx_limb n hn)
  have HJ := Lib.hid (idx_limb f hf)
  have HN := Lib.hid hn
  have HF := Lib.hid hf
  have HNB := Lib.hid hnb
  have HFB := Lib.hid hfb
  clear h1 h2 h3 h4 hB hn hf hnb hfb
  go_enter Tryd.func96, Tryd.ntmps96
  go_wp2_with (refine wpList_load_row rfl 108 _ rfl w.heap.size rfl 110 (lsC n) (0, 0) _ HT.out.hn Tryd.underlying108 rfl (by rw [size108, lsC_size, HN.out]) ?_)
  go_loopw [14] (fun i wr => ∃ k : Nat, k ≤ 5 ∧ i = .int .i64 k ∧ Hid (Ts w n f (5 * k) wr)) (fun i _ => 5 - (intOf i).toNat)
  case atStart => exact ⟨0, by omega, rfl, HT⟩
  case round =>
    clear HT
    obtain ⟨i, hi, rfl, HT⟩ := hrel
    by_cases hlt : i < 5
    · have hix := HI.out i wr hlt
      obtain ⟨x, hx⟩ : ∃ x, n.getD i 0 = x := ⟨_, rfl⟩
      have hxb : x ≤ 134217728 := by rw [← hx]; exact getD_le HNB.out i
      rw [hx] at hix
      have HX := Lib.hid hx
      have hi5 : (i : Int) < 5 := by omega
      clear hx
      go_wp2_with (refine wpList_load_row rfl 108 _ rfl (w.heap.size + 1) rfl 110 (lsC f) (0, 0) _ HT.out.hf Tryd.underlying108 rfl (by rw [size108, lsC_size, HF.out]) ?_)
      clear hix
      go_loopw [20] (fun jv wr => ∃ j : Nat, j ≤ 5 ∧ jv = .int .i64 j ∧ Hid (Ts w n f (5 * i + j) wr)) (fun jv _ => 5 - (intOf jv).toNat)
      case atStart => exact ⟨0, by omega, rfl, HT⟩
      case round =>
        clear HT
        obtain ⟨j, hj, rfl, HT⟩ := hrel
        by_cases hltj : j < 5
        · have hjx := HJ.out j wr hltj
          obtain ⟨y, hy⟩ : ∃ x, f.getD j 0 = x := ⟨_, rfl⟩
          have hyb : y ≤ 67108864 := by rw [← hy]; exact getD_le HFB.out j
          rw [hy] at hjx
          obtain ⟨p, hp⟩ : ∃ p, x * y = p := ⟨_, rfl⟩
          have hpb : p ≤ 9007199254740992 := by
            have := Nat.mul_le_mul hxb hyb
            omega
          have a1 : IntKind.u64.wrap ((x : Int) * (y : Int)) = (p : Int) := by rw [← Int.natCast_mul, hp]; exact u64_back (by omega)
          obtain ⟨m, hm⟩ : ∃ m, (i + j) % 5 = m := ⟨_, rfl⟩
          have hlen := prodN_length n f (5 * i + j)
          have cx := HT.out.hp.getD (i := m) (by omega)
          have cf := HT.out.hp.free m
          obtain ⟨c, hc⟩ : ∃ c, (prodN n f (5 * i + j)).getD m 0 = c := ⟨_, rfl⟩
          have hcb : c ≤ (5 * i + j) * (5 * (134217728 * 67108864)) := by rw [← hc]; exact getD_le (prodN_le n f (5 * i + j) _ _ HNB.out HFB.out) m
          have hcb2 : c ≤ 1080863910568919040 := by
            have := Nat.mul_le_mul_right (5 * (134217728 * 67108864)) (show 5 * i + j ≤ 24 by omega)
            omega
          have hat := prod_at n f i j hltj
          rw [hm, hc, HX.out, hy, hp] at hat
          rw [hc] at cx
          have hk1 : 5 * i + (j + 1) = 5 * i + j + 1 := by omega
          have hj5 : (j : Int) < 5 := by omega
          have hm5 : m < 5 := by omega
          by_cases h5 : 5 ≤ i + j
          · rw [if_pos h5] at hat
            obtain ⟨r, hr⟩ : ∃ r, 5 * p = r := ⟨_, rfl⟩
            obtain ⟨z, hz⟩ : ∃ z, c + r = z := ⟨_, rfl⟩
            rw [hr, hz] at hat
            have a2 : IntKind.u64.wrap (5 * (p : Int)) = (r : Int) := by rw [← hr]; exact IntWalk.u64_in _ (by omega)
            have a3 : IntKind.u64.wrap ((c : Int) + (r : Int)) = (z : Int) := by rw [← Int.natCast_add, hz]; exact u64_back (by omega)
            have b1 : (5 : Int) ≤ (i : Int) + (j : Int) := by omega
            have b2 : (i : Int) + (j : Int) - 5 = (m : Int) := by omega
            have HS := Lib.hid (HT.out.set m z hat.symm)
            rw [← hk1] at HS
            clear hat hc hcb hcb2 hm hy hp hr hz hlen hpb hyb hk1
            go_wp2
            go_roundw
            case rel => exact ⟨j + 1, by omega, by go_num, HS⟩
            case measure => simp [intOf]; omega
          · rw [if_neg h5, Nat.one_mul] at hat
            obtain ⟨z, hz⟩ : ∃ z, c + p = z := ⟨_, rfl⟩
            rw [hz] at hat
            have a3 : IntKind.u64.wrap ((c : Int) + (p : Int)) = (z : Int) := by rw [← Int.natCast_add, hz]; exact u64_back (by omega)
            have b1 : ¬ (5 : Int) ≤ (i : Int) + (j : Int) := by omega
            have b2 : (i : Int) + (j : Int) = (m : Int) := by omega
            have HS := Lib.hid (HT.out.set m z hat.symm)
            rw [← hk1] at HS
            clear hat hc hcb hcb2 hm hy hp hz hlen hpb hyb hk1
            go_wp2
            go_roundw
            case rel => exact ⟨j + 1, by omega, by go_num, HS⟩
            case measure => simp [intOf]; omega
        · obtain rfl : j = 5 := by omega
          have e : 5 * i + 5 = 5 * (i + 1) := by omega
          rw [e] at HT
          go_wp2
          go_roundw
          case rel => exact ⟨i + 1, by omega, by go_num, HT⟩
          case measure => simp [intOf]; omega
    · obtain rfl : i = 5 := by omega
      have hlen := prodN_length n f 25
      have hz := HT.out.hb.size
      have hs := rest_any (prodN n f 25) wr hlen (fun x hx => by have := prodN_le n f 25 _ _ HNB.out HFB.out x hx; omega)
      rw [prodN_val n f 25 (Nat.le_refl _), sumN_full n f HN.out HF.out] at hs
      have HS := Lib.hid hs
      have HL := Lib.hid hlen
      clear hs hlen
      go_wp2_with (first | (refine wpList_load_row rfl 110 _ rfl (w.heap.size + 3) rfl 110 (lsC (prodN n f 25)) (0, 0) _ HT.out.hp Tryd.underlying110 rfl (by rw [size110, lsC_size, HL.out]) ?_) | (go_at_call 102; (with_reducible refine HS.out.mono ?_); rintro e w2 ⟨rfl, hb2⟩; have HR2 := Lib.hid (HT.out.hr.below hb2 HT.out.hr.lt); have HB2 := Lib.hid (HT.out.hb.trans (hb2.mono hz)); clear hb2) | (refine wpList_store_row rfl 110 _ _ rfl (w.heap.size + 2) (lsC (lm (val n * val f % pP))) rfl rfl 110 _ HR2.out (by rw [size110, lsC_size, lm_length]) (by rw [lsC_size, lsC_size, lm_length]; rfl) (lsC_one _) ?_))
      exact bodyPost_ret (v := nv (val n * val f % pP)) (results_cell_row (p := 4) (ty := 110) Tryd.results96 _ _ (w.heap.size + 2) 110 _ (0, 0) _ rfl (HR2.out.row (lm (val n * val f % pP))) Tryd.underlying110 rfl (by rw [size110, lsC_size, lm_length])) rfl ⟨rfl, below_setRow HB2.out (by omega) _⟩
end Go.Proofs.YtnfefkcfifnjnaaDoor
