/- The reference's Result: the ladder. -/
import Derived.Test.YtbadiljligcenaaDoorGM
import Derived.Test.YtbadiljligcenaaDoorFJ
namespace Go.Proofs.YtbadiljligcenaaDoor
open Go.RowKit Go.ChangeShapes
theorem ks_nil {W : World} : Ks W [] := fun x hx => (by cases hx)
theorem ks_cons {W : World} {g r : Nat} {l : List (Nat × Nat)} (h : Iar W g 48 (dN r)) (t : Ks W l) : Ks W ((g, r) :: l) := fun x hx => by
  rcases List.mem_cons.1 hx with rfl | hx
  · exact h
  · exact t x hx
/-- Four numbers stand for the ladder's. -/
abbrev R4 (a b c d : Nat) (x : St) : Prop := Rq a x.a ∧ Rq b x.b ∧ Rq c x.c ∧ Rq d x.d
def swIf (t : Bool) (x : St) : St := if t then swapN x else x
theorem swIf_true (x : St) : swIf true x = swapN x := rfl
theorem swIf_false (x : St) : swIf false x = x := rfl
theorem round_sw (u : Nat) (t : Bool) (x : St) : roundN u t x = swIf t (stepN u (swIf t x)) := by unfold roundN swIf; cases t <;> simp only [Bool.false_eq_true, ↓reduceIte]
def Le2 (x : St) : Prop := x.a ≤ 2 * pC ∧ x.b ≤ 2 * pC ∧ x.c ≤ 2 * pC ∧ x.d ≤ 2 * pC
theorem Le2.sw {x : St} (h : Le2 x) (t : Bool) : Le2 (swIf t x) := by
  cases t
  · exact h
  · exact ⟨h.2.2.1, h.2.2.2, h.1, h.2.1⟩
theorem R4.sw {a b c d : Nat} {x : St} (h : R4 a b c d x) : R4 c d a b (swapN x) := ⟨h.2.2.1, h.2.2.2, h.1, h.2.1⟩
theorem Rq.lt {r x : Nat} (h : Rq r x) : r < two256 := h.1
theorem mu_le (a b : Nat) : muN a b ≤ 2 * pC := by have := muN_lt a b; omega
theorem pow_rel {b x : Nat} (h : Rq b x) (W : World) : Calls Tryd.prog 36 #[.agg (niC (dN b))] W fun e w' => ∃ r, e = .returned (.agg (niC (dN r))) ∧ (r < two256 ∧ r % pC = powN (b % pC) P2 255) ∧ Below W.heap.size W w' := by
  refine (power_any b W h.1).mono ?_
  rintro e w' ⟨⟨r, rfl, hr, hm⟩, hb⟩
  exact ⟨r, rfl, ⟨hr, hm⟩, hb⟩
theorem prod_rel {a q : Nat} (ha : a < two256) (hq : q < two256) (W : World) : Calls Tryd.prog 34 #[.agg (niC (dN a)), .agg (niC (dN q))] W fun e w' => ∃ r, e = .returned (.agg (niC (dN r))) ∧ (r < two256 ∧ r % pC = (a * q) % pC) ∧ Below W.heap.size W w' := by
  refine (prod_any a q W ha hq).mono ?_
  rintro e w' ⟨⟨r, rfl, hr, hm⟩, hb⟩
  exact ⟨r, rfl, ⟨hr, hm⟩, hb⟩
theorem c_and1g (x : Nat) (h : x < 256) : bits .and .u8 (x : Int) 1 = ((x % 2 : Nat) : Int) := by
  have := List.all_eq_true.1 (show (List.range 256).all (fun n => bits .and .u8 (n : Int) 1 == ((n % 2 : Nat) : Int)) = true by decide +kernel) x (List.mem_range.2 h)
  simpa using this
theorem four_perm {w W : World} {x y z t q : Nat × Nat} (h : Sr w [x, y, z, t, q] W) : Sr w [y, x, z, t, q] W := h.perm (List.Perm.swap _ _ _)
set_option maxRecDepth 100000 in
set_option maxHeartbeats 40000000 in
theorem result_any (s p : List UInt8) (u0 : Nat) (w : World) (hs : s.length = 32) (hp : p.length = 32) (hu : num p % two255 % pC = u0 % pC) (hu0 : u0 ≤ 2 * pC) :
    Calls Tryd.prog 18 #[.string (bs s), .string (bs p)] w fun e w' => e = .returned (.string (bs (octV (resN s u0) 32))) ∧ Below w.heap.size w w' := by
  have hz := zero48
  obtain ⟨v, hv⟩ : ∃ v, num p % two255 = v := ⟨_, rfl⟩
  have hvl : v < two256 := by rw [← hv]; have : num p % two255 < two255 := Nat.mod_lt _ (by decide); have : two255 < two256 := (by decide); omega
  have HRD := Lib.hid (fun W => read_any p W hp)
  rw [hv] at HRD hu
  have HCL := Lib.hid (fun W => rclamp s W hs)
  have hRu : Rq v u0 := ⟨hvl, hu⟩
  have HU := Lib.hid (And.intro hRu hu0)
  have hcl : (clN s).length = 32 := by rw [clN_length, hs]
  obtain ⟨cl, hcs⟩ : ∃ cl, clN s = cl := ⟨_, rfl⟩
  rw [hcs] at HCL hcl
  have hres : resN s u0 = quoN (ladN u0 cl 255) := by unfold resN; rw [hcs]
  have HRES := Lib.hid hres
  obtain ⟨KB, hKB⟩ : ∃ KB, bs cl = KB := ⟨_, rfl⟩
  have hget : ∀ k (h : k < (bs cl).size), (bs cl)[k] = cl.getD k 0 := fun k h => bs_idx cl k h
  have hsz : (bs cl).size = 32 := by rw [bs_size, hcl]
  rw [hKB] at HCL hget hsz
  have HG := Lib.hid hget
  have H0 := Lib.hid (Sr.start w)
  obtain ⟨SB, hSB⟩ : ∃ SB, bs s = SB := ⟨_, rfl⟩
  obtain ⟨PB, hPB⟩ : ∃ PB, bs p = PB := ⟨_, rfl⟩
  rw [hSB] at HCL ⊢
  rw [hPB] at HRD ⊢
  clear hv hvl hu hRu hu0 hcl hcs hKB hget hSB hPB hres hs hp
  go_enter Tryd.func18, Tryd.ntmps18
  go_wp2_with fail
  (with_reducible refine (HCL.out _).mono ?_)
  rintro e W1 ⟨rfl, hb⟩
  have HN := Lib.hid (H0.out.below hb)
  clear hb H0
  go_wp2_with fail
  (with_reducible refine (HRD.out _).mono ?_)
  rintro e W2 ⟨rfl, hb⟩
  have HN := Lib.hid (HN.out.below hb).new
  clear hb
  generalize hGu : W2.heap.size = Gu at HN
  have HGU := Lib.hid hGu
  clear hGu
  go_upto_region 3 with (refine wpList_store_row rfl 48 _ _ rfl Gu (niC (dN v)) (by rw [← HGU.out]; rfl) rfl 48 _ (HN.out.k (Gu, 0) (.head _)) (by rw [size48, niC_size, dN_length]) (by simp only [niC_size, dN_length]) (niC_one _) ?_)
  rw [HGU.out]
  have HN : Hid (Sr w [(Gu, v)] ((W2.alloc Z16o).setRow Gu (niC (dN v)))) := Lib.hid (HN.out.at [] v)
  generalize (W2.alloc Z16o).setRow Gu (niC (dN v)) = W3 at HN ⊢
  clear HGU
  simp only [Act.put]
  go_cut [7, 8, 9, 10] (fun a7 a8 a9 a10 wx => ∃ Ga Gb Gc Gd, a7 = .pointer (some ⟨Ga, 0, none⟩) ∧ a8 = .pointer (some ⟨Gb, 0, none⟩) ∧ a9 = .pointer (some ⟨Gc, 0, none⟩) ∧ a10 = .pointer (some ⟨Gd, 0, none⟩) ∧ Hid (Sr w [(Ga, 1), (Gb, 0), (Gc, v), (Gd, 1), (Gu, v)] wx))
  case first =>
    go_wp2_with fail
    refine region_anyC (fun w' => Iar w' Gu 48 (dN v)) (fun _ => True) [] (by kernel_rfl) ?_
    have HN := Lib.hid HN.out.drew
    generalize World.drew W3 = W0 at HN ⊢
    refine anyC_takeS (i := 2) (oi := ⟨some 26, _, _, _, _, _⟩) (v := .agg (niC (dN v))) rfl (by kernel_rfl) (by kernel_rfl) (by kernel_rfl) (by kernel_rfl) (fun _ _ _ h => h) (yieldsIf_load_ni (by rfl) _ rfl Gu v rfl (fun w' hw' => hw')) (HN.out.k (Gu, v) (.head _)) (fun _ => trivial) ?_
    try simp only [Act.put, List.setIfInBounds_toArray, List.set_cons_zero, List.set_cons_succ]
    refine phase3_start w Gu v _ (o0 := ⟨some 24, _, _, _, _, _⟩) (o1 := ⟨some 25, _, _, _, _, _⟩) (o3 := ⟨some 27, _, _, _, _, _⟩) (o4 := ⟨some 7, _, _, _, _, _⟩) (o5 := ⟨some 8, _, _, _, _, _⟩) (o6 := ⟨some 9, _, _, _, _, _⟩) (o7 := ⟨some 10, _, _, _, _, _⟩) (by rfl) (by rfl) (by rfl) (by rfl) (by rfl) (by rfl) (by rfl) ?_ ?_ ?_ ?_ ?_ ?_ ?_ ?_ ?_ ?_ ?_ W0 HN.out
    · exact ⟨rfl, rfl, rfl, rfl, rfl, rfl, rfl⟩
    · intro y; exact ⟨rfl, rfl, rfl, rfl, rfl, rfl, rfl⟩
    · intro a W; clear HN; go_simp; try with_reducible rfl
    · intro a W; clear HN; go_simp; try with_reducible rfl
    · intro a W; clear HN; go_simp; try with_reducible rfl
    · intro a W; clear HN; go_simp; try with_reducible rfl
    · intro a W; clear HN; go_simp; try with_reducible rfl
    · intro a W; clear HN; go_simp; try with_reducible rfl
    · intro a W; clear HN; go_simp; try with_reducible rfl
    · kernel_rfl
    · intro Ga Gb Gc Gd W1 hS
      have HN := Lib.hid hS
      clear hS
      simp only [frA, putIf, ↓reduceIte]
      try simp only [Act.put, List.setIfInBounds_toArray, List.set_cons_zero, List.set_cons_succ]
      refine anyC_keep (i := 8) (o := ⟨none, _, _, _, _, _⟩) (by kernel_rfl) rfl (fun K hK => ?_)
      rw [if_pos (by rfl)]
      refine wp_put [] Ga 1 HN rfl rfl rfl fun V0 HN => ?_
      refine hK.out _ _ ⟨(HN.out.k (Gu, v) (.tail _ (.tail _ (.tail _ (.tail _ (.head _)))))), fun _ => trivial⟩ ?_
      clear hK K
      try simp only [Act.put, List.setIfInBounds_toArray, List.set_cons_zero, List.set_cons_succ]
      refine anyC_keep (i := 9) (o := ⟨none, _, _, _, _, _⟩) (by kernel_rfl) rfl (fun K hK => ?_)
      rw [if_pos (by rfl)]
      refine wp_put [(Ga, 1)] Gb 0 HN rfl rfl rfl fun V1 HN => ?_
      refine hK.out _ _ ⟨(HN.out.k (Gu, v) (.tail _ (.tail _ (.tail _ (.tail _ (.head _)))))), fun _ => trivial⟩ ?_
      clear hK K
      try simp only [Act.put, List.setIfInBounds_toArray, List.set_cons_zero, List.set_cons_succ]
      refine anyC_keep (i := 10) (o := ⟨none, _, _, _, _, _⟩) (by kernel_rfl) rfl (fun K hK => ?_)
      rw [if_pos (by rfl)]
      refine wp_put [(Ga, 1), (Gb, 0)] Gc v HN rfl rfl rfl fun V2 HN => ?_
      refine hK.out _ _ ⟨(HN.out.k (Gu, v) (.tail _ (.tail _ (.tail _ (.tail _ (.head _)))))), fun _ => trivial⟩ ?_
      clear hK K
      try simp only [Act.put, List.setIfInBounds_toArray, List.set_cons_zero, List.set_cons_succ]
      refine anyC_keep (i := 11) (o := ⟨none, _, _, _, _, _⟩) (by kernel_rfl) rfl (fun K hK => ?_)
      rw [if_pos (by rfl)]
      refine wp_put [(Ga, 1), (Gb, 0), (Gc, v)] Gd 1 HN rfl rfl rfl fun V3 HN => ?_
      refine hK.out _ _ ⟨(HN.out.k (Gu, v) (.tail _ (.tail _ (.tail _ (.tail _ (.head _)))))), fun _ => trivial⟩ ?_
      clear hK K
      try simp only [Act.put, List.setIfInBounds_toArray, List.set_cons_zero, List.set_cons_succ]
      refine anyC_done (by kernel_rfl) ?_ _
      go_wp2_with fail
      go_meet
      exact ⟨Ga, Gb, Gc, Gd, rfl, rfl, rfl, rfl, HN⟩
  case rest =>
    obtain ⟨Ga, Gb, Gc, Gd, rfl, rfl, rfl, rfl, HN⟩ := hcut
    clear HCL HRD
    go_wp2_with fail
    go_loopw [11] (fun i wr => ∃ k : Nat, k ≤ 255 ∧ i = .int .i64 (254 - (k : Int)) ∧ ∃ a b c d : Nat, Hid (R4 a b c d (ladN u0 cl k)) ∧ Hid (Sr w [(Ga, a), (Gb, b), (Gc, c), (Gd, d), (Gu, v)] wr)) (fun i _ => (intOf i + 1).toNat)
    case atStart => exact ⟨0, by omega, rfl, 1, 0, v, 1, Lib.hid ⟨rq_small (by decide), rq_small (by decide), HU.out.1, rq_small (by decide)⟩, HN⟩
    case round =>
      clear HN
      obtain ⟨k, hk, rfl, a, b, c, d, HX, HN⟩ := hrel
      by_cases hlt : k < 255
      · obtain ⟨t, ht⟩ : ∃ t, 254 - k = t := ⟨_, rfl⟩
        have ht1 : 254 - (k : Int) = (t : Int) := by omega
        have ht2 : t ≤ 254 := by omega
        rw [ht1]
        obtain ⟨x, hx⟩ : ∃ x, ladN u0 cl k = x := ⟨_, rfl⟩
        have hl2 : Le2 x := by rw [← hx]; exact lad_le u0 cl HU.out.2 k
        have hnext : ladN u0 cl (k + 1) = roundN u0 (bitN cl (254 - k)) x := by rw [← hx]; rfl
        rw [ht, round_sw] at hnext
        rw [hx] at HX
        obtain ⟨q, hq⟩ : ∃ q, t / 8 = q := ⟨_, rfl⟩
        obtain ⟨r, hr⟩ : ∃ q, t % 8 = q := ⟨_, rfl⟩
        have hq32 : q < 32 := by omega
        have q1 : (t : Int) / 8 = (q : Int) := by omega
        have r1 : (t : Int) % 8 = (r : Int) := by omega
        have q2 : (t : Int).tdiv 8 = (q : Int) := by rw [Int.tdiv_eq_ediv_of_nonneg (by omega)]; omega
        have r2 : (t : Int).tmod 8 = (r : Int) := by rw [Int.tmod_eq_emod_of_nonneg (by omega)]; omega
        have t0 : (0 : Int) ≤ (t : Int) := by omega
        have r0 : (0 : Int) ≤ (r : Int) := by omega
        have qs : q < KB.size := by omega
        have hcb : KB[q] = cl.getD q 0 := HG.out q qs
        have hbit : bitN cl t = ((cl.getD q 0).toNat / 2 ^ r % 2 == 1) := by unfold bitN; rw [hq, hr]
        rw [← hcb] at hbit
        have hxl : KB[q].toNat / 2 ^ r < 256 := by have := KB[q].toNat_lt; have := Nat.div_le_self KB[q].toNat (2 ^ r); omega
        obtain ⟨xx, hxx⟩ : ∃ x, KB[q].toNat / 2 ^ r = x := ⟨_, rfl⟩
        rw [hxx] at hbit hxl
        have x1 : (KB[q].toNat : Int) / 2 ^ r = (xx : Int) := by rw [← hxx]; simp
        have x2 := c_and1g xx hxl
        obtain ⟨y, hy⟩ : ∃ y, xx % 2 = y := ⟨_, rfl⟩
        rw [hy] at x2 hbit
        have hbi : (y == 1) = ((y : Int) == 1) := by rw [Bool.eq_iff_iff, beq_iff_eq, beq_iff_eq]; omega
        rw [hbi] at hbit
        rw [hbit] at hnext
        have HT := Lib.hid ht1
        have HNX := Lib.hid hnext
        have HL2 := Lib.hid hl2
        clear hq hr hcb hxl hxx hy hbit hbi hnext hl2 hx ht
        go_upto_if 42 with fail
        clear x1 x2 q1 q2 r1 r2
        go_cut [42] from 28 to 102 (fun _ wx => ∃ a2 b2 c2 d2, Hid (R4 a2 b2 c2 d2 (swIf ((y : Int) == 1) x)) ∧ Hid (Sr w [(Ga, a2), (Gb, b2), (Gc, c2), (Gd, d2), (Gu, v)] wx))
        case first =>
          by_cases hy1 : (y : Int) = 1
          · have hyb : ((y : Int) == 1) = true := beq_iff_eq.2 hy1
            have HX2 : Hid (R4 c d a b (swIf ((y : Int) == 1) x)) := Lib.hid (by rw [hyb, swIf_true]; exact HX.out.sw)
            go_wp2_with fail
            refine region_anyC (fun _ => True) (fun w' => Ks w' [(Ga, a), (Gb, b), (Gc, c), (Gd, d)]) [4] (by kernel_rfl) ?_
            have HN := Lib.hid HN.out.drew
            generalize World.drew wr = W0 at HN ⊢
            refine anyC_takeU (i := 0) (oi := ⟨some 43, _, _, _, _, _⟩) (v := .agg (niC (dN c))) rfl (by kernel_rfl) (by kernel_rfl) (by kernel_rfl) (by kernel_rfl) (fun _ _ _ h => h) (yieldsIf_load_ni (by rfl) _ rfl Gc c rfl (fun w' hw' => hw' (Gc, c) (.tail _ (.tail _ (.head _))))) trivial (ks_cons (HN.out.k (Ga, a) (.head _)) (ks_cons (HN.out.k (Gb, b) (.tail _ (.head _))) (ks_cons (HN.out.k (Gc, c) (.tail _ (.tail _ (.head _)))) (ks_cons (HN.out.k (Gd, d) (.tail _ (.tail _ (.tail _ (.head _))))) ks_nil)))) ?_
            try simp only [Act.put, List.setIfInBounds_toArray, List.set_cons_zero, List.set_cons_succ]
            refine anyC_takeU (i := 2) (oi := ⟨some 45, _, _, _, _, _⟩) (v := .agg (niC (dN a))) rfl (by kernel_rfl) (by kernel_rfl) (by kernel_rfl) (by kernel_rfl) (fun _ _ _ h => h) (yieldsIf_load_ni (by rfl) _ rfl Ga a rfl (fun w' hw' => hw' (Ga, a) (.head _))) trivial (ks_cons (HN.out.k (Ga, a) (.head _)) (ks_cons (HN.out.k (Gb, b) (.tail _ (.head _))) (ks_cons (HN.out.k (Gc, c) (.tail _ (.tail _ (.head _)))) (ks_cons (HN.out.k (Gd, d) (.tail _ (.tail _ (.tail _ (.head _))))) ks_nil)))) ?_
            try simp only [Act.put, List.setIfInBounds_toArray, List.set_cons_zero, List.set_cons_succ]
            refine anyC_takeU (i := 3) (oi := ⟨some 46, _, _, _, _, _⟩) (v := .agg (niC (dN b))) rfl (by kernel_rfl) (by kernel_rfl) (by kernel_rfl) (by kernel_rfl) (fun _ _ _ h => h) (yieldsIf_load_ni (by rfl) _ rfl Gb b rfl (fun w' hw' => hw' (Gb, b) (.tail _ (.head _)))) trivial (ks_cons (HN.out.k (Ga, a) (.head _)) (ks_cons (HN.out.k (Gb, b) (.tail _ (.head _))) (ks_cons (HN.out.k (Gc, c) (.tail _ (.tail _ (.head _)))) (ks_cons (HN.out.k (Gd, d) (.tail _ (.tail _ (.tail _ (.head _))))) ks_nil)))) ?_
            try simp only [Act.put, List.setIfInBounds_toArray, List.set_cons_zero, List.set_cons_succ]
            refine anyC_two (i := 1) (j := 4) (o1 := ⟨some 44, _, _, _, _, _⟩) (o2 := ⟨none, _, _, _, _, _⟩) (by kernel_rfl) rfl rfl (fun K hK => ?_) (fun K hK => ?_)
            · rw [if_pos (by rfl)]
              refine wp_load_row 48 _ rfl Gd rfl 48 (niC (dN d)) (0, 0) _ (HN.out.k (Gd, d) (.tail _ (.tail _ (.tail _ (.head _))))) Tryd.underlying48 rfl (by rw [size48, niC_size, dN_length]) ?_
              refine hK.out _ _ ⟨trivial, fun _ => (ks_cons (HN.out.k (Ga, a) (.head _)) (ks_cons (HN.out.k (Gb, b) (.tail _ (.head _))) (ks_cons (HN.out.k (Gc, c) (.tail _ (.tail _ (.head _)))) (ks_cons (HN.out.k (Gd, d) (.tail _ (.tail _ (.tail _ (.head _))))) ks_nil))))⟩ ?_
              clear hK K
              try simp only [Act.put, List.setIfInBounds_toArray, List.set_cons_zero, List.set_cons_succ]
              refine anyC_keep (i := 4) (o := ⟨none, _, _, _, _, _⟩) (by kernel_rfl) rfl (fun K hK => ?_)
              rw [if_pos (by rfl)]
              refine wp_put [] Ga c HN rfl rfl rfl fun V0 HN => ?_
              refine hK.out _ _ ⟨trivial, fun h => absurd h (by decide)⟩ ?_
              clear hK K
              try simp only [Act.put]
              refine anyC_keep (i := 5) (o := ⟨none, _, _, _, _, _⟩) (by kernel_rfl) rfl (fun K hK => ?_)
              rw [if_pos (by rfl)]
              refine wp_put [(Ga, c)] Gb d HN rfl rfl rfl fun V1 HN => ?_
              refine hK.out _ _ ⟨trivial, fun h => absurd h (by decide)⟩ ?_
              clear hK K
              try simp only [Act.put]
              refine anyC_keep (i := 6) (o := ⟨none, _, _, _, _, _⟩) (by kernel_rfl) rfl (fun K hK => ?_)
              rw [if_pos (by rfl)]
              refine wp_put [(Ga, c), (Gb, d)] Gc a HN rfl rfl rfl fun V2 HN => ?_
              refine hK.out _ _ ⟨trivial, fun h => absurd h (by decide)⟩ ?_
              clear hK K
              try simp only [Act.put]
              refine anyC_keep (i := 7) (o := ⟨none, _, _, _, _, _⟩) (by kernel_rfl) rfl (fun K hK => ?_)
              rw [if_pos (by rfl)]
              refine wp_put [(Ga, c), (Gb, d), (Gc, a)] Gd b HN rfl rfl rfl fun V3 HN => ?_
              refine hK.out _ _ ⟨trivial, fun h => absurd h (by decide)⟩ ?_
              clear hK K
              try simp only [Act.put]
              refine anyC_done (by kernel_rfl) ?_ _
              go_wp2_with fail
              go_meet
              exact ⟨c, d, a, b, HX2, HN⟩
            · rw [if_pos (by rfl)]
              refine wp_put [] Ga c HN rfl rfl rfl fun V0 HN => ?_
              refine hK.out _ _ ⟨trivial, fun h => absurd h (by decide)⟩ ?_
              clear hK K
              try simp only [Act.put]
              refine anyC_keep (i := 1) (o := ⟨some 44, _, _, _, _, _⟩) (by kernel_rfl) rfl (fun K hK => ?_)
              rw [if_pos (by rfl)]
              refine wp_load_row 48 _ rfl Gd rfl 48 (niC (dN d)) (0, 0) _ (HN.out.k (Gd, d) (.tail _ (.tail _ (.tail _ (.head _))))) Tryd.underlying48 rfl (by rw [size48, niC_size, dN_length]) ?_
              refine hK.out _ _ ⟨trivial, fun h => absurd h (by decide)⟩ ?_
              clear hK K
              try simp only [Act.put, List.setIfInBounds_toArray, List.set_cons_zero, List.set_cons_succ]
              refine anyC_keep (i := 5) (o := ⟨none, _, _, _, _, _⟩) (by kernel_rfl) rfl (fun K hK => ?_)
              rw [if_pos (by rfl)]
              refine wp_put [(Ga, c)] Gb d HN rfl rfl rfl fun V1 HN => ?_
              refine hK.out _ _ ⟨trivial, fun h => absurd h (by decide)⟩ ?_
              clear hK K
              try simp only [Act.put]
              refine anyC_keep (i := 6) (o := ⟨none, _, _, _, _, _⟩) (by kernel_rfl) rfl (fun K hK => ?_)
              rw [if_pos (by rfl)]
              refine wp_put [(Ga, c), (Gb, d)] Gc a HN rfl rfl rfl fun V2 HN => ?_
              refine hK.out _ _ ⟨trivial, fun h => absurd h (by decide)⟩ ?_
              clear hK K
              try simp only [Act.put]
              refine anyC_keep (i := 7) (o := ⟨none, _, _, _, _, _⟩) (by kernel_rfl) rfl (fun K hK => ?_)
              rw [if_pos (by rfl)]
              refine wp_put [(Ga, c), (Gb, d), (Gc, a)] Gd b HN rfl rfl rfl fun V3 HN => ?_
              refine hK.out _ _ ⟨trivial, fun h => absurd h (by decide)⟩ ?_
              clear hK K
              try simp only [Act.put]
              refine anyC_done (by kernel_rfl) ?_ _
              go_wp2_with fail
              go_meet
              exact ⟨c, d, a, b, HX2, HN⟩
          · have hyb : ((y : Int) == 1) = false := beq_false_of_ne hy1
            have HX2 : Hid (R4 a b c d (swIf ((y : Int) == 1) x)) := Lib.hid (by rw [hyb, swIf_false]; exact HX.out)
            go_wp2_with fail
            go_meet
            exact ⟨a, b, c, d, HX2, HN⟩
        case rest =>
          clear HX HN
          obtain ⟨a, b, c, d, HX, HN⟩ := hcut
          obtain ⟨z, hz2⟩ : ∃ z, swIf ((y : Int) == 1) x = z := ⟨_, rfl⟩
          have HLz : Hid (Le2 z) := Lib.hid (by rw [← hz2]; exact HL2.out.sw _)
          rw [hz2] at HX HNX
          clear HL2 hz2
          obtain ⟨xa, xb, xc, xd⟩ := z
          have HRa : Hid (Rq a xa) := Lib.hid HX.out.1
          have HRb : Hid (Rq b xb) := Lib.hid HX.out.2.1
          have HRc : Hid (Rq c xc) := Lib.hid HX.out.2.2.1
          have HRd : Hid (Rq d xd) := Lib.hid HX.out.2.2.2
          have HLb : Hid (xb ≤ 2 * pC) := Lib.hid HLz.out.2.1
          have HLd : Hid (xd ≤ 2 * pC) := Lib.hid HLz.out.2.2.2
          clear HX HLz
          go_upto_region 10 with fail
          go_cut [13, 14] from 28 to 102 (fun a13 a14 wx => ∃ G13 G14 r13 r14, a13 = .pointer (some ⟨G13, 0, none⟩) ∧ a14 = .pointer (some ⟨G14, 0, none⟩) ∧ Hid (Rq r13 (xa + xb)) ∧ Hid (Rq r14 (sbN xa xb)) ∧ Hid (Sr w [(G14, r14), (G13, r13), (Ga, a), (Gb, b), (Gc, c), (Gd, d), (Gu, v)] wx))
          case first =>
            go_wp2_with fail
            refine region_anyC (fun w' => Ks w' [(Ga, a), (Gb, b), (Gc, c), (Gd, d), (Gu, v)]) (fun _ => True) [] (by kernel_rfl) ?_
            have HN := Lib.hid HN.out.drew
            generalize World.drew wc = W0 at HN ⊢
            refine anyC_takeS (i := 0) (oi := ⟨some 47, _, _, _, _, _⟩) (v := .agg (niC (dN a))) rfl (by kernel_rfl) (by kernel_rfl) (by kernel_rfl) (by kernel_rfl) (fun _ _ _ h => h) (yieldsIf_load_ni (by rfl) _ rfl Ga a rfl (fun w' hw' => hw' (Ga, a) (.head _))) (HN.out.k) (fun _ => trivial) ?_
            try simp only [Act.put, List.setIfInBounds_toArray, List.set_cons_zero, List.set_cons_succ]
            refine anyC_takeS (i := 1) (oi := ⟨some 48, _, _, _, _, _⟩) (v := .agg (niC (dN b))) rfl (by kernel_rfl) (by kernel_rfl) (by kernel_rfl) (by kernel_rfl) (fun _ _ _ h => h) (yieldsIf_load_ni (by rfl) _ rfl Gb b rfl (fun w' hw' => hw' (Gb, b) (.tail _ (.head _)))) (HN.out.k) (fun _ => trivial) ?_
            try simp only [Act.put, List.setIfInBounds_toArray, List.set_cons_zero, List.set_cons_succ]
            refine anyC_takeS (i := 3) (oi := ⟨some 50, _, _, _, _, _⟩) (v := .agg (niC (dN a))) rfl (by kernel_rfl) (by kernel_rfl) (by kernel_rfl) (by kernel_rfl) (fun _ _ _ h => h) (yieldsIf_load_ni (by rfl) _ rfl Ga a rfl (fun w' hw' => hw' (Ga, a) (.head _))) (HN.out.k) (fun _ => trivial) ?_
            try simp only [Act.put, List.setIfInBounds_toArray, List.set_cons_zero, List.set_cons_succ]
            refine anyC_takeS (i := 4) (oi := ⟨some 51, _, _, _, _, _⟩) (v := .agg (niC (dN b))) rfl (by kernel_rfl) (by kernel_rfl) (by kernel_rfl) (by kernel_rfl) (fun _ _ _ h => h) (yieldsIf_load_ni (by rfl) _ rfl Gb b rfl (fun w' hw' => hw' (Gb, b) (.tail _ (.head _)))) (HN.out.k) (fun _ => trivial) ?_
            try simp only [Act.put, List.setIfInBounds_toArray, List.set_cons_zero, List.set_cons_succ]
            refine anyC_three (i := 2) (o1 := ⟨some 49, _, _, _, _, _⟩) (j := 6) (o2 := ⟨some 13, _, _, _, _, _⟩) (k := 7) (o3 := ⟨some 14, _, _, _, _, _⟩) (by kernel_rfl) rfl rfl rfl (fun K hK => ?_) (fun K hK => ?_) (fun K hK => ?_)
            · rw [if_pos (by rfl)]
              go_wp2_with fail
              (with_reducible refine (sum_rel HRa.out HRb.out _).mono ?_)
              rintro e V0 ⟨r13, rfl, hR, hb⟩
              have Hr13 := Lib.hid hR
              clear hR
              have HN := Lib.hid (HN.out.below hb)
              refine hK.out _ _ ⟨HN.out.k, fun _ => trivial⟩ ?_
              clear hK K hb
              try simp only [Act.put, List.setIfInBounds_toArray, List.set_cons_zero, List.set_cons_succ]
              refine anyC_three (i := 5) (o1 := ⟨some 52, _, _, _, _, _⟩) (j := 6) (o2 := ⟨some 13, _, _, _, _, _⟩) (k := 7) (o3 := ⟨some 14, _, _, _, _, _⟩) (by kernel_rfl) rfl rfl rfl (fun K hK => ?_) (fun K hK => ?_) (fun K hK => ?_)
              · rw [if_pos (by rfl)]
                go_wp2_with fail
                (with_reducible refine (dif_rel HRa.out HRb.out HLb.out _).mono ?_)
                rintro e V1 ⟨r14, rfl, hR, hb⟩
                have Hr14 := Lib.hid hR
                clear hR
                have HN := Lib.hid (HN.out.below hb)
                refine hK.out _ _ ⟨HN.out.k, fun _ => trivial⟩ ?_
                clear hK K hb
                try simp only [Act.put, List.setIfInBounds_toArray, List.set_cons_zero, List.set_cons_succ]
                refine anyC_two (i := 6) (o1 := ⟨some 13, _, _, _, _, _⟩) (j := 7) (o2 := ⟨some 14, _, _, _, _, _⟩) (by kernel_rfl) rfl rfl (fun K hK => ?_) (fun K hK => ?_)
                · rw [if_pos (by rfl)]
                  have hn := HN.out.new
                  go_wp2_with fail
                  generalize World.alloc V1 Z16o = V2 at hn ⊢
                  generalize Array.size (World.heap V1) = G13 at hn ⊢
                  have HN := Lib.hid hn
                  refine hK.out _ _ ⟨fun x hx => HN.out.k x (.tail _ hx), fun _ => trivial⟩ ?_
                  clear hK K hn
                  try simp only [Act.put, List.setIfInBounds_toArray, List.set_cons_zero, List.set_cons_succ]
                  refine anyC_keep (i := 7) (o := ⟨some 14, _, _, _, _, _⟩) (by kernel_rfl) rfl (fun K hK => ?_)
                  rw [if_pos (by rfl)]
                  have hn := HN.out.new
                  go_wp2_with fail
                  generalize World.alloc V2 Z16o = V3 at hn ⊢
                  generalize Array.size (World.heap V2) = G14 at hn ⊢
                  have HN := Lib.hid hn
                  refine hK.out _ _ ⟨fun x hx => HN.out.k x (.tail _ (.tail _ hx)), fun _ => trivial⟩ ?_
                  clear hK K hn
                  try simp only [Act.put, List.setIfInBounds_toArray, List.set_cons_zero, List.set_cons_succ]
                  refine anyC_keep (i := 8) (o := ⟨none, _, _, _, _, _⟩) (by kernel_rfl) rfl (fun K hK => ?_)
                  rw [if_pos (by rfl)]
                  refine wp_put [(G14, 0)] G13 r13 HN rfl rfl rfl fun V4 HN => ?_
                  refine hK.out _ _ ⟨fun x hx => HN.out.k x (.tail _ (.tail _ hx)), fun _ => trivial⟩ ?_
                  clear hK K
                  try simp only [Act.put]
                  refine anyC_keep (i := 9) (o := ⟨none, _, _, _, _, _⟩) (by kernel_rfl) rfl (fun K hK => ?_)
                  rw [if_pos (by rfl)]
                  refine wp_put [] G14 r14 HN rfl rfl rfl fun V5 HN => ?_
                  refine hK.out _ _ ⟨fun x hx => HN.out.k x (.tail _ (.tail _ hx)), fun _ => trivial⟩ ?_
                  clear hK K
                  try simp only [Act.put]
                  refine anyC_done (by kernel_rfl) ?_ _
                  go_wp2_with fail
                  go_meet
                  exact ⟨G13, G14, r13, r14, rfl, rfl, Hr13, Hr14, HN⟩
                · rw [if_pos (by rfl)]
                  have hn := HN.out.new
                  go_wp2_with fail
                  generalize World.alloc V1 Z16o = V2 at hn ⊢
                  generalize Array.size (World.heap V1) = G14 at hn ⊢
                  have HN := Lib.hid hn
                  refine hK.out _ _ ⟨fun x hx => HN.out.k x (.tail _ hx), fun _ => trivial⟩ ?_
                  clear hK K hn
                  try simp only [Act.put, List.setIfInBounds_toArray, List.set_cons_zero, List.set_cons_succ]
                  refine anyC_keep (i := 6) (o := ⟨some 13, _, _, _, _, _⟩) (by kernel_rfl) rfl (fun K hK => ?_)
                  rw [if_pos (by rfl)]
                  have hn := HN.out.new
                  go_wp2_with fail
                  generalize World.alloc V2 Z16o = V3 at hn ⊢
                  generalize Array.size (World.heap V2) = G13 at hn ⊢
                  have HN := Lib.hid hn
                  refine hK.out _ _ ⟨fun x hx => HN.out.k x (.tail _ (.tail _ hx)), fun _ => trivial⟩ ?_
                  clear hK K hn
                  try simp only [Act.put, List.setIfInBounds_toArray, List.set_cons_zero, List.set_cons_succ]
                  refine anyC_keep (i := 8) (o := ⟨none, _, _, _, _, _⟩) (by kernel_rfl) rfl (fun K hK => ?_)
                  rw [if_pos (by rfl)]
                  refine wp_put [] G13 r13 HN rfl rfl rfl fun V4 HN => ?_
                  refine hK.out _ _ ⟨fun x hx => HN.out.k x (.tail _ (.tail _ hx)), fun _ => trivial⟩ ?_
                  clear hK K
                  try simp only [Act.put]
                  refine anyC_keep (i := 9) (o := ⟨none, _, _, _, _, _⟩) (by kernel_rfl) rfl (fun K hK => ?_)
                  rw [if_pos (by rfl)]
                  refine wp_put [(G13, r13)] G14 r14 HN rfl rfl rfl fun V5 HN => ?_
                  refine hK.out _ _ ⟨fun x hx => HN.out.k x (.tail _ (.tail _ hx)), fun _ => trivial⟩ ?_
                  clear hK K
                  try simp only [Act.put]
                  refine anyC_done (by kernel_rfl) ?_ _
                  go_wp2_with fail
                  go_meet
                  exact ⟨G13, G14, r13, r14, rfl, rfl, Hr13, Hr14, Lib.hid (HN.out.perm (List.Perm.swap _ _ _))⟩
              · rw [if_pos (by rfl)]
                have hn := HN.out.new
                go_wp2_with fail
                generalize World.alloc V0 Z16o = V1 at hn ⊢
                generalize Array.size (World.heap V0) = G13 at hn ⊢
                have HN := Lib.hid hn
                refine hK.out _ _ ⟨fun x hx => HN.out.k x (.tail _ hx), fun _ => trivial⟩ ?_
                clear hK K hn
                try simp only [Act.put, List.setIfInBounds_toArray, List.set_cons_zero, List.set_cons_succ]
                refine anyC_two (i := 5) (o1 := ⟨some 52, _, _, _, _, _⟩) (j := 7) (o2 := ⟨some 14, _, _, _, _, _⟩) (by kernel_rfl) rfl rfl (fun K hK => ?_) (fun K hK => ?_)
                · rw [if_pos (by rfl)]
                  go_wp2_with fail
                  (with_reducible refine (dif_rel HRa.out HRb.out HLb.out _).mono ?_)
                  rintro e V2 ⟨r14, rfl, hR, hb⟩
                  have Hr14 := Lib.hid hR
                  clear hR
                  have HN := Lib.hid (HN.out.below hb)
                  refine hK.out _ _ ⟨fun x hx => HN.out.k x (.tail _ hx), fun _ => trivial⟩ ?_
                  clear hK K hb
                  try simp only [Act.put, List.setIfInBounds_toArray, List.set_cons_zero, List.set_cons_succ]
                  refine anyC_keep (i := 7) (o := ⟨some 14, _, _, _, _, _⟩) (by kernel_rfl) rfl (fun K hK => ?_)
                  rw [if_pos (by rfl)]
                  have hn := HN.out.new
                  go_wp2_with fail
                  generalize World.alloc V2 Z16o = V3 at hn ⊢
                  generalize Array.size (World.heap V2) = G14 at hn ⊢
                  have HN := Lib.hid hn
                  refine hK.out _ _ ⟨fun x hx => HN.out.k x (.tail _ (.tail _ hx)), fun _ => trivial⟩ ?_
                  clear hK K hn
                  try simp only [Act.put, List.setIfInBounds_toArray, List.set_cons_zero, List.set_cons_succ]
                  refine anyC_keep (i := 8) (o := ⟨none, _, _, _, _, _⟩) (by kernel_rfl) rfl (fun K hK => ?_)
                  rw [if_pos (by rfl)]
                  refine wp_put [(G14, 0)] G13 r13 HN rfl rfl rfl fun V4 HN => ?_
                  refine hK.out _ _ ⟨fun x hx => HN.out.k x (.tail _ (.tail _ hx)), fun _ => trivial⟩ ?_
                  clear hK K
                  try simp only [Act.put]
                  refine anyC_keep (i := 9) (o := ⟨none, _, _, _, _, _⟩) (by kernel_rfl) rfl (fun K hK => ?_)
                  rw [if_pos (by rfl)]
                  refine wp_put [] G14 r14 HN rfl rfl rfl fun V5 HN => ?_
                  refine hK.out _ _ ⟨fun x hx => HN.out.k x (.tail _ (.tail _ hx)), fun _ => trivial⟩ ?_
                  clear hK K
                  try simp only [Act.put]
                  refine anyC_done (by kernel_rfl) ?_ _
                  go_wp2_with fail
                  go_meet
                  exact ⟨G13, G14, r13, r14, rfl, rfl, Hr13, Hr14, HN⟩
                · rw [if_pos (by rfl)]
                  have hn := HN.out.new
                  go_wp2_with fail
                  generalize World.alloc V1 Z16o = V2 at hn ⊢
                  generalize Array.size (World.heap V1) = G14 at hn ⊢
                  have HN := Lib.hid hn
                  refine hK.out _ _ ⟨fun x hx => HN.out.k x (.tail _ (.tail _ hx)), fun _ => trivial⟩ ?_
                  clear hK K hn
                  try simp only [Act.put, List.setIfInBounds_toArray, List.set_cons_zero, List.set_cons_succ]
                  refine anyC_keep (i := 5) (o := ⟨some 52, _, _, _, _, _⟩) (by kernel_rfl) rfl (fun K hK => ?_)
                  rw [if_pos (by rfl)]
                  go_wp2_with fail
                  (with_reducible refine (dif_rel HRa.out HRb.out HLb.out _).mono ?_)
                  rintro e V3 ⟨r14, rfl, hR, hb⟩
                  have Hr14 := Lib.hid hR
                  clear hR
                  have HN := Lib.hid (HN.out.below hb)
                  refine hK.out _ _ ⟨fun x hx => HN.out.k x (.tail _ (.tail _ hx)), fun _ => trivial⟩ ?_
                  clear hK K hb
                  try simp only [Act.put, List.setIfInBounds_toArray, List.set_cons_zero, List.set_cons_succ]
                  refine anyC_keep (i := 8) (o := ⟨none, _, _, _, _, _⟩) (by kernel_rfl) rfl (fun K hK => ?_)
                  rw [if_pos (by rfl)]
                  refine wp_put [(G14, 0)] G13 r13 HN rfl rfl rfl fun V4 HN => ?_
                  refine hK.out _ _ ⟨fun x hx => HN.out.k x (.tail _ (.tail _ hx)), fun _ => trivial⟩ ?_
                  clear hK K
                  try simp only [Act.put]
                  refine anyC_keep (i := 9) (o := ⟨none, _, _, _, _, _⟩) (by kernel_rfl) rfl (fun K hK => ?_)
                  rw [if_pos (by rfl)]
                  refine wp_put [] G14 r14 HN rfl rfl rfl fun V5 HN => ?_
                  refine hK.out _ _ ⟨fun x hx => HN.out.k x (.tail _ (.tail _ hx)), fun _ => trivial⟩ ?_
                  clear hK K
                  try simp only [Act.put]
                  refine anyC_done (by kernel_rfl) ?_ _
                  go_wp2_with fail
                  go_meet
                  exact ⟨G13, G14, r13, r14, rfl, rfl, Hr13, Hr14, HN⟩
              · rw [if_pos (by rfl)]
                have hn := HN.out.new
                go_wp2_with fail
                generalize World.alloc V0 Z16o = V1 at hn ⊢
                generalize Array.size (World.heap V0) = G14 at hn ⊢
                have HN := Lib.hid hn
                refine hK.out _ _ ⟨fun x hx => HN.out.k x (.tail _ hx), fun _ => trivial⟩ ?_
                clear hK K hn
                try simp only [Act.put, List.setIfInBounds_toArray, List.set_cons_zero, List.set_cons_succ]
                refine anyC_two (i := 5) (o1 := ⟨some 52, _, _, _, _, _⟩) (j := 6) (o2 := ⟨some 13, _, _, _, _, _⟩) (by kernel_rfl) rfl rfl (fun K hK => ?_) (fun K hK => ?_)
                · rw [if_pos (by rfl)]
                  go_wp2_with fail
                  (with_reducible refine (dif_rel HRa.out HRb.out HLb.out _).mono ?_)
                  rintro e V2 ⟨r14, rfl, hR, hb⟩
                  have Hr14 := Lib.hid hR
                  clear hR
                  have HN := Lib.hid (HN.out.below hb)
                  refine hK.out _ _ ⟨fun x hx => HN.out.k x (.tail _ hx), fun _ => trivial⟩ ?_
                  clear hK K hb
                  try simp only [Act.put, List.setIfInBounds_toArray, List.set_cons_zero, List.set_cons_succ]
                  refine anyC_keep (i := 6) (o := ⟨some 13, _, _, _, _, _⟩) (by kernel_rfl) rfl (fun K hK => ?_)
                  rw [if_pos (by rfl)]
                  have hn := HN.out.new
                  go_wp2_with fail
                  generalize World.alloc V2 Z16o = V3 at hn ⊢
                  generalize Array.size (World.heap V2) = G13 at hn ⊢
                  have HN := Lib.hid hn
                  refine hK.out _ _ ⟨fun x hx => HN.out.k x (.tail _ (.tail _ hx)), fun _ => trivial⟩ ?_
                  clear hK K hn
                  try simp only [Act.put, List.setIfInBounds_toArray, List.set_cons_zero, List.set_cons_succ]
                  refine anyC_keep (i := 8) (o := ⟨none, _, _, _, _, _⟩) (by kernel_rfl) rfl (fun K hK => ?_)
                  rw [if_pos (by rfl)]
                  refine wp_put [] G13 r13 HN rfl rfl rfl fun V4 HN => ?_
                  refine hK.out _ _ ⟨fun x hx => HN.out.k x (.tail _ (.tail _ hx)), fun _ => trivial⟩ ?_
                  clear hK K
                  try simp only [Act.put]
                  refine anyC_keep (i := 9) (o := ⟨none, _, _, _, _, _⟩) (by kernel_rfl) rfl (fun K hK => ?_)
                  rw [if_pos (by rfl)]
                  refine wp_put [(G13, r13)] G14 r14 HN rfl rfl rfl fun V5 HN => ?_
                  refine hK.out _ _ ⟨fun x hx => HN.out.k x (.tail _ (.tail _ hx)), fun _ => trivial⟩ ?_
                  clear hK K
                  try simp only [Act.put]
                  refine anyC_done (by kernel_rfl) ?_ _
                  go_wp2_with fail
                  go_meet
                  exact ⟨G13, G14, r13, r14, rfl, rfl, Hr13, Hr14, Lib.hid (HN.out.perm (List.Perm.swap _ _ _))⟩
                · rw [if_pos (by rfl)]
                  have hn := HN.out.new
                  go_wp2_with fail
                  generalize World.alloc V1 Z16o = V2 at hn ⊢
                  generalize Array.size (World.heap V1) = G13 at hn ⊢
                  have HN := Lib.hid hn
                  refine hK.out _ _ ⟨fun x hx => HN.out.k x (.tail _ (.tail _ hx)), fun _ => trivial⟩ ?_
                  clear hK K hn
                  try simp only [Act.put, List.setIfInBounds_toArray, List.set_cons_zero, List.set_cons_succ]
                  refine anyC_keep (i := 5) (o := ⟨some 52, _, _, _, _, _⟩) (by kernel_rfl) rfl (fun K hK => ?_)
                  rw [if_pos (by rfl)]
                  go_wp2_with fail
                  (with_reducible refine (dif_rel HRa.out HRb.out HLb.out _).mono ?_)
                  rintro e V3 ⟨r14, rfl, hR, hb⟩
                  have Hr14 := Lib.hid hR
                  clear hR
                  have HN := Lib.hid (HN.out.below hb)
                  refine hK.out _ _ ⟨fun x hx => HN.out.k x (.tail _ (.tail _ hx)), fun _ => trivial⟩ ?_
                  clear hK K hb
                  try simp only [Act.put, List.setIfInBounds_toArray, List.set_cons_zero, List.set_cons_succ]
                  refine anyC_keep (i := 8) (o := ⟨none, _, _, _, _, _⟩) (by kernel_rfl) rfl (fun K hK => ?_)
                  rw [if_pos (by rfl)]
                  refine wp_put [] G13 r13 HN rfl rfl rfl fun V4 HN => ?_
                  refine hK.out _ _ ⟨fun x hx => HN.out.k x (.tail _ (.tail _ hx)), fun _ => trivial⟩ ?_
                  clear hK K
                  try simp only [Act.put]
                  refine anyC_keep (i := 9) (o := ⟨none, _, _, _, _, _⟩) (by kernel_rfl) rfl (fun K hK => ?_)
                  rw [if_pos (by rfl)]
                  refine wp_put [(G13, r13)] G14 r14 HN rfl rfl rfl fun V5 HN => ?_
                  refine hK.out _ _ ⟨fun x hx => HN.out.k x (.tail _ (.tail _ hx)), fun _ => trivial⟩ ?_
                  clear hK K
                  try simp only [Act.put]
                  refine anyC_done (by kernel_rfl) ?_ _
                  go_wp2_with fail
                  go_meet
                  exact ⟨G13, G14, r13, r14, rfl, rfl, Hr13, Hr14, Lib.hid (HN.out.perm (List.Perm.swap _ _ _))⟩
            · rw [if_pos (by rfl)]
              have hn := HN.out.new
              go_wp2_with fail
              generalize World.alloc W0 Z16o = V0 at hn ⊢
              generalize Array.size (World.heap W0) = G13 at hn ⊢
              have HN := Lib.hid hn
              refine hK.out _ _ ⟨fun x hx => HN.out.k x (.tail _ hx), fun _ => trivial⟩ ?_
              clear hK K hn
              try simp only [Act.put, List.setIfInBounds_toArray, List.set_cons_zero, List.set_cons_succ]
              refine anyC_two (i := 2) (o1 := ⟨some 49, _, _, _, _, _⟩) (j := 7) (o2 := ⟨some 14, _, _, _, _, _⟩) (by kernel_rfl) rfl rfl (fun K hK => ?_) (fun K hK => ?_)
              · rw [if_pos (by rfl)]
                go_wp2_with fail
                (with_reducible refine (sum_rel HRa.out HRb.out _).mono ?_)
                rintro e V1 ⟨r13, rfl, hR, hb⟩
                have Hr13 := Lib.hid hR
                clear hR
                have HN := Lib.hid (HN.out.below hb)
                refine hK.out _ _ ⟨fun x hx => HN.out.k x (.tail _ hx), fun _ => trivial⟩ ?_
                clear hK K hb
                try simp only [Act.put, List.setIfInBounds_toArray, List.set_cons_zero, List.set_cons_succ]
                refine anyC_two (i := 5) (o1 := ⟨some 52, _, _, _, _, _⟩) (j := 7) (o2 := ⟨some 14, _, _, _, _, _⟩) (by kernel_rfl) rfl rfl (fun K hK => ?_) (fun K hK => ?_)
                · rw [if_pos (by rfl)]
                  go_wp2_with fail
                  (with_reducible refine (dif_rel HRa.out HRb.out HLb.out _).mono ?_)
                  rintro e V2 ⟨r14, rfl, hR, hb⟩
                  have Hr14 := Lib.hid hR
                  clear hR
                  have HN := Lib.hid (HN.out.below hb)
                  refine hK.out _ _ ⟨fun x hx => HN.out.k x (.tail _ hx), fun _ => trivial⟩ ?_
                  clear hK K hb
                  try simp only [Act.put, List.setIfInBounds_toArray, List.set_cons_zero, List.set_cons_succ]
                  refine anyC_keep (i := 7) (o := ⟨some 14, _, _, _, _, _⟩) (by kernel_rfl) rfl (fun K hK => ?_)
                  rw [if_pos (by rfl)]
                  have hn := HN.out.new
                  go_wp2_with fail
                  generalize World.alloc V2 Z16o = V3 at hn ⊢
                  generalize Array.size (World.heap V2) = G14 at hn ⊢
                  have HN := Lib.hid hn
                  refine hK.out _ _ ⟨fun x hx => HN.out.k x (.tail _ (.tail _ hx)), fun _ => trivial⟩ ?_
                  clear hK K hn
                  try simp only [Act.put, List.setIfInBounds_toArray, List.set_cons_zero, List.set_cons_succ]
                  refine anyC_keep (i := 8) (o := ⟨none, _, _, _, _, _⟩) (by kernel_rfl) rfl (fun K hK => ?_)
                  rw [if_pos (by rfl)]
                  refine wp_put [(G14, 0)] G13 r13 HN rfl rfl rfl fun V4 HN => ?_
                  refine hK.out _ _ ⟨fun x hx => HN.out.k x (.tail _ (.tail _ hx)), fun _ => trivial⟩ ?_
                  clear hK K
                  try simp only [Act.put]
                  refine anyC_keep (i := 9) (o := ⟨none, _, _, _, _, _⟩) (by kernel_rfl) rfl (fun K hK => ?_)
                  rw [if_pos (by rfl)]
                  refine wp_put [] G14 r14 HN rfl rfl rfl fun V5 HN => ?_
                  refine hK.out _ _ ⟨fun x hx => HN.out.k x (.tail _ (.tail _ hx)), fun _ => trivial⟩ ?_
                  clear hK K
                  try simp only [Act.put]
                  refine anyC_done (by kernel_rfl) ?_ _
                  go_wp2_with fail
                  go_meet
                  exact ⟨G13, G14, r13, r14, rfl, rfl, Hr13, Hr14, HN⟩
                · rw [if_pos (by rfl)]
                  have hn := HN.out.new
                  go_wp2_with fail
                  generalize World.alloc V1 Z16o = V2 at hn ⊢
                  generalize Array.size (World.heap V1) = G14 at hn ⊢
                  have HN := Lib.hid hn
                  refine hK.out _ _ ⟨fun x hx => HN.out.k x (.tail _ (.tail _ hx)), fun _ => trivial⟩ ?_
                  clear hK K hn
                  try simp only [Act.put, List.setIfInBounds_toArray, List.set_cons_zero, List.set_cons_succ]
                  refine anyC_keep (i := 5) (o := ⟨some 52, _, _, _, _, _⟩) (by kernel_rfl) rfl (fun K hK => ?_)
                  rw [if_pos (by rfl)]
                  go_wp2_with fail
                  (with_reducible refine (dif_rel HRa.out HRb.out HLb.out _).mono ?_)
                  rintro e V3 ⟨r14, rfl, hR, hb⟩
                  have Hr14 := Lib.hid hR
                  clear hR
                  have HN := Lib.hid (HN.out.below hb)
                  refine hK.out _ _ ⟨fun x hx => HN.out.k x (.tail _ (.tail _ hx)), fun _ => trivial⟩ ?_
                  clear hK K hb
                  try simp only [Act.put, List.setIfInBounds_toArray, List.set_cons_zero, List.set_cons_succ]
                  refine anyC_keep (i := 8) (o := ⟨none, _, _, _, _, _⟩) (by kernel_rfl) rfl (fun K hK => ?_)
                  rw [if_pos (by rfl)]
                  refine wp_put [(G14, 0)] G13 r13 HN rfl rfl rfl fun V4 HN => ?_
                  refine hK.out _ _ ⟨fun x hx => HN.out.k x (.tail _ (.tail _ hx)), fun _ => trivial⟩ ?_
                  clear hK K
                  try simp only [Act.put]
                  refine anyC_keep (i := 9) (o := ⟨none, _, _, _, _, _⟩) (by kernel_rfl) rfl (fun K hK => ?_)
                  rw [if_pos (by rfl)]
                  refine wp_put [] G14 r14 HN rfl rfl rfl fun V5 HN => ?_
                  refine hK.out _ _ ⟨fun x hx => HN.out.k x (.tail _ (.tail _ hx)), fun _ => trivial⟩ ?_
                  clear hK K
                  try simp only [Act.put]
                  refine anyC_done (by kernel_rfl) ?_ _
                  go_wp2_with fail
                  go_meet
                  exact ⟨G13, G14, r13, r14, rfl, rfl, Hr13, Hr14, HN⟩
              · rw [if_pos (by rfl)]
                have hn := HN.out.new
                go_wp2_with fail
                generalize World.alloc V0 Z16o = V1 at hn ⊢
                generalize Array.size (World.heap V0) = G14 at hn ⊢
                have HN := Lib.hid hn
                refine hK.out _ _ ⟨fun x hx => HN.out.k x (.tail _ (.tail _ hx)), fun _ => trivial⟩ ?_
                clear hK K hn
                try simp only [Act.put, List.setIfInBounds_toArray, List.set_cons_zero, List.set_cons_succ]
                refine anyC_keep (i := 2) (o := ⟨some 49, _, _, _, _, _⟩) (by kernel_rfl) rfl (fun K hK => ?_)
                rw [if_pos (by rfl)]
                go_wp2_with fail
                (with_reducible refine (sum_rel HRa.out HRb.out _).mono ?_)
                rintro e V2 ⟨r13, rfl, hR, hb⟩
                have Hr13 := Lib.hid hR
                clear hR
                have HN := Lib.hid (HN.out.below hb)
                refine hK.out _ _ ⟨fun x hx => HN.out.k x (.tail _ (.tail _ hx)), fun _ => trivial⟩ ?_
                clear hK K hb
                try simp only [Act.put, List.setIfInBounds_toArray, List.set_cons_zero, List.set_cons_succ]
                refine anyC_keep (i := 5) (o := ⟨some 52, _, _, _, _, _⟩) (by kernel_rfl) rfl (fun K hK => ?_)
                rw [if_pos (by rfl)]
                go_wp2_with fail
                (with_reducible refine (dif_rel HRa.out HRb.out HLb.out _).mono ?_)
                rintro e V3 ⟨r14, rfl, hR, hb⟩
                have Hr14 := Lib.hid hR
                clear hR
                have HN := Lib.hid (HN.out.below hb)
                refine hK.out _ _ ⟨fun x hx => HN.out.k x (.tail _ (.tail _ hx)), fun _ => trivial⟩ ?_
                clear hK K hb
                try simp only [Act.put, List.setIfInBounds_toArray, List.set_cons_zero, List.set_cons_succ]
                refine anyC_keep (i := 8) (o := ⟨none, _, _, _, _, _⟩) (by kernel_rfl) rfl (fun K hK => ?_)
                rw [if_pos (by rfl)]
                refine wp_put [(G14, 0)] G13 r13 HN rfl rfl rfl fun V4 HN => ?_
                refine hK.out _ _ ⟨fun x hx => HN.out.k x (.tail _ (.tail _ hx)), fun _ => trivial⟩ ?_
                clear hK K
                try simp only [Act.put]
                refine anyC_keep (i := 9) (o := ⟨none, _, _, _, _, _⟩) (by kernel_rfl) rfl (fun K hK => ?_)
                rw [if_pos (by rfl)]
                refine wp_put [] G14 r14 HN rfl rfl rfl fun V5 HN => ?_
                refine hK.out _ _ ⟨fun x hx => HN.out.k x (.tail _ (.tail _ hx)), fun _ => trivial⟩ ?_
                clear hK K
                try simp only [Act.put]
                refine anyC_done (by kernel_rfl) ?_ _
                go_wp2_with fail
                go_meet
                exact ⟨G13, G14, r13, r14, rfl, rfl, Hr13, Hr14, HN⟩
            · rw [if_pos (by rfl)]
              have hn := HN.out.new
              go_wp2_with fail
              generalize World.alloc W0 Z16o = V0 at hn ⊢
              generalize Array.size (World.heap W0) = G14 at hn ⊢
              have HN := Lib.hid hn
              refine hK.out _ _ ⟨fun x hx => HN.out.k x (.tail _ hx), fun _ => trivial⟩ ?_
              clear hK K hn
              try simp only [Act.put, List.setIfInBounds_toArray, List.set_cons_zero, List.set_cons_succ]
              refine anyC_two (i := 2) (o1 := ⟨some 49, _, _, _, _, _⟩) (j := 6) (o2 := ⟨some 13, _, _, _, _, _⟩) (by kernel_rfl) rfl rfl (fun K hK => ?_) (fun K hK => ?_)
              · rw [if_pos (by rfl)]
                go_wp2_with fail
                (with_reducible refine (sum_rel HRa.out HRb.out _).mono ?_)
                rintro e V1 ⟨r13, rfl, hR, hb⟩
                have Hr13 := Lib.hid hR
                clear hR
                have HN := Lib.hid (HN.out.below hb)
                refine hK.out _ _ ⟨fun x hx => HN.out.k x (.tail _ hx), fun _ => trivial⟩ ?_
                clear hK K hb
                try simp only [Act.put, List.setIfInBounds_toArray, List.set_cons_zero, List.set_cons_succ]
                refine anyC_two (i := 5) (o1 := ⟨some 52, _, _, _, _, _⟩) (j := 6) (o2 := ⟨some 13, _, _, _, _, _⟩) (by kernel_rfl) rfl rfl (fun K hK => ?_) (fun K hK => ?_)
                · rw [if_pos (by rfl)]
                  go_wp2_with fail
                  (with_reducible refine (dif_rel HRa.out HRb.out HLb.out _).mono ?_)
                  rintro e V2 ⟨r14, rfl, hR, hb⟩
                  have Hr14 := Lib.hid hR
                  clear hR
                  have HN := Lib.hid (HN.out.below hb)
                  refine hK.out _ _ ⟨fun x hx => HN.out.k x (.tail _ hx), fun _ => trivial⟩ ?_
                  clear hK K hb
                  try simp only [Act.put, List.setIfInBounds_toArray, List.set_cons_zero, List.set_cons_succ]
                  refine anyC_keep (i := 6) (o := ⟨some 13, _, _, _, _, _⟩) (by kernel_rfl) rfl (fun K hK => ?_)
                  rw [if_pos (by rfl)]
                  have hn := HN.out.new
                  go_wp2_with fail
                  generalize World.alloc V2 Z16o = V3 at hn ⊢
                  generalize Array.size (World.heap V2) = G13 at hn ⊢
                  have HN := Lib.hid hn
                  refine hK.out _ _ ⟨fun x hx => HN.out.k x (.tail _ (.tail _ hx)), fun _ => trivial⟩ ?_
                  clear hK K hn
                  try simp only [Act.put, List.setIfInBounds_toArray, List.set_cons_zero, List.set_cons_succ]
                  refine anyC_keep (i := 8) (o := ⟨none, _, _, _, _, _⟩) (by kernel_rfl) rfl (fun K hK => ?_)
                  rw [if_pos (by rfl)]
                  refine wp_put [] G13 r13 HN rfl rfl rfl fun V4 HN => ?_
                  refine hK.out _ _ ⟨fun x hx => HN.out.k x (.tail _ (.tail _ hx)), fun _ => trivial⟩ ?_
                  clear hK K
                  try simp only [Act.put]
                  refine anyC_keep (i := 9) (o := ⟨none, _, _, _, _, _⟩) (by kernel_rfl) rfl (fun K hK => ?_)
                  rw [if_pos (by rfl)]
                  refine wp_put [(G13, r13)] G14 r14 HN rfl rfl rfl fun V5 HN => ?_
                  refine hK.out _ _ ⟨fun x hx => HN.out.k x (.tail _ (.tail _ hx)), fun _ => trivial⟩ ?_
                  clear hK K
                  try simp only [Act.put]
                  refine anyC_done (by kernel_rfl) ?_ _
                  go_wp2_with fail
                  go_meet
                  exact ⟨G13, G14, r13, r14, rfl, rfl, Hr13, Hr14, Lib.hid (HN.out.perm (List.Perm.swap _ _ _))⟩
                · rw [if_pos (by rfl)]
                  have hn := HN.out.new
                  go_wp2_with fail
                  generalize World.alloc V1 Z16o = V2 at hn ⊢
                  generalize Array.size (World.heap V1) = G13 at hn ⊢
                  have HN := Lib.hid hn
                  refine hK.out _ _ ⟨fun x hx => HN.out.k x (.tail _ (.tail _ hx)), fun _ => trivial⟩ ?_
                  clear hK K hn
                  try simp only [Act.put, List.setIfInBounds_toArray, List.set_cons_zero, List.set_cons_succ]
                  refine anyC_keep (i := 5) (o := ⟨some 52, _, _, _, _, _⟩) (by kernel_rfl) rfl (fun K hK => ?_)
                  rw [if_pos (by rfl)]
                  go_wp2_with fail
                  (with_reducible refine (dif_rel HRa.out HRb.out HLb.out _).mono ?_)
                  rintro e V3 ⟨r14, rfl, hR, hb⟩
                  have Hr14 := Lib.hid hR
                  clear hR
                  have HN := Lib.hid (HN.out.below hb)
                  refine hK.out _ _ ⟨fun x hx => HN.out.k x (.tail _ (.tail _ hx)), fun _ => trivial⟩ ?_
                  clear hK K hb
                  try simp only [Act.put, List.setIfInBounds_toArray, List.set_cons_zero, List.set_cons_succ]
                  refine anyC_keep (i := 8) (o := ⟨none, _, _, _, _, _⟩) (by kernel_rfl) rfl (fun K hK => ?_)
                  rw [if_pos (by rfl)]
                  refine wp_put [] G13 r13 HN rfl rfl rfl fun V4 HN => ?_
                  refine hK.out _ _ ⟨fun x hx => HN.out.k x (.tail _ (.tail _ hx)), fun _ => trivial⟩ ?_
                  clear hK K
                  try simp only [Act.put]
                  refine anyC_keep (i := 9) (o := ⟨none, _, _, _, _, _⟩) (by kernel_rfl) rfl (fun K hK => ?_)
                  rw [if_pos (by rfl)]
                  refine wp_put [(G13, r13)] G14 r14 HN rfl rfl rfl fun V5 HN => ?_
                  refine hK.out _ _ ⟨fun x hx => HN.out.k x (.tail _ (.tail _ hx)), fun _ => trivial⟩ ?_
                  clear hK K
                  try simp only [Act.put]
                  refine anyC_done (by kernel_rfl) ?_ _
                  go_wp2_with fail
                  go_meet
                  exact ⟨G13, G14, r13, r14, rfl, rfl, Hr13, Hr14, Lib.hid (HN.out.perm (List.Perm.swap _ _ _))⟩
              · rw [if_pos (by rfl)]
                have hn := HN.out.new
                go_wp2_with fail
                generalize World.alloc V0 Z16o = V1 at hn ⊢
                generalize Array.size (World.heap V0) = G13 at hn ⊢
                have HN := Lib.hid hn
                refine hK.out _ _ ⟨fun x hx => HN.out.k x (.tail _ (.tail _ hx)), fun _ => trivial⟩ ?_
                clear hK K hn
                try simp only [Act.put, List.setIfInBounds_toArray, List.set_cons_zero, List.set_cons_succ]
                refine anyC_keep (i := 2) (o := ⟨some 49, _, _, _, _, _⟩) (by kernel_rfl) rfl (fun K hK => ?_)
                rw [if_pos (by rfl)]
                go_wp2_with fail
                (with_reducible refine (sum_rel HRa.out HRb.out _).mono ?_)
                rintro e V2 ⟨r13, rfl, hR, hb⟩
                have Hr13 := Lib.hid hR
                clear hR
                have HN := Lib.hid (HN.out.below hb)
                refine hK.out _ _ ⟨fun x hx => HN.out.k x (.tail _ (.tail _ hx)), fun _ => trivial⟩ ?_
                clear hK K hb
                try simp only [Act.put, List.setIfInBounds_toArray, List.set_cons_zero, List.set_cons_succ]
                refine anyC_keep (i := 5) (o := ⟨some 52, _, _, _, _, _⟩) (by kernel_rfl) rfl (fun K hK => ?_)
                rw [if_pos (by rfl)]
                go_wp2_with fail
                (with_reducible refine (dif_rel HRa.out HRb.out HLb.out _).mono ?_)
                rintro e V3 ⟨r14, rfl, hR, hb⟩
                have Hr14 := Lib.hid hR
                clear hR
                have HN := Lib.hid (HN.out.below hb)
                refine hK.out _ _ ⟨fun x hx => HN.out.k x (.tail _ (.tail _ hx)), fun _ => trivial⟩ ?_
                clear hK K hb
                try simp only [Act.put, List.setIfInBounds_toArray, List.set_cons_zero, List.set_cons_succ]
                refine anyC_keep (i := 8) (o := ⟨none, _, _, _, _, _⟩) (by kernel_rfl) rfl (fun K hK => ?_)
                rw [if_pos (by rfl)]
                refine wp_put [] G13 r13 HN rfl rfl rfl fun V4 HN => ?_
                refine hK.out _ _ ⟨fun x hx => HN.out.k x (.tail _ (.tail _ hx)), fun _ => trivial⟩ ?_
                clear hK K
                try simp only [Act.put]
                refine anyC_keep (i := 9) (o := ⟨none, _, _, _, _, _⟩) (by kernel_rfl) rfl (fun K hK => ?_)
                rw [if_pos (by rfl)]
                refine wp_put [(G13, r13)] G14 r14 HN rfl rfl rfl fun V5 HN => ?_
                refine hK.out _ _ ⟨fun x hx => HN.out.k x (.tail _ (.tail _ hx)), fun _ => trivial⟩ ?_
                clear hK K
                try simp only [Act.put]
                refine anyC_done (by kernel_rfl) ?_ _
                go_wp2_with fail
                go_meet
                exact ⟨G13, G14, r13, r14, rfl, rfl, Hr13, Hr14, Lib.hid (HN.out.perm (List.Perm.swap _ _ _))⟩
          clear HN
          obtain ⟨G13, G14, r13, r14, rfl, rfl, Hr13, Hr14, HN⟩ := hcut
          go_upto_region 11 with fail
          go_cut [15, 16] from 28 to 102 (fun a15 a16 wx => ∃ G15 G16 r15 r16, a15 = .pointer (some ⟨G15, 0, none⟩) ∧ a16 = .pointer (some ⟨G16, 0, none⟩) ∧ Hid (Rq r15 (muN (xa + xb) (xa + xb))) ∧ Hid (Rq r16 (muN (sbN xa xb) (sbN xa xb))) ∧ Hid (Sr w [(G16, r16), (G15, r15), (G14, r14), (G13, r13), (Ga, a), (Gb, b), (Gc, c), (Gd, d), (Gu, v)] wx))
          case first =>
            go_wp2_with fail
            refine region_anyC (fun w' => Ks w' [(G14, r14), (G13, r13), (Ga, a), (Gb, b), (Gc, c), (Gd, d), (Gu, v)]) (fun _ => True) [] (by kernel_rfl) ?_
            have HN := Lib.hid HN.out.drew
            generalize World.drew wc = W0 at HN ⊢
            refine anyC_takeS (i := 0) (oi := ⟨some 53, _, _, _, _, _⟩) (v := .agg (niC (dN r13))) rfl (by kernel_rfl) (by kernel_rfl) (by kernel_rfl) (by kernel_rfl) (fun _ _ _ h => h) (yieldsIf_load_ni (by rfl) _ rfl G13 r13 rfl (fun w' hw' => hw' (G13, r13) (.tail _ (.head _)))) (HN.out.k) (fun _ => trivial) ?_
            try simp only [Act.put, List.setIfInBounds_toArray, List.set_cons_zero, List.set_cons_succ]
            refine anyC_takeS (i := 1) (oi := ⟨some 54, _, _, _, _, _⟩) (v := .agg (niC (dN r13))) rfl (by kernel_rfl) (by kernel_rfl) (by kernel_rfl) (by kernel_rfl) (fun _ _ _ h => h) (yieldsIf_load_ni (by rfl) _ rfl G13 r13 rfl (fun w' hw' => hw' (G13, r13) (.tail _ (.head _)))) (HN.out.k) (fun _ => trivial) ?_
            try simp only [Act.put, List.setIfInBounds_toArray, List.set_cons_zero, List.set_cons_succ]
            refine anyC_takeS (i := 3) (oi := ⟨some 56, _, _, _, _, _⟩) (v := .agg (niC (dN r14))) rfl (by kernel_rfl) (by kernel_rfl) (by kernel_rfl) (by kernel_rfl) (fun _ _ _ h => h) (yieldsIf_load_ni (by rfl) _ rfl G14 r14 rfl (fun w' hw' => hw' (G14, r14) (.head _))) (HN.out.k) (fun _ => trivial) ?_
            try simp only [Act.put, List.setIfInBounds_toArray, List.set_cons_zero, List.set_cons_succ]
            refine anyC_takeS (i := 4) (oi := ⟨some 57, _, _, _, _, _⟩) (v := .agg (niC (dN r14))) rfl (by kernel_rfl) (by kernel_rfl) (by kernel_rfl) (by kernel_rfl) (fun _ _ _ h => h) (yieldsIf_load_ni (by rfl) _ rfl G14 r14 rfl (fun w' hw' => hw' (G14, r14) (.head _))) (HN.out.k) (fun _ => trivial) ?_
            try simp only [Act.put, List.setIfInBounds_toArray, List.set_cons_zero, List.set_cons_succ]
            refine anyC_three (i := 2) (o1 := ⟨some 55, _, _, _, _, _⟩) (j := 6) (o2 := ⟨some 15, _, _, _, _, _⟩) (k := 7) (o3 := ⟨some 16, _, _, _, _, _⟩) (by kernel_rfl) rfl rfl rfl (fun K hK => ?_) (fun K hK => ?_) (fun K hK => ?_)
            · rw [if_pos (by rfl)]
              go_wp2_with fail
              (with_reducible refine (mul_rel Hr13.out Hr13.out _).mono ?_)
              rintro e V0 ⟨r15, rfl, hR, hb⟩
              have Hr15 := Lib.hid hR
              clear hR
              have HN := Lib.hid (HN.out.below hb)
              refine hK.out _ _ ⟨HN.out.k, fun _ => trivial⟩ ?_
              clear hK K hb
              try simp only [Act.put, List.setIfInBounds_toArray, List.set_cons_zero, List.set_cons_succ]
              refine anyC_three (i := 5) (o1 := ⟨some 58, _, _, _, _, _⟩) (j := 6) (o2 := ⟨some 15, _, _, _, _, _⟩) (k := 7) (o3 := ⟨some 16, _, _, _, _, _⟩) (by kernel_rfl) rfl rfl rfl (fun K hK => ?_) (fun K hK => ?_) (fun K hK => ?_)
              · rw [if_pos (by rfl)]
                go_wp2_with fail
                (with_reducible refine (mul_rel Hr14.out Hr14.out _).mono ?_)
                rintro e V1 ⟨r16, rfl, hR, hb⟩
                have Hr16 := Lib.hid hR
                clear hR
                have HN := Lib.hid (HN.out.below hb)
                refine hK.out _ _ ⟨HN.out.k, fun _ => trivial⟩ ?_
                clear hK K hb
                try simp only [Act.put, List.setIfInBounds_toArray, List.set_cons_zero, List.set_cons_succ]
                refine anyC_two (i := 6) (o1 := ⟨some 15, _, _, _, _, _⟩) (j := 7) (o2 := ⟨some 16, _, _, _, _, _⟩) (by kernel_rfl) rfl rfl (fun K hK => ?_) (fun K hK => ?_)
                · rw [if_pos (by rfl)]
                  have hn := HN.out.new
                  go_wp2_with fail
                  generalize World.alloc V1 Z16o = V2 at hn ⊢
                  generalize Array.size (World.heap V1) = G15 at hn ⊢
                  have HN := Lib.hid hn
                  refine hK.out _ _ ⟨fun x hx => HN.out.k x (.tail _ hx), fun _ => trivial⟩ ?_
                  clear hK K hn
                  try simp only [Act.put, List.setIfInBounds_toArray, List.set_cons_zero, List.set_cons_succ]
                  refine anyC_keep (i := 7) (o := ⟨some 16, _, _, _, _, _⟩) (by kernel_rfl) rfl (fun K hK => ?_)
                  rw [if_pos (by rfl)]
                  have hn := HN.out.new
                  go_wp2_with fail
                  generalize World.alloc V2 Z16o = V3 at hn ⊢
                  generalize Array.size (World.heap V2) = G16 at hn ⊢
                  have HN := Lib.hid hn
                  refine hK.out _ _ ⟨fun x hx => HN.out.k x (.tail _ (.tail _ hx)), fun _ => trivial⟩ ?_
                  clear hK K hn
                  try simp only [Act.put, List.setIfInBounds_toArray, List.set_cons_zero, List.set_cons_succ]
                  refine anyC_keep (i := 8) (o := ⟨none, _, _, _, _, _⟩) (by kernel_rfl) rfl (fun K hK => ?_)
                  rw [if_pos (by rfl)]
                  refine wp_put [(G16, 0)] G15 r15 HN rfl rfl rfl fun V4 HN => ?_
                  refine hK.out _ _ ⟨fun x hx => HN.out.k x (.tail _ (.tail _ hx)), fun _ => trivial⟩ ?_
                  clear hK K
                  try simp only [Act.put]
                  refine anyC_keep (i := 9) (o := ⟨none, _, _, _, _, _⟩) (by kernel_rfl) rfl (fun K hK => ?_)
                  rw [if_pos (by rfl)]
                  refine wp_put [] G16 r16 HN rfl rfl rfl fun V5 HN => ?_
                  refine hK.out _ _ ⟨fun x hx => HN.out.k x (.tail _ (.tail _ hx)), fun _ => trivial⟩ ?_
                  clear hK K
                  try simp only [Act.put]
                  refine anyC_done (by kernel_rfl) ?_ _
                  go_wp2_with fail
                  go_meet
                  exact ⟨G15, G16, r15, r16, rfl, rfl, Hr15, Hr16, HN⟩
                · rw [if_pos (by rfl)]
                  have hn := HN.out.new
                  go_wp2_with fail
                  generalize World.alloc V1 Z16o = V2 at hn ⊢
                  generalize Array.size (World.heap V1) = G16 at hn ⊢
                  have HN := Lib.hid hn
                  refine hK.out _ _ ⟨fun x hx => HN.out.k x (.tail _ hx), fun _ => trivial⟩ ?_
                  clear hK K hn
                  try simp only [Act.put, List.setIfInBounds_toArray, List.set_cons_zero, List.set_cons_succ]
                  refine anyC_keep (i := 6) (o := ⟨some 15, _, _, _, _, _⟩) (by kernel_rfl) rfl (fun K hK => ?_)
                  rw [if_pos (by rfl)]
                  have hn := HN.out.new
                  go_wp2_with fail
                  generalize World.alloc V2 Z16o = V3 at hn ⊢
                  generalize Array.size (World.heap V2) = G15 at hn ⊢
                  have HN := Lib.hid hn
                  refine hK.out _ _ ⟨fun x hx => HN.out.k x (.tail _ (.tail _ hx)), fun _ => trivial⟩ ?_
                  clear hK K hn
                  try simp only [Act.put, List.setIfInBounds_toArray, List.set_cons_zero, List.set_cons_succ]
                  refine anyC_keep (i := 8) (o := ⟨none, _, _, _, _, _⟩) (by kernel_rfl) rfl (fun K hK => ?_)
                  rw [if_pos (by rfl)]
                  refine wp_put [] G15 r15 HN rfl rfl rfl fun V4 HN => ?_
                  refine hK.out _ _ ⟨fun x hx => HN.out.k x (.tail _ (.tail _ hx)), fun _ => trivial⟩ ?_
                  clear hK K
                  try simp only [Act.put]
                  refine anyC_keep (i := 9) (o := ⟨none, _, _, _, _, _⟩) (by kernel_rfl) rfl (fun K hK => ?_)
                  rw [if_pos (by rfl)]
                  refine wp_put [(G15, r15)] G16 r16 HN rfl rfl rfl fun V5 HN => ?_
                  refine hK.out _ _ ⟨fun x hx => HN.out.k x (.tail _ (.tail _ hx)), fun _ => trivial⟩ ?_
                  clear hK K
                  try simp only [Act.put]
                  refine anyC_done (by kernel_rfl) ?_ _
                  go_wp2_with fail
                  go_meet
                  exact ⟨G15, G16, r15, r16, rfl, rfl, Hr15, Hr16, Lib.hid (HN.out.perm (List.Perm.swap _ _ _))⟩
              · rw [if_pos (by rfl)]
                have hn := HN.out.new
                go_wp2_with fail
                generalize World.alloc V0 Z16o = V1 at hn ⊢
                generalize Array.size (World.heap V0) = G15 at hn ⊢
                have HN := Lib.hid hn
                refine hK.out _ _ ⟨fun x hx => HN.out.k x (.tail _ hx), fun _ => trivial⟩ ?_
                clear hK K hn
                try simp only [Act.put, List.setIfInBounds_toArray, List.set_cons_zero, List.set_cons_succ]
                refine anyC_two (i := 5) (o1 := ⟨some 58, _, _, _, _, _⟩) (j := 7) (o2 := ⟨some 16, _, _, _, _, _⟩) (by kernel_rfl) rfl rfl (fun K hK => ?_) (fun K hK => ?_)
                · rw [if_pos (by rfl)]
                  go_wp2_with fail
                  (with_reducible refine (mul_rel Hr14.out Hr14.out _).mono ?_)
                  rintro e V2 ⟨r16, rfl, hR, hb⟩
                  have Hr16 := Lib.hid hR
                  clear hR
                  have HN := Lib.hid (HN.out.below hb)
                  refine hK.out _ _ ⟨fun x hx => HN.out.k x (.tail _ hx), fun _ => trivial⟩ ?_
                  clear hK K hb
                  try simp only [Act.put, List.setIfInBounds_toArray, List.set_cons_zero, List.set_cons_succ]
                  refine anyC_keep (i := 7) (o := ⟨some 16, _, _, _, _, _⟩) (by kernel_rfl) rfl (fun K hK => ?_)
                  rw [if_pos (by rfl)]
                  have hn := HN.out.new
                  go_wp2_with fail
                  generalize World.alloc V2 Z16o = V3 at hn ⊢
                  generalize Array.size (World.heap V2) = G16 at hn ⊢
                  have HN := Lib.hid hn
                  refine hK.out _ _ ⟨fun x hx => HN.out.k x (.tail _ (.tail _ hx)), fun _ => trivial⟩ ?_
                  clear hK K hn
                  try simp only [Act.put, List.setIfInBounds_toArray, List.set_cons_zero, List.set_cons_succ]
                  refine anyC_keep (i := 8) (o := ⟨none, _, _, _, _, _⟩) (by kernel_rfl) rfl (fun K hK => ?_)
                  rw [if_pos (by rfl)]
                  refine wp_put [(G16, 0)] G15 r15 HN rfl rfl rfl fun V4 HN => ?_
                  refine hK.out _ _ ⟨fun x hx => HN.out.k x (.tail _ (.tail _ hx)), fun _ => trivial⟩ ?_
                  clear hK K
                  try simp only [Act.put]
                  refine anyC_keep (i := 9) (o := ⟨none, _, _, _, _, _⟩) (by kernel_rfl) rfl (fun K hK => ?_)
                  rw [if_pos (by rfl)]
                  refine wp_put [] G16 r16 HN rfl rfl rfl fun V5 HN => ?_
                  refine hK.out _ _ ⟨fun x hx => HN.out.k x (.tail _ (.tail _ hx)), fun _ => trivial⟩ ?_
                  clear hK K
                  try simp only [Act.put]
                  refine anyC_done (by kernel_rfl) ?_ _
                  go_wp2_with fail
                  go_meet
                  exact ⟨G15, G16, r15, r16, rfl, rfl, Hr15, Hr16, HN⟩
                · rw [if_pos (by rfl)]
                  have hn := HN.out.new
                  go_wp2_with fail
                  generalize World.alloc V1 Z16o = V2 at hn ⊢
                  generalize Array.size (World.heap V1) = G16 at hn ⊢
                  have HN := Lib.hid hn
                  refine hK.out _ _ ⟨fun x hx => HN.out.k x (.tail _ (.tail _ hx)), fun _ => trivial⟩ ?_
                  clear hK K hn
                  try simp only [Act.put, List.setIfInBounds_toArray, List.set_cons_zero, List.set_cons_succ]
                  refine anyC_keep (i := 5) (o := ⟨some 58, _, _, _, _, _⟩) (by kernel_rfl) rfl (fun K hK => ?_)
                  rw [if_pos (by rfl)]
                  go_wp2_with fail
                  (with_reducible refine (mul_rel Hr14.out Hr14.out _).mono ?_)
                  rintro e V3 ⟨r16, rfl, hR, hb⟩
                  have Hr16 := Lib.hid hR
                  clear hR
                  have HN := Lib.hid (HN.out.below hb)
                  refine hK.out _ _ ⟨fun x hx => HN.out.k x (.tail _ (.tail _ hx)), fun _ => trivial⟩ ?_
                  clear hK K hb
                  try simp only [Act.put, List.setIfInBounds_toArray, List.set_cons_zero, List.set_cons_succ]
                  refine anyC_keep (i := 8) (o := ⟨none, _, _, _, _, _⟩) (by kernel_rfl) rfl (fun K hK => ?_)
                  rw [if_pos (by rfl)]
                  refine wp_put [(G16, 0)] G15 r15 HN rfl rfl rfl fun V4 HN => ?_
                  refine hK.out _ _ ⟨fun x hx => HN.out.k x (.tail _ (.tail _ hx)), fun _ => trivial⟩ ?_
                  clear hK K
                  try simp only [Act.put]
                  refine anyC_keep (i := 9) (o := ⟨none, _, _, _, _, _⟩) (by kernel_rfl) rfl (fun K hK => ?_)
                  rw [if_pos (by rfl)]
                  refine wp_put [] G16 r16 HN rfl rfl rfl fun V5 HN => ?_
                  refine hK.out _ _ ⟨fun x hx => HN.out.k x (.tail _ (.tail _ hx)), fun _ => trivial⟩ ?_
                  clear hK K
                  try simp only [Act.put]
                  refine anyC_done (by kernel_rfl) ?_ _
                  go_wp2_with fail
                  go_meet
                  exact ⟨G15, G16, r15, r16, rfl, rfl, Hr15, Hr16, HN⟩
              · rw [if_pos (by rfl)]
                have hn := HN.out.new
                go_wp2_with fail
                generalize World.alloc V0 Z16o = V1 at hn ⊢
                generalize Array.size (World.heap V0) = G16 at hn ⊢
                have HN := Lib.hid hn
                refine hK.out _ _ ⟨fun x hx => HN.out.k x (.tail _ hx), fun _ => trivial⟩ ?_
                clear hK K hn
                try simp only [Act.put, List.setIfInBounds_toArray, List.set_cons_zero, List.set_cons_succ]
                refine anyC_two (i := 5) (o1 := ⟨some 58, _, _, _, _, _⟩) (j := 6) (o2 := ⟨some 15, _, _, _, _, _⟩) (by kernel_rfl) rfl rfl (fun K hK => ?_) (fun K hK => ?_)
                · rw [if_pos (by rfl)]
                  go_wp2_with fail
                  (with_reducible refine (mul_rel Hr14.out Hr14.out _).mono ?_)
                  rintro e V2 ⟨r16, rfl, hR, hb⟩
                  have Hr16 := Lib.hid hR
                  clear hR
                  have HN := Lib.hid (HN.out.below hb)
                  refine hK.out _ _ ⟨fun x hx => HN.out.k x (.tail _ hx), fun _ => trivial⟩ ?_
                  clear hK K hb
                  try simp only [Act.put, List.setIfInBounds_toArray, List.set_cons_zero, List.set_cons_succ]
                  refine anyC_keep (i := 6) (o := ⟨some 15, _, _, _, _, _⟩) (by kernel_rfl) rfl (fun K hK => ?_)
                  rw [if_pos (by rfl)]
                  have hn := HN.out.new
                  go_wp2_with fail
                  generalize World.alloc V2 Z16o = V3 at hn ⊢
                  generalize Array.size (World.heap V2) = G15 at hn ⊢
                  have HN := Lib.hid hn
                  refine hK.out _ _ ⟨fun x hx => HN.out.k x (.tail _ (.tail _ hx)), fun _ => trivial⟩ ?_
                  clear hK K hn
                  try simp only [Act.put, List.setIfInBounds_toArray, List.set_cons_zero, List.set_cons_succ]
                  refine anyC_keep (i := 8) (o := ⟨none, _, _, _, _, _⟩) (by kernel_rfl) rfl (fun K hK => ?_)
                  rw [if_pos (by rfl)]
                  refine wp_put [] G15 r15 HN rfl rfl rfl fun V4 HN => ?_
                  refine hK.out _ _ ⟨fun x hx => HN.out.k x (.tail _ (.tail _ hx)), fun _ => trivial⟩ ?_
                  clear hK K
                  try simp only [Act.put]
                  refine anyC_keep (i := 9) (o := ⟨none, _, _, _, _, _⟩) (by kernel_rfl) rfl (fun K hK => ?_)
                  rw [if_pos (by rfl)]
                  refine wp_put [(G15, r15)] G16 r16 HN rfl rfl rfl fun V5 HN => ?_
                  refine hK.out _ _ ⟨fun x hx => HN.out.k x (.tail _ (.tail _ hx)), fun _ => trivial⟩ ?_
                  clear hK K
                  try simp only [Act.put]
                  refine anyC_done (by kernel_rfl) ?_ _
                  go_wp2_with fail
                  go_meet
                  exact ⟨G15, G16, r15, r16, rfl, rfl, Hr15, Hr16, Lib.hid (HN.out.perm (List.Perm.swap _ _ _))⟩
                · rw [if_pos (by rfl)]
                  have hn := HN.out.new
                  go_wp2_with fail
                  generalize World.alloc V1 Z16o = V2 at hn ⊢
                  generalize Array.size (World.heap V1) = G15 at hn ⊢
                  have HN := Lib.hid hn
                  refine hK.out _ _ ⟨fun x hx => HN.out.k x (.tail _ (.tail _ hx)), fun _ => trivial⟩ ?_
                  clear hK K hn
                  try simp only [Act.put, List.setIfInBounds_toArray, List.set_cons_zero, List.set_cons_succ]
                  refine anyC_keep (i := 5) (o := ⟨some 58, _, _, _, _, _⟩) (by kernel_rfl) rfl (fun K hK => ?_)
                  rw [if_pos (by rfl)]
                  go_wp2_with fail
                  (with_reducible refine (mul_rel Hr14.out Hr14.out _).mono ?_)
                  rintro e V3 ⟨r16, rfl, hR, hb⟩
                  have Hr16 := Lib.hid hR
                  clear hR
                  have HN := Lib.hid (HN.out.below hb)
                  refine hK.out _ _ ⟨fun x hx => HN.out.k x (.tail _ (.tail _ hx)), fun _ => trivial⟩ ?_
                  clear hK K hb
                  try simp only [Act.put, List.setIfInBounds_toArray, List.set_cons_zero, List.set_cons_succ]
                  refine anyC_keep (i := 8) (o := ⟨none, _, _, _, _, _⟩) (by kernel_rfl) rfl (fun K hK => ?_)
                  rw [if_pos (by rfl)]
                  refine wp_put [] G15 r15 HN rfl rfl rfl fun V4 HN => ?_
                  refine hK.out _ _ ⟨fun x hx => HN.out.k x (.tail _ (.tail _ hx)), fun _ => trivial⟩ ?_
                  clear hK K
                  try simp only [Act.put]
                  refine anyC_keep (i := 9) (o := ⟨none, _, _, _, _, _⟩) (by kernel_rfl) rfl (fun K hK => ?_)
                  rw [if_pos (by rfl)]
                  refine wp_put [(G15, r15)] G16 r16 HN rfl rfl rfl fun V5 HN => ?_
                  refine hK.out _ _ ⟨fun x hx => HN.out.k x (.tail _ (.tail _ hx)), fun _ => trivial⟩ ?_
                  clear hK K
                  try simp only [Act.put]
                  refine anyC_done (by kernel_rfl) ?_ _
                  go_wp2_with fail
                  go_meet
                  exact ⟨G15, G16, r15, r16, rfl, rfl, Hr15, Hr16, Lib.hid (HN.out.perm (List.Perm.swap _ _ _))⟩
            · rw [if_pos (by rfl)]
              have hn := HN.out.new
              go_wp2_with fail
              generalize World.alloc W0 Z16o = V0 at hn ⊢
              generalize Array.size (World.heap W0) = G15 at hn ⊢
              have HN := Lib.hid hn
              refine hK.out _ _ ⟨fun x hx => HN.out.k x (.tail _ hx), fun _ => trivial⟩ ?_
              clear hK K hn
              try simp only [Act.put, List.setIfInBounds_toArray, List.set_cons_zero, List.set_cons_succ]
              refine anyC_two (i := 2) (o1 := ⟨some 55, _, _, _, _, _⟩) (j := 7) (o2 := ⟨some 16, _, _, _, _, _⟩) (by kernel_rfl) rfl rfl (fun K hK => ?_) (fun K hK => ?_)
              · rw [if_pos (by rfl)]
                go_wp2_with fail
                (with_reducible refine (mul_rel Hr13.out Hr13.out _).mono ?_)
                rintro e V1 ⟨r15, rfl, hR, hb⟩
                have Hr15 := Lib.hid hR
                clear hR
                have HN := Lib.hid (HN.out.below hb)
                refine hK.out _ _ ⟨fun x hx => HN.out.k x (.tail _ hx), fun _ => trivial⟩ ?_
                clear hK K hb
                try simp only [Act.put, List.setIfInBounds_toArray, List.set_cons_zero, List.set_cons_succ]
                refine anyC_two (i := 5) (o1 := ⟨some 58, _, _, _, _, _⟩) (j := 7) (o2 := ⟨some 16, _, _, _, _, _⟩) (by kernel_rfl) rfl rfl (fun K hK => ?_) (fun K hK => ?_)
                · rw [if_pos (by rfl)]
                  go_wp2_with fail
                  (with_reducible refine (mul_rel Hr14.out Hr14.out _).mono ?_)
                  rintro e V2 ⟨r16, rfl, hR, hb⟩
                  have Hr16 := Lib.hid hR
                  clear hR
                  have HN := Lib.hid (HN.out.below hb)
                  refine hK.out _ _ ⟨fun x hx => HN.out.k x (.tail _ hx), fun _ => trivial⟩ ?_
                  clear hK K hb
                  try simp only [Act.put, List.setIfInBounds_toArray, List.set_cons_zero, List.set_cons_succ]
                  refine anyC_keep (i := 7) (o := ⟨some 16, _, _, _, _, _⟩) (by kernel_rfl) rfl (fun K hK => ?_)
                  rw [if_pos (by rfl)]
                  have hn := HN.out.new
                  go_wp2_with fail
                  generalize World.alloc V2 Z16o = V3 at hn ⊢
                  generalize Array.size (World.heap V2) = G16 at hn ⊢
                  have HN := Lib.hid hn
                  refine hK.out _ _ ⟨fun x hx => HN.out.k x (.tail _ (.tail _ hx)), fun _ => trivial⟩ ?_
                  clear hK K hn
                  try simp only [Act.put, List.setIfInBounds_toArray, List.set_cons_zero, List.set_cons_succ]
                  refine anyC_keep (i := 8) (o := ⟨none, _, _, _, _, _⟩) (by kernel_rfl) rfl (fun K hK => ?_)
                  rw [if_pos (by rfl)]
                  refine wp_put [(G16, 0)] G15 r15 HN rfl rfl rfl fun V4 HN => ?_
                  refine hK.out _ _ ⟨fun x hx => HN.out.k x (.tail _ (.tail _ hx)), fun _ => trivial⟩ ?_
                  clear hK K
                  try simp only [Act.put]
                  refine anyC_keep (i := 9) (o := ⟨none, _, _, _, _, _⟩) (by kernel_rfl) rfl (fun K hK => ?_)
                  rw [if_pos (by rfl)]
                  refine wp_put [] G16 r16 HN rfl rfl rfl fun V5 HN => ?_
                  refine hK.out _ _ ⟨fun x hx => HN.out.k x (.tail _ (.tail _ hx)), fun _ => trivial⟩ ?_
                  clear hK K
                  try simp only [Act.put]
                  refine anyC_done (by kernel_rfl) ?_ _
                  go_wp2_with fail
                  go_meet
                  exact ⟨G15, G16, r15, r16, rfl, rfl, Hr15, Hr16, HN⟩
                · rw [if_pos (by rfl)]
                  have hn := HN.out.new
                  go_wp2_with fail
                  generalize World.alloc V1 Z16o = V2 at hn ⊢
                  generalize Array.size (World.heap V1) = G16 at hn ⊢
                  have HN := Lib.hid hn
                  refine hK.out _ _ ⟨fun x hx => HN.out.k x (.tail _ (.tail _ hx)), fun _ => trivial⟩ ?_
                  clear hK K hn
                  try simp only [Act.put, List.setIfInBounds_toArray, List.set_cons_zero, List.set_cons_succ]
                  refine anyC_keep (i := 5) (o := ⟨some 58, _, _, _, _, _⟩) (by kernel_rfl) rfl (fun K hK => ?_)
                  rw [if_pos (by rfl)]
                  go_wp2_with fail
                  (with_reducible refine (mul_rel Hr14.out Hr14.out _).mono ?_)
                  rintro e V3 ⟨r16, rfl, hR, hb⟩
                  have Hr16 := Lib.hid hR
                  clear hR
                  have HN := Lib.hid (HN.out.below hb)
                  refine hK.out _ _ ⟨fun x hx => HN.out.k x (.tail _ (.tail _ hx)), fun _ => trivial⟩ ?_
                  clear hK K hb
                  try simp only [Act.put, List.setIfInBounds_toArray, List.set_cons_zero, List.set_cons_succ]
                  refine anyC_keep (i := 8) (o := ⟨none, _, _, _, _, _⟩) (by kernel_rfl) rfl (fun K hK => ?_)
                  rw [if_pos (by rfl)]
                  refine wp_put [(G16, 0)] G15 r15 HN rfl rfl rfl fun V4 HN => ?_
                  refine hK.out _ _ ⟨fun x hx => HN.out.k x (.tail _ (.tail _ hx)), fun _ => trivial⟩ ?_
                  clear hK K
                  try simp only [Act.put]
                  refine anyC_keep (i := 9) (o := ⟨none, _, _, _, _, _⟩) (by kernel_rfl) rfl (fun K hK => ?_)
                  rw [if_pos (by rfl)]
                  refine wp_put [] G16 r16 HN rfl rfl rfl fun V5 HN => ?_
                  refine hK.out _ _ ⟨fun x hx => HN.out.k x (.tail _ (.tail _ hx)), fun _ => trivial⟩ ?_
                  clear hK K
                  try simp only [Act.put]
                  refine anyC_done (by kernel_rfl) ?_ _
                  go_wp2_with fail
                  go_meet
                  exact ⟨G15, G16, r15, r16, rfl, rfl, Hr15, Hr16, HN⟩
              · rw [if_pos (by rfl)]
                have hn := HN.out.new
                go_wp2_with fail
                generalize World.alloc V0 Z16o = V1 at hn ⊢
                generalize Array.size (World.heap V0) = G16 at hn ⊢
                have HN := Lib.hid hn
                refine hK.out _ _ ⟨fun x hx => HN.out.k x (.tail _ (.tail _ hx)), fun _ => trivial⟩ ?_
                clear hK K hn
                try simp only [Act.put, List.setIfInBounds_toArray, List.set_cons_zero, List.set_cons_succ]
                refine anyC_keep (i := 2) (o := ⟨some 55, _, _, _, _, _⟩) (by kernel_rfl) rfl (fun K hK => ?_)
                rw [if_pos (by rfl)]
                go_wp2_with fail
                (with_reducible refine (mul_rel Hr13.out Hr13.out _).mono ?_)
                rintro e V2 ⟨r15, rfl, hR, hb⟩
                have Hr15 := Lib.hid hR
                clear hR
                have HN := Lib.hid (HN.out.below hb)
                refine hK.out _ _ ⟨fun x hx => HN.out.k x (.tail _ (.tail _ hx)), fun _ => trivial⟩ ?_
                clear hK K hb
                try simp only [Act.put, List.setIfInBounds_toArray, List.set_cons_zero, List.set_cons_succ]
                refine anyC_keep (i := 5) (o := ⟨some 58, _, _, _, _, _⟩) (by kernel_rfl) rfl (fun K hK => ?_)
                rw [if_pos (by rfl)]
                go_wp2_with fail
                (with_reducible refine (mul_rel Hr14.out Hr14.out _).mono ?_)
                rintro e V3 ⟨r16, rfl, hR, hb⟩
                have Hr16 := Lib.hid hR
                clear hR
                have HN := Lib.hid (HN.out.below hb)
                refine hK.out _ _ ⟨fun x hx => HN.out.k x (.tail _ (.tail _ hx)), fun _ => trivial⟩ ?_
                clear hK K hb
                try simp only [Act.put, List.setIfInBounds_toArray, List.set_cons_zero, List.set_cons_succ]
                refine anyC_keep (i := 8) (o := ⟨none, _, _, _, _, _⟩) (by kernel_rfl) rfl (fun K hK => ?_)
                rw [if_pos (by rfl)]
                refine wp_put [(G16, 0)] G15 r15 HN rfl rfl rfl fun V4 HN => ?_
                refine hK.out _ _ ⟨fun x hx => HN.out.k x (.tail _ (.tail _ hx)), fun _ => trivial⟩ ?_
                clear hK K
                try simp only [Act.put]
                refine anyC_keep (i := 9) (o := ⟨none, _, _, _, _, _⟩) (by kernel_rfl) rfl (fun K hK => ?_)
                rw [if_pos (by rfl)]
                refine wp_put [] G16 r16 HN rfl rfl rfl fun V5 HN => ?_
                refine hK.out _ _ ⟨fun x hx => HN.out.k x (.tail _ (.tail _ hx)), fun _ => trivial⟩ ?_
                clear hK K
                try simp only [Act.put]
                refine anyC_done (by kernel_rfl) ?_ _
                go_wp2_with fail
                go_meet
                exact ⟨G15, G16, r15, r16, rfl, rfl, Hr15, Hr16, HN⟩
            · rw [if_pos (by rfl)]
              have hn := HN.out.new
              go_wp2_with fail
              generalize World.alloc W0 Z16o = V0 at hn ⊢
              generalize Array.size (World.heap W0) = G16 at hn ⊢
              have HN := Lib.hid hn
              refine hK.out _ _ ⟨fun x hx => HN.out.k x (.tail _ hx), fun _ => trivial⟩ ?_
              clear hK K hn
              try simp only [Act.put, List.setIfInBounds_toArray, List.set_cons_zero, List.set_cons_succ]
              refine anyC_two (i := 2) (o1 := ⟨some 55, _, _, _, _, _⟩) (j := 6) (o2 := ⟨some 15, _, _, _, _, _⟩) (by kernel_rfl) rfl rfl (fun K hK => ?_) (fun K hK => ?_)
              · rw [if_pos (by rfl)]
                go_wp2_with fail
                (with_reducible refine (mul_rel Hr13.out Hr13.out _).mono ?_)
                rintro e V1 ⟨r15, rfl, hR, hb⟩
                have Hr15 := Lib.hid hR
                clear hR
                have HN := Lib.hid (HN.out.below hb)
                refine hK.out _ _ ⟨fun x hx => HN.out.k x (.tail _ hx), fun _ => trivial⟩ ?_
                clear hK K hb
                try simp only [Act.put, List.setIfInBounds_toArray, List.set_cons_zero, List.set_cons_succ]
                refine anyC_two (i := 5) (o1 := ⟨some 58, _, _, _, _, _⟩) (j := 6) (o2 := ⟨some 15, _, _, _, _, _⟩) (by kernel_rfl) rfl rfl (fun K hK => ?_) (fun K hK => ?_)
                · rw [if_pos (by rfl)]
                  go_wp2_with fail
                  (with_reducible refine (mul_rel Hr14.out Hr14.out _).mono ?_)
                  rintro e V2 ⟨r16, rfl, hR, hb⟩
                  have Hr16 := Lib.hid hR
                  clear hR
                  have HN := Lib.hid (HN.out.below hb)
                  refine hK.out _ _ ⟨fun x hx => HN.out.k x (.tail _ hx), fun _ => trivial⟩ ?_
                  clear hK K hb
                  try simp only [Act.put, List.setIfInBounds_toArray, List.set_cons_zero, List.set_cons_succ]
                  refine anyC_keep (i := 6) (o := ⟨some 15, _, _, _, _, _⟩) (by kernel_rfl) rfl (fun K hK => ?_)
                  rw [if_pos (by rfl)]
                  have hn := HN.out.new
                  go_wp2_with fail
                  generalize World.alloc V2 Z16o = V3 at hn ⊢
                  generalize Array.size (World.heap V2) = G15 at hn ⊢
                  have HN := Lib.hid hn
                  refine hK.out _ _ ⟨fun x hx => HN.out.k x (.tail _ (.tail _ hx)), fun _ => trivial⟩ ?_
                  clear hK K hn
                  try simp only [Act.put, List.setIfInBounds_toArray, List.set_cons_zero, List.set_cons_succ]
                  refine anyC_keep (i := 8) (o := ⟨none, _, _, _, _, _⟩) (by kernel_rfl) rfl (fun K hK => ?_)
                  rw [if_pos (by rfl)]
                  refine wp_put [] G15 r15 HN rfl rfl rfl fun V4 HN => ?_
                  refine hK.out _ _ ⟨fun x hx => HN.out.k x (.tail _ (.tail _ hx)), fun _ => trivial⟩ ?_
                  clear hK K
                  try simp only [Act.put]
                  refine anyC_keep (i := 9) (o := ⟨none, _, _, _, _, _⟩) (by kernel_rfl) rfl (fun K hK => ?_)
                  rw [if_pos (by rfl)]
                  refine wp_put [(G15, r15)] G16 r16 HN rfl rfl rfl fun V5 HN => ?_
                  refine hK.out _ _ ⟨fun x hx => HN.out.k x (.tail _ (.tail _ hx)), fun _ => trivial⟩ ?_
                  clear hK K
                  try simp only [Act.put]
                  refine anyC_done (by kernel_rfl) ?_ _
                  go_wp2_with fail
                  go_meet
                  exact ⟨G15, G16, r15, r16, rfl, rfl, Hr15, Hr16, Lib.hid (HN.out.perm (List.Perm.swap _ _ _))⟩
                · rw [if_pos (by rfl)]
                  have hn := HN.out.new
                  go_wp2_with fail
                  generalize World.alloc V1 Z16o = V2 at hn ⊢
                  generalize Array.size (World.heap V1) = G15 at hn ⊢
                  have HN := Lib.hid hn
                  refine hK.out _ _ ⟨fun x hx => HN.out.k x (.tail _ (.tail _ hx)), fun _ => trivial⟩ ?_
                  clear hK K hn
                  try simp only [Act.put, List.setIfInBounds_toArray, List.set_cons_zero, List.set_cons_succ]
                  refine anyC_keep (i := 5) (o := ⟨some 58, _, _, _, _, _⟩) (by kernel_rfl) rfl (fun K hK => ?_)
                  rw [if_pos (by rfl)]
                  go_wp2_with fail
                  (with_reducible refine (mul_rel Hr14.out Hr14.out _).mono ?_)
                  rintro e V3 ⟨r16, rfl, hR, hb⟩
                  have Hr16 := Lib.hid hR
                  clear hR
                  have HN := Lib.hid (HN.out.below hb)
                  refine hK.out _ _ ⟨fun x hx => HN.out.k x (.tail _ (.tail _ hx)), fun _ => trivial⟩ ?_
                  clear hK K hb
                  try simp only [Act.put, List.setIfInBounds_toArray, List.set_cons_zero, List.set_cons_succ]
                  refine anyC_keep (i := 8) (o := ⟨none, _, _, _, _, _⟩) (by kernel_rfl) rfl (fun K hK => ?_)
                  rw [if_pos (by rfl)]
                  refine wp_put [] G15 r15 HN rfl rfl rfl fun V4 HN => ?_
                  refine hK.out _ _ ⟨fun x hx => HN.out.k x (.tail _ (.tail _ hx)), fun _ => trivial⟩ ?_
                  clear hK K
                  try simp only [Act.put]
                  refine anyC_keep (i := 9) (o := ⟨none, _, _, _, _, _⟩) (by kernel_rfl) rfl (fun K hK => ?_)
                  rw [if_pos (by rfl)]
                  refine wp_put [(G15, r15)] G16 r16 HN rfl rfl rfl fun V5 HN => ?_
                  refine hK.out _ _ ⟨fun x hx => HN.out.k x (.tail _ (.tail _ hx)), fun _ => trivial⟩ ?_
                  clear hK K
                  try simp only [Act.put]
                  refine anyC_done (by kernel_rfl) ?_ _
                  go_wp2_with fail
                  go_meet
                  exact ⟨G15, G16, r15, r16, rfl, rfl, Hr15, Hr16, Lib.hid (HN.out.perm (List.Perm.swap _ _ _))⟩
              · rw [if_pos (by rfl)]
                have hn := HN.out.new
                go_wp2_with fail
                generalize World.alloc V0 Z16o = V1 at hn ⊢
                generalize Array.size (World.heap V0) = G15 at hn ⊢
                have HN := Lib.hid hn
                refine hK.out _ _ ⟨fun x hx => HN.out.k x (.tail _ (.tail _ hx)), fun _ => trivial⟩ ?_
                clear hK K hn
                try simp only [Act.put, List.setIfInBounds_toArray, List.set_cons_zero, List.set_cons_succ]
                refine anyC_keep (i := 2) (o := ⟨some 55, _, _, _, _, _⟩) (by kernel_rfl) rfl (fun K hK => ?_)
                rw [if_pos (by rfl)]
                go_wp2_with fail
                (with_reducible refine (mul_rel Hr13.out Hr13.out _).mono ?_)
                rintro e V2 ⟨r15, rfl, hR, hb⟩
                have Hr15 := Lib.hid hR
                clear hR
                have HN := Lib.hid (HN.out.below hb)
                refine hK.out _ _ ⟨fun x hx => HN.out.k x (.tail _ (.tail _ hx)), fun _ => trivial⟩ ?_
                clear hK K hb
                try simp only [Act.put, List.setIfInBounds_toArray, List.set_cons_zero, List.set_cons_succ]
                refine anyC_keep (i := 5) (o := ⟨some 58, _, _, _, _, _⟩) (by kernel_rfl) rfl (fun K hK => ?_)
                rw [if_pos (by rfl)]
                go_wp2_with fail
                (with_reducible refine (mul_rel Hr14.out Hr14.out _).mono ?_)
                rintro e V3 ⟨r16, rfl, hR, hb⟩
                have Hr16 := Lib.hid hR
                clear hR
                have HN := Lib.hid (HN.out.below hb)
                refine hK.out _ _ ⟨fun x hx => HN.out.k x (.tail _ (.tail _ hx)), fun _ => trivial⟩ ?_
                clear hK K hb
                try simp only [Act.put, List.setIfInBounds_toArray, List.set_cons_zero, List.set_cons_succ]
                refine anyC_keep (i := 8) (o := ⟨none, _, _, _, _, _⟩) (by kernel_rfl) rfl (fun K hK => ?_)
                rw [if_pos (by rfl)]
                refine wp_put [] G15 r15 HN rfl rfl rfl fun V4 HN => ?_
                refine hK.out _ _ ⟨fun x hx => HN.out.k x (.tail _ (.tail _ hx)), fun _ => trivial⟩ ?_
                clear hK K
                try simp only [Act.put]
                refine anyC_keep (i := 9) (o := ⟨none, _, _, _, _, _⟩) (by kernel_rfl) rfl (fun K hK => ?_)
                rw [if_pos (by rfl)]
                refine wp_put [(G15, r15)] G16 r16 HN rfl rfl rfl fun V5 HN => ?_
                refine hK.out _ _ ⟨fun x hx => HN.out.k x (.tail _ (.tail _ hx)), fun _ => trivial⟩ ?_
                clear hK K
                try simp only [Act.put]
                refine anyC_done (by kernel_rfl) ?_ _
                go_wp2_with fail
                go_meet
                exact ⟨G15, G16, r15, r16, rfl, rfl, Hr15, Hr16, Lib.hid (HN.out.perm (List.Perm.swap _ _ _))⟩
          clear HN
          obtain ⟨G15, G16, r15, r16, rfl, rfl, Hr15, Hr16, HN⟩ := hcut
          go_upto_region 12 with fail
          go_cut [17] from 28 to 102 (fun a17 wx => ∃ G17 r17, a17 = .pointer (some ⟨G17, 0, none⟩) ∧ Hid (Rq r17 (sbN (muN (xa + xb) (xa + xb)) (muN (sbN xa xb) (sbN xa xb)))) ∧ Hid (Sr w [(G17, r17), (G16, r16), (G15, r15), (G14, r14), (G13, r13), (Ga, a), (Gb, b), (Gc, c), (Gd, d), (Gu, v)] wx))
          case first =>
            go_wp2_with (first | (refine wpList_load_row rfl 48 _ rfl G15 rfl 48 (niC (dN r15)) (0, 0) _ (HN.out.k (G15, r15) (.tail _ (.head _))) Tryd.underlying48 rfl (by rw [size48, niC_size, dN_length]) ?_) | (refine wpList_load_row rfl 48 _ rfl G16 rfl 48 (niC (dN r16)) (0, 0) _ (HN.out.k (G16, r16) (.head _)) Tryd.underlying48 rfl (by rw [size48, niC_size, dN_length]) ?_))
            (with_reducible refine (dif_rel Hr15.out Hr16.out (mu_le _ _) _).mono ?_)
            rintro e V0 ⟨r17, rfl, hR, hb⟩
            have Hr17 := Lib.hid hR
            have HN := Lib.hid (HN.out.below hb).new
            clear hR hb
            generalize hG : V0.heap.size = G17 at HN
            have HGE := Lib.hid hG
            clear hG
            go_wp2_with (refine wpList_store_row rfl 48 _ _ rfl G17 (niC (dN r17)) (by rw [← HGE.out]; rfl) rfl 48 _ (HN.out.k (G17, 0) (.head _)) (by rw [size48, niC_size, dN_length]) (by simp only [niC_size, dN_length]) (niC_one _) ?_)
            rw [HGE.out]
            have HN : Hid (Sr w [(G17, r17), (G16, r16), (G15, r15), (G14, r14), (G13, r13), (Ga, a), (Gb, b), (Gc, c), (Gd, d), (Gu, v)] ((V0.alloc Z16o).setRow G17 (niC (dN r17)))) := Lib.hid (HN.out.at [] r17)
            go_meet
            exact ⟨G17, r17, rfl, Hr17, HN⟩
          clear HN
          obtain ⟨G17, r17, rfl, Hr17, HN⟩ := hcut
          go_upto_region 13 with fail
          go_cut [18, 19] from 28 to 102 (fun a18 a19 wx => ∃ G18 G19 r18 r19, a18 = .pointer (some ⟨G18, 0, none⟩) ∧ a19 = .pointer (some ⟨G19, 0, none⟩) ∧ Hid (Rq r18 (muN (sbN xc xd) (xa + xb))) ∧ Hid (Rq r19 (muN (xc + xd) (sbN xa xb))) ∧ Hid (Sr w [(G19, r19), (G18, r18), (G17, r17), (G16, r16), (G15, r15), (G14, r14), (G13, r13), (Ga, a), (Gb, b), (Gc, c), (Gd, d), (Gu, v)] wx))
          case first =>
            go_wp2_with fail
            refine region_anyC (fun w' => Ks w' [(G17, r17), (G16, r16), (G15, r15), (G14, r14), (G13, r13), (Ga, a), (Gb, b), (Gc, c), (Gd, d), (Gu, v)]) (fun _ => True) [] (by kernel_rfl) ?_
            have HN := Lib.hid HN.out.drew
            generalize World.drew wc = W0 at HN ⊢
            refine anyC_takeS (i := 0) (oi := ⟨some 62, _, _, _, _, _⟩) (v := .agg (niC (dN c))) rfl (by kernel_rfl) (by kernel_rfl) (by kernel_rfl) (by kernel_rfl) (fun _ _ _ h => h) (yieldsIf_load_ni (by rfl) _ rfl Gc c rfl (fun w' hw' => hw' (Gc, c) (.tail _ (.tail _ (.tail _ (.tail _ (.tail _ (.tail _ (.tail _ (.head _)))))))))) (HN.out.k) (fun _ => trivial) ?_
            try simp only [Act.put, List.setIfInBounds_toArray, List.set_cons_zero, List.set_cons_succ]
            refine anyC_takeS (i := 1) (oi := ⟨some 63, _, _, _, _, _⟩) (v := .agg (niC (dN d))) rfl (by kernel_rfl) (by kernel_rfl) (by kernel_rfl) (by kernel_rfl) (fun _ _ _ h => h) (yieldsIf_load_ni (by rfl) _ rfl Gd d rfl (fun w' hw' => hw' (Gd, d) (.tail _ (.tail _ (.tail _ (.tail _ (.tail _ (.tail _ (.tail _ (.tail _ (.head _))))))))))) (HN.out.k) (fun _ => trivial) ?_
            try simp only [Act.put, List.setIfInBounds_toArray, List.set_cons_zero, List.set_cons_succ]
            refine anyC_takeS (i := 3) (oi := ⟨some 65, _, _, _, _, _⟩) (v := .agg (niC (dN r13))) rfl (by kernel_rfl) (by kernel_rfl) (by kernel_rfl) (by kernel_rfl) (fun _ _ _ h => h) (yieldsIf_load_ni (by rfl) _ rfl G13 r13 rfl (fun w' hw' => hw' (G13, r13) (.tail _ (.tail _ (.tail _ (.tail _ (.head _))))))) (HN.out.k) (fun _ => trivial) ?_
            try simp only [Act.put, List.setIfInBounds_toArray, List.set_cons_zero, List.set_cons_succ]
            refine anyC_takeS (i := 5) (oi := ⟨some 67, _, _, _, _, _⟩) (v := .agg (niC (dN c))) rfl (by kernel_rfl) (by kernel_rfl) (by kernel_rfl) (by kernel_rfl) (fun _ _ _ h => h) (yieldsIf_load_ni (by rfl) _ rfl Gc c rfl (fun w' hw' => hw' (Gc, c) (.tail _ (.tail _ (.tail _ (.tail _ (.tail _ (.tail _ (.tail _ (.head _)))))))))) (HN.out.k) (fun _ => trivial) ?_
            try simp only [Act.put, List.setIfInBounds_toArray, List.set_cons_zero, List.set_cons_succ]
            refine anyC_takeS (i := 6) (oi := ⟨some 68, _, _, _, _, _⟩) (v := .agg (niC (dN d))) rfl (by kernel_rfl) (by kernel_rfl) (by kernel_rfl) (by kernel_rfl) (fun _ _ _ h => h) (yieldsIf_load_ni (by rfl) _ rfl Gd d rfl (fun w' hw' => hw' (Gd, d) (.tail _ (.tail _ (.tail _ (.tail _ (.tail _ (.tail _ (.tail _ (.tail _ (.head _))))))))))) (HN.out.k) (fun _ => trivial) ?_
            try simp only [Act.put, List.setIfInBounds_toArray, List.set_cons_zero, List.set_cons_succ]
            refine anyC_takeS (i := 8) (oi := ⟨some 70, _, _, _, _, _⟩) (v := .agg (niC (dN r14))) rfl (by kernel_rfl) (by kernel_rfl) (by kernel_rfl) (by kernel_rfl) (fun _ _ _ h => h) (yieldsIf_load_ni (by rfl) _ rfl G14 r14 rfl (fun w' hw' => hw' (G14, r14) (.tail _ (.tail _ (.tail _ (.head _)))))) (HN.out.k) (fun _ => trivial) ?_
            try simp only [Act.put, List.setIfInBounds_toArray, List.set_cons_zero, List.set_cons_succ]
            refine anyC_three (i := 2) (o1 := ⟨some 64, _, _, _, _, _⟩) (j := 10) (o2 := ⟨some 18, _, _, _, _, _⟩) (k := 11) (o3 := ⟨some 19, _, _, _, _, _⟩) (by kernel_rfl) rfl rfl rfl (fun K hK => ?_) (fun K hK => ?_) (fun K hK => ?_)
            · rw [if_pos (by rfl)]
              go_wp2_with fail
              (with_reducible refine (dif_rel HRc.out HRd.out HLd.out _).mono ?_)
              rintro e V0 ⟨rf, rfl, hR, hb⟩
              have Hrf := Lib.hid hR
              clear hR
              have HN := Lib.hid (HN.out.below hb)
              refine hK.out _ _ ⟨HN.out.k, fun _ => trivial⟩ ?_
              clear hK K hb
              try simp only [Act.put, List.setIfInBounds_toArray, List.set_cons_zero, List.set_cons_succ]
              refine anyC_three (i := 4) (o1 := ⟨some 66, _, _, _, _, _⟩) (j := 10) (o2 := ⟨some 18, _, _, _, _, _⟩) (k := 11) (o3 := ⟨some 19, _, _, _, _, _⟩) (by kernel_rfl) rfl rfl rfl (fun K hK => ?_) (fun K hK => ?_) (fun K hK => ?_)
              · rw [if_pos (by rfl)]
                go_wp2_with fail
                (with_reducible refine (mul_rel Hrf.out Hr13.out _).mono ?_)
                rintro e V1 ⟨r18, rfl, hR, hb⟩
                have Hr18 := Lib.hid hR
                clear hR
                have HN := Lib.hid (HN.out.below hb)
                refine hK.out _ _ ⟨HN.out.k, fun _ => trivial⟩ ?_
                clear hK K hb
                try simp only [Act.put, List.setIfInBounds_toArray, List.set_cons_zero, List.set_cons_succ]
                refine anyC_three (i := 7) (o1 := ⟨some 69, _, _, _, _, _⟩) (j := 10) (o2 := ⟨some 18, _, _, _, _, _⟩) (k := 11) (o3 := ⟨some 19, _, _, _, _, _⟩) (by kernel_rfl) rfl rfl rfl (fun K hK => ?_) (fun K hK => ?_) (fun K hK => ?_)
                · rw [if_pos (by rfl)]
                  go_wp2_with fail
                  (with_reducible refine (sum_rel HRc.out HRd.out _).mono ?_)
                  rintro e V2 ⟨rg, rfl, hR, hb⟩
                  have Hrg := Lib.hid hR
                  clear hR
                  have HN := Lib.hid (HN.out.below hb)
                  refine hK.out _ _ ⟨HN.out.k, fun _ => trivial⟩ ?_
                  clear hK K hb
                  try simp only [Act.put, List.setIfInBounds_toArray, List.set_cons_zero, List.set_cons_succ]
                  refine anyC_three (i := 9) (o1 := ⟨some 71, _, _, _, _, _⟩) (j := 10) (o2 := ⟨some 18, _, _, _, _, _⟩) (k := 11) (o3 := ⟨some 19, _, _, _, _, _⟩) (by kernel_rfl) rfl rfl rfl (fun K hK => ?_) (fun K hK => ?_) (fun K hK => ?_)
                  · rw [if_pos (by rfl)]
                    go_wp2_with fail
                    (with_reducible refine (mul_rel Hrg.out Hr14.out _).mono ?_)
                    rintro e V3 ⟨r19, rfl, hR, hb⟩
                    have Hr19 := Lib.hid hR
                    clear hR
                    have HN := Lib.hid (HN.out.below hb)
                    refine hK.out _ _ ⟨HN.out.k, fun _ => trivial⟩ ?_
                    clear hK K hb
                    try simp only [Act.put, List.setIfInBounds_toArray, List.set_cons_zero, List.set_cons_succ]
                    refine anyC_two (i := 10) (o1 := ⟨some 18, _, _, _, _, _⟩) (j := 11) (o2 := ⟨some 19, _, _, _, _, _⟩) (by kernel_rfl) rfl rfl (fun K hK => ?_) (fun K hK => ?_)
                    · rw [if_pos (by rfl)]
                      have hn := HN.out.new
                      go_wp2_with fail
                      generalize World.alloc V3 Z16o = V4 at hn ⊢
                      generalize Array.size (World.heap V3) = G18 at hn ⊢
                      have HN := Lib.hid hn
                      refine hK.out _ _ ⟨fun x hx => HN.out.k x (.tail _ hx), fun _ => trivial⟩ ?_
                      clear hK K hn
                      try simp only [Act.put, List.setIfInBounds_toArray, List.set_cons_zero, List.set_cons_succ]
                      refine anyC_keep (i := 11) (o := ⟨some 19, _, _, _, _, _⟩) (by kernel_rfl) rfl (fun K hK => ?_)
                      rw [if_pos (by rfl)]
                      have hn := HN.out.new
                      go_wp2_with fail
                      generalize World.alloc V4 Z16o = V5 at hn ⊢
                      generalize Array.size (World.heap V4) = G19 at hn ⊢
                      have HN := Lib.hid hn
                      refine hK.out _ _ ⟨fun x hx => HN.out.k x (.tail _ (.tail _ hx)), fun _ => trivial⟩ ?_
                      clear hK K hn
                      try simp only [Act.put, List.setIfInBounds_toArray, List.set_cons_zero, List.set_cons_succ]
                      refine anyC_keep (i := 12) (o := ⟨none, _, _, _, _, _⟩) (by kernel_rfl) rfl (fun K hK => ?_)
                      rw [if_pos (by rfl)]
                      refine wp_put [(G19, 0)] G18 r18 HN rfl rfl rfl fun V6 HN => ?_
                      refine hK.out _ _ ⟨fun x hx => HN.out.k x (.tail _ (.tail _ hx)), fun _ => trivial⟩ ?_
                      clear hK K
                      try simp only [Act.put]
                      refine anyC_keep (i := 13) (o := ⟨none, _, _, _, _, _⟩) (by kernel_rfl) rfl (fun K hK => ?_)
                      rw [if_pos (by rfl)]
                      refine wp_put [] G19 r19 HN rfl rfl rfl fun V7 HN => ?_
                      refine hK.out _ _ ⟨fun x hx => HN.out.k x (.tail _ (.tail _ hx)), fun _ => trivial⟩ ?_
                      clear hK K
                      try simp only [Act.put]
                      refine anyC_done (by kernel_rfl) ?_ _
                      go_wp2_with fail
                      go_meet
                      exact ⟨G18, G19, r18, r19, rfl, rfl, Hr18, Hr19, HN⟩
                    · rw [if_pos (by rfl)]
                      have hn := HN.out.new
                      go_wp2_with fail
                      generalize World.alloc V3 Z16o = V4 at hn ⊢
                      generalize Array.size (World.heap V3) = G19 at hn ⊢
                      have HN := Lib.hid hn
                      refine hK.out _ _ ⟨fun x hx => HN.out.k x (.tail _ hx), fun _ => trivial⟩ ?_
                      clear hK K hn
                      try simp only [Act.put, List.setIfInBounds_toArray, List.set_cons_zero, List.set_cons_succ]
                      refine anyC_keep (i := 10) (o := ⟨some 18, _, _, _, _, _⟩) (by kernel_rfl) rfl (fun K hK => ?_)
                      rw [if_pos (by rfl)]
                      have hn := HN.out.new
                      go_wp2_with fail
                      generalize World.alloc V4 Z16o = V5 at hn ⊢
                      generalize Array.size (World.heap V4) = G18 at hn ⊢
                      have HN := Lib.hid hn
                      refine hK.out _ _ ⟨fun x hx => HN.out.k x (.tail _ (.tail _ hx)), fun _ => trivial⟩ ?_
                      clear hK K hn
                      try simp only [Act.put, List.setIfInBounds_toArray, List.set_cons_zero, List.set_cons_succ]
                      refine anyC_keep (i := 12) (o := ⟨none, _, _, _, _, _⟩) (by kernel_rfl) rfl (fun K hK => ?_)
                      rw [if_pos (by rfl)]
                      refine wp_put [] G18 r18 HN rfl rfl rfl fun V6 HN => ?_
                      refine hK.out _ _ ⟨fun x hx => HN.out.k x (.tail _ (.tail _ hx)), fun _ => trivial⟩ ?_
                      clear hK K
                      try simp only [Act.put]
                      refine anyC_keep (i := 13) (o := ⟨none, _, _, _, _, _⟩) (by kernel_rfl) rfl (fun K hK => ?_)
                      rw [if_pos (by rfl)]
                      refine wp_put [(G18, r18)] G19 r19 HN rfl rfl rfl fun V7 HN => ?_
                      refine hK.out _ _ ⟨fun x hx => HN.out.k x (.tail _ (.tail _ hx)), fun _ => trivial⟩ ?_
                      clear hK K
                      try simp only [Act.put]
                      refine anyC_done (by kernel_rfl) ?_ _
                      go_wp2_with fail
                      go_meet
                      exact ⟨G18, G19, r18, r19, rfl, rfl, Hr18, Hr19, Lib.hid (HN.out.perm (List.Perm.swap _ _ _))⟩
                  · rw [if_pos (by rfl)]
                    have hn := HN.out.new
                    go_wp2_with fail
                    generalize World.alloc V2 Z16o = V3 at hn ⊢
                    generalize Array.size (World.heap V2) = G18 at hn ⊢
                    have HN := Lib.hid hn
                    refine hK.out _ _ ⟨fun x hx => HN.out.k x (.tail _ hx), fun _ => trivial⟩ ?_
                    clear hK K hn
                    try simp only [Act.put, List.setIfInBounds_toArray, List.set_cons_zero, List.set_cons_succ]
                    refine anyC_two (i := 9) (o1 := ⟨some 71, _, _, _, _, _⟩) (j := 11) (o2 := ⟨some 19, _, _, _, _, _⟩) (by kernel_rfl) rfl rfl (fun K hK => ?_) (fun K hK => ?_)
                    · rw [if_pos (by rfl)]
                      go_wp2_with fail
                      (with_reducible refine (mul_rel Hrg.out Hr14.out _).mono ?_)
                      rintro e V4 ⟨r19, rfl, hR, hb⟩
                      have Hr19 := Lib.hid hR
                      clear hR
                      have HN := Lib.hid (HN.out.below hb)
                      refine hK.out _ _ ⟨fun x hx => HN.out.k x (.tail _ hx), fun _ => trivial⟩ ?_
                      clear hK K hb
                      try simp only [Act.put, List.setIfInBounds_toArray, List.set_cons_zero, List.set_cons_succ]
                      refine anyC_keep (i := 11) (o := ⟨some 19, _, _, _, _, _⟩) (by kernel_rfl) rfl (fun K hK => ?_)
                      rw [if_pos (by rfl)]
                      have hn := HN.out.new
                      go_wp2_with fail
                      generalize World.alloc V4 Z16o = V5 at hn ⊢
                      generalize Array.size (World.heap V4) = G19 at hn ⊢
                      have HN := Lib.hid hn
                      refine hK.out _ _ ⟨fun x hx => HN.out.k x (.tail _ (.tail _ hx)), fun _ => trivial⟩ ?_
                      clear hK K hn
                      try simp only [Act.put, List.setIfInBounds_toArray, List.set_cons_zero, List.set_cons_succ]
                      refine anyC_keep (i := 12) (o := ⟨none, _, _, _, _, _⟩) (by kernel_rfl) rfl (fun K hK => ?_)
                      rw [if_pos (by rfl)]
                      refine wp_put [(G19, 0)] G18 r18 HN rfl rfl rfl fun V6 HN => ?_
                      refine hK.out _ _ ⟨fun x hx => HN.out.k x (.tail _ (.tail _ hx)), fun _ => trivial⟩ ?_
                      clear hK K
                      try simp only [Act.put]
                      refine anyC_keep (i := 13) (o := ⟨none, _, _, _, _, _⟩) (by kernel_rfl) rfl (fun K hK => ?_)
                      rw [if_pos (by rfl)]
                      refine wp_put [] G19 r19 HN rfl rfl rfl fun V7 HN => ?_
                      refine hK.out _ _ ⟨fun x hx => HN.out.k x (.tail _ (.tail _ hx)), fun _ => trivial⟩ ?_
                      clear hK K
                      try simp only [Act.put]
                      refine anyC_done (by kernel_rfl) ?_ _
                      go_wp2_with fail
                      go_meet
                      exact ⟨G18, G19, r18, r19, rfl, rfl, Hr18, Hr19, HN⟩
                    · rw [if_pos (by rfl)]
                      have hn := HN.out.new
                      go_wp2_with fail
                      generalize World.alloc V3 Z16o = V4 at hn ⊢
                      generalize Array.size (World.heap V3) = G19 at hn ⊢
                      have HN := Lib.hid hn
                      refine hK.out _ _ ⟨fun x hx => HN.out.k x (.tail _ (.tail _ hx)), fun _ => trivial⟩ ?_
                      clear hK K hn
                      try simp only [Act.put, List.setIfInBounds_toArray, List.set_cons_zero, List.set_cons_succ]
                      refine anyC_keep (i := 9) (o := ⟨some 71, _, _, _, _, _⟩) (by kernel_rfl) rfl (fun K hK => ?_)
                      rw [if_pos (by rfl)]
                      go_wp2_with fail
                      (with_reducible refine (mul_rel Hrg.out Hr14.out _).mono ?_)
                      rintro e V5 ⟨r19, rfl, hR, hb⟩
                      have Hr19 := Lib.hid hR
                      clear hR
                      have HN := Lib.hid (HN.out.below hb)
                      refine hK.out _ _ ⟨fun x hx => HN.out.k x (.tail _ (.tail _ hx)), fun _ => trivial⟩ ?_
                      clear hK K hb
                      try simp only [Act.put, List.setIfInBounds_toArray, List.set_cons_zero, List.set_cons_succ]
                      refine anyC_keep (i := 12) (o := ⟨none, _, _, _, _, _⟩) (by kernel_rfl) rfl (fun K hK => ?_)
                      rw [if_pos (by rfl)]
                      refine wp_put [(G19, 0)] G18 r18 HN rfl rfl rfl fun V6 HN => ?_
                      refine hK.out _ _ ⟨fun x hx => HN.out.k x (.tail _ (.tail _ hx)), fun _ => trivial⟩ ?_
                      clear hK K
                      try simp only [Act.put]
                      refine anyC_keep (i := 13) (o := ⟨none, _, _, _, _, _⟩) (by kernel_rfl) rfl (fun K hK => ?_)
                      rw [if_pos (by rfl)]
                      refine wp_put [] G19 r19 HN rfl rfl rfl fun V7 HN => ?_
                      refine hK.out _ _ ⟨fun x hx => HN.out.k x (.tail _ (.tail _ hx)), fun _ => trivial⟩ ?_
                      clear hK K
                      try simp only [Act.put]
                      refine anyC_done (by kernel_rfl) ?_ _
                      go_wp2_with fail
                      go_meet
                      exact ⟨G18, G19, r18, r19, rfl, rfl, Hr18, Hr19, HN⟩
                  · rw [if_pos (by rfl)]
                    have hn := HN.out.new
                    go_wp2_with fail
                    generalize World.alloc V2 Z16o = V3 at hn ⊢
                    generalize Array.size (World.heap V2) = G19 at hn ⊢
                    have HN := Lib.hid hn
                    refine hK.out _ _ ⟨fun x hx => HN.out.k x (.tail _ hx), fun _ => trivial⟩ ?_
                    clear hK K hn
                    try simp only [Act.put, List.setIfInBounds_toArray, List.set_cons_zero, List.set_cons_succ]
                    refine anyC_two (i := 9) (o1 := ⟨some 71, _, _, _, _, _⟩) (j := 10) (o2 := ⟨some 18, _, _, _, _, _⟩) (by kernel_rfl) rfl rfl (fun K hK => ?_) (fun K hK => ?_)
                    · rw [if_pos (by rfl)]
                      go_wp2_with fail
                      (with_reducible refine (mul_rel Hrg.out Hr14.out _).mono ?_)
                      rintro e V4 ⟨r19, rfl, hR, hb⟩
                      have Hr19 := Lib.hid hR
                      clear hR
                      have HN := Lib.hid (HN.out.below hb)
                      refine hK.out _ _ ⟨fun x hx => HN.out.k x (.tail _ hx), fun _ => trivial⟩ ?_
                      clear hK K hb
                      try simp only [Act.put, List.setIfInBounds_toArray, List.set_cons_zero, List.set_cons_succ]
                      refine anyC_keep (i := 10) (o := ⟨some 18, _, _, _, _, _⟩) (by kernel_rfl) rfl (fun K hK => ?_)
                      rw [if_pos (by rfl)]
                      have hn := HN.out.new
                      go_wp2_with fail
                      generalize World.alloc V4 Z16o = V5 at hn ⊢
                      generalize Array.size (World.heap V4) = G18 at hn ⊢
                      have HN := Lib.hid hn
                      refine hK.out _ _ ⟨fun x hx => HN.out.k x (.tail _ (.tail _ hx)), fun _ => trivial⟩ ?_
                      clear hK K hn
                      try simp only [Act.put, List.setIfInBounds_toArray, List.set_cons_zero, List.set_cons_succ]
                      refine anyC_keep (i := 12) (o := ⟨none, _, _, _, _, _⟩) (by kernel_rfl) rfl (fun K hK => ?_)
                      rw [if_pos (by rfl)]
                      refine wp_put [] G18 r18 HN rfl rfl rfl fun V6 HN => ?_
                      refine hK.out _ _ ⟨fun x hx => HN.out.k x (.tail _ (.tail _ hx)), fun _ => trivial⟩ ?_
                      clear hK K
                      try simp only [Act.put]
                      refine anyC_keep (i := 13) (o := ⟨none, _, _, _, _, _⟩) (by kernel_rfl) rfl (fun K hK => ?_)
                      rw [if_pos (by rfl)]
                      refine wp_put [(G18, r18)] G19 r19 HN rfl rfl rfl fun V7 HN => ?_
                      refine hK.out _ _ ⟨fun x hx => HN.out.k x (.tail _ (.tail _ hx)), fun _ => trivial⟩ ?_
                      clear hK K
                      try simp only [Act.put]
                      refine anyC_done (by kernel_rfl) ?_ _
                      go_wp2_with fail
                      go_meet
                      exact ⟨G18, G19, r18, r19, rfl, rfl, Hr18, Hr19, Lib.hid (HN.out.perm (List.Perm.swap _ _ _))⟩
                    · rw [if_pos (by rfl)]
                      have hn := HN.out.new
                      go_wp2_with fail
                      generalize World.alloc V3 Z16o = V4 at hn ⊢
                      generalize Array.size (World.heap V3) = G18 at hn ⊢
                      have HN := Lib.hid hn
                      refine hK.out _ _ ⟨fun x hx => HN.out.k x (.tail _ (.tail _ hx)), fun _ => trivial⟩ ?_
                      clear hK K hn
                      try simp only [Act.put, List.setIfInBounds_toArray, List.set_cons_zero, List.set_cons_succ]
                      refine anyC_keep (i := 9) (o := ⟨some 71, _, _, _, _, _⟩) (by kernel_rfl) rfl (fun K hK => ?_)
                      rw [if_pos (by rfl)]
                      go_wp2_with fail
                      (with_reducible refine (mul_rel Hrg.out Hr14.out _).mono ?_)
                      rintro e V5 ⟨r19, rfl, hR, hb⟩
                      have Hr19 := Lib.hid hR
                      clear hR
                      have HN := Lib.hid (HN.out.below hb)
                      refine hK.out _ _ ⟨fun x hx => HN.out.k x (.tail _ (.tail _ hx)), fun _ => trivial⟩ ?_
                      clear hK K hb
                      try simp only [Act.put, List.setIfInBounds_toArray, List.set_cons_zero, List.set_cons_succ]
                      refine anyC_keep (i := 12) (o := ⟨none, _, _, _, _, _⟩) (by kernel_rfl) rfl (fun K hK => ?_)
                      rw [if_pos (by rfl)]
                      refine wp_put [] G18 r18 HN rfl rfl rfl fun V6 HN => ?_
                      refine hK.out _ _ ⟨fun x hx => HN.out.k x (.tail _ (.tail _ hx)), fun _ => trivial⟩ ?_
                      clear hK K
                      try simp only [Act.put]
                      refine anyC_keep (i := 13) (o := ⟨none, _, _, _, _, _⟩) (by kernel_rfl) rfl (fun K hK => ?_)
                      rw [if_pos (by rfl)]
                      refine wp_put [(G18, r18)] G19 r19 HN rfl rfl rfl fun V7 HN => ?_
                      refine hK.out _ _ ⟨fun x hx => HN.out.k x (.tail _ (.tail _ hx)), fun _ => trivial⟩ ?_
                      clear hK K
                      try simp only [Act.put]
                      refine anyC_done (by kernel_rfl) ?_ _
                      go_wp2_with fail
                      go_meet
                      exact ⟨G18, G19, r18, r19, rfl, rfl, Hr18, Hr19, Lib.hid (HN.out.perm (List.Perm.swap _ _ _))⟩
                · rw [if_pos (by rfl)]
                  have hn := HN.out.new
                  go_wp2_with fail
                  generalize World.alloc V1 Z16o = V2 at hn ⊢
                  generalize Array.size (World.heap V1) = G18 at hn ⊢
                  have HN := Lib.hid hn
                  refine hK.out _ _ ⟨fun x hx => HN.out.k x (.tail _ hx), fun _ => trivial⟩ ?_
                  clear hK K hn
                  try simp only [Act.put, List.setIfInBounds_toArray, List.set_cons_zero, List.set_cons_succ]
                  refine anyC_two (i := 7) (o1 := ⟨some 69, _, _, _, _, _⟩) (j := 11) (o2 := ⟨some 19, _, _, _, _, _⟩) (by kernel_rfl) rfl rfl (fun K hK => ?_) (fun K hK => ?_)
                  · rw [if_pos (by rfl)]
                    go_wp2_with fail
                    (with_reducible refine (sum_rel HRc.out HRd.out _).mono ?_)
                    rintro e V3 ⟨rg, rfl, hR, hb⟩
                    have Hrg := Lib.hid hR
                    clear hR
                    have HN := Lib.hid (HN.out.below hb)
                    refine hK.out _ _ ⟨fun x hx => HN.out.k x (.tail _ hx), fun _ => trivial⟩ ?_
                    clear hK K hb
                    try simp only [Act.put, List.setIfInBounds_toArray, List.set_cons_zero, List.set_cons_succ]
                    refine anyC_two (i := 9) (o1 := ⟨some 71, _, _, _, _, _⟩) (j := 11) (o2 := ⟨some 19, _, _, _, _, _⟩) (by kernel_rfl) rfl rfl (fun K hK => ?_) (fun K hK => ?_)
                    · rw [if_pos (by rfl)]
                      go_wp2_with fail
                      (with_reducible refine (mul_rel Hrg.out Hr14.out _).mono ?_)
                      rintro e V4 ⟨r19, rfl, hR, hb⟩
                      have Hr19 := Lib.hid hR
                      clear hR
                      have HN := Lib.hid (HN.out.below hb)
                      refine hK.out _ _ ⟨fun x hx => HN.out.k x (.tail _ hx), fun _ => trivial⟩ ?_
                      clear hK K hb
                      try simp only [Act.put, List.setIfInBounds_toArray, List.set_cons_zero, List.set_cons_succ]
                      refine anyC_keep (i := 11) (o := ⟨some 19, _, _, _, _, _⟩) (by kernel_rfl) rfl (fun K hK => ?_)
                      rw [if_pos (by rfl)]
                      have hn := HN.out.new
                      go_wp2_with fail
                      generalize World.alloc V4 Z16o = V5 at hn ⊢
                      generalize Array.size (World.heap V4) = G19 at hn ⊢
                      have HN := Lib.hid hn
                      refine hK.out _ _ ⟨fun x hx => HN.out.k x (.tail _ (.tail _ hx)), fun _ => trivial⟩ ?_
                      clear hK K hn
                      try simp only [Act.put, List.setIfInBounds_toArray, List.set_cons_zero, List.set_cons_succ]
                      refine anyC_keep (i := 12) (o := ⟨none, _, _, _, _, _⟩) (by kernel_rfl) rfl (fun K hK => ?_)
                      rw [if_pos (by rfl)]
                      refine wp_put [(G19, 0)] G18 r18 HN rfl rfl rfl fun V6 HN => ?_
                      refine hK.out _ _ ⟨fun x hx => HN.out.k x (.tail _ (.tail _ hx)), fun _ => trivial⟩ ?_
                      clear hK K
                      try simp only [Act.put]
                      refine anyC_keep (i := 13) (o := ⟨none, _, _, _, _, _⟩) (by kernel_rfl) rfl (fun K hK => ?_)
                      rw [if_pos (by rfl)]
                      refine wp_put [] G19 r19 HN rfl rfl rfl fun V7 HN => ?_
                      refine hK.out _ _ ⟨fun x hx => HN.out.k x (.tail _ (.tail _ hx)), fun _ => trivial⟩ ?_
                      clear hK K
                      try simp only [Act.put]
                      refine anyC_done (by kernel_rfl) ?_ _
                      go_wp2_with fail
                      go_meet
                      exact ⟨G18, G19, r18, r19, rfl, rfl, Hr18, Hr19, HN⟩
                    · rw [if_pos (by rfl)]
                      have hn := HN.out.new
                      go_wp2_with fail
                      generalize World.alloc V3 Z16o = V4 at hn ⊢
                      generalize Array.size (World.heap V3) = G19 at hn ⊢
                      have HN := Lib.hid hn
                      refine hK.out _ _ ⟨fun x hx => HN.out.k x (.tail _ (.tail _ hx)), fun _ => trivial⟩ ?_
                      clear hK K hn
                      try simp only [Act.put, List.setIfInBounds_toArray, List.set_cons_zero, List.set_cons_succ]
                      refine anyC_keep (i := 9) (o := ⟨some 71, _, _, _, _, _⟩) (by kernel_rfl) rfl (fun K hK => ?_)
                      rw [if_pos (by rfl)]
                      go_wp2_with fail
                      (with_reducible refine (mul_rel Hrg.out Hr14.out _).mono ?_)
                      rintro e V5 ⟨r19, rfl, hR, hb⟩
                      have Hr19 := Lib.hid hR
                      clear hR
                      have HN := Lib.hid (HN.out.below hb)
                      refine hK.out _ _ ⟨fun x hx => HN.out.k x (.tail _ (.tail _ hx)), fun _ => trivial⟩ ?_
                      clear hK K hb
                      try simp only [Act.put, List.setIfInBounds_toArray, List.set_cons_zero, List.set_cons_succ]
                      refine anyC_keep (i := 12) (o := ⟨none, _, _, _, _, _⟩) (by kernel_rfl) rfl (fun K hK => ?_)
                      rw [if_pos (by rfl)]
                      refine wp_put [(G19, 0)] G18 r18 HN rfl rfl rfl fun V6 HN => ?_
                      refine hK.out _ _ ⟨fun x hx => HN.out.k x (.tail _ (.tail _ hx)), fun _ => trivial⟩ ?_
                      clear hK K
                      try simp only [Act.put]
                      refine anyC_keep (i := 13) (o := ⟨none, _, _, _, _, _⟩) (by kernel_rfl) rfl (fun K hK => ?_)
                      rw [if_pos (by rfl)]
                      refine wp_put [] G19 r19 HN rfl rfl rfl fun V7 HN => ?_
                      refine hK.out _ _ ⟨fun x hx => HN.out.k x (.tail _ (.tail _ hx)), fun _ => trivial⟩ ?_
                      clear hK K
                      try simp only [Act.put]
                      refine anyC_done (by kernel_rfl) ?_ _
                      go_wp2_with fail
                      go_meet
                      exact ⟨G18, G19, r18, r19, rfl, rfl, Hr18, Hr19, HN⟩
                  · rw [if_pos (by rfl)]
                    have hn := HN.out.new
                    go_wp2_with fail
                    generalize World.alloc V2 Z16o = V3 at hn ⊢
                    generalize Array.size (World.heap V2) = G19 at hn ⊢
                    have HN := Lib.hid hn
                    refine hK.out _ _ ⟨fun x hx => HN.out.k x (.tail _ (.tail _ hx)), fun _ => trivial⟩ ?_
                    clear hK K hn
                    try simp only [Act.put, List.setIfInBounds_toArray, List.set_cons_zero, List.set_cons_succ]
                    refine anyC_keep (i := 7) (o := ⟨some 69, _, _, _, _, _⟩) (by kernel_rfl) rfl (fun K hK => ?_)
                    rw [if_pos (by rfl)]
                    go_wp2_with fail
                    (with_reducible refine (sum_rel HRc.out HRd.out _).mono ?_)
                    rintro e V4 ⟨rg, rfl, hR, hb⟩
                    have Hrg := Lib.hid hR
                    clear hR
                    have HN := Lib.hid (HN.out.below hb)
                    refine hK.out _ _ ⟨fun x hx => HN.out.k x (.tail _ (.tail _ hx)), fun _ => trivial⟩ ?_
                    clear hK K hb
                    try simp only [Act.put, List.setIfInBounds_toArray, List.set_cons_zero, List.set_cons_succ]
                    refine anyC_keep (i := 9) (o := ⟨some 71, _, _, _, _, _⟩) (by kernel_rfl) rfl (fun K hK => ?_)
                    rw [if_pos (by rfl)]
                    go_wp2_with fail
                    (with_reducible refine (mul_rel Hrg.out Hr14.out _).mono ?_)
                    rintro e V5 ⟨r19, rfl, hR, hb⟩
                    have Hr19 := Lib.hid hR
                    clear hR
                    have HN := Lib.hid (HN.out.below hb)
                    refine hK.out _ _ ⟨fun x hx => HN.out.k x (.tail _ (.tail _ hx)), fun _ => trivial⟩ ?_
                    clear hK K hb
                    try simp only [Act.put, List.setIfInBounds_toArray, List.set_cons_zero, List.set_cons_succ]
                    refine anyC_keep (i := 12) (o := ⟨none, _, _, _, _, _⟩) (by kernel_rfl) rfl (fun K hK => ?_)
                    rw [if_pos (by rfl)]
                    refine wp_put [(G19, 0)] G18 r18 HN rfl rfl rfl fun V6 HN => ?_
                    refine hK.out _ _ ⟨fun x hx => HN.out.k x (.tail _ (.tail _ hx)), fun _ => trivial⟩ ?_
                    clear hK K
                    try simp only [Act.put]
                    refine anyC_keep (i := 13) (o := ⟨none, _, _, _, _, _⟩) (by kernel_rfl) rfl (fun K hK => ?_)
                    rw [if_pos (by rfl)]
                    refine wp_put [] G19 r19 HN rfl rfl rfl fun V7 HN => ?_
                    refine hK.out _ _ ⟨fun x hx => HN.out.k x (.tail _ (.tail _ hx)), fun _ => trivial⟩ ?_
                    clear hK K
                    try simp only [Act.put]
                    refine anyC_done (by kernel_rfl) ?_ _
                    go_wp2_with fail
                    go_meet
                    exact ⟨G18, G19, r18, r19, rfl, rfl, Hr18, Hr19, HN⟩
                · rw [if_pos (by rfl)]
                  have hn := HN.out.new
                  go_wp2_with fail
                  generalize World.alloc V1 Z16o = V2 at hn ⊢
                  generalize Array.size (World.heap V1) = G19 at hn ⊢
                  have HN := Lib.hid hn
                  refine hK.out _ _ ⟨fun x hx => HN.out.k x (.tail _ hx), fun _ => trivial⟩ ?_
                  clear hK K hn
                  try simp only [Act.put, List.setIfInBounds_toArray, List.set_cons_zero, List.set_cons_succ]
                  refine anyC_two (i := 7) (o1 := ⟨some 69, _, _, _, _, _⟩) (j := 10) (o2 := ⟨some 18, _, _, _, _, _⟩) (by kernel_rfl) rfl rfl (fun K hK => ?_) (fun K hK => ?_)
                  · rw [if_pos (by rfl)]
                    go_wp2_with fail
                    (with_reducible refine (sum_rel HRc.out HRd.out _).mono ?_)
                    rintro e V3 ⟨rg, rfl, hR, hb⟩
                    have Hrg := Lib.hid hR
                    clear hR
                    have HN := Lib.hid (HN.out.below hb)
                    refine hK.out _ _ ⟨fun x hx => HN.out.k x (.tail _ hx), fun _ => trivial⟩ ?_
                    clear hK K hb
                    try simp only [Act.put, List.setIfInBounds_toArray, List.set_cons_zero, List.set_cons_succ]
                    refine anyC_two (i := 9) (o1 := ⟨some 71, _, _, _, _, _⟩) (j := 10) (o2 := ⟨some 18, _, _, _, _, _⟩) (by kernel_rfl) rfl rfl (fun K hK => ?_) (fun K hK => ?_)
                    · rw [if_pos (by rfl)]
                      go_wp2_with fail
                      (with_reducible refine (mul_rel Hrg.out Hr14.out _).mono ?_)
                      rintro e V4 ⟨r19, rfl, hR, hb⟩
                      have Hr19 := Lib.hid hR
                      clear hR
                      have HN := Lib.hid (HN.out.below hb)
                      refine hK.out _ _ ⟨fun x hx => HN.out.k x (.tail _ hx), fun _ => trivial⟩ ?_
                      clear hK K hb
                      try simp only [Act.put, List.setIfInBounds_toArray, List.set_cons_zero, List.set_cons_succ]
                      refine anyC_keep (i := 10) (o := ⟨some 18, _, _, _, _, _⟩) (by kernel_rfl) rfl (fun K hK => ?_)
                      rw [if_pos (by rfl)]
                      have hn := HN.out.new
                      go_wp2_with fail
                      generalize World.alloc V4 Z16o = V5 at hn ⊢
                      generalize Array.size (World.heap V4) = G18 at hn ⊢
                      have HN := Lib.hid hn
                      refine hK.out _ _ ⟨fun x hx => HN.out.k x (.tail _ (.tail _ hx)), fun _ => trivial⟩ ?_
                      clear hK K hn
                      try simp only [Act.put, List.setIfInBounds_toArray, List.set_cons_zero, List.set_cons_succ]
                      refine anyC_keep (i := 12) (o := ⟨none, _, _, _, _, _⟩) (by kernel_rfl) rfl (fun K hK => ?_)
                      rw [if_pos (by rfl)]
                      refine wp_put [] G18 r18 HN rfl rfl rfl fun V6 HN => ?_
                      refine hK.out _ _ ⟨fun x hx => HN.out.k x (.tail _ (.tail _ hx)), fun _ => trivial⟩ ?_
                      clear hK K
                      try simp only [Act.put]
                      refine anyC_keep (i := 13) (o := ⟨none, _, _, _, _, _⟩) (by kernel_rfl) rfl (fun K hK => ?_)
                      rw [if_pos (by rfl)]
                      refine wp_put [(G18, r18)] G19 r19 HN rfl rfl rfl fun V7 HN => ?_
                      refine hK.out _ _ ⟨fun x hx => HN.out.k x (.tail _ (.tail _ hx)), fun _ => trivial⟩ ?_
                      clear hK K
                      try simp only [Act.put]
                      refine anyC_done (by kernel_rfl) ?_ _
                      go_wp2_with fail
                      go_meet
                      exact ⟨G18, G19, r18, r19, rfl, rfl, Hr18, Hr19, Lib.hid (HN.out.perm (List.Perm.swap _ _ _))⟩
                    · rw [if_pos (by rfl)]
                      have hn := HN.out.new
                      go_wp2_with fail
                      generalize World.alloc V3 Z16o = V4 at hn ⊢
                      generalize Array.size (World.heap V3) = G18 at hn ⊢
                      have HN := Lib.hid hn
                      refine hK.out _ _ ⟨fun x hx => HN.out.k x (.tail _ (.tail _ hx)), fun _ => trivial⟩ ?_
                      clear hK K hn
                      try simp only [Act.put, List.setIfInBounds_toArray, List.set_cons_zero, List.set_cons_succ]
                      refine anyC_keep (i := 9) (o := ⟨some 71, _, _, _, _, _⟩) (by kernel_rfl) rfl (fun K hK => ?_)
                      rw [if_pos (by rfl)]
                      go_wp2_with fail
                      (with_reducible refine (mul_rel Hrg.out Hr14.out _).mono ?_)
                      rintro e V5 ⟨r19, rfl, hR, hb⟩
                      have Hr19 := Lib.hid hR
                      clear hR
                      have HN := Lib.hid (HN.out.below hb)
                      refine hK.out _ _ ⟨fun x hx => HN.out.k x (.tail _ (.tail _ hx)), fun _ => trivial⟩ ?_
                      clear hK K hb
                      try simp only [Act.put, List.setIfInBounds_toArray, List.set_cons_zero, List.set_cons_succ]
                      refine anyC_keep (i := 12) (o := ⟨none, _, _, _, _, _⟩) (by kernel_rfl) rfl (fun K hK => ?_)
                      rw [if_pos (by rfl)]
                      refine wp_put [] G18 r18 HN rfl rfl rfl fun V6 HN => ?_
                      refine hK.out _ _ ⟨fun x hx => HN.out.k x (.tail _ (.tail _ hx)), fun _ => trivial⟩ ?_
                      clear hK K
                      try simp only [Act.put]
                      refine anyC_keep (i := 13) (o := ⟨none, _, _, _, _, _⟩) (by kernel_rfl) rfl (fun K hK => ?_)
                      rw [if_pos (by rfl)]
                      refine wp_put [(G18, r18)] G19 r19 HN rfl rfl rfl fun V7 HN => ?_
                      refine hK.out _ _ ⟨fun x hx => HN.out.k x (.tail _ (.tail _ hx)), fun _ => trivial⟩ ?_
                      clear hK K
                      try simp only [Act.put]
                      refine anyC_done (by kernel_rfl) ?_ _
                      go_wp2_with fail
                      go_meet
                      exact ⟨G18, G19, r18, r19, rfl, rfl, Hr18, Hr19, Lib.hid (HN.out.perm (List.Perm.swap _ _ _))⟩
                  · rw [if_pos (by rfl)]
                    have hn := HN.out.new
                    go_wp2_with fail
                    generalize World.alloc V2 Z16o = V3 at hn ⊢
                    generalize Array.size (World.heap V2) = G18 at hn ⊢
                    have HN := Lib.hid hn
                    refine hK.out _ _ ⟨fun x hx => HN.out.k x (.tail _ (.tail _ hx)), fun _ => trivial⟩ ?_
                    clear hK K hn
                    try simp only [Act.put, List.setIfInBounds_toArray, List.set_cons_zero, List.set_cons_succ]
                    refine anyC_keep (i := 7) (o := ⟨some 69, _, _, _, _, _⟩) (by kernel_rfl) rfl (fun K hK => ?_)
                    rw [if_pos (by rfl)]
                    go_wp2_with fail
                    (with_reducible refine (sum_rel HRc.out HRd.out _).mono ?_)
                    rintro e V4 ⟨rg, rfl, hR, hb⟩
                    have Hrg := Lib.hid hR
                    clear hR
                    have HN := Lib.hid (HN.out.below hb)
                    refine hK.out _ _ ⟨fun x hx => HN.out.k x (.tail _ (.tail _ hx)), fun _ => trivial⟩ ?_
                    clear hK K hb
                    try simp only [Act.put, List.setIfInBounds_toArray, List.set_cons_zero, List.set_cons_succ]
                    refine anyC_keep (i := 9) (o := ⟨some 71, _, _, _, _, _⟩) (by kernel_rfl) rfl (fun K hK => ?_)
                    rw [if_pos (by rfl)]
                    go_wp2_with fail
                    (with_reducible refine (mul_rel Hrg.out Hr14.out _).mono ?_)
                    rintro e V5 ⟨r19, rfl, hR, hb⟩
                    have Hr19 := Lib.hid hR
                    clear hR
                    have HN := Lib.hid (HN.out.below hb)
                    refine hK.out _ _ ⟨fun x hx => HN.out.k x (.tail _ (.tail _ hx)), fun _ => trivial⟩ ?_
                    clear hK K hb
                    try simp only [Act.put, List.setIfInBounds_toArray, List.set_cons_zero, List.set_cons_succ]
                    refine anyC_keep (i := 12) (o := ⟨none, _, _, _, _, _⟩) (by kernel_rfl) rfl (fun K hK => ?_)
                    rw [if_pos (by rfl)]
                    refine wp_put [] G18 r18 HN rfl rfl rfl fun V6 HN => ?_
                    refine hK.out _ _ ⟨fun x hx => HN.out.k x (.tail _ (.tail _ hx)), fun _ => trivial⟩ ?_
                    clear hK K
                    try simp only [Act.put]
                    refine anyC_keep (i := 13) (o := ⟨none, _, _, _, _, _⟩) (by kernel_rfl) rfl (fun K hK => ?_)
                    rw [if_pos (by rfl)]
                    refine wp_put [(G18, r18)] G19 r19 HN rfl rfl rfl fun V7 HN => ?_
                    refine hK.out _ _ ⟨fun x hx => HN.out.k x (.tail _ (.tail _ hx)), fun _ => trivial⟩ ?_
                    clear hK K
                    try simp only [Act.put]
                    refine anyC_done (by kernel_rfl) ?_ _
                    go_wp2_with fail
                    go_meet
                    exact ⟨G18, G19, r18, r19, rfl, rfl, Hr18, Hr19, Lib.hid (HN.out.perm (List.Perm.swap _ _ _))⟩
              · rw [if_pos (by rfl)]
                have hn := HN.out.new
                go_wp2_with fail
                generalize World.alloc V0 Z16o = V1 at hn ⊢
                generalize Array.size (World.heap V0) = G18 at hn ⊢
                have HN := Lib.hid hn
                refine hK.out _ _ ⟨fun x hx => HN.out.k x (.tail _ hx), fun _ => trivial⟩ ?_
                clear hK K hn
                try simp only [Act.put, List.setIfInBounds_toArray, List.set_cons_zero, List.set_cons_succ]
                refine anyC_two (i := 4) (o1 := ⟨some 66, _, _, _, _, _⟩) (j := 11) (o2 := ⟨some 19, _, _, _, _, _⟩) (by kernel_rfl) rfl rfl (fun K hK => ?_) (fun K hK => ?_)
                · rw [if_pos (by rfl)]
                  go_wp2_with fail
                  (with_reducible refine (mul_rel Hrf.out Hr13.out _).mono ?_)
                  rintro e V2 ⟨r18, rfl, hR, hb⟩
                  have Hr18 := Lib.hid hR
                  clear hR
                  have HN := Lib.hid (HN.out.below hb)
                  refine hK.out _ _ ⟨fun x hx => HN.out.k x (.tail _ hx), fun _ => trivial⟩ ?_
                  clear hK K hb
                  try simp only [Act.put, List.setIfInBounds_toArray, List.set_cons_zero, List.set_cons_succ]
                  refine anyC_two (i := 7) (o1 := ⟨some 69, _, _, _, _, _⟩) (j := 11) (o2 := ⟨some 19, _, _, _, _, _⟩) (by kernel_rfl) rfl rfl (fun K hK => ?_) (fun K hK => ?_)
                  · rw [if_pos (by rfl)]
                    go_wp2_with fail
                    (with_reducible refine (sum_rel HRc.out HRd.out _).mono ?_)
                    rintro e V3 ⟨rg, rfl, hR, hb⟩
                    have Hrg := Lib.hid hR
                    clear hR
                    have HN := Lib.hid (HN.out.below hb)
                    refine hK.out _ _ ⟨fun x hx => HN.out.k x (.tail _ hx), fun _ => trivial⟩ ?_
                    clear hK K hb
                    try simp only [Act.put, List.setIfInBounds_toArray, List.set_cons_zero, List.set_cons_succ]
                    refine anyC_two (i := 9) (o1 := ⟨some 71, _, _, _, _, _⟩) (j := 11) (o2 := ⟨some 19, _, _, _, _, _⟩) (by kernel_rfl) rfl rfl (fun K hK => ?_) (fun K hK => ?_)
                    · rw [if_pos (by rfl)]
                      go_wp2_with fail
                      (with_reducible refine (mul_rel Hrg.out Hr14.out _).mono ?_)
                      rintro e V4 ⟨r19, rfl, hR, hb⟩
                      have Hr19 := Lib.hid hR
                      clear hR
                      have HN := Lib.hid (HN.out.below hb)
                      refine hK.out _ _ ⟨fun x hx => HN.out.k x (.tail _ hx), fun _ => trivial⟩ ?_
                      clear hK K hb
                      try simp only [Act.put, List.setIfInBounds_toArray, List.set_cons_zero, List.set_cons_succ]
                      refine anyC_keep (i := 11) (o := ⟨some 19, _, _, _, _, _⟩) (by kernel_rfl) rfl (fun K hK => ?_)
                      rw [if_pos (by rfl)]
                      have hn := HN.out.new
                      go_wp2_with fail
                      generalize World.alloc V4 Z16o = V5 at hn ⊢
                      generalize Array.size (World.heap V4) = G19 at hn ⊢
                      have HN := Lib.hid hn
                      refine hK.out _ _ ⟨fun x hx => HN.out.k x (.tail _ (.tail _ hx)), fun _ => trivial⟩ ?_
                      clear hK K hn
                      try simp only [Act.put, List.setIfInBounds_toArray, List.set_cons_zero, List.set_cons_succ]
                      refine anyC_keep (i := 12) (o := ⟨none, _, _, _, _, _⟩) (by kernel_rfl) rfl (fun K hK => ?_)
                      rw [if_pos (by rfl)]
                      refine wp_put [(G19, 0)] G18 r18 HN rfl rfl rfl fun V6 HN => ?_
                      refine hK.out _ _ ⟨fun x hx => HN.out.k x (.tail _ (.tail _ hx)), fun _ => trivial⟩ ?_
                      clear hK K
                      try simp only [Act.put]
                      refine anyC_keep (i := 13) (o := ⟨none, _, _, _, _, _⟩) (by kernel_rfl) rfl (fun K hK => ?_)
                      rw [if_pos (by rfl)]
                      refine wp_put [] G19 r19 HN rfl rfl rfl fun V7 HN => ?_
                      refine hK.out _ _ ⟨fun x hx => HN.out.k x (.tail _ (.tail _ hx)), fun _ => trivial⟩ ?_
                      clear hK K
                      try simp only [Act.put]
                      refine anyC_done (by kernel_rfl) ?_ _
                      go_wp2_with fail
                      go_meet
                      exact ⟨G18, G19, r18, r19, rfl, rfl, Hr18, Hr19, HN⟩
                    · rw [if_pos (by rfl)]
                      have hn := HN.out.new
                      go_wp2_with fail
                      generalize World.alloc V3 Z16o = V4 at hn ⊢
                      generalize Array.size (World.heap V3) = G19 at hn ⊢
                      have HN := Lib.hid hn
                      refine hK.out _ _ ⟨fun x hx => HN.out.k x (.tail _ (.tail _ hx)), fun _ => trivial⟩ ?_
                      clear hK K hn
                      try simp only [Act.put, List.setIfInBounds_toArray, List.set_cons_zero, List.set_cons_succ]
                      refine anyC_keep (i := 9) (o := ⟨some 71, _, _, _, _, _⟩) (by kernel_rfl) rfl (fun K hK => ?_)
                      rw [if_pos (by rfl)]
                      go_wp2_with fail
                      (with_reducible refine (mul_rel Hrg.out Hr14.out _).mono ?_)
                      rintro e V5 ⟨r19, rfl, hR, hb⟩
                      have Hr19 := Lib.hid hR
                      clear hR
                      have HN := Lib.hid (HN.out.below hb)
                      refine hK.out _ _ ⟨fun x hx => HN.out.k x (.tail _ (.tail _ hx)), fun _ => trivial⟩ ?_
                      clear hK K hb
                      try simp only [Act.put, List.setIfInBounds_toArray, List.set_cons_zero, List.set_cons_succ]
                      refine anyC_keep (i := 12) (o := ⟨none, _, _, _, _, _⟩) (by kernel_rfl) rfl (fun K hK => ?_)
                      rw [if_pos (by rfl)]
                      refine wp_put [(G19, 0)] G18 r18 HN rfl rfl rfl fun V6 HN => ?_
                      refine hK.out _ _ ⟨fun x hx => HN.out.k x (.tail _ (.tail _ hx)), fun _ => trivial⟩ ?_
                      clear hK K
                      try simp only [Act.put]
                      refine anyC_keep (i := 13) (o := ⟨none, _, _, _, _, _⟩) (by kernel_rfl) rfl (fun K hK => ?_)
                      rw [if_pos (by rfl)]
                      refine wp_put [] G19 r19 HN rfl rfl rfl fun V7 HN => ?_
                      refine hK.out _ _ ⟨fun x hx => HN.out.k x (.tail _ (.tail _ hx)), fun _ => trivial⟩ ?_
                      clear hK K
                      try simp only [Act.put]
                      refine anyC_done (by kernel_rfl) ?_ _
                      go_wp2_with fail
                      go_meet
                      exact ⟨G18, G19, r18, r19, rfl, rfl, Hr18, Hr19, HN⟩
                  · rw [if_pos (by rfl)]
                    have hn := HN.out.new
                    go_wp2_with fail
                    generalize World.alloc V2 Z16o = V3 at hn ⊢
                    generalize Array.size (World.heap V2) = G19 at hn ⊢
                    have HN := Lib.hid hn
                    refine hK.out _ _ ⟨fun x hx => HN.out.k x (.tail _ (.tail _ hx)), fun _ => trivial⟩ ?_
                    clear hK K hn
                    try simp only [Act.put, List.setIfInBounds_toArray, List.set_cons_zero, List.set_cons_succ]
                    refine anyC_keep (i := 7) (o := ⟨some 69, _, _, _, _, _⟩) (by kernel_rfl) rfl (fun K hK => ?_)
                    rw [if_pos (by rfl)]
                    go_wp2_with fail
                    (with_reducible refine (sum_rel HRc.out HRd.out _).mono ?_)
                    rintro e V4 ⟨rg, rfl, hR, hb⟩
                    have Hrg := Lib.hid hR
                    clear hR
                    have HN := Lib.hid (HN.out.below hb)
                    refine hK.out _ _ ⟨fun x hx => HN.out.k x (.tail _ (.tail _ hx)), fun _ => trivial⟩ ?_
                    clear hK K hb
                    try simp only [Act.put, List.setIfInBounds_toArray, List.set_cons_zero, List.set_cons_succ]
                    refine anyC_keep (i := 9) (o := ⟨some 71, _, _, _, _, _⟩) (by kernel_rfl) rfl (fun K hK => ?_)
                    rw [if_pos (by rfl)]
                    go_wp2_with fail
                    (with_reducible refine (mul_rel Hrg.out Hr14.out _).mono ?_)
                    rintro e V5 ⟨r19, rfl, hR, hb⟩
                    have Hr19 := Lib.hid hR
                    clear hR
                    have HN := Lib.hid (HN.out.below hb)
                    refine hK.out _ _ ⟨fun x hx => HN.out.k x (.tail _ (.tail _ hx)), fun _ => trivial⟩ ?_
                    clear hK K hb
                    try simp only [Act.put, List.setIfInBounds_toArray, List.set_cons_zero, List.set_cons_succ]
                    refine anyC_keep (i := 12) (o := ⟨none, _, _, _, _, _⟩) (by kernel_rfl) rfl (fun K hK => ?_)
                    rw [if_pos (by rfl)]
                    refine wp_put [(G19, 0)] G18 r18 HN rfl rfl rfl fun V6 HN => ?_
                    refine hK.out _ _ ⟨fun x hx => HN.out.k x (.tail _ (.tail _ hx)), fun _ => trivial⟩ ?_
                    clear hK K
                    try simp only [Act.put]
                    refine anyC_keep (i := 13) (o := ⟨none, _, _, _, _, _⟩) (by kernel_rfl) rfl (fun K hK => ?_)
                    rw [if_pos (by rfl)]
                    refine wp_put [] G19 r19 HN rfl rfl rfl fun V7 HN => ?_
                    refine hK.out _ _ ⟨fun x hx => HN.out.k x (.tail _ (.tail _ hx)), fun _ => trivial⟩ ?_
                    clear hK K
                    try simp only [Act.put]
                    refine anyC_done (by kernel_rfl) ?_ _
                    go_wp2_with fail
                    go_meet
                    exact ⟨G18, G19, r18, r19, rfl, rfl, Hr18, Hr19, HN⟩
                · rw [if_pos (by rfl)]
                  have hn := HN.out.new
                  go_wp2_with fail
                  generalize World.alloc V1 Z16o = V2 at hn ⊢
                  generalize Array.size (World.heap V1) = G19 at hn ⊢
                  have HN := Lib.hid hn
                  refine hK.out _ _ ⟨fun x hx => HN.out.k x (.tail _ (.tail _ hx)), fun _ => trivial⟩ ?_
                  clear hK K hn
                  try simp only [Act.put, List.setIfInBounds_toArray, List.set_cons_zero, List.set_cons_succ]
                  refine anyC_keep (i := 4) (o := ⟨some 66, _, _, _, _, _⟩) (by kernel_rfl) rfl (fun K hK => ?_)
                  rw [if_pos (by rfl)]
                  go_wp2_with fail
                  (with_reducible refine (mul_rel Hrf.out Hr13.out _).mono ?_)
                  rintro e V3 ⟨r18, rfl, hR, hb⟩
                  have Hr18 := Lib.hid hR
                  clear hR
                  have HN := Lib.hid (HN.out.below hb)
                  refine hK.out _ _ ⟨fun x hx => HN.out.k x (.tail _ (.tail _ hx)), fun _ => trivial⟩ ?_
                  clear hK K hb
                  try simp only [Act.put, List.setIfInBounds_toArray, List.set_cons_zero, List.set_cons_succ]
                  refine anyC_keep (i := 7) (o := ⟨some 69, _, _, _, _, _⟩) (by kernel_rfl) rfl (fun K hK => ?_)
                  rw [if_pos (by rfl)]
                  go_wp2_with fail
                  (with_reducible refine (sum_rel HRc.out HRd.out _).mono ?_)
                  rintro e V4 ⟨rg, rfl, hR, hb⟩
                  have Hrg := Lib.hid hR
                  clear hR
                  have HN := Lib.hid (HN.out.below hb)
                  refine hK.out _ _ ⟨fun x hx => HN.out.k x (.tail _ (.tail _ hx)), fun _ => trivial⟩ ?_
                  clear hK K hb
                  try simp only [Act.put, List.setIfInBounds_toArray, List.set_cons_zero, List.set_cons_succ]
                  refine anyC_keep (i := 9) (o := ⟨some 71, _, _, _, _, _⟩) (by kernel_rfl) rfl (fun K hK => ?_)
                  rw [if_pos (by rfl)]
                  go_wp2_with fail
                  (with_reducible refine (mul_rel Hrg.out Hr14.out _).mono ?_)
                  rintro e V5 ⟨r19, rfl, hR, hb⟩
                  have Hr19 := Lib.hid hR
                  clear hR
                  have HN := Lib.hid (HN.out.below hb)
                  refine hK.out _ _ ⟨fun x hx => HN.out.k x (.tail _ (.tail _ hx)), fun _ => trivial⟩ ?_
                  clear hK K hb
                  try simp only [Act.put, List.setIfInBounds_toArray, List.set_cons_zero, List.set_cons_succ]
                  refine anyC_keep (i := 12) (o := ⟨none, _, _, _, _, _⟩) (by kernel_rfl) rfl (fun K hK => ?_)
                  rw [if_pos (by rfl)]
                  refine wp_put [(G19, 0)] G18 r18 HN rfl rfl rfl fun V6 HN => ?_
                  refine hK.out _ _ ⟨fun x hx => HN.out.k x (.tail _ (.tail _ hx)), fun _ => trivial⟩ ?_
                  clear hK K
                  try simp only [Act.put]
                  refine anyC_keep (i := 13) (o := ⟨none, _, _, _, _, _⟩) (by kernel_rfl) rfl (fun K hK => ?_)
                  rw [if_pos (by rfl)]
                  refine wp_put [] G19 r19 HN rfl rfl rfl fun V7 HN => ?_
                  refine hK.out _ _ ⟨fun x hx => HN.out.k x (.tail _ (.tail _ hx)), fun _ => trivial⟩ ?_
                  clear hK K
                  try simp only [Act.put]
                  refine anyC_done (by kernel_rfl) ?_ _
                  go_wp2_with fail
                  go_meet
                  exact ⟨G18, G19, r18, r19, rfl, rfl, Hr18, Hr19, HN⟩
              · rw [if_pos (by rfl)]
                have hn := HN.out.new
                go_wp2_with fail
                generalize World.alloc V0 Z16o = V1 at hn ⊢
                generalize Array.size (World.heap V0) = G19 at hn ⊢
                have HN := Lib.hid hn
                refine hK.out _ _ ⟨fun x hx => HN.out.k x (.tail _ hx), fun _ => trivial⟩ ?_
                clear hK K hn
                try simp only [Act.put, List.setIfInBounds_toArray, List.set_cons_zero, List.set_cons_succ]
                refine anyC_two (i := 4) (o1 := ⟨some 66, _, _, _, _, _⟩) (j := 10) (o2 := ⟨some 18, _, _, _, _, _⟩) (by kernel_rfl) rfl rfl (fun K hK => ?_) (fun K hK => ?_)
                · rw [if_pos (by rfl)]
                  go_wp2_with fail
                  (with_reducible refine (mul_rel Hrf.out Hr13.out _).mono ?_)
                  rintro e V2 ⟨r18, rfl, hR, hb⟩
                  have Hr18 := Lib.hid hR
                  clear hR
                  have HN := Lib.hid (HN.out.below hb)
                  refine hK.out _ _ ⟨fun x hx => HN.out.k x (.tail _ hx), fun _ => trivial⟩ ?_
                  clear hK K hb
                  try simp only [Act.put, List.setIfInBounds_toArray, List.set_cons_zero, List.set_cons_succ]
                  refine anyC_two (i := 7) (o1 := ⟨some 69, _, _, _, _, _⟩) (j := 10) (o2 := ⟨some 18, _, _, _, _, _⟩) (by kernel_rfl) rfl rfl (fun K hK => ?_) (fun K hK => ?_)
                  · rw [if_pos (by rfl)]
                    go_wp2_with fail
                    (with_reducible refine (sum_rel HRc.out HRd.out _).mono ?_)
                    rintro e V3 ⟨rg, rfl, hR, hb⟩
                    have Hrg := Lib.hid hR
                    clear hR
                    have HN := Lib.hid (HN.out.below hb)
                    refine hK.out _ _ ⟨fun x hx => HN.out.k x (.tail _ hx), fun _ => trivial⟩ ?_
                    clear hK K hb
                    try simp only [Act.put, List.setIfInBounds_toArray, List.set_cons_zero, List.set_cons_succ]
                    refine anyC_two (i := 9) (o1 := ⟨some 71, _, _, _, _, _⟩) (j := 10) (o2 := ⟨some 18, _, _, _, _, _⟩) (by kernel_rfl) rfl rfl (fun K hK => ?_) (fun K hK => ?_)
                    · rw [if_pos (by rfl)]
                      go_wp2_with fail
                      (with_reducible refine (mul_rel Hrg.out Hr14.out _).mono ?_)
                      rintro e V4 ⟨r19, rfl, hR, hb⟩
                      have Hr19 := Lib.hid hR
                      clear hR
                      have HN := Lib.hid (HN.out.below hb)
                      refine hK.out _ _ ⟨fun x hx => HN.out.k x (.tail _ hx), fun _ => trivial⟩ ?_
                      clear hK K hb
                      try simp only [Act.put, List.setIfInBounds_toArray, List.set_cons_zero, List.set_cons_succ]
                      refine anyC_keep (i := 10) (o := ⟨some 18, _, _, _, _, _⟩) (by kernel_rfl) rfl (fun K hK => ?_)
                      rw [if_pos (by rfl)]
                      have hn := HN.out.new
                      go_wp2_with fail
                      generalize World.alloc V4 Z16o = V5 at hn ⊢
                      generalize Array.size (World.heap V4) = G18 at hn ⊢
                      have HN := Lib.hid hn
                      refine hK.out _ _ ⟨fun x hx => HN.out.k x (.tail _ (.tail _ hx)), fun _ => trivial⟩ ?_
                      clear hK K hn
                      try simp only [Act.put, List.setIfInBounds_toArray, List.set_cons_zero, List.set_cons_succ]
                      refine anyC_keep (i := 12) (o := ⟨none, _, _, _, _, _⟩) (by kernel_rfl) rfl (fun K hK => ?_)
                      rw [if_pos (by rfl)]
                      refine wp_put [] G18 r18 HN rfl rfl rfl fun V6 HN => ?_
                      refine hK.out _ _ ⟨fun x hx => HN.out.k x (.tail _ (.tail _ hx)), fun _ => trivial⟩ ?_
                      clear hK K
                      try simp only [Act.put]
                      refine anyC_keep (i := 13) (o := ⟨none, _, _, _, _, _⟩) (by kernel_rfl) rfl (fun K hK => ?_)
                      rw [if_pos (by rfl)]
                      refine wp_put [(G18, r18)] G19 r19 HN rfl rfl rfl fun V7 HN => ?_
                      refine hK.out _ _ ⟨fun x hx => HN.out.k x (.tail _ (.tail _ hx)), fun _ => trivial⟩ ?_
                      clear hK K
                      try simp only [Act.put]
                      refine anyC_done (by kernel_rfl) ?_ _
                      go_wp2_with fail
                      go_meet
                      exact ⟨G18, G19, r18, r19, rfl, rfl, Hr18, Hr19, Lib.hid (HN.out.perm (List.Perm.swap _ _ _))⟩
                    · rw [if_pos (by rfl)]
                      have hn := HN.out.new
                      go_wp2_with fail
                      generalize World.alloc V3 Z16o = V4 at hn ⊢
                      generalize Array.size (World.heap V3) = G18 at hn ⊢
                      have HN := Lib.hid hn
                      refine hK.out _ _ ⟨fun x hx => HN.out.k x (.tail _ (.tail _ hx)), fun _ => trivial⟩ ?_
                      clear hK K hn
                      try simp only [Act.put, List.setIfInBounds_toArray, List.set_cons_zero, List.set_cons_succ]
                      refine anyC_keep (i := 9) (o := ⟨some 71, _, _, _, _, _⟩) (by kernel_rfl) rfl (fun K hK => ?_)
                      rw [if_pos (by rfl)]
                      go_wp2_with fail
                      (with_reducible refine (mul_rel Hrg.out Hr14.out _).mono ?_)
                      rintro e V5 ⟨r19, rfl, hR, hb⟩
                      have Hr19 := Lib.hid hR
                      clear hR
                      have HN := Lib.hid (HN.out.below hb)
                      refine hK.out _ _ ⟨fun x hx => HN.out.k x (.tail _ (.tail _ hx)), fun _ => trivial⟩ ?_
                      clear hK K hb
                      try simp only [Act.put, List.setIfInBounds_toArray, List.set_cons_zero, List.set_cons_succ]
                      refine anyC_keep (i := 12) (o := ⟨none, _, _, _, _, _⟩) (by kernel_rfl) rfl (fun K hK => ?_)
                      rw [if_pos (by rfl)]
                      refine wp_put [] G18 r18 HN rfl rfl rfl fun V6 HN => ?_
                      refine hK.out _ _ ⟨fun x hx => HN.out.k x (.tail _ (.tail _ hx)), fun _ => trivial⟩ ?_
                      clear hK K
                      try simp only [Act.put]
                      refine anyC_keep (i := 13) (o := ⟨none, _, _, _, _, _⟩) (by kernel_rfl) rfl (fun K hK => ?_)
                      rw [if_pos (by rfl)]
                      refine wp_put [(G18, r18)] G19 r19 HN rfl rfl rfl fun V7 HN => ?_
                      refine hK.out _ _ ⟨fun x hx => HN.out.k x (.tail _ (.tail _ hx)), fun _ => trivial⟩ ?_
                      clear hK K
                      try simp only [Act.put]
                      refine anyC_done (by kernel_rfl) ?_ _
                      go_wp2_with fail
                      go_meet
                      exact ⟨G18, G19, r18, r19, rfl, rfl, Hr18, Hr19, Lib.hid (HN.out.perm (List.Perm.swap _ _ _))⟩
                  · rw [if_pos (by rfl)]
                    have hn := HN.out.new
                    go_wp2_with fail
                    generalize World.alloc V2 Z16o = V3 at hn ⊢
                    generalize Array.size (World.heap V2) = G18 at hn ⊢
                    have HN := Lib.hid hn
                    refine hK.out _ _ ⟨fun x hx => HN.out.k x (.tail _ (.tail _ hx)), fun _ => trivial⟩ ?_
                    clear hK K hn
                    try simp only [Act.put, List.setIfInBounds_toArray, List.set_cons_zero, List.set_cons_succ]
                    refine anyC_keep (i := 7) (o := ⟨some 69, _, _, _, _, _⟩) (by kernel_rfl) rfl (fun K hK => ?_)
                    rw [if_pos (by rfl)]
                    go_wp2_with fail
                    (with_reducible refine (sum_rel HRc.out HRd.out _).mono ?_)
                    rintro e V4 ⟨rg, rfl, hR, hb⟩
                    have Hrg := Lib.hid hR
                    clear hR
                    have HN := Lib.hid (HN.out.below hb)
                    refine hK.out _ _ ⟨fun x hx => HN.out.k x (.tail _ (.tail _ hx)), fun _ => trivial⟩ ?_
                    clear hK K hb
                    try simp only [Act.put, List.setIfInBounds_toArray, List.set_cons_zero, List.set_cons_succ]
                    refine anyC_keep (i := 9) (o := ⟨some 71, _, _, _, _, _⟩) (by kernel_rfl) rfl (fun K hK => ?_)
                    rw [if_pos (by rfl)]
                    go_wp2_with fail
                    (with_reducible refine (mul_rel Hrg.out Hr14.out _).mono ?_)
                    rintro e V5 ⟨r19, rfl, hR, hb⟩
                    have Hr19 := Lib.hid hR
                    clear hR
                    have HN := Lib.hid (HN.out.below hb)
                    refine hK.out _ _ ⟨fun x hx => HN.out.k x (.tail _ (.tail _ hx)), fun _ => trivial⟩ ?_
                    clear hK K hb
                    try simp only [Act.put, List.setIfInBounds_toArray, List.set_cons_zero, List.set_cons_succ]
                    refine anyC_keep (i := 12) (o := ⟨none, _, _, _, _, _⟩) (by kernel_rfl) rfl (fun K hK => ?_)
                    rw [if_pos (by rfl)]
                    refine wp_put [] G18 r18 HN rfl rfl rfl fun V6 HN => ?_
                    refine hK.out _ _ ⟨fun x hx => HN.out.k x (.tail _ (.tail _ hx)), fun _ => trivial⟩ ?_
                    clear hK K
                    try simp only [Act.put]
                    refine anyC_keep (i := 13) (o := ⟨none, _, _, _, _, _⟩) (by kernel_rfl) rfl (fun K hK => ?_)
                    rw [if_pos (by rfl)]
                    refine wp_put [(G18, r18)] G19 r19 HN rfl rfl rfl fun V7 HN => ?_
                    refine hK.out _ _ ⟨fun x hx => HN.out.k x (.tail _ (.tail _ hx)), fun _ => trivial⟩ ?_
                    clear hK K
                    try simp only [Act.put]
                    refine anyC_done (by kernel_rfl) ?_ _
                    go_wp2_with fail
                    go_meet
                    exact ⟨G18, G19, r18, r19, rfl, rfl, Hr18, Hr19, Lib.hid (HN.out.perm (List.Perm.swap _ _ _))⟩
                · rw [if_pos (by rfl)]
                  have hn := HN.out.new
                  go_wp2_with fail
                  generalize World.alloc V1 Z16o = V2 at hn ⊢
                  generalize Array.size (World.heap V1) = G18 at hn ⊢
                  have HN := Lib.hid hn
                  refine hK.out _ _ ⟨fun x hx => HN.out.k x (.tail _ (.tail _ hx)), fun _ => trivial⟩ ?_
                  clear hK K hn
                  try simp only [Act.put, List.setIfInBounds_toArray, List.set_cons_zero, List.set_cons_succ]
                  refine anyC_keep (i := 4) (o := ⟨some 66, _, _, _, _, _⟩) (by kernel_rfl) rfl (fun K hK => ?_)
                  rw [if_pos (by rfl)]
                  go_wp2_with fail
                  (with_reducible refine (mul_rel Hrf.out Hr13.out _).mono ?_)
                  rintro e V3 ⟨r18, rfl, hR, hb⟩
                  have Hr18 := Lib.hid hR
                  clear hR
                  have HN := Lib.hid (HN.out.below hb)
                  refine hK.out _ _ ⟨fun x hx => HN.out.k x (.tail _ (.tail _ hx)), fun _ => trivial⟩ ?_
                  clear hK K hb
                  try simp only [Act.put, List.setIfInBounds_toArray, List.set_cons_zero, List.set_cons_succ]
                  refine anyC_keep (i := 7) (o := ⟨some 69, _, _, _, _, _⟩) (by kernel_rfl) rfl (fun K hK => ?_)
                  rw [if_pos (by rfl)]
                  go_wp2_with fail
                  (with_reducible refine (sum_rel HRc.out HRd.out _).mono ?_)
                  rintro e V4 ⟨rg, rfl, hR, hb⟩
                  have Hrg := Lib.hid hR
                  clear hR
                  have HN := Lib.hid (HN.out.below hb)
                  refine hK.out _ _ ⟨fun x hx => HN.out.k x (.tail _ (.tail _ hx)), fun _ => trivial⟩ ?_
                  clear hK K hb
                  try simp only [Act.put, List.setIfInBounds_toArray, List.set_cons_zero, List.set_cons_succ]
                  refine anyC_keep (i := 9) (o := ⟨some 71, _, _, _, _, _⟩) (by kernel_rfl) rfl (fun K hK => ?_)
                  rw [if_pos (by rfl)]
                  go_wp2_with fail
                  (with_reducible refine (mul_rel Hrg.out Hr14.out _).mono ?_)
                  rintro e V5 ⟨r19, rfl, hR, hb⟩
                  have Hr19 := Lib.hid hR
                  clear hR
                  have HN := Lib.hid (HN.out.below hb)
                  refine hK.out _ _ ⟨fun x hx => HN.out.k x (.tail _ (.tail _ hx)), fun _ => trivial⟩ ?_
                  clear hK K hb
                  try simp only [Act.put, List.setIfInBounds_toArray, List.set_cons_zero, List.set_cons_succ]
                  refine anyC_keep (i := 12) (o := ⟨none, _, _, _, _, _⟩) (by kernel_rfl) rfl (fun K hK => ?_)
                  rw [if_pos (by rfl)]
                  refine wp_put [] G18 r18 HN rfl rfl rfl fun V6 HN => ?_
                  refine hK.out _ _ ⟨fun x hx => HN.out.k x (.tail _ (.tail _ hx)), fun _ => trivial⟩ ?_
                  clear hK K
                  try simp only [Act.put]
                  refine anyC_keep (i := 13) (o := ⟨none, _, _, _, _, _⟩) (by kernel_rfl) rfl (fun K hK => ?_)
                  rw [if_pos (by rfl)]
                  refine wp_put [(G18, r18)] G19 r19 HN rfl rfl rfl fun V7 HN => ?_
                  refine hK.out _ _ ⟨fun x hx => HN.out.k x (.tail _ (.tail _ hx)), fun _ => trivial⟩ ?_
                  clear hK K
                  try simp only [Act.put]
                  refine anyC_done (by kernel_rfl) ?_ _
                  go_wp2_with fail
                  go_meet
                  exact ⟨G18, G19, r18, r19, rfl, rfl, Hr18, Hr19, Lib.hid (HN.out.perm (List.Perm.swap _ _ _))⟩
            · rw [if_pos (by rfl)]
              have hn := HN.out.new
              go_wp2_with fail
              generalize World.alloc W0 Z16o = V0 at hn ⊢
              generalize Array.size (World.heap W0) = G18 at hn ⊢
              have HN := Lib.hid hn
              refine hK.out _ _ ⟨fun x hx => HN.out.k x (.tail _ hx), fun _ => trivial⟩ ?_
              clear hK K hn
              try simp only [Act.put, List.setIfInBounds_toArray, List.set_cons_zero, List.set_cons_succ]
              refine anyC_two (i := 2) (o1 := ⟨some 64, _, _, _, _, _⟩) (j := 11) (o2 := ⟨some 19, _, _, _, _, _⟩) (by kernel_rfl) rfl rfl (fun K hK => ?_) (fun K hK => ?_)
              · rw [if_pos (by rfl)]
                go_wp2_with fail
                (with_reducible refine (dif_rel HRc.out HRd.out HLd.out _).mono ?_)
                rintro e V1 ⟨rf, rfl, hR, hb⟩
                have Hrf := Lib.hid hR
                clear hR
                have HN := Lib.hid (HN.out.below hb)
                refine hK.out _ _ ⟨fun x hx => HN.out.k x (.tail _ hx), fun _ => trivial⟩ ?_
                clear hK K hb
                try simp only [Act.put, List.setIfInBounds_toArray, List.set_cons_zero, List.set_cons_succ]
                refine anyC_two (i := 4) (o1 := ⟨some 66, _, _, _, _, _⟩) (j := 11) (o2 := ⟨some 19, _, _, _, _, _⟩) (by kernel_rfl) rfl rfl (fun K hK => ?_) (fun K hK => ?_)
                · rw [if_pos (by rfl)]
                  go_wp2_with fail
                  (with_reducible refine (mul_rel Hrf.out Hr13.out _).mono ?_)
                  rintro e V2 ⟨r18, rfl, hR, hb⟩
                  have Hr18 := Lib.hid hR
                  clear hR
                  have HN := Lib.hid (HN.out.below hb)
                  refine hK.out _ _ ⟨fun x hx => HN.out.k x (.tail _ hx), fun _ => trivial⟩ ?_
                  clear hK K hb
                  try simp only [Act.put, List.setIfInBounds_toArray, List.set_cons_zero, List.set_cons_succ]
                  refine anyC_two (i := 7) (o1 := ⟨some 69, _, _, _, _, _⟩) (j := 11) (o2 := ⟨some 19, _, _, _, _, _⟩) (by kernel_rfl) rfl rfl (fun K hK => ?_) (fun K hK => ?_)
                  · rw [if_pos (by rfl)]
                    go_wp2_with fail
                    (with_reducible refine (sum_rel HRc.out HRd.out _).mono ?_)
                    rintro e V3 ⟨rg, rfl, hR, hb⟩
                    have Hrg := Lib.hid hR
                    clear hR
                    have HN := Lib.hid (HN.out.below hb)
                    refine hK.out _ _ ⟨fun x hx => HN.out.k x (.tail _ hx), fun _ => trivial⟩ ?_
                    clear hK K hb
                    try simp only [Act.put, List.setIfInBounds_toArray, List.set_cons_zero, List.set_cons_succ]
                    refine anyC_two (i := 9) (o1 := ⟨some 71, _, _, _, _, _⟩) (j := 11) (o2 := ⟨some 19, _, _, _, _, _⟩) (by kernel_rfl) rfl rfl (fun K hK => ?_) (fun K hK => ?_)
                    · rw [if_pos (by rfl)]
                      go_wp2_with fail
                      (with_reducible refine (mul_rel Hrg.out Hr14.out _).mono ?_)
                      rintro e V4 ⟨r19, rfl, hR, hb⟩
                      have Hr19 := Lib.hid hR
                      clear hR
                      have HN := Lib.hid (HN.out.below hb)
                      refine hK.out _ _ ⟨fun x hx => HN.out.k x (.tail _ hx), fun _ => trivial⟩ ?_
                      clear hK K hb
                      try simp only [Act.put, List.setIfInBounds_toArray, List.set_cons_zero, List.set_cons_succ]
                      refine anyC_keep (i := 11) (o := ⟨some 19, _, _, _, _, _⟩) (by kernel_rfl) rfl (fun K hK => ?_)
                      rw [if_pos (by rfl)]
                      have hn := HN.out.new
                      go_wp2_with fail
                      generalize World.alloc V4 Z16o = V5 at hn ⊢
                      generalize Array.size (World.heap V4) = G19 at hn ⊢
                      have HN := Lib.hid hn
                      refine hK.out _ _ ⟨fun x hx => HN.out.k x (.tail _ (.tail _ hx)), fun _ => trivial⟩ ?_
                      clear hK K hn
                      try simp only [Act.put, List.setIfInBounds_toArray, List.set_cons_zero, List.set_cons_succ]
                      refine anyC_keep (i := 12) (o := ⟨none, _, _, _, _, _⟩) (by kernel_rfl) rfl (fun K hK => ?_)
                      rw [if_pos (by rfl)]
                      refine wp_put [(G19, 0)] G18 r18 HN rfl rfl rfl fun V6 HN => ?_
                      refine hK.out _ _ ⟨fun x hx => HN.out.k x (.tail _ (.tail _ hx)), fun _ => trivial⟩ ?_
                      clear hK K
                      try simp only [Act.put]
                      refine anyC_keep (i := 13) (o := ⟨none, _, _, _, _, _⟩) (by kernel_rfl) rfl (fun K hK => ?_)
                      rw [if_pos (by rfl)]
                      refine wp_put [] G19 r19 HN rfl rfl rfl fun V7 HN => ?_
                      refine hK.out _ _ ⟨fun x hx => HN.out.k x (.tail _ (.tail _ hx)), fun _ => trivial⟩ ?_
                      clear hK K
                      try simp only [Act.put]
                      refine anyC_done (by kernel_rfl) ?_ _
                      go_wp2_with fail
                      go_meet
                      exact ⟨G18, G19, r18, r19, rfl, rfl, Hr18, Hr19, HN⟩
                    · rw [if_pos (by rfl)]
                      have hn := HN.out.new
                      go_wp2_with fail
                      generalize World.alloc V3 Z16o = V4 at hn ⊢
                      generalize Array.size (World.heap V3) = G19 at hn ⊢
                      have HN := Lib.hid hn
                      refine hK.out _ _ ⟨fun x hx => HN.out.k x (.tail _ (.tail _ hx)), fun _ => trivial⟩ ?_
                      clear hK K hn
                      try simp only [Act.put, List.setIfInBounds_toArray, List.set_cons_zero, List.set_cons_succ]
                      refine anyC_keep (i := 9) (o := ⟨some 71, _, _, _, _, _⟩) (by kernel_rfl) rfl (fun K hK => ?_)
                      rw [if_pos (by rfl)]
                      go_wp2_with fail
                      (with_reducible refine (mul_rel Hrg.out Hr14.out _).mono ?_)
                      rintro e V5 ⟨r19, rfl, hR, hb⟩
                      have Hr19 := Lib.hid hR
                      clear hR
                      have HN := Lib.hid (HN.out.below hb)
                      refine hK.out _ _ ⟨fun x hx => HN.out.k x (.tail _ (.tail _ hx)), fun _ => trivial⟩ ?_
                      clear hK K hb
                      try simp only [Act.put, List.setIfInBounds_toArray, List.set_cons_zero, List.set_cons_succ]
                      refine anyC_keep (i := 12) (o := ⟨none, _, _, _, _, _⟩) (by kernel_rfl) rfl (fun K hK => ?_)
                      rw [if_pos (by rfl)]
                      refine wp_put [(G19, 0)] G18 r18 HN rfl rfl rfl fun V6 HN => ?_
                      refine hK.out _ _ ⟨fun x hx => HN.out.k x (.tail _ (.tail _ hx)), fun _ => trivial⟩ ?_
                      clear hK K
                      try simp only [Act.put]
                      refine anyC_keep (i := 13) (o := ⟨none, _, _, _, _, _⟩) (by kernel_rfl) rfl (fun K hK => ?_)
                      rw [if_pos (by rfl)]
                      refine wp_put [] G19 r19 HN rfl rfl rfl fun V7 HN => ?_
                      refine hK.out _ _ ⟨fun x hx => HN.out.k x (.tail _ (.tail _ hx)), fun _ => trivial⟩ ?_
                      clear hK K
                      try simp only [Act.put]
                      refine anyC_done (by kernel_rfl) ?_ _
                      go_wp2_with fail
                      go_meet
                      exact ⟨G18, G19, r18, r19, rfl, rfl, Hr18, Hr19, HN⟩
                  · rw [if_pos (by rfl)]
                    have hn := HN.out.new
                    go_wp2_with fail
                    generalize World.alloc V2 Z16o = V3 at hn ⊢
                    generalize Array.size (World.heap V2) = G19 at hn ⊢
                    have HN := Lib.hid hn
                    refine hK.out _ _ ⟨fun x hx => HN.out.k x (.tail _ (.tail _ hx)), fun _ => trivial⟩ ?_
                    clear hK K hn
                    try simp only [Act.put, List.setIfInBounds_toArray, List.set_cons_zero, List.set_cons_succ]
                    refine anyC_keep (i := 7) (o := ⟨some 69, _, _, _, _, _⟩) (by kernel_rfl) rfl (fun K hK => ?_)
                    rw [if_pos (by rfl)]
                    go_wp2_with fail
                    (with_reducible refine (sum_rel HRc.out HRd.out _).mono ?_)
                    rintro e V4 ⟨rg, rfl, hR, hb⟩
                    have Hrg := Lib.hid hR
                    clear hR
                    have HN := Lib.hid (HN.out.below hb)
                    refine hK.out _ _ ⟨fun x hx => HN.out.k x (.tail _ (.tail _ hx)), fun _ => trivial⟩ ?_
                    clear hK K hb
                    try simp only [Act.put, List.setIfInBounds_toArray, List.set_cons_zero, List.set_cons_succ]
                    refine anyC_keep (i := 9) (o := ⟨some 71, _, _, _, _, _⟩) (by kernel_rfl) rfl (fun K hK => ?_)
                    rw [if_pos (by rfl)]
                    go_wp2_with fail
                    (with_reducible refine (mul_rel Hrg.out Hr14.out _).mono ?_)
                    rintro e V5 ⟨r19, rfl, hR, hb⟩
                    have Hr19 := Lib.hid hR
                    clear hR
                    have HN := Lib.hid (HN.out.below hb)
                    refine hK.out _ _ ⟨fun x hx => HN.out.k x (.tail _ (.tail _ hx)), fun _ => trivial⟩ ?_
                    clear hK K hb
                    try simp only [Act.put, List.setIfInBounds_toArray, List.set_cons_zero, List.set_cons_succ]
                    refine anyC_keep (i := 12) (o := ⟨none, _, _, _, _, _⟩) (by kernel_rfl) rfl (fun K hK => ?_)
                    rw [if_pos (by rfl)]
                    refine wp_put [(G19, 0)] G18 r18 HN rfl rfl rfl fun V6 HN => ?_
                    refine hK.out _ _ ⟨fun x hx => HN.out.k x (.tail _ (.tail _ hx)), fun _ => trivial⟩ ?_
                    clear hK K
                    try simp only [Act.put]
                    refine anyC_keep (i := 13) (o := ⟨none, _, _, _, _, _⟩) (by kernel_rfl) rfl (fun K hK => ?_)
                    rw [if_pos (by rfl)]
                    refine wp_put [] G19 r19 HN rfl rfl rfl fun V7 HN => ?_
                    refine hK.out _ _ ⟨fun x hx => HN.out.k x (.tail _ (.tail _ hx)), fun _ => trivial⟩ ?_
                    clear hK K
                    try simp only [Act.put]
                    refine anyC_done (by kernel_rfl) ?_ _
                    go_wp2_with fail
                    go_meet
                    exact ⟨G18, G19, r18, r19, rfl, rfl, Hr18, Hr19, HN⟩
                · rw [if_pos (by rfl)]
                  have hn := HN.out.new
                  go_wp2_with fail
                  generalize World.alloc V1 Z16o = V2 at hn ⊢
                  generalize Array.size (World.heap V1) = G19 at hn ⊢
                  have HN := Lib.hid hn
                  refine hK.out _ _ ⟨fun x hx => HN.out.k x (.tail _ (.tail _ hx)), fun _ => trivial⟩ ?_
                  clear hK K hn
                  try simp only [Act.put, List.setIfInBounds_toArray, List.set_cons_zero, List.set_cons_succ]
                  refine anyC_keep (i := 4) (o := ⟨some 66, _, _, _, _, _⟩) (by kernel_rfl) rfl (fun K hK => ?_)
                  rw [if_pos (by rfl)]
                  go_wp2_with fail
                  (with_reducible refine (mul_rel Hrf.out Hr13.out _).mono ?_)
                  rintro e V3 ⟨r18, rfl, hR, hb⟩
                  have Hr18 := Lib.hid hR
                  clear hR
                  have HN := Lib.hid (HN.out.below hb)
                  refine hK.out _ _ ⟨fun x hx => HN.out.k x (.tail _ (.tail _ hx)), fun _ => trivial⟩ ?_
                  clear hK K hb
                  try simp only [Act.put, List.setIfInBounds_toArray, List.set_cons_zero, List.set_cons_succ]
                  refine anyC_keep (i := 7) (o := ⟨some 69, _, _, _, _, _⟩) (by kernel_rfl) rfl (fun K hK => ?_)
                  rw [if_pos (by rfl)]
                  go_wp2_with fail
                  (with_reducible refine (sum_rel HRc.out HRd.out _).mono ?_)
                  rintro e V4 ⟨rg, rfl, hR, hb⟩
                  have Hrg := Lib.hid hR
                  clear hR
                  have HN := Lib.hid (HN.out.below hb)
                  refine hK.out _ _ ⟨fun x hx => HN.out.k x (.tail _ (.tail _ hx)), fun _ => trivial⟩ ?_
                  clear hK K hb
                  try simp only [Act.put, List.setIfInBounds_toArray, List.set_cons_zero, List.set_cons_succ]
                  refine anyC_keep (i := 9) (o := ⟨some 71, _, _, _, _, _⟩) (by kernel_rfl) rfl (fun K hK => ?_)
                  rw [if_pos (by rfl)]
                  go_wp2_with fail
                  (with_reducible refine (mul_rel Hrg.out Hr14.out _).mono ?_)
                  rintro e V5 ⟨r19, rfl, hR, hb⟩
                  have Hr19 := Lib.hid hR
                  clear hR
                  have HN := Lib.hid (HN.out.below hb)
                  refine hK.out _ _ ⟨fun x hx => HN.out.k x (.tail _ (.tail _ hx)), fun _ => trivial⟩ ?_
                  clear hK K hb
                  try simp only [Act.put, List.setIfInBounds_toArray, List.set_cons_zero, List.set_cons_succ]
                  refine anyC_keep (i := 12) (o := ⟨none, _, _, _, _, _⟩) (by kernel_rfl) rfl (fun K hK => ?_)
                  rw [if_pos (by rfl)]
                  refine wp_put [(G19, 0)] G18 r18 HN rfl rfl rfl fun V6 HN => ?_
                  refine hK.out _ _ ⟨fun x hx => HN.out.k x (.tail _ (.tail _ hx)), fun _ => trivial⟩ ?_
                  clear hK K
                  try simp only [Act.put]
                  refine anyC_keep (i := 13) (o := ⟨none, _, _, _, _, _⟩) (by kernel_rfl) rfl (fun K hK => ?_)
                  rw [if_pos (by rfl)]
                  refine wp_put [] G19 r19 HN rfl rfl rfl fun V7 HN => ?_
                  refine hK.out _ _ ⟨fun x hx => HN.out.k x (.tail _ (.tail _ hx)), fun _ => trivial⟩ ?_
                  clear hK K
                  try simp only [Act.put]
                  refine anyC_done (by kernel_rfl) ?_ _
                  go_wp2_with fail
                  go_meet
                  exact ⟨G18, G19, r18, r19, rfl, rfl, Hr18, Hr19, HN⟩
              · rw [if_pos (by rfl)]
                have hn := HN.out.new
                go_wp2_with fail
                generalize World.alloc V0 Z16o = V1 at hn ⊢
                generalize Array.size (World.heap V0) = G19 at hn ⊢
                have HN := Lib.hid hn
                refine hK.out _ _ ⟨fun x hx => HN.out.k x (.tail _ (.tail _ hx)), fun _ => trivial⟩ ?_
                clear hK K hn
                try simp only [Act.put, List.setIfInBounds_toArray, List.set_cons_zero, List.set_cons_succ]
                refine anyC_keep (i := 2) (o := ⟨some 64, _, _, _, _, _⟩) (by kernel_rfl) rfl (fun K hK => ?_)
                rw [if_pos (by rfl)]
                go_wp2_with fail
                (with_reducible refine (dif_rel HRc.out HRd.out HLd.out _).mono ?_)
                rintro e V2 ⟨rf, rfl, hR, hb⟩
                have Hrf := Lib.hid hR
                clear hR
                have HN := Lib.hid (HN.out.below hb)
                refine hK.out _ _ ⟨fun x hx => HN.out.k x (.tail _ (.tail _ hx)), fun _ => trivial⟩ ?_
                clear hK K hb
                try simp only [Act.put, List.setIfInBounds_toArray, List.set_cons_zero, List.set_cons_succ]
                refine anyC_keep (i := 4) (o := ⟨some 66, _, _, _, _, _⟩) (by kernel_rfl) rfl (fun K hK => ?_)
                rw [if_pos (by rfl)]
                go_wp2_with fail
                (with_reducible refine (mul_rel Hrf.out Hr13.out _).mono ?_)
                rintro e V3 ⟨r18, rfl, hR, hb⟩
                have Hr18 := Lib.hid hR
                clear hR
                have HN := Lib.hid (HN.out.below hb)
                refine hK.out _ _ ⟨fun x hx => HN.out.k x (.tail _ (.tail _ hx)), fun _ => trivial⟩ ?_
                clear hK K hb
                try simp only [Act.put, List.setIfInBounds_toArray, List.set_cons_zero, List.set_cons_succ]
                refine anyC_keep (i := 7) (o := ⟨some 69, _, _, _, _, _⟩) (by kernel_rfl) rfl (fun K hK => ?_)
                rw [if_pos (by rfl)]
                go_wp2_with fail
                (with_reducible refine (sum_rel HRc.out HRd.out _).mono ?_)
                rintro e V4 ⟨rg, rfl, hR, hb⟩
                have Hrg := Lib.hid hR
                clear hR
                have HN := Lib.hid (HN.out.below hb)
                refine hK.out _ _ ⟨fun x hx => HN.out.k x (.tail _ (.tail _ hx)), fun _ => trivial⟩ ?_
                clear hK K hb
                try simp only [Act.put, List.setIfInBounds_toArray, List.set_cons_zero, List.set_cons_succ]
                refine anyC_keep (i := 9) (o := ⟨some 71, _, _, _, _, _⟩) (by kernel_rfl) rfl (fun K hK => ?_)
                rw [if_pos (by rfl)]
                go_wp2_with fail
                (with_reducible refine (mul_rel Hrg.out Hr14.out _).mono ?_)
                rintro e V5 ⟨r19, rfl, hR, hb⟩
                have Hr19 := Lib.hid hR
                clear hR
                have HN := Lib.hid (HN.out.below hb)
                refine hK.out _ _ ⟨fun x hx => HN.out.k x (.tail _ (.tail _ hx)), fun _ => trivial⟩ ?_
                clear hK K hb
                try simp only [Act.put, List.setIfInBounds_toArray, List.set_cons_zero, List.set_cons_succ]
                refine anyC_keep (i := 12) (o := ⟨none, _, _, _, _, _⟩) (by kernel_rfl) rfl (fun K hK => ?_)
                rw [if_pos (by rfl)]
                refine wp_put [(G19, 0)] G18 r18 HN rfl rfl rfl fun V6 HN => ?_
                refine hK.out _ _ ⟨fun x hx => HN.out.k x (.tail _ (.tail _ hx)), fun _ => trivial⟩ ?_
                clear hK K
                try simp only [Act.put]
                refine anyC_keep (i := 13) (o := ⟨none, _, _, _, _, _⟩) (by kernel_rfl) rfl (fun K hK => ?_)
                rw [if_pos (by rfl)]
                refine wp_put [] G19 r19 HN rfl rfl rfl fun V7 HN => ?_
                refine hK.out _ _ ⟨fun x hx => HN.out.k x (.tail _ (.tail _ hx)), fun _ => trivial⟩ ?_
                clear hK K
                try simp only [Act.put]
                refine anyC_done (by kernel_rfl) ?_ _
                go_wp2_with fail
                go_meet
                exact ⟨G18, G19, r18, r19, rfl, rfl, Hr18, Hr19, HN⟩
            · rw [if_pos (by rfl)]
              have hn := HN.out.new
              go_wp2_with fail
              generalize World.alloc W0 Z16o = V0 at hn ⊢
              generalize Array.size (World.heap W0) = G19 at hn ⊢
              have HN := Lib.hid hn
              refine hK.out _ _ ⟨fun x hx => HN.out.k x (.tail _ hx), fun _ => trivial⟩ ?_
              clear hK K hn
              try simp only [Act.put, List.setIfInBounds_toArray, List.set_cons_zero, List.set_cons_succ]
              refine anyC_two (i := 2) (o1 := ⟨some 64, _, _, _, _, _⟩) (j := 10) (o2 := ⟨some 18, _, _, _, _, _⟩) (by kernel_rfl) rfl rfl (fun K hK => ?_) (fun K hK => ?_)
              · rw [if_pos (by rfl)]
                go_wp2_with fail
                (with_reducible refine (dif_rel HRc.out HRd.out HLd.out _).mono ?_)
                rintro e V1 ⟨rf, rfl, hR, hb⟩
                have Hrf := Lib.hid hR
                clear hR
                have HN := Lib.hid (HN.out.below hb)
                refine hK.out _ _ ⟨fun x hx => HN.out.k x (.tail _ hx), fun _ => trivial⟩ ?_
                clear hK K hb
                try simp only [Act.put, List.setIfInBounds_toArray, List.set_cons_zero, List.set_cons_succ]
                refine anyC_two (i := 4) (o1 := ⟨some 66, _, _, _, _, _⟩) (j := 10) (o2 := ⟨some 18, _, _, _, _, _⟩) (by kernel_rfl) rfl rfl (fun K hK => ?_) (fun K hK => ?_)
                · rw [if_pos (by rfl)]
                  go_wp2_with fail
                  (with_reducible refine (mul_rel Hrf.out Hr13.out _).mono ?_)
                  rintro e V2 ⟨r18, rfl, hR, hb⟩
                  have Hr18 := Lib.hid hR
                  clear hR
                  have HN := Lib.hid (HN.out.below hb)
                  refine hK.out _ _ ⟨fun x hx => HN.out.k x (.tail _ hx), fun _ => trivial⟩ ?_
                  clear hK K hb
                  try simp only [Act.put, List.setIfInBounds_toArray, List.set_cons_zero, List.set_cons_succ]
                  refine anyC_two (i := 7) (o1 := ⟨some 69, _, _, _, _, _⟩) (j := 10) (o2 := ⟨some 18, _, _, _, _, _⟩) (by kernel_rfl) rfl rfl (fun K hK => ?_) (fun K hK => ?_)
                  · rw [if_pos (by rfl)]
                    go_wp2_with fail
                    (with_reducible refine (sum_rel HRc.out HRd.out _).mono ?_)
                    rintro e V3 ⟨rg, rfl, hR, hb⟩
                    have Hrg := Lib.hid hR
                    clear hR
                    have HN := Lib.hid (HN.out.below hb)
                    refine hK.out _ _ ⟨fun x hx => HN.out.k x (.tail _ hx), fun _ => trivial⟩ ?_
                    clear hK K hb
                    try simp only [Act.put, List.setIfInBounds_toArray, List.set_cons_zero, List.set_cons_succ]
                    refine anyC_two (i := 9) (o1 := ⟨some 71, _, _, _, _, _⟩) (j := 10) (o2 := ⟨some 18, _, _, _, _, _⟩) (by kernel_rfl) rfl rfl (fun K hK => ?_) (fun K hK => ?_)
                    · rw [if_pos (by rfl)]
                      go_wp2_with fail
                      (with_reducible refine (mul_rel Hrg.out Hr14.out _).mono ?_)
                      rintro e V4 ⟨r19, rfl, hR, hb⟩
                      have Hr19 := Lib.hid hR
                      clear hR
                      have HN := Lib.hid (HN.out.below hb)
                      refine hK.out _ _ ⟨fun x hx => HN.out.k x (.tail _ hx), fun _ => trivial⟩ ?_
                      clear hK K hb
                      try simp only [Act.put, List.setIfInBounds_toArray, List.set_cons_zero, List.set_cons_succ]
                      refine anyC_keep (i := 10) (o := ⟨some 18, _, _, _, _, _⟩) (by kernel_rfl) rfl (fun K hK => ?_)
                      rw [if_pos (by rfl)]
                      have hn := HN.out.new
                      go_wp2_with fail
                      generalize World.alloc V4 Z16o = V5 at hn ⊢
                      generalize Array.size (World.heap V4) = G18 at hn ⊢
                      have HN := Lib.hid hn
                      refine hK.out _ _ ⟨fun x hx => HN.out.k x (.tail _ (.tail _ hx)), fun _ => trivial⟩ ?_
                      clear hK K hn
                      try simp only [Act.put, List.setIfInBounds_toArray, List.set_cons_zero, List.set_cons_succ]
                      refine anyC_keep (i := 12) (o := ⟨none, _, _, _, _, _⟩) (by kernel_rfl) rfl (fun K hK => ?_)
                      rw [if_pos (by rfl)]
                      refine wp_put [] G18 r18 HN rfl rfl rfl fun V6 HN => ?_
                      refine hK.out _ _ ⟨fun x hx => HN.out.k x (.tail _ (.tail _ hx)), fun _ => trivial⟩ ?_
                      clear hK K
                      try simp only [Act.put]
                      refine anyC_keep (i := 13) (o := ⟨none, _, _, _, _, _⟩) (by kernel_rfl) rfl (fun K hK => ?_)
                      rw [if_pos (by rfl)]
                      refine wp_put [(G18, r18)] G19 r19 HN rfl rfl rfl fun V7 HN => ?_
                      refine hK.out _ _ ⟨fun x hx => HN.out.k x (.tail _ (.tail _ hx)), fun _ => trivial⟩ ?_
                      clear hK K
                      try simp only [Act.put]
                      refine anyC_done (by kernel_rfl) ?_ _
                      go_wp2_with fail
                      go_meet
                      exact ⟨G18, G19, r18, r19, rfl, rfl, Hr18, Hr19, Lib.hid (HN.out.perm (List.Perm.swap _ _ _))⟩
                    · rw [if_pos (by rfl)]
                      have hn := HN.out.new
                      go_wp2_with fail
                      generalize World.alloc V3 Z16o = V4 at hn ⊢
                      generalize Array.size (World.heap V3) = G18 at hn ⊢
                      have HN := Lib.hid hn
                      refine hK.out _ _ ⟨fun x hx => HN.out.k x (.tail _ (.tail _ hx)), fun _ => trivial⟩ ?_
                      clear hK K hn
                      try simp only [Act.put, List.setIfInBounds_toArray, List.set_cons_zero, List.set_cons_succ]
                      refine anyC_keep (i := 9) (o := ⟨some 71, _, _, _, _, _⟩) (by kernel_rfl) rfl (fun K hK => ?_)
                      rw [if_pos (by rfl)]
                      go_wp2_with fail
                      (with_reducible refine (mul_rel Hrg.out Hr14.out _).mono ?_)
                      rintro e V5 ⟨r19, rfl, hR, hb⟩
                      have Hr19 := Lib.hid hR
                      clear hR
                      have HN := Lib.hid (HN.out.below hb)
                      refine hK.out _ _ ⟨fun x hx => HN.out.k x (.tail _ (.tail _ hx)), fun _ => trivial⟩ ?_
                      clear hK K hb
                      try simp only [Act.put, List.setIfInBounds_toArray, List.set_cons_zero, List.set_cons_succ]
                      refine anyC_keep (i := 12) (o := ⟨none, _, _, _, _, _⟩) (by kernel_rfl) rfl (fun K hK => ?_)
                      rw [if_pos (by rfl)]
                      refine wp_put [] G18 r18 HN rfl rfl rfl fun V6 HN => ?_
                      refine hK.out _ _ ⟨fun x hx => HN.out.k x (.tail _ (.tail _ hx)), fun _ => trivial⟩ ?_
                      clear hK K
                      try simp only [Act.put]
                      refine anyC_keep (i := 13) (o := ⟨none, _, _, _, _, _⟩) (by kernel_rfl) rfl (fun K hK => ?_)
                      rw [if_pos (by rfl)]
                      refine wp_put [(G18, r18)] G19 r19 HN rfl rfl rfl fun V7 HN => ?_
                      refine hK.out _ _ ⟨fun x hx => HN.out.k x (.tail _ (.tail _ hx)), fun _ => trivial⟩ ?_
                      clear hK K
                      try simp only [Act.put]
                      refine anyC_done (by kernel_rfl) ?_ _
                      go_wp2_with fail
                      go_meet
                      exact ⟨G18, G19, r18, r19, rfl, rfl, Hr18, Hr19, Lib.hid (HN.out.perm (List.Perm.swap _ _ _))⟩
                  · rw [if_pos (by rfl)]
                    have hn := HN.out.new
                    go_wp2_with fail
                    generalize World.alloc V2 Z16o = V3 at hn ⊢
                    generalize Array.size (World.heap V2) = G18 at hn ⊢
                    have HN := Lib.hid hn
                    refine hK.out _ _ ⟨fun x hx => HN.out.k x (.tail _ (.tail _ hx)), fun _ => trivial⟩ ?_
                    clear hK K hn
                    try simp only [Act.put, List.setIfInBounds_toArray, List.set_cons_zero, List.set_cons_succ]
                    refine anyC_keep (i := 7) (o := ⟨some 69, _, _, _, _, _⟩) (by kernel_rfl) rfl (fun K hK => ?_)
                    rw [if_pos (by rfl)]
                    go_wp2_with fail
                    (with_reducible refine (sum_rel HRc.out HRd.out _).mono ?_)
                    rintro e V4 ⟨rg, rfl, hR, hb⟩
                    have Hrg := Lib.hid hR
                    clear hR
                    have HN := Lib.hid (HN.out.below hb)
                    refine hK.out _ _ ⟨fun x hx => HN.out.k x (.tail _ (.tail _ hx)), fun _ => trivial⟩ ?_
                    clear hK K hb
                    try simp only [Act.put, List.setIfInBounds_toArray, List.set_cons_zero, List.set_cons_succ]
                    refine anyC_keep (i := 9) (o := ⟨some 71, _, _, _, _, _⟩) (by kernel_rfl) rfl (fun K hK => ?_)
                    rw [if_pos (by rfl)]
                    go_wp2_with fail
                    (with_reducible refine (mul_rel Hrg.out Hr14.out _).mono ?_)
                    rintro e V5 ⟨r19, rfl, hR, hb⟩
                    have Hr19 := Lib.hid hR
                    clear hR
                    have HN := Lib.hid (HN.out.below hb)
                    refine hK.out _ _ ⟨fun x hx => HN.out.k x (.tail _ (.tail _ hx)), fun _ => trivial⟩ ?_
                    clear hK K hb
                    try simp only [Act.put, List.setIfInBounds_toArray, List.set_cons_zero, List.set_cons_succ]
                    refine anyC_keep (i := 12) (o := ⟨none, _, _, _, _, _⟩) (by kernel_rfl) rfl (fun K hK => ?_)
                    rw [if_pos (by rfl)]
                    refine wp_put [] G18 r18 HN rfl rfl rfl fun V6 HN => ?_
                    refine hK.out _ _ ⟨fun x hx => HN.out.k x (.tail _ (.tail _ hx)), fun _ => trivial⟩ ?_
                    clear hK K
                    try simp only [Act.put]
                    refine anyC_keep (i := 13) (o := ⟨none, _, _, _, _, _⟩) (by kernel_rfl) rfl (fun K hK => ?_)
                    rw [if_pos (by rfl)]
                    refine wp_put [(G18, r18)] G19 r19 HN rfl rfl rfl fun V7 HN => ?_
                    refine hK.out _ _ ⟨fun x hx => HN.out.k x (.tail _ (.tail _ hx)), fun _ => trivial⟩ ?_
                    clear hK K
                    try simp only [Act.put]
                    refine anyC_done (by kernel_rfl) ?_ _
                    go_wp2_with fail
                    go_meet
                    exact ⟨G18, G19, r18, r19, rfl, rfl, Hr18, Hr19, Lib.hid (HN.out.perm (List.Perm.swap _ _ _))⟩
                · rw [if_pos (by rfl)]
                  have hn := HN.out.new
                  go_wp2_with fail
                  generalize World.alloc V1 Z16o = V2 at hn ⊢
                  generalize Array.size (World.heap V1) = G18 at hn ⊢
                  have HN := Lib.hid hn
                  refine hK.out _ _ ⟨fun x hx => HN.out.k x (.tail _ (.tail _ hx)), fun _ => trivial⟩ ?_
                  clear hK K hn
                  try simp only [Act.put, List.setIfInBounds_toArray, List.set_cons_zero, List.set_cons_succ]
                  refine anyC_keep (i := 4) (o := ⟨some 66, _, _, _, _, _⟩) (by kernel_rfl) rfl (fun K hK => ?_)
                  rw [if_pos (by rfl)]
                  go_wp2_with fail
                  (with_reducible refine (mul_rel Hrf.out Hr13.out _).mono ?_)
                  rintro e V3 ⟨r18, rfl, hR, hb⟩
                  have Hr18 := Lib.hid hR
                  clear hR
                  have HN := Lib.hid (HN.out.below hb)
                  refine hK.out _ _ ⟨fun x hx => HN.out.k x (.tail _ (.tail _ hx)), fun _ => trivial⟩ ?_
                  clear hK K hb
                  try simp only [Act.put, List.setIfInBounds_toArray, List.set_cons_zero, List.set_cons_succ]
                  refine anyC_keep (i := 7) (o := ⟨some 69, _, _, _, _, _⟩) (by kernel_rfl) rfl (fun K hK => ?_)
                  rw [if_pos (by rfl)]
                  go_wp2_with fail
                  (with_reducible refine (sum_rel HRc.out HRd.out _).mono ?_)
                  rintro e V4 ⟨rg, rfl, hR, hb⟩
                  have Hrg := Lib.hid hR
                  clear hR
                  have HN := Lib.hid (HN.out.below hb)
                  refine hK.out _ _ ⟨fun x hx => HN.out.k x (.tail _ (.tail _ hx)), fun _ => trivial⟩ ?_
                  clear hK K hb
                  try simp only [Act.put, List.setIfInBounds_toArray, List.set_cons_zero, List.set_cons_succ]
                  refine anyC_keep (i := 9) (o := ⟨some 71, _, _, _, _, _⟩) (by kernel_rfl) rfl (fun K hK => ?_)
                  rw [if_pos (by rfl)]
                  go_wp2_with fail
                  (with_reducible refine (mul_rel Hrg.out Hr14.out _).mono ?_)
                  rintro e V5 ⟨r19, rfl, hR, hb⟩
                  have Hr19 := Lib.hid hR
                  clear hR
                  have HN := Lib.hid (HN.out.below hb)
                  refine hK.out _ _ ⟨fun x hx => HN.out.k x (.tail _ (.tail _ hx)), fun _ => trivial⟩ ?_
                  clear hK K hb
                  try simp only [Act.put, List.setIfInBounds_toArray, List.set_cons_zero, List.set_cons_succ]
                  refine anyC_keep (i := 12) (o := ⟨none, _, _, _, _, _⟩) (by kernel_rfl) rfl (fun K hK => ?_)
                  rw [if_pos (by rfl)]
                  refine wp_put [] G18 r18 HN rfl rfl rfl fun V6 HN => ?_
                  refine hK.out _ _ ⟨fun x hx => HN.out.k x (.tail _ (.tail _ hx)), fun _ => trivial⟩ ?_
                  clear hK K
                  try simp only [Act.put]
                  refine anyC_keep (i := 13) (o := ⟨none, _, _, _, _, _⟩) (by kernel_rfl) rfl (fun K hK => ?_)
                  rw [if_pos (by rfl)]
                  refine wp_put [(G18, r18)] G19 r19 HN rfl rfl rfl fun V7 HN => ?_
                  refine hK.out _ _ ⟨fun x hx => HN.out.k x (.tail _ (.tail _ hx)), fun _ => trivial⟩ ?_
                  clear hK K
                  try simp only [Act.put]
                  refine anyC_done (by kernel_rfl) ?_ _
                  go_wp2_with fail
                  go_meet
                  exact ⟨G18, G19, r18, r19, rfl, rfl, Hr18, Hr19, Lib.hid (HN.out.perm (List.Perm.swap _ _ _))⟩
              · rw [if_pos (by rfl)]
                have hn := HN.out.new
                go_wp2_with fail
                generalize World.alloc V0 Z16o = V1 at hn ⊢
                generalize Array.size (World.heap V0) = G18 at hn ⊢
                have HN := Lib.hid hn
                refine hK.out _ _ ⟨fun x hx => HN.out.k x (.tail _ (.tail _ hx)), fun _ => trivial⟩ ?_
                clear hK K hn
                try simp only [Act.put, List.setIfInBounds_toArray, List.set_cons_zero, List.set_cons_succ]
                refine anyC_keep (i := 2) (o := ⟨some 64, _, _, _, _, _⟩) (by kernel_rfl) rfl (fun K hK => ?_)
                rw [if_pos (by rfl)]
                go_wp2_with fail
                (with_reducible refine (dif_rel HRc.out HRd.out HLd.out _).mono ?_)
                rintro e V2 ⟨rf, rfl, hR, hb⟩
                have Hrf := Lib.hid hR
                clear hR
                have HN := Lib.hid (HN.out.below hb)
                refine hK.out _ _ ⟨fun x hx => HN.out.k x (.tail _ (.tail _ hx)), fun _ => trivial⟩ ?_
                clear hK K hb
                try simp only [Act.put, List.setIfInBounds_toArray, List.set_cons_zero, List.set_cons_succ]
                refine anyC_keep (i := 4) (o := ⟨some 66, _, _, _, _, _⟩) (by kernel_rfl) rfl (fun K hK => ?_)
                rw [if_pos (by rfl)]
                go_wp2_with fail
                (with_reducible refine (mul_rel Hrf.out Hr13.out _).mono ?_)
                rintro e V3 ⟨r18, rfl, hR, hb⟩
                have Hr18 := Lib.hid hR
                clear hR
                have HN := Lib.hid (HN.out.below hb)
                refine hK.out _ _ ⟨fun x hx => HN.out.k x (.tail _ (.tail _ hx)), fun _ => trivial⟩ ?_
                clear hK K hb
                try simp only [Act.put, List.setIfInBounds_toArray, List.set_cons_zero, List.set_cons_succ]
                refine anyC_keep (i := 7) (o := ⟨some 69, _, _, _, _, _⟩) (by kernel_rfl) rfl (fun K hK => ?_)
                rw [if_pos (by rfl)]
                go_wp2_with fail
                (with_reducible refine (sum_rel HRc.out HRd.out _).mono ?_)
                rintro e V4 ⟨rg, rfl, hR, hb⟩
                have Hrg := Lib.hid hR
                clear hR
                have HN := Lib.hid (HN.out.below hb)
                refine hK.out _ _ ⟨fun x hx => HN.out.k x (.tail _ (.tail _ hx)), fun _ => trivial⟩ ?_
                clear hK K hb
                try simp only [Act.put, List.setIfInBounds_toArray, List.set_cons_zero, List.set_cons_succ]
                refine anyC_keep (i := 9) (o := ⟨some 71, _, _, _, _, _⟩) (by kernel_rfl) rfl (fun K hK => ?_)
                rw [if_pos (by rfl)]
                go_wp2_with fail
                (with_reducible refine (mul_rel Hrg.out Hr14.out _).mono ?_)
                rintro e V5 ⟨r19, rfl, hR, hb⟩
                have Hr19 := Lib.hid hR
                clear hR
                have HN := Lib.hid (HN.out.below hb)
                refine hK.out _ _ ⟨fun x hx => HN.out.k x (.tail _ (.tail _ hx)), fun _ => trivial⟩ ?_
                clear hK K hb
                try simp only [Act.put, List.setIfInBounds_toArray, List.set_cons_zero, List.set_cons_succ]
                refine anyC_keep (i := 12) (o := ⟨none, _, _, _, _, _⟩) (by kernel_rfl) rfl (fun K hK => ?_)
                rw [if_pos (by rfl)]
                refine wp_put [] G18 r18 HN rfl rfl rfl fun V6 HN => ?_
                refine hK.out _ _ ⟨fun x hx => HN.out.k x (.tail _ (.tail _ hx)), fun _ => trivial⟩ ?_
                clear hK K
                try simp only [Act.put]
                refine anyC_keep (i := 13) (o := ⟨none, _, _, _, _, _⟩) (by kernel_rfl) rfl (fun K hK => ?_)
                rw [if_pos (by rfl)]
                refine wp_put [(G18, r18)] G19 r19 HN rfl rfl rfl fun V7 HN => ?_
                refine hK.out _ _ ⟨fun x hx => HN.out.k x (.tail _ (.tail _ hx)), fun _ => trivial⟩ ?_
                clear hK K
                try simp only [Act.put]
                refine anyC_done (by kernel_rfl) ?_ _
                go_wp2_with fail
                go_meet
                exact ⟨G18, G19, r18, r19, rfl, rfl, Hr18, Hr19, Lib.hid (HN.out.perm (List.Perm.swap _ _ _))⟩
          clear HN
          obtain ⟨G18, G19, r18, r19, rfl, rfl, Hr18, Hr19, HN⟩ := hcut
          go_upto_region 14 with fail
          go_cut [] from 28 to 102 (fun wx => ∃ ra, Hid (Rq ra (muN (muN (xa + xb) (xa + xb)) (muN (sbN xa xb) (sbN xa xb)))) ∧ Hid (Sr w [(G19, r19), (G18, r18), (G17, r17), (G16, r16), (G15, r15), (G14, r14), (G13, r13), (Ga, ra), (Gb, b), (Gc, c), (Gd, d), (Gu, v)] wx))
          case first =>
            go_wp2_with (first | (refine wpList_load_row rfl 48 _ rfl G15 rfl 48 (niC (dN r15)) (0, 0) _ (HN.out.k (G15, r15) (.tail _ (.tail _ (.tail _ (.tail _ (.head _)))))) Tryd.underlying48 rfl (by rw [size48, niC_size, dN_length]) ?_) | (refine wpList_load_row rfl 48 _ rfl G16 rfl 48 (niC (dN r16)) (0, 0) _ (HN.out.k (G16, r16) (.tail _ (.tail _ (.tail _ (.head _))))) Tryd.underlying48 rfl (by rw [size48, niC_size, dN_length]) ?_))
            (with_reducible refine (mul_rel Hr15.out Hr16.out _).mono ?_)
            rintro e V0 ⟨ra, rfl, hR, hb⟩
            have Hra := Lib.hid hR
            have HN := Lib.hid (HN.out.below hb)
            clear hR hb
            go_wp2_with (refine wpList_store_row rfl 48 _ _ rfl Ga (niC (dN ra)) rfl rfl 48 _ (HN.out.k (Ga, a) (.tail _ (.tail _ (.tail _ (.tail _ (.tail _ (.tail _ (.tail _ (.head _))))))))) (by rw [size48, niC_size, dN_length]) (by simp only [niC_size, dN_length]) (niC_one _) ?_)
            have HN : Hid (Sr w [(G19, r19), (G18, r18), (G17, r17), (G16, r16), (G15, r15), (G14, r14), (G13, r13), (Ga, ra), (Gb, b), (Gc, c), (Gd, d), (Gu, v)] (V0.setRow Ga (niC (dN ra)))) := Lib.hid (HN.out.at [(G19, r19), (G18, r18), (G17, r17), (G16, r16), (G15, r15), (G14, r14), (G13, r13)] ra)
            go_meet
            exact ⟨ra, Hra, HN⟩
          clear HN
          obtain ⟨ra, Hra, HN⟩ := hcut
          have HDG : Hid (∀ W : World, Calls Tryd.prog 31 #[.int .i64 121665] W fun e w' => e = .returned (.agg (niC (dN 121665))) ∧ Below W.heap.size W w') := Lib.hid (fun W => digit_any 121665 W (by decide))
          have HDR : Hid (Rq 121665 121665) := Lib.hid (rq_small (by decide))
          go_upto_region 15 with fail
          go_cut [] from 28 to 102 (fun wx => ∃ rb, Hid (Rq rb (muN (sbN (muN (xa + xb) (xa + xb)) (muN (sbN xa xb) (sbN xa xb))) ((muN (xa + xb) (xa + xb)) + muN 121665 (sbN (muN (xa + xb) (xa + xb)) (muN (sbN xa xb) (sbN xa xb)))))) ∧ Hid (Sr w [(G19, r19), (G18, r18), (G17, r17), (G16, r16), (G15, r15), (G14, r14), (G13, r13), (Ga, ra), (Gb, rb), (Gc, c), (Gd, d), (Gu, v)] wx))
          case first =>
            go_wp2_with fail
            refine region_anyC (fun w' => Ks w' [(G17, r17), (G15, r15)]) (fun _ => True) [] (by kernel_rfl) ?_
            have HN := Lib.hid HN.out.drew
            generalize World.drew wc = W0 at HN ⊢
            refine anyC_takeS (i := 0) (oi := ⟨some 75, _, _, _, _, _⟩) (v := .agg (niC (dN r17))) rfl (by kernel_rfl) (by kernel_rfl) (by kernel_rfl) (by kernel_rfl) (fun _ _ _ h => h) (yieldsIf_load_ni (by rfl) _ rfl G17 r17 rfl (fun w' hw' => hw' (G17, r17) (.head _))) ((ks_cons (HN.out.k (G17, r17) (.tail _ (.tail _ (.head _)))) (ks_cons (HN.out.k (G15, r15) (.tail _ (.tail _ (.tail _ (.tail _ (.head _)))))) ks_nil))) (fun _ => trivial) ?_
            try simp only [Act.put, List.setIfInBounds_toArray, List.set_cons_zero, List.set_cons_succ]
            refine anyC_takeS (i := 1) (oi := ⟨some 76, _, _, _, _, _⟩) (v := .agg (niC (dN r15))) rfl (by kernel_rfl) (by kernel_rfl) (by kernel_rfl) (by kernel_rfl) (fun _ _ _ h => h) (yieldsIf_load_ni (by rfl) _ rfl G15 r15 rfl (fun w' hw' => hw' (G15, r15) (.tail _ (.head _)))) ((ks_cons (HN.out.k (G17, r17) (.tail _ (.tail _ (.head _)))) (ks_cons (HN.out.k (G15, r15) (.tail _ (.tail _ (.tail _ (.tail _ (.head _)))))) ks_nil))) (fun _ => trivial) ?_
            try simp only [Act.put, List.setIfInBounds_toArray, List.set_cons_zero, List.set_cons_succ]
            refine anyC_takeS (i := 3) (oi := ⟨some 78, _, _, _, _, _⟩) (v := .agg (niC (dN r17))) rfl (by kernel_rfl) (by kernel_rfl) (by kernel_rfl) (by kernel_rfl) (fun _ _ _ h => h) (yieldsIf_load_ni (by rfl) _ rfl G17 r17 rfl (fun w' hw' => hw' (G17, r17) (.head _))) ((ks_cons (HN.out.k (G17, r17) (.tail _ (.tail _ (.head _)))) (ks_cons (HN.out.k (G15, r15) (.tail _ (.tail _ (.tail _ (.tail _ (.head _)))))) ks_nil))) (fun _ => trivial) ?_
            try simp only [Act.put, List.setIfInBounds_toArray, List.set_cons_zero, List.set_cons_succ]
            refine anyC_keep (i := 2) (o := ⟨some 77, _, _, _, _, _⟩) (by kernel_rfl) rfl (fun K hK => ?_)
            rw [if_pos (by rfl)]
            go_wp2_with fail
            (with_reducible refine (HDG.out _).mono ?_)
            rintro e V0 ⟨rfl, hb⟩
            have HN := Lib.hid (HN.out.below hb)
            refine hK.out _ _ ⟨(ks_cons (HN.out.k (G17, r17) (.tail _ (.tail _ (.head _)))) (ks_cons (HN.out.k (G15, r15) (.tail _ (.tail _ (.tail _ (.tail _ (.head _)))))) ks_nil)), fun _ => trivial⟩ ?_
            clear hK K hb
            try simp only [Act.put, List.setIfInBounds_toArray, List.set_cons_zero, List.set_cons_succ]
            refine anyC_keep (i := 4) (o := ⟨some 79, _, _, _, _, _⟩) (by kernel_rfl) rfl (fun K hK => ?_)
            rw [if_pos (by rfl)]
            go_wp2_with fail
            (with_reducible refine (mul_rel HDR.out Hr17.out _).mono ?_)
            rintro e V1 ⟨rk, rfl, hR, hb⟩
            have Hrk := Lib.hid hR
            clear hR
            have HN := Lib.hid (HN.out.below hb)
            refine hK.out _ _ ⟨(ks_cons (HN.out.k (G17, r17) (.tail _ (.tail _ (.head _)))) (ks_cons (HN.out.k (G15, r15) (.tail _ (.tail _ (.tail _ (.tail _ (.head _)))))) ks_nil)), fun _ => trivial⟩ ?_
            clear hK K hb
            try simp only [Act.put, List.setIfInBounds_toArray, List.set_cons_zero, List.set_cons_succ]
            refine anyC_keep (i := 5) (o := ⟨some 80, _, _, _, _, _⟩) (by kernel_rfl) rfl (fun K hK => ?_)
            rw [if_pos (by rfl)]
            go_wp2_with fail
            (with_reducible refine (sum_rel Hr15.out Hrk.out _).mono ?_)
            rintro e V2 ⟨rl, rfl, hR, hb⟩
            have Hrl := Lib.hid hR
            clear hR
            have HN := Lib.hid (HN.out.below hb)
            refine hK.out _ _ ⟨(ks_cons (HN.out.k (G17, r17) (.tail _ (.tail _ (.head _)))) (ks_cons (HN.out.k (G15, r15) (.tail _ (.tail _ (.tail _ (.tail _ (.head _)))))) ks_nil)), fun _ => trivial⟩ ?_
            clear hK K hb
            try simp only [Act.put, List.setIfInBounds_toArray, List.set_cons_zero, List.set_cons_succ]
            refine anyC_keep (i := 6) (o := ⟨some 81, _, _, _, _, _⟩) (by kernel_rfl) rfl (fun K hK => ?_)
            rw [if_pos (by rfl)]
            go_wp2_with fail
            (with_reducible refine (mul_rel Hr17.out Hrl.out _).mono ?_)
            rintro e V3 ⟨rb, rfl, hR, hb⟩
            have Hrb := Lib.hid hR
            clear hR
            have HN := Lib.hid (HN.out.below hb)
            refine hK.out _ _ ⟨(ks_cons (HN.out.k (G17, r17) (.tail _ (.tail _ (.head _)))) (ks_cons (HN.out.k (G15, r15) (.tail _ (.tail _ (.tail _ (.tail _ (.head _)))))) ks_nil)), fun _ => trivial⟩ ?_
            clear hK K hb
            try simp only [Act.put, List.setIfInBounds_toArray, List.set_cons_zero, List.set_cons_succ]
            refine anyC_keep (i := 7) (o := ⟨none, _, _, _, _, _⟩) (by kernel_rfl) rfl (fun K hK => ?_)
            rw [if_pos (by rfl)]
            refine wp_put [(G19, r19), (G18, r18), (G17, r17), (G16, r16), (G15, r15), (G14, r14), (G13, r13), (Ga, ra)] Gb rb HN rfl rfl rfl fun V4 HN => ?_
            refine hK.out _ _ ⟨(ks_cons (HN.out.k (G17, r17) (.tail _ (.tail _ (.head _)))) (ks_cons (HN.out.k (G15, r15) (.tail _ (.tail _ (.tail _ (.tail _ (.head _)))))) ks_nil)), fun _ => trivial⟩ ?_
            clear hK K
            try simp only [Act.put]
            refine anyC_done (by kernel_rfl) ?_ _
            go_wp2_with fail
            go_meet
            exact ⟨rb, Hrb, HN⟩
          clear HN
          obtain ⟨rb, Hrb, HN⟩ := hcut
          go_upto_region 16 with fail
          go_cut [] from 28 to 102 (fun wx => ∃ rc, Hid (Rq rc (muN ((muN (sbN xc xd) (xa + xb)) + (muN (xc + xd) (sbN xa xb))) ((muN (sbN xc xd) (xa + xb)) + (muN (xc + xd) (sbN xa xb))))) ∧ Hid (Sr w [(G19, r19), (G18, r18), (G17, r17), (G16, r16), (G15, r15), (G14, r14), (G13, r13), (Ga, ra), (Gb, rb), (Gc, rc), (Gd, d), (Gu, v)] wx))
          case first =>
            go_wp2_with fail
            refine region_anyC (fun w' => Ks w' [(G18, r18), (G19, r19)]) (fun _ => True) [] (by kernel_rfl) ?_
            have HN := Lib.hid HN.out.drew
            generalize World.drew wc = W0 at HN ⊢
            refine anyC_takeS (i := 0) (oi := ⟨some 82, _, _, _, _, _⟩) (v := .agg (niC (dN r18))) rfl (by kernel_rfl) (by kernel_rfl) (by kernel_rfl) (by kernel_rfl) (fun _ _ _ h => h) (yieldsIf_load_ni (by rfl) _ rfl G18 r18 rfl (fun w' hw' => hw' (G18, r18) (.head _))) ((ks_cons (HN.out.k (G18, r18) (.tail _ (.head _))) (ks_cons (HN.out.k (G19, r19) (.head _)) ks_nil))) (fun _ => trivial) ?_
            try simp only [Act.put, List.setIfInBounds_toArray, List.set_cons_zero, List.set_cons_succ]
            refine anyC_takeS (i := 1) (oi := ⟨some 83, _, _, _, _, _⟩) (v := .agg (niC (dN r19))) rfl (by kernel_rfl) (by kernel_rfl) (by kernel_rfl) (by kernel_rfl) (fun _ _ _ h => h) (yieldsIf_load_ni (by rfl) _ rfl G19 r19 rfl (fun w' hw' => hw' (G19, r19) (.tail _ (.head _)))) ((ks_cons (HN.out.k (G18, r18) (.tail _ (.head _))) (ks_cons (HN.out.k (G19, r19) (.head _)) ks_nil))) (fun _ => trivial) ?_
            try simp only [Act.put, List.setIfInBounds_toArray, List.set_cons_zero, List.set_cons_succ]
            refine anyC_takeS (i := 3) (oi := ⟨some 85, _, _, _, _, _⟩) (v := .agg (niC (dN r18))) rfl (by kernel_rfl) (by kernel_rfl) (by kernel_rfl) (by kernel_rfl) (fun _ _ _ h => h) (yieldsIf_load_ni (by rfl) _ rfl G18 r18 rfl (fun w' hw' => hw' (G18, r18) (.head _))) ((ks_cons (HN.out.k (G18, r18) (.tail _ (.head _))) (ks_cons (HN.out.k (G19, r19) (.head _)) ks_nil))) (fun _ => trivial) ?_
            try simp only [Act.put, List.setIfInBounds_toArray, List.set_cons_zero, List.set_cons_succ]
            refine anyC_takeS (i := 4) (oi := ⟨some 86, _, _, _, _, _⟩) (v := .agg (niC (dN r19))) rfl (by kernel_rfl) (by kernel_rfl) (by kernel_rfl) (by kernel_rfl) (fun _ _ _ h => h) (yieldsIf_load_ni (by rfl) _ rfl G19 r19 rfl (fun w' hw' => hw' (G19, r19) (.tail _ (.head _)))) ((ks_cons (HN.out.k (G18, r18) (.tail _ (.head _))) (ks_cons (HN.out.k (G19, r19) (.head _)) ks_nil))) (fun _ => trivial) ?_
            try simp only [Act.put, List.setIfInBounds_toArray, List.set_cons_zero, List.set_cons_succ]
            refine anyC_keep (i := 2) (o := ⟨some 84, _, _, _, _, _⟩) (by kernel_rfl) rfl (fun K hK => ?_)
            rw [if_pos (by rfl)]
            go_wp2_with fail
            (with_reducible refine (sum_rel Hr18.out Hr19.out _).mono ?_)
            rintro e V0 ⟨rk, rfl, hR, hb⟩
            have Hrk := Lib.hid hR
            clear hR
            have HN := Lib.hid (HN.out.below hb)
            refine hK.out _ _ ⟨(ks_cons (HN.out.k (G18, r18) (.tail _ (.head _))) (ks_cons (HN.out.k (G19, r19) (.head _)) ks_nil)), fun _ => trivial⟩ ?_
            clear hK K hb
            try simp only [Act.put, List.setIfInBounds_toArray, List.set_cons_zero, List.set_cons_succ]
            refine anyC_keep (i := 5) (o := ⟨some 87, _, _, _, _, _⟩) (by kernel_rfl) rfl (fun K hK => ?_)
            rw [if_pos (by rfl)]
            go_wp2_with fail
            (with_reducible refine (sum_rel Hr18.out Hr19.out _).mono ?_)
            rintro e V1 ⟨rl, rfl, hR, hb⟩
            have Hrl := Lib.hid hR
            clear hR
            have HN := Lib.hid (HN.out.below hb)
            refine hK.out _ _ ⟨(ks_cons (HN.out.k (G18, r18) (.tail _ (.head _))) (ks_cons (HN.out.k (G19, r19) (.head _)) ks_nil)), fun _ => trivial⟩ ?_
            clear hK K hb
            try simp only [Act.put, List.setIfInBounds_toArray, List.set_cons_zero, List.set_cons_succ]
            refine anyC_keep (i := 6) (o := ⟨some 88, _, _, _, _, _⟩) (by kernel_rfl) rfl (fun K hK => ?_)
            rw [if_pos (by rfl)]
            go_wp2_with fail
            (with_reducible refine (mul_rel Hrk.out Hrl.out _).mono ?_)
            rintro e V2 ⟨rc, rfl, hR, hb⟩
            have Hrc := Lib.hid hR
            clear hR
            have HN := Lib.hid (HN.out.below hb)
            refine hK.out _ _ ⟨(ks_cons (HN.out.k (G18, r18) (.tail _ (.head _))) (ks_cons (HN.out.k (G19, r19) (.head _)) ks_nil)), fun _ => trivial⟩ ?_
            clear hK K hb
            try simp only [Act.put, List.setIfInBounds_toArray, List.set_cons_zero, List.set_cons_succ]
            refine anyC_keep (i := 7) (o := ⟨none, _, _, _, _, _⟩) (by kernel_rfl) rfl (fun K hK => ?_)
            rw [if_pos (by rfl)]
            refine wp_put [(G19, r19), (G18, r18), (G17, r17), (G16, r16), (G15, r15), (G14, r14), (G13, r13), (Ga, ra), (Gb, rb)] Gc rc HN rfl rfl rfl fun V3 HN => ?_
            refine hK.out _ _ ⟨(ks_cons (HN.out.k (G18, r18) (.tail _ (.head _))) (ks_cons (HN.out.k (G19, r19) (.head _)) ks_nil)), fun _ => trivial⟩ ?_
            clear hK K
            try simp only [Act.put]
            refine anyC_done (by kernel_rfl) ?_ _
            go_wp2_with fail
            go_meet
            exact ⟨rc, Hrc, HN⟩
          clear HN
          obtain ⟨rc, Hrc, HN⟩ := hcut
          go_upto_region 17 with fail
          go_cut [] from 28 to 102 (fun wx => ∃ rd, Hid (Rq rd (muN u0 (muN (sbN (muN (sbN xc xd) (xa + xb)) (muN (xc + xd) (sbN xa xb))) (sbN (muN (sbN xc xd) (xa + xb)) (muN (xc + xd) (sbN xa xb)))))) ∧ Hid (Sr w [(G19, r19), (G18, r18), (G17, r17), (G16, r16), (G15, r15), (G14, r14), (G13, r13), (Ga, ra), (Gb, rb), (Gc, rc), (Gd, rd), (Gu, v)] wx))
          case first =>
            go_wp2_with fail
            refine region_anyC (fun w' => Ks w' [(Gu, v), (G18, r18), (G19, r19)]) (fun _ => True) [] (by kernel_rfl) ?_
            have HN := Lib.hid HN.out.drew
            generalize World.drew wc = W0 at HN ⊢
            refine anyC_takeS (i := 0) (oi := ⟨some 89, _, _, _, _, _⟩) (v := .agg (niC (dN v))) rfl (by kernel_rfl) (by kernel_rfl) (by kernel_rfl) (by kernel_rfl) (fun _ _ _ h => h) (yieldsIf_load_ni (by rfl) _ rfl Gu v rfl (fun w' hw' => hw' (Gu, v) (.head _))) ((ks_cons (HN.out.k (Gu, v) (.tail _ (.tail _ (.tail _ (.tail _ (.tail _ (.tail _ (.tail _ (.tail _ (.tail _ (.tail _ (.tail _ (.head _))))))))))))) (ks_cons (HN.out.k (G18, r18) (.tail _ (.head _))) (ks_cons (HN.out.k (G19, r19) (.head _)) ks_nil)))) (fun _ => trivial) ?_
            try simp only [Act.put, List.setIfInBounds_toArray, List.set_cons_zero, List.set_cons_succ]
            refine anyC_takeS (i := 1) (oi := ⟨some 90, _, _, _, _, _⟩) (v := .agg (niC (dN r18))) rfl (by kernel_rfl) (by kernel_rfl) (by kernel_rfl) (by kernel_rfl) (fun _ _ _ h => h) (yieldsIf_load_ni (by rfl) _ rfl G18 r18 rfl (fun w' hw' => hw' (G18, r18) (.tail _ (.head _)))) ((ks_cons (HN.out.k (Gu, v) (.tail _ (.tail _ (.tail _ (.tail _ (.tail _ (.tail _ (.tail _ (.tail _ (.tail _ (.tail _ (.tail _ (.head _))))))))))))) (ks_cons (HN.out.k (G18, r18) (.tail _ (.head _))) (ks_cons (HN.out.k (G19, r19) (.head _)) ks_nil)))) (fun _ => trivial) ?_
            try simp only [Act.put, List.setIfInBounds_toArray, List.set_cons_zero, List.set_cons_succ]
            refine anyC_takeS (i := 2) (oi := ⟨some 91, _, _, _, _, _⟩) (v := .agg (niC (dN r19))) rfl (by kernel_rfl) (by kernel_rfl) (by kernel_rfl) (by kernel_rfl) (fun _ _ _ h => h) (yieldsIf_load_ni (by rfl) _ rfl G19 r19 rfl (fun w' hw' => hw' (G19, r19) (.tail _ (.tail _ (.head _))))) ((ks_cons (HN.out.k (Gu, v) (.tail _ (.tail _ (.tail _ (.tail _ (.tail _ (.tail _ (.tail _ (.tail _ (.tail _ (.tail _ (.tail _ (.head _))))))))))))) (ks_cons (HN.out.k (G18, r18) (.tail _ (.head _))) (ks_cons (HN.out.k (G19, r19) (.head _)) ks_nil)))) (fun _ => trivial) ?_
            try simp only [Act.put, List.setIfInBounds_toArray, List.set_cons_zero, List.set_cons_succ]
            refine anyC_takeS (i := 4) (oi := ⟨some 93, _, _, _, _, _⟩) (v := .agg (niC (dN r18))) rfl (by kernel_rfl) (by kernel_rfl) (by kernel_rfl) (by kernel_rfl) (fun _ _ _ h => h) (yieldsIf_load_ni (by rfl) _ rfl G18 r18 rfl (fun w' hw' => hw' (G18, r18) (.tail _ (.head _)))) ((ks_cons (HN.out.k (Gu, v) (.tail _ (.tail _ (.tail _ (.tail _ (.tail _ (.tail _ (.tail _ (.tail _ (.tail _ (.tail _ (.tail _ (.head _))))))))))))) (ks_cons (HN.out.k (G18, r18) (.tail _ (.head _))) (ks_cons (HN.out.k (G19, r19) (.head _)) ks_nil)))) (fun _ => trivial) ?_
            try simp only [Act.put, List.setIfInBounds_toArray, List.set_cons_zero, List.set_cons_succ]
            refine anyC_takeS (i := 5) (oi := ⟨some 94, _, _, _, _, _⟩) (v := .agg (niC (dN r19))) rfl (by kernel_rfl) (by kernel_rfl) (by kernel_rfl) (by kernel_rfl) (fun _ _ _ h => h) (yieldsIf_load_ni (by rfl) _ rfl G19 r19 rfl (fun w' hw' => hw' (G19, r19) (.tail _ (.tail _ (.head _))))) ((ks_cons (HN.out.k (Gu, v) (.tail _ (.tail _ (.tail _ (.tail _ (.tail _ (.tail _ (.tail _ (.tail _ (.tail _ (.tail _ (.tail _ (.head _))))))))))))) (ks_cons (HN.out.k (G18, r18) (.tail _ (.head _))) (ks_cons (HN.out.k (G19, r19) (.head _)) ks_nil)))) (fun _ => trivial) ?_
            try simp only [Act.put, List.setIfInBounds_toArray, List.set_cons_zero, List.set_cons_succ]
            refine anyC_keep (i := 3) (o := ⟨some 92, _, _, _, _, _⟩) (by kernel_rfl) rfl (fun K hK => ?_)
            rw [if_pos (by rfl)]
            go_wp2_with fail
            (with_reducible refine (dif_rel Hr18.out Hr19.out (mu_le _ _) _).mono ?_)
            rintro e V0 ⟨rk, rfl, hR, hb⟩
            have Hrk := Lib.hid hR
            clear hR
            have HN := Lib.hid (HN.out.below hb)
            refine hK.out _ _ ⟨(ks_cons (HN.out.k (Gu, v) (.tail _ (.tail _ (.tail _ (.tail _ (.tail _ (.tail _ (.tail _ (.tail _ (.tail _ (.tail _ (.tail _ (.head _))))))))))))) (ks_cons (HN.out.k (G18, r18) (.tail _ (.head _))) (ks_cons (HN.out.k (G19, r19) (.head _)) ks_nil))), fun _ => trivial⟩ ?_
            clear hK K hb
            try simp only [Act.put, List.setIfInBounds_toArray, List.set_cons_zero, List.set_cons_succ]
            refine anyC_keep (i := 6) (o := ⟨some 95, _, _, _, _, _⟩) (by kernel_rfl) rfl (fun K hK => ?_)
            rw [if_pos (by rfl)]
            go_wp2_with fail
            (with_reducible refine (dif_rel Hr18.out Hr19.out (mu_le _ _) _).mono ?_)
            rintro e V1 ⟨rl, rfl, hR, hb⟩
            have Hrl := Lib.hid hR
            clear hR
            have HN := Lib.hid (HN.out.below hb)
            refine hK.out _ _ ⟨(ks_cons (HN.out.k (Gu, v) (.tail _ (.tail _ (.tail _ (.tail _ (.tail _ (.tail _ (.tail _ (.tail _ (.tail _ (.tail _ (.tail _ (.head _))))))))))))) (ks_cons (HN.out.k (G18, r18) (.tail _ (.head _))) (ks_cons (HN.out.k (G19, r19) (.head _)) ks_nil))), fun _ => trivial⟩ ?_
            clear hK K hb
            try simp only [Act.put, List.setIfInBounds_toArray, List.set_cons_zero, List.set_cons_succ]
            refine anyC_keep (i := 7) (o := ⟨some 96, _, _, _, _, _⟩) (by kernel_rfl) rfl (fun K hK => ?_)
            rw [if_pos (by rfl)]
            go_wp2_with fail
            (with_reducible refine (mul_rel Hrk.out Hrl.out _).mono ?_)
            rintro e V2 ⟨rm, rfl, hR, hb⟩
            have Hrm := Lib.hid hR
            clear hR
            have HN := Lib.hid (HN.out.below hb)
            refine hK.out _ _ ⟨(ks_cons (HN.out.k (Gu, v) (.tail _ (.tail _ (.tail _ (.tail _ (.tail _ (.tail _ (.tail _ (.tail _ (.tail _ (.tail _ (.tail _ (.head _))))))))))))) (ks_cons (HN.out.k (G18, r18) (.tail _ (.head _))) (ks_cons (HN.out.k (G19, r19) (.head _)) ks_nil))), fun _ => trivial⟩ ?_
            clear hK K hb
            try simp only [Act.put, List.setIfInBounds_toArray, List.set_cons_zero, List.set_cons_succ]
            refine anyC_keep (i := 8) (o := ⟨some 97, _, _, _, _, _⟩) (by kernel_rfl) rfl (fun K hK => ?_)
            rw [if_pos (by rfl)]
            go_wp2_with fail
            (with_reducible refine (mul_rel HU.out.1 Hrm.out _).mono ?_)
            rintro e V3 ⟨rd, rfl, hR, hb⟩
            have Hrd := Lib.hid hR
            clear hR
            have HN := Lib.hid (HN.out.below hb)
            refine hK.out _ _ ⟨(ks_cons (HN.out.k (Gu, v) (.tail _ (.tail _ (.tail _ (.tail _ (.tail _ (.tail _ (.tail _ (.tail _ (.tail _ (.tail _ (.tail _ (.head _))))))))))))) (ks_cons (HN.out.k (G18, r18) (.tail _ (.head _))) (ks_cons (HN.out.k (G19, r19) (.head _)) ks_nil))), fun _ => trivial⟩ ?_
            clear hK K hb
            try simp only [Act.put, List.setIfInBounds_toArray, List.set_cons_zero, List.set_cons_succ]
            refine anyC_keep (i := 9) (o := ⟨none, _, _, _, _, _⟩) (by kernel_rfl) rfl (fun K hK => ?_)
            rw [if_pos (by rfl)]
            refine wp_put [(G19, r19), (G18, r18), (G17, r17), (G16, r16), (G15, r15), (G14, r14), (G13, r13), (Ga, ra), (Gb, rb), (Gc, rc)] Gd rd HN rfl rfl rfl fun V4 HN => ?_
            refine hK.out _ _ ⟨(ks_cons (HN.out.k (Gu, v) (.tail _ (.tail _ (.tail _ (.tail _ (.tail _ (.tail _ (.tail _ (.tail _ (.tail _ (.tail _ (.tail _ (.head _))))))))))))) (ks_cons (HN.out.k (G18, r18) (.tail _ (.head _))) (ks_cons (HN.out.k (G19, r19) (.head _)) ks_nil))), fun _ => trivial⟩ ?_
            clear hK K
            try simp only [Act.put]
            refine anyC_done (by kernel_rfl) ?_ _
            go_wp2_with fail
            go_meet
            exact ⟨rd, Hrd, HN⟩
          clear HN
          obtain ⟨rd, Hrd, HN⟩ := hcut
          have HN : Hid (Sr w [(Ga, ra), (Gb, rb), (Gc, rc), (Gd, rd), (Gu, v)] wc) := Lib.hid (HN.out.drop [(G19, r19), (G18, r18), (G17, r17), (G16, r16), (G15, r15), (G14, r14), (G13, r13)])
          have HS : Hid (R4 ra rb rc rd (stepN u0 ⟨xa, xb, xc, xd⟩)) := Lib.hid ⟨Hra.out, by have h := Hrb.out; rw [show muN 121665 (sbN (muN (xa + xb) (xa + xb)) (muN (sbN xa xb) (sbN xa xb))) = muN (sbN (muN (xa + xb) (xa + xb)) (muN (sbN xa xb) (sbN xa xb))) 121665 from congrArg (· % pC) (Nat.mul_comm _ _)] at h; exact h, Hrc.out, Hrd.out⟩
          clear Hra Hrb Hrc Hrd Hr13 Hr14 Hr15 Hr16 Hr17 Hr18 Hr19 HRa HRb HRc HRd HLb HLd HDG HDR
          by_cases hy1 : (y : Int) = 1
          · have hyb : ((y : Int) == 1) = true := beq_iff_eq.2 hy1
            have HE : Hid (R4 rc rd ra rb (ladN u0 cl (k + 1))) := Lib.hid (by rw [HNX.out, hyb, swIf_true]; exact HS.out.sw)
            clear HNX HS
            go_wp2_with fail
            refine region_anyC (fun _ => True) (fun w' => Ks w' [(Ga, ra), (Gb, rb), (Gc, rc), (Gd, rd)]) [4] (by kernel_rfl) ?_
            have HN := Lib.hid HN.out.drew
            generalize World.drew wc = W0 at HN ⊢
            refine anyC_takeU (i := 0) (oi := ⟨some 99, _, _, _, _, _⟩) (v := .agg (niC (dN rc))) rfl (by kernel_rfl) (by kernel_rfl) (by kernel_rfl) (by kernel_rfl) (fun _ _ _ h => h) (yieldsIf_load_ni (by rfl) _ rfl Gc rc rfl (fun w' hw' => hw' (Gc, rc) (.tail _ (.tail _ (.head _))))) trivial (ks_cons (HN.out.k (Ga, ra) (.head _)) (ks_cons (HN.out.k (Gb, rb) (.tail _ (.head _))) (ks_cons (HN.out.k (Gc, rc) (.tail _ (.tail _ (.head _)))) (ks_cons (HN.out.k (Gd, rd) (.tail _ (.tail _ (.tail _ (.head _))))) ks_nil)))) ?_
            try simp only [Act.put, List.setIfInBounds_toArray, List.set_cons_zero, List.set_cons_succ]
            refine anyC_takeU (i := 2) (oi := ⟨some 101, _, _, _, _, _⟩) (v := .agg (niC (dN ra))) rfl (by kernel_rfl) (by kernel_rfl) (by kernel_rfl) (by kernel_rfl) (fun _ _ _ h => h) (yieldsIf_load_ni (by rfl) _ rfl Ga ra rfl (fun w' hw' => hw' (Ga, ra) (.head _))) trivial (ks_cons (HN.out.k (Ga, ra) (.head _)) (ks_cons (HN.out.k (Gb, rb) (.tail _ (.head _))) (ks_cons (HN.out.k (Gc, rc) (.tail _ (.tail _ (.head _)))) (ks_cons (HN.out.k (Gd, rd) (.tail _ (.tail _ (.tail _ (.head _))))) ks_nil)))) ?_
            try simp only [Act.put, List.setIfInBounds_toArray, List.set_cons_zero, List.set_cons_succ]
            refine anyC_takeU (i := 3) (oi := ⟨some 102, _, _, _, _, _⟩) (v := .agg (niC (dN rb))) rfl (by kernel_rfl) (by kernel_rfl) (by kernel_rfl) (by kernel_rfl) (fun _ _ _ h => h) (yieldsIf_load_ni (by rfl) _ rfl Gb rb rfl (fun w' hw' => hw' (Gb, rb) (.tail _ (.head _)))) trivial (ks_cons (HN.out.k (Ga, ra) (.head _)) (ks_cons (HN.out.k (Gb, rb) (.tail _ (.head _))) (ks_cons (HN.out.k (Gc, rc) (.tail _ (.tail _ (.head _)))) (ks_cons (HN.out.k (Gd, rd) (.tail _ (.tail _ (.tail _ (.head _))))) ks_nil)))) ?_
            try simp only [Act.put, List.setIfInBounds_toArray, List.set_cons_zero, List.set_cons_succ]
            refine anyC_two (i := 1) (j := 4) (o1 := ⟨some 100, _, _, _, _, _⟩) (o2 := ⟨none, _, _, _, _, _⟩) (by kernel_rfl) rfl rfl (fun K hK => ?_) (fun K hK => ?_)
            · rw [if_pos (by rfl)]
              refine wp_load_row 48 _ rfl Gd rfl 48 (niC (dN rd)) (0, 0) _ (HN.out.k (Gd, rd) (.tail _ (.tail _ (.tail _ (.head _))))) Tryd.underlying48 rfl (by rw [size48, niC_size, dN_length]) ?_
              refine hK.out _ _ ⟨trivial, fun _ => (ks_cons (HN.out.k (Ga, ra) (.head _)) (ks_cons (HN.out.k (Gb, rb) (.tail _ (.head _))) (ks_cons (HN.out.k (Gc, rc) (.tail _ (.tail _ (.head _)))) (ks_cons (HN.out.k (Gd, rd) (.tail _ (.tail _ (.tail _ (.head _))))) ks_nil))))⟩ ?_
              clear hK K
              try simp only [Act.put, List.setIfInBounds_toArray, List.set_cons_zero, List.set_cons_succ]
              refine anyC_keep (i := 4) (o := ⟨none, _, _, _, _, _⟩) (by kernel_rfl) rfl (fun K hK => ?_)
              rw [if_pos (by rfl)]
              refine wp_put [] Ga rc HN rfl rfl rfl fun V0 HN => ?_
              refine hK.out _ _ ⟨trivial, fun h => absurd h (by decide)⟩ ?_
              clear hK K
              try simp only [Act.put]
              refine anyC_keep (i := 5) (o := ⟨none, _, _, _, _, _⟩) (by kernel_rfl) rfl (fun K hK => ?_)
              rw [if_pos (by rfl)]
              refine wp_put [(Ga, rc)] Gb rd HN rfl rfl rfl fun V1 HN => ?_
              refine hK.out _ _ ⟨trivial, fun h => absurd h (by decide)⟩ ?_
              clear hK K
              try simp only [Act.put]
              refine anyC_keep (i := 6) (o := ⟨none, _, _, _, _, _⟩) (by kernel_rfl) rfl (fun K hK => ?_)
              rw [if_pos (by rfl)]
              refine wp_put [(Ga, rc), (Gb, rd)] Gc ra HN rfl rfl rfl fun V2 HN => ?_
              refine hK.out _ _ ⟨trivial, fun h => absurd h (by decide)⟩ ?_
              clear hK K
              try simp only [Act.put]
              refine anyC_keep (i := 7) (o := ⟨none, _, _, _, _, _⟩) (by kernel_rfl) rfl (fun K hK => ?_)
              rw [if_pos (by rfl)]
              refine wp_put [(Ga, rc), (Gb, rd), (Gc, ra)] Gd rb HN rfl rfl rfl fun V3 HN => ?_
              refine hK.out _ _ ⟨trivial, fun h => absurd h (by decide)⟩ ?_
              clear hK K
              try simp only [Act.put]
              refine anyC_done (by kernel_rfl) ?_ _
              go_wp2_with fail
              go_roundw
              case rel => exact ⟨k + 1, by omega, by have h := HT.out; first | (congr 1; omega) | (simp; omega), rc, rd, ra, rb, HE, HN⟩
              case measure => simp [intOf] <;> omega
            · rw [if_pos (by rfl)]
              refine wp_put [] Ga rc HN rfl rfl rfl fun V0 HN => ?_
              refine hK.out _ _ ⟨trivial, fun h => absurd h (by decide)⟩ ?_
              clear hK K
              try simp only [Act.put]
              refine anyC_keep (i := 1) (o := ⟨some 100, _, _, _, _, _⟩) (by kernel_rfl) rfl (fun K hK => ?_)
              rw [if_pos (by rfl)]
              refine wp_load_row 48 _ rfl Gd rfl 48 (niC (dN rd)) (0, 0) _ (HN.out.k (Gd, rd) (.tail _ (.tail _ (.tail _ (.head _))))) Tryd.underlying48 rfl (by rw [size48, niC_size, dN_length]) ?_
              refine hK.out _ _ ⟨trivial, fun h => absurd h (by decide)⟩ ?_
              clear hK K
              try simp only [Act.put, List.setIfInBounds_toArray, List.set_cons_zero, List.set_cons_succ]
              refine anyC_keep (i := 5) (o := ⟨none, _, _, _, _, _⟩) (by kernel_rfl) rfl (fun K hK => ?_)
              rw [if_pos (by rfl)]
              refine wp_put [(Ga, rc)] Gb rd HN rfl rfl rfl fun V1 HN => ?_
              refine hK.out _ _ ⟨trivial, fun h => absurd h (by decide)⟩ ?_
              clear hK K
              try simp only [Act.put]
              refine anyC_keep (i := 6) (o := ⟨none, _, _, _, _, _⟩) (by kernel_rfl) rfl (fun K hK => ?_)
              rw [if_pos (by rfl)]
              refine wp_put [(Ga, rc), (Gb, rd)] Gc ra HN rfl rfl rfl fun V2 HN => ?_
              refine hK.out _ _ ⟨trivial, fun h => absurd h (by decide)⟩ ?_
              clear hK K
              try simp only [Act.put]
              refine anyC_keep (i := 7) (o := ⟨none, _, _, _, _, _⟩) (by kernel_rfl) rfl (fun K hK => ?_)
              rw [if_pos (by rfl)]
              refine wp_put [(Ga, rc), (Gb, rd), (Gc, ra)] Gd rb HN rfl rfl rfl fun V3 HN => ?_
              refine hK.out _ _ ⟨trivial, fun h => absurd h (by decide)⟩ ?_
              clear hK K
              try simp only [Act.put]
              refine anyC_done (by kernel_rfl) ?_ _
              go_wp2_with fail
              go_roundw
              case rel => exact ⟨k + 1, by omega, by have h := HT.out; first | (congr 1; omega) | (simp; omega), rc, rd, ra, rb, HE, HN⟩
              case measure => simp [intOf] <;> omega
          · have hyb : ((y : Int) == 1) = false := beq_false_of_ne hy1
            have HE : Hid (R4 ra rb rc rd (ladN u0 cl (k + 1))) := Lib.hid (by rw [HNX.out, hyb, swIf_false]; exact HS.out)
            clear HNX HS
            go_wp2_with fail
            go_roundw
            case rel => exact ⟨k + 1, by omega, by have h := HT.out; first | (congr 1; omega) | (simp; omega), ra, rb, rc, rd, HE, HN⟩
            case measure => simp [intOf] <;> omega
      · obtain rfl : k = 255 := by omega
        have hcond : ¬ (0 : Int) ≤ 254 - ((255 : Nat) : Int) := by omega
        obtain ⟨x, hx⟩ : ∃ x, ladN u0 cl 255 = x := ⟨_, rfl⟩
        have hxb : x.b < pC := by
          rw [← hx]
          show (roundN u0 (bitN cl (254 - 254)) (ladN u0 cl 254)).b < pC
          unfold roundN
          split <;> exact muN_lt _ _
        rw [hx] at HX HRES
        have HXB := Lib.hid hxb
        clear hx hxb
        go_wp2_with fail
        refine region_anyC (fun w' => Ks w' [(Ga, a), (Gb, b)]) (fun _ => True) [] (by kernel_rfl) ?_
        have HN := Lib.hid HN.out.drew
        generalize World.drew wr = W0 at HN ⊢
        refine anyC_takeS (i := 0) (oi := ⟨some 103, _, _, _, _, _⟩) (v := .agg (niC (dN a))) rfl (by kernel_rfl) (by kernel_rfl) (by kernel_rfl) (by kernel_rfl) (fun _ _ _ h => h) (yieldsIf_load_ni (by rfl) _ rfl Ga a rfl (fun w' hw' => hw' (Ga, a) (.head _))) ((ks_cons (HN.out.k (Ga, a) (.head _)) (ks_cons (HN.out.k (Gb, b) (.tail _ (.head _))) ks_nil))) (fun _ => trivial) ?_
        try simp only [Act.put, List.setIfInBounds_toArray, List.set_cons_zero, List.set_cons_succ]
        refine anyC_takeS (i := 1) (oi := ⟨some 104, _, _, _, _, _⟩) (v := .agg (niC (dN b))) rfl (by kernel_rfl) (by kernel_rfl) (by kernel_rfl) (by kernel_rfl) (fun _ _ _ h => h) (yieldsIf_load_ni (by rfl) _ rfl Gb b rfl (fun w' hw' => hw' (Gb, b) (.tail _ (.head _)))) ((ks_cons (HN.out.k (Ga, a) (.head _)) (ks_cons (HN.out.k (Gb, b) (.tail _ (.head _))) ks_nil))) (fun _ => trivial) ?_
        try simp only [Act.put, List.setIfInBounds_toArray, List.set_cons_zero, List.set_cons_succ]
        refine anyC_keep (i := 2) (o := ⟨some 105, _, _, _, _, _⟩) (by kernel_rfl) rfl (fun K hK => ?_)
        rw [if_pos (by rfl)]
        go_wp2_with fail
        (with_reducible refine (pow_rel HX.out.2.1 _).mono ?_)
        rintro e V0 ⟨rp, rfl, hR, hb⟩
        have Hrp := Lib.hid hR
        clear hR
        have HN := Lib.hid (HN.out.below hb)
        refine hK.out _ _ ⟨(ks_cons (HN.out.k (Ga, a) (.head _)) (ks_cons (HN.out.k (Gb, b) (.tail _ (.head _))) ks_nil)), fun _ => trivial⟩ ?_
        clear hK K hb
        try simp only [Act.put, List.setIfInBounds_toArray, List.set_cons_zero, List.set_cons_succ]
        refine anyC_keep (i := 3) (o := ⟨some 106, _, _, _, _, _⟩) (by kernel_rfl) rfl (fun K hK => ?_)
        rw [if_pos (by rfl)]
        go_wp2_with fail
        (with_reducible refine (prod_rel (Rq.lt HX.out.1) Hrp.out.1 _).mono ?_)
        rintro e V1 ⟨rr, rfl, hR, hb⟩
        have Hrr := Lib.hid hR
        clear hR
        have HN := Lib.hid (HN.out.below hb)
        refine hK.out _ _ ⟨(ks_cons (HN.out.k (Ga, a) (.head _)) (ks_cons (HN.out.k (Gb, b) (.tail _ (.head _))) ks_nil)), fun _ => trivial⟩ ?_
        clear hK K hb
        try simp only [Act.put, List.setIfInBounds_toArray, List.set_cons_zero, List.set_cons_succ]
        refine anyC_keep (i := 4) (o := ⟨some 107, _, _, _, _, _⟩) (by kernel_rfl) rfl (fun K hK => ?_)
        rw [if_pos (by rfl)]
        go_wp2_with fail
        (with_reducible refine ((fun W => roctets_any _ W Hrr.out.1) _).mono ?_)
        rintro e V2 ⟨rfl, hb⟩
        have HN := Lib.hid (HN.out.below hb)
        refine hK.out _ _ ⟨(ks_cons (HN.out.k (Ga, a) (.head _)) (ks_cons (HN.out.k (Gb, b) (.tail _ (.head _))) ks_nil)), fun _ => trivial⟩ ?_
        clear hK K hb
        try simp only [Act.put, List.setIfInBounds_toArray, List.set_cons_zero, List.set_cons_succ]
        refine anyC_takeS (i := 5) (oi := ⟨some 4, _, _, _, _, _⟩) (v := _) rfl (by kernel_rfl) (by kernel_rfl) (by kernel_rfl) (by kernel_rfl) (fun _ _ _ h => h) (Or.inl ⟨by rfl, fun w' hw' => (by clear hw'; go_simp; try with_reducible rfl)⟩) (ks_cons (HN.out.k (Ga, a) (.head _)) (ks_cons (HN.out.k (Gb, b) (.tail _ (.head _))) ks_nil)) (fun _ => trivial) ?_
        try simp only [Act.put, List.setIfInBounds_toArray, List.set_cons_zero, List.set_cons_succ]
        refine anyC_done (by kernel_rfl) ?_ _
        go_wp2_with fail
        go_ret
        exact ⟨by rw [HRES.out, Rq.end HX.out.1 HX.out.2.1 HXB.out Hrp.out.2 Hrr.out.2]; rfl, HN.out.o⟩
end Go.Proofs.YtbadiljligcenaaDoor
