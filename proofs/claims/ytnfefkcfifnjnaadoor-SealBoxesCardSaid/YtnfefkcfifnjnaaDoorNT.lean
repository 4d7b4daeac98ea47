/- Plain facts of the reference's product. The reference's product. Plain facts of the reference's Tag: the key's half, its last octets. The reference's Tag. -/
import Derived.Test.YtnfefkcfifnjnaaDoorMR
import Derived.Test.YtnfefkcfifnjnaaDoorNQ
import Derived.Test.YtnfefkcfifnjnaaDoorW
namespace Go.Proofs.YtnfefkcfifnjnaaDoor
section
open Go.RowKit
/-- One step of the inner loop, on numbers. -/
theorem prod_core (v v' A B g q d t c x y P0 T : Nat) (hs : v' + A * B * g = v + A * B * q) (ht : t = c + g + x * y) (hq : t = q + 256 * d) (h : v + A * B * c = P0 + A * x * T) :
    v' + A * B * 256 * d = P0 + A * x * (T + B * y) := by
  have h1 : A * B * t = A * B * q + A * B * (256 * d) := by rw [hq, Nat.mul_add]
  have h2 : A * B * t = A * B * c + A * B * g + A * B * (x * y) := by rw [ht, Nat.mul_add, Nat.mul_add]
  have h3 : A * B * (256 * d) = A * B * 256 * d := (Nat.mul_assoc ..).symm
  have h4 : A * x * (T + B * y) = A * x * T + A * B * (x * y) := by rw [Nat.mul_add]; congr 1; ac_rfl
  rw [h4]
  omega
theorem prod_next (l b : List Nat) (P0 x c k i : Nat) (hl : i + k < l.length) (h : vo l + 256 ^ (i + k) * c = P0 + 256 ^ i * x * vo (b.take k)) :
    vo (l.set (i + k) ((c + l.getD (i + k) 0 + x * b.getD k 0) % 256)) + 256 ^ (i + (k + 1)) * ((c + l.getD (i + k) 0 + x * b.getD k 0) / 256) = P0 + 256 ^ i * x * vo (b.take (k + 1)) := by
  have hs := vo_set l (i + k) ((c + l.getD (i + k) 0 + x * b.getD k 0) % 256) hl
  rw [vo_take, ← Nat.add_assoc, Nat.pow_succ]
  rw [Nat.pow_add] at h hs ⊢
  exact prod_core _ _ _ _ _ _ _ _ _ _ _ _ _ hs rfl (by omega) h
/-- The carry ends in time. -/
theorem prod_room (l a b : List Nat) (x c k i : Nat) (da : Dg a) (db : Dg b) (hx : a.getD i 0 = x) (h : vo l + 256 ^ (i + k) * c = vo (a.take i) * vo b + 256 ^ i * x * vo b) (hc : 0 < c) : k ≤ b.length := by
  have h1 : vo (a.take (i + 1)) < 256 ^ (i + 1) := by
    have hd : Dg (a.take (i + 1)) := fun y hy => da y (List.mem_of_mem_take hy)
    exact Nat.lt_of_lt_of_le (vo_lt _ hd) (Nat.pow_le_pow_right (by decide) (by rw [List.length_take]; omega))
  have h2 := vo_lt b db
  have h3 : vo (a.take i) * vo b + 256 ^ i * x * vo b = vo (a.take (i + 1)) * vo b := by rw [vo_take, hx, Nat.add_mul]
  rw [h3] at h
  have h4 : vo (a.take (i + 1)) * vo b < 256 ^ (i + 1) * 256 ^ b.length := by
    refine Nat.lt_of_le_of_lt (Nat.mul_le_mul_left _ (Nat.le_of_lt h2)) (Nat.mul_lt_mul_of_pos_right h1 (Nat.pow_pos (by decide)))
  rw [← Nat.pow_add] at h4
  have h5 : 256 ^ (i + k) ≤ 256 ^ (i + k) * c := Nat.le_mul_of_pos_right _ hc
  have h6 : 256 ^ (i + k) < 256 ^ (i + 1 + b.length) := by omega
  have := (Nat.pow_lt_pow_iff_right (by decide : 1 < 256)).1 h6
  omega
end
section
open Go.RowKit Go.ChangeShapes
theorem vo_zeros (n : Nat) : vo (List.replicate n 0) = 0 := by
  induction n with
  | zero => rfl
  | succ n ih => rw [List.replicate_succ]; simp [vo, ih]
set_option maxRecDepth 100000 in
set_option maxHeartbeats 4000000 in
/-- The reference's product. -/
theorem rproduct (va vb : Value) (a b : List Nat) (w : World) (ha : Nu w va a) (hb : Nu w vb b) (da : Dg a) (db : Dg b) (la : a.length ≤ 100) (lb : b.length ≤ 100) :
    Calls Tryd.prog 40 #[va, vb] w fun e w' => ∃ v o, e = .returned v ∧ Nu w' v o ∧ Dg o ∧ vo o = vo a * vo b ∧ o.length = a.length + b.length + 1 ∧ Below w.heap.size w w' := by
  obtain ⟨i0, hi, hz0, hz1, hz2⟩ := info_parts info3
  obtain ⟨aa, ca, rfl, fa⟩ := ha.form
  obtain ⟨ab, cb, rfl, fb⟩ := hb.form
  have FA := Lib.hid fa
  have FB := Lib.hid fb
  have GA := Lib.hid (fun k => da.get k)
  have GB := Lib.hid (fun k => db.get k)
  have ZB : Hid (∀ k, b.length ≤ k → b.getD k 0 = 0) := Lib.hid fun k hk => by rw [List.getD_eq_getElem?_getD, List.getElem?_eq_none hk]; rfl
  have NX : Hid (∀ (l : List Nat) (P0 x c k i : Nat), i + k < l.length → vo l + 256 ^ (i + k) * c = P0 + 256 ^ i * x * vo (b.take k) → vo (l.set (i + k) ((c + l.getD (i + k) 0 + x * b.getD k 0) % 256)) + 256 ^ (i + (k + 1)) * ((c + l.getD (i + k) 0 + x * b.getD k 0) / 256) = P0 + 256 ^ i * x * vo (b.take (k + 1))) := Lib.hid fun l P0 x c k i h1 h2 => prod_next l b P0 x c k i h1 h2
  have RM : Hid (∀ (l : List Nat) (c k i : Nat), b.length ≤ k → vo l + 256 ^ (i + k) * c = vo (a.take i) * vo b + 256 ^ i * a.getD i 0 * vo (b.take k) → 0 < c → k ≤ b.length) := Lib.hid fun l c k i hk h hc => by
    rw [vo_take_all b k hk] at h
    exact prod_room l a b _ c k i da db rfl h hc
  have ED : Hid (∀ (l : List Nat) (k i : Nat), b.length ≤ k → vo l + 256 ^ (i + k) * 0 = vo (a.take i) * vo b + 256 ^ i * a.getD i 0 * vo (b.take k) → vo l = vo (a.take (i + 1)) * vo b) := Lib.hid fun l k i hk h => by
    rw [vo_take_all b k hk, Nat.mul_zero, Nat.add_zero] at h
    rw [h, vo_take, Nat.add_mul]
  have EA : Hid (vo (a.take a.length) = vo a) := Lib.hid (vo_take_all a _ (Nat.le_refl _))
  have T0 : Hid (∀ X : Nat, 256 ^ 0 * X = X) := Lib.hid (by simp)
  obtain ⟨n, hn⟩ : ∃ n, a.length + b.length + 1 = n := ⟨_, rfl⟩
  have Z0 : Hid (vo (List.replicate n 0) = vo (a.take 0) * vo b) := Lib.hid (by rw [vo_zeros]; simp [vo])
  have ZD0 : Hid (Dg (List.replicate n 0)) := Lib.hid (fun y hy => by rw [List.eq_of_mem_replicate hy]; decide)
  have ZC0 : Hid (List.replicate n (Value.int .i64 0) = inC (List.replicate n 0)) := Lib.hid (by simp [inC])
  have ZL0 : Hid ((List.replicate n 0 : List Nat).length = n) := Lib.hid (List.length_replicate ..)
  have IV : Hid (∀ (l : List Nat) (i x : Nat), vo l = vo (a.take i) * vo b → vo l + 256 ^ (i + 0) * 0 = vo (a.take i) * vo b + 256 ^ i * x * vo (b.take 0)) := Lib.hid fun l i x h => by rw [h]; simp [vo]
  generalize List.replicate n 0 = R0 at Z0 ZD0 ZC0 ZL0
  clear fa fb da db ha hb T0
  obtain ⟨LA, hLA⟩ : ∃ LA, a.length = LA := ⟨_, rfl⟩
  obtain ⟨LB, hLB⟩ : ∃ LB, b.length = LB := ⟨_, rfl⟩
  rw [hLA] at FA EA la hn ⊢
  rw [hLB] at FB ZB RM ED lb hn ⊢
  rw [hn]
  have hn1 : (LA : Int) + (LB : Int) + 1 = (n : Int) := by omega
  have n300 : n ≤ 300 := by omega
  clear hLA hLB
  go_enter Tryd.func40, Tryd.ntmps40
  go_wp2_with (first | (at_make; refine wpList_make_full _ rfl _ _ 70 rfl w.heap.size 3 i0 (.int .i64 0) 1 Tryd.underlying70 hi hz0 hz1 .i64 .i64 _ _ n rfl rfl ?_ ?_ ?_ ?_ ?_ ?_; rfl; rfl; rw [hz2]; omega; (unfold maxLen; omega); omega; intro w1 hown1 hg1))
  have hB1 : Below w.heap.size w w1 := (Below.refl _ _).grown hg1 (Nat.le_refl _) (by simp)
  have hr0 : (madeCells (Value.int .i64 0).cells (n * 1)).toList = inC R0 := by
    rw [← ZC0.out, Nat.mul_one]
    simp [madeCells, Value.cells, Nat.mod_one, List.map_const']
  rw [hr0] at hown1
  have HO1 := Lib.hid hown1
  have HB1 := Lib.hid hB1
  clear hr0 hown1 hB1 hg1 ZC0 hn1
  go_loopw [6] (fun iv wr => ∃ (i : Nat) (l : List Nat), i ≤ LA ∧ iv = .int .i64 i ∧ l.length = n ∧ Hid (Dg l) ∧ Hid (vo l = vo (a.take i) * vo b) ∧ Hid (wr.ownsRow w.heap.size 3 1 (.slice (some ⟨w.heap.size, 0, none⟩) n n) n (inC l)) ∧ Hid (Below w.heap.size w wr)) (fun iv _ => LA - (intOf iv).toNat)
  case atStart => exact ⟨0, R0, Nat.zero_le _, rfl, ZL0.out, ZD0, Z0, HO1, HB1⟩
  case round =>
    clear HO1 HB1 Z0 ZD0 ZL0
    obtain ⟨i, l0, hil, rfl, hl0, HD0, HV0, HO0, HB0⟩ := hrel
    by_cases c1 : i < LA
    · have la1 : (i : Int) < (LA : Int) := by omega
      obtain ⟨ga, rfl, hga, hca⟩ := FA.out i c1
      have gx := GA.out i
      have RMi := Lib.hid fun l c k => RM.out l c k i
      have EDi := Lib.hid fun l k => ED.out l k i
      obtain ⟨x, hx⟩ : ∃ x, a.getD i 0 = x := ⟨_, rfl⟩
      simp only [hx] at gx hca RMi EDi
      have HCA := Lib.hid hca
      have HIV := Lib.hid (IV.out l0 i x HV0.out)
      clear hx hca
      obtain ⟨P0, hP0⟩ : ∃ P0, vo (a.take i) * vo b = P0 := ⟨_, rfl⟩
      simp only [hP0] at RMi EDi HIV
      go_wp2_with fail
      go_loopw [7, 8] (fun cv kv wr => ∃ (k c : Nat) (l : List Nat), kv = .int .i64 k ∧ cv = .int .i64 c ∧ k ≤ LB + 1 ∧ c ≤ 255 ∧ l.length = n ∧ Hid (Dg l) ∧ Hid (vo l + 256 ^ (i + k) * c = P0 + 256 ^ i * x * vo (b.take k)) ∧ Hid (wr.ownsRow w.heap.size 3 1 (.slice (some ⟨w.heap.size, 0, none⟩) n n) n (inC l)) ∧ Hid (Below w.heap.size w wr)) (fun _ kv _ => LB + 1 - (intOf kv).toNat)
      case atStart => exact ⟨0, 0, l0, rfl, rfl, by omega, by omega, hl0, HD0, HIV, HO0, HB0⟩
      case round =>
        clear HD0 HV0 HO0 HB0 HIV hl0
        obtain ⟨k, c, l, rfl, rfl, hk, hc, hll, HD, HV, HO, HB⟩ := hrel
        have hgo : k < LB ∨ 0 < c ∨ (LB ≤ k ∧ c = 0) := by omega
        by_cases c2 : k < LB
        · have hik : i + k < n := by omega
          have hnx := NX.out l P0 x c k i (by omega) HV.out
          have gg := HD.out.get (i + k)
          have hcell := (HO.out.cellAt (i + k) (by omega)).trans (inC_get l (i + k) (by omega))
          have hfr := HO.out.frozenAt (i + k)
          obtain ⟨g, hg⟩ : ∃ g, l.getD (i + k) 0 = g := ⟨_, rfl⟩
          rw [hg] at hnx gg hcell
          have ik1 : (i : Int) + (k : Int) < (n : Int) := by omega
          clear hg hgo
          obtain ⟨gb, hgb0, hgb, hcb⟩ := FB.out k c2
          subst hgb0
          have lb1 : (k : Int) < (LB : Int) := by omega
          have hxb := (HB.out.cell (p := ⟨gb, k, none⟩) hgb).trans hcb
          have hxa := (HB.out.cell (p := ⟨ga, i, none⟩) hga).trans HCA.out
          clear hcb
          have gy := GB.out k
          obtain ⟨y, hy⟩ : ∃ y, b.getD k 0 = y := ⟨_, rfl⟩
          rw [hy] at gy hxb hnx
          clear hy
          obtain ⟨m, hm⟩ : ∃ m, x * y = m := ⟨_, rfl⟩
          have hm1 : (x : Int) * (y : Int) = (m : Int) := by rw [← hm]; simp
          have hm2 : m ≤ 65025 := by rw [← hm]; exact Nat.mul_le_mul (show x ≤ 255 by omega) (show y ≤ 255 by omega)
          rw [hm] at hnx
          clear hm
          obtain ⟨q, hq⟩ : ∃ q, (c + g + m) % 256 = q := ⟨_, rfl⟩
          obtain ⟨d, hd⟩ : ∃ d, (c + g + m) / 256 = d := ⟨_, rfl⟩
          rw [hq, hd] at hnx
          have HN := Lib.hid hnx
          have r1 : ((c : Int) + (g : Int) + (m : Int)).tmod 256 = (q : Int) := by rw [Int.tmod_eq_emod_of_nonneg (by omega)]; omega
          have r2 : ((c : Int) + (g : Int) + (m : Int)) % 256 = (q : Int) := by omega
          have r3 : ((c : Int) + (g : Int) + (m : Int)).tdiv 256 = (d : Int) := by rw [Int.tdiv_eq_ediv_of_nonneg (by omega)]; omega
          have r4 : ((c : Int) + (g : Int) + (m : Int)) / 256 = (d : Int) := by omega
          have q256 : q < 256 := by omega
          have d255 : d ≤ 255 := by omega
          have hst := (HO.out.stored (i + k) (.int .i64 (q : Int))).1
          rw [show (inC l).set (i + k) (.int .i64 (q : Int)) = inC (l.set (i + k) q) from by simp [inC, List.map_set]] at hst
          have HST := Lib.hid hst
          have hB2 := Lib.hid (HB.out.setCell (p := ⟨w.heap.size, i + k, none⟩) (Nat.le_refl _) (.int .i64 (q : Int)))
          have HDD := Lib.hid (HD.out.set (i + k) q256)
          clear hst hnx hq hd
          go_wp2_with fail
          refine region_anyC (fun w' => w'.cell? ⟨ga, i, none⟩ = some (.int .i64 (x : Int)) ∧ w'.cell? ⟨gb, k, none⟩ = some (.int .i64 (y : Int))) (fun _ => True) [] (by kernel_rfl) ?_
          refine anyC_takeS (i := 0) (oi := ⟨some 44, _, _, _, _, _⟩) (v := _) rfl (by kernel_rfl) (by kernel_rfl) (by kernel_rfl) (by kernel_rfl) (fun _ _ _ h => h) (Or.inl ⟨by rfl, fun w' hw' => (by obtain ⟨k1, k2⟩ := hw'; go_simp; try with_reducible rfl)⟩) ⟨hxa, hxb⟩ (fun _ => trivial) ?_
          try simp only [Act.put, List.setIfInBounds_toArray, List.set_cons_zero, List.set_cons_succ]
          refine anyC_takeS (i := 1) (oi := ⟨some 45, _, _, _, _, _⟩) (v := _) rfl (by kernel_rfl) (by kernel_rfl) (by kernel_rfl) (by kernel_rfl) (fun _ _ _ h => h) (Or.inl ⟨by rfl, fun w' hw' => (by obtain ⟨k1, k2⟩ := hw'; go_simp; try with_reducible rfl)⟩) ⟨hxa, hxb⟩ (fun _ => trivial) ?_
          try simp only [Act.put, List.setIfInBounds_toArray, List.set_cons_zero, List.set_cons_succ]
          refine anyC_takeS (i := 2) (oi := ⟨some 46, _, _, _, _, _⟩) (v := _) rfl (by kernel_rfl) (by kernel_rfl) (by kernel_rfl) (by kernel_rfl) (fun _ _ _ h => h) (Or.inl ⟨by rfl, fun w' hw' => (by obtain ⟨k1, k2⟩ := hw'; go_simp; try with_reducible rfl)⟩) ⟨hxa, hxb⟩ (fun _ => trivial) ?_
          try simp only [Act.put, List.setIfInBounds_toArray, List.set_cons_zero, List.set_cons_succ]
          refine anyC_takeS (i := 3) (oi := ⟨some 47, _, _, _, _, _⟩) (v := _) rfl (by kernel_rfl) (by kernel_rfl) (by kernel_rfl) (by kernel_rfl) (fun _ _ _ h => h) (Or.inl ⟨by rfl, fun w' hw' => (by obtain ⟨k1, k2⟩ := hw'; go_simp; try with_reducible rfl)⟩) ⟨hxa, hxb⟩ (fun _ => trivial) ?_
          try simp only [Act.put, List.setIfInBounds_toArray, List.set_cons_zero, List.set_cons_succ]
          refine anyC_takeS (i := 4) (oi := ⟨some 48, _, _, _, _, _⟩) (v := _) rfl (by kernel_rfl) (by kernel_rfl) (by kernel_rfl) (by kernel_rfl) (fun _ _ _ h => h) (Or.inl ⟨by rfl, fun w' hw' => (by obtain ⟨k1, k2⟩ := hw'; go_simp; try with_reducible rfl)⟩) ⟨hxa, hxb⟩ (fun _ => trivial) ?_
          try simp only [Act.put, List.setIfInBounds_toArray, List.set_cons_zero, List.set_cons_succ]
          refine anyC_takeS (i := 5) (oi := ⟨some 49, _, _, _, _, _⟩) (v := _) rfl (by kernel_rfl) (by kernel_rfl) (by kernel_rfl) (by kernel_rfl) (fun _ _ _ h => h) (Or.inl ⟨by rfl, fun w' hw' => (by obtain ⟨k1, k2⟩ := hw'; go_simp; try with_reducible rfl)⟩) ⟨hxa, hxb⟩ (fun _ => trivial) ?_
          try simp only [Act.put, List.setIfInBounds_toArray, List.set_cons_zero, List.set_cons_succ]
          refine anyC_takeS (i := 6) (oi := ⟨some 50, _, _, _, _, _⟩) (v := _) rfl (by kernel_rfl) (by kernel_rfl) (by kernel_rfl) (by kernel_rfl) (fun _ _ _ h => h) (Or.inl ⟨by rfl, fun w' hw' => (by obtain ⟨k1, k2⟩ := hw'; go_simp; try with_reducible rfl)⟩) ⟨hxa, hxb⟩ (fun _ => trivial) ?_
          try simp only [Act.put, List.setIfInBounds_toArray, List.set_cons_zero, List.set_cons_succ]
          refine anyC_takeS (i := 7) (oi := ⟨some 51, _, _, _, _, _⟩) (v := _) rfl (by kernel_rfl) (by kernel_rfl) (by kernel_rfl) (by kernel_rfl) (fun _ _ _ h => h) (Or.inl ⟨by rfl, fun w' hw' => (by obtain ⟨k1, k2⟩ := hw'; go_simp; try with_reducible rfl)⟩) ⟨hxa, hxb⟩ (fun _ => trivial) ?_
          try simp only [Act.put, List.setIfInBounds_toArray, List.set_cons_zero, List.set_cons_succ]
          refine anyC_takeS (i := 8) (oi := ⟨some 52, _, _, _, _, _⟩) (v := _) rfl (by kernel_rfl) (by kernel_rfl) (by kernel_rfl) (by kernel_rfl) (fun _ _ _ h => h) (Or.inl ⟨by rfl, fun w' hw' => (by obtain ⟨k1, k2⟩ := hw'; go_simp; try with_reducible rfl)⟩) ⟨hxa, hxb⟩ (fun _ => trivial) ?_
          try simp only [Act.put, List.setIfInBounds_toArray, List.set_cons_zero, List.set_cons_succ]
          refine anyC_takeS (i := 9) (oi := ⟨some 53, _, _, _, _, _⟩) (v := _) rfl (by kernel_rfl) (by kernel_rfl) (by kernel_rfl) (by kernel_rfl) (fun _ _ _ h => h) (Or.inl ⟨by rfl, fun w' hw' => (by obtain ⟨k1, k2⟩ := hw'; go_simp; try with_reducible rfl)⟩) ⟨hxa, hxb⟩ (fun _ => trivial) ?_
          try simp only [Act.put, List.setIfInBounds_toArray, List.set_cons_zero, List.set_cons_succ]
          refine anyC_takeS (i := 10) (oi := ⟨some 54, _, _, _, _, _⟩) (v := _) rfl (by kernel_rfl) (by kernel_rfl) (by kernel_rfl) (by kernel_rfl) (fun _ _ _ h => h) (Or.inl ⟨by rfl, fun w' hw' => (by obtain ⟨k1, k2⟩ := hw'; go_simp; try with_reducible rfl)⟩) ⟨hxa, hxb⟩ (fun _ => trivial) ?_
          try simp only [Act.put, List.setIfInBounds_toArray, List.set_cons_zero, List.set_cons_succ]
          refine anyC_takeS (i := 11) (oi := ⟨some 7, _, _, _, _, _⟩) (v := _) rfl (by kernel_rfl) (by kernel_rfl) (by kernel_rfl) (by kernel_rfl) (fun _ _ _ h => h) (Or.inl ⟨by rfl, fun w' hw' => (by obtain ⟨k1, k2⟩ := hw'; go_simp; try with_reducible rfl)⟩) ⟨hxa, hxb⟩ (fun _ => trivial) ?_
          try simp only [Act.put, List.setIfInBounds_toArray, List.set_cons_zero, List.set_cons_succ]
          refine anyC_done (by kernel_rfl) ?_ _
          go_wp2
          go_roundw
          case rel => exact ⟨k + 1, d, l.set (i + k) q, by go_num, by first | rfl | rw [r3], by omega, d255, by rw [List.length_set]; exact hll, HDD, HN, HST, by first | exact hB2 | exact Lib.hid hB2.out.drew⟩
          case measure => simp [intOf]; omega
        · by_cases c3 : 0 < c
          · have hkl := RMi.out l c k (by omega) HV.out c3
            have hik : i + k < n := by omega
            have hnx := NX.out l P0 x c k i (by omega) HV.out
            have gg := HD.out.get (i + k)
            have hcell := (HO.out.cellAt (i + k) (by omega)).trans (inC_get l (i + k) (by omega))
            have hfr := HO.out.frozenAt (i + k)
            obtain ⟨g, hg⟩ : ∃ g, l.getD (i + k) 0 = g := ⟨_, rfl⟩
            rw [hg] at hnx gg hcell
            have ik1 : (i : Int) + (k : Int) < (n : Int) := by omega
            clear hg hgo
            have lb1 : ¬ (k : Int) < (LB : Int) := by omega
            have zy := ZB.out k (by omega)
            rw [zy, Nat.mul_zero, Nat.add_zero] at hnx
            clear zy
            have c01 : (0 : Int) < (c : Int) := by omega
            obtain ⟨q, hq⟩ : ∃ q, (c + g) % 256 = q := ⟨_, rfl⟩
            obtain ⟨d, hd⟩ : ∃ d, (c + g) / 256 = d := ⟨_, rfl⟩
            rw [hq, hd] at hnx
            have HN := Lib.hid hnx
            have r1 : ((c : Int) + (g : Int)).tmod 256 = (q : Int) := by rw [Int.tmod_eq_emod_of_nonneg (by omega)]; omega
            have r2 : ((c : Int) + (g : Int)) % 256 = (q : Int) := by omega
            have r3 : ((c : Int) + (g : Int)).tdiv 256 = (d : Int) := by rw [Int.tdiv_eq_ediv_of_nonneg (by omega)]; omega
            have r4 : ((c : Int) + (g : Int)) / 256 = (d : Int) := by omega
            have q256 : q < 256 := by omega
            have d255 : d ≤ 255 := by omega
            have hst := (HO.out.stored (i + k) (.int .i64 (q : Int))).1
            rw [show (inC l).set (i + k) (.int .i64 (q : Int)) = inC (l.set (i + k) q) from by simp [inC, List.map_set]] at hst
            have HST := Lib.hid hst
            have hB2 := Lib.hid (HB.out.setCell (p := ⟨w.heap.size, i + k, none⟩) (Nat.le_refl _) (.int .i64 (q : Int)))
            have HDD := Lib.hid (HD.out.set (i + k) q256)
            clear hst hnx hq hd
            go_wp2
            go_roundw
            case rel => exact ⟨k + 1, d, l.set (i + k) q, by go_num, by first | rfl | rw [r3], by omega, d255, by rw [List.length_set]; exact hll, HDD, HN, HST, by first | exact hB2 | exact Lib.hid hB2.out.drew⟩
            case measure => simp [intOf]; omega
          · have hc0 : c = 0 := by omega
            subst hc0
            have lb1 : ¬ (k : Int) < (LB : Int) := by omega
            have HE := Lib.hid (EDi.out l k (by omega) HV.out)
            clear hgo
            go_wp2
            go_roundw
            case rel => exact ⟨i + 1, l, by omega, by go_num, hll, HD, HE, HO, HB⟩
            case measure => simp [intOf]; omega
    · obtain rfl : i = LA := by omega
      have hv := HV0.out
      rw [EA.out] at hv
      have ho := Joins.ownsRow_le (base' := 0) HO0.out (Nat.zero_le _)
      have la1 : ¬ (i : Int) < (i : Int) := by omega
      go_wp2
      go_ret
      first | exact ⟨_, rfl, l0, by unfold Nu; rw [hl0]; exact ho, HD0.out, hv, hl0, HB0.out⟩ | exact ⟨l0, by unfold Nu; rw [hl0]; exact ho, HD0.out, hv, hl0, HB0.out⟩
end
section
open Go.RowKit
/-- The first half of a key as numbers: n of them changed. -/
def clC (l : List Nat) : Nat → List Nat
  | 0 => l
  | k + 1 => if k % 4 = 3 then (clC l k).set k ((clC l k).getD k 0 % 16) else if k % 4 = 0 ∧ 0 < k then (clC l k).set k ((clC l k).getD k 0 / 4 * 4) else clC l k
theorem clC_succ (l : List Nat) (k : Nat) : clC l (k + 1) = if k % 4 = 3 then (clC l k).set k ((clC l k).getD k 0 % 16) else if k % 4 = 0 ∧ 0 < k then (clC l k).set k ((clC l k).getD k 0 / 4 * 4) else clC l k := rfl
theorem clC_length (l : List Nat) (k : Nat) : (clC l k).length = l.length := by
  induction k with
  | zero => rfl
  | succ k ih => unfold clC; split <;> (try split) <;> simp [ih]
theorem clC_dg (l : List Nat) (h : Dg l) (k : Nat) : Dg (clC l k) := by
  induction k with
  | zero => exact h
  | succ k ih =>
    have := ih.get k
    unfold clC
    split
    · exact ih.set _ (by omega)
    · split
      · exact ih.set _ (by omega)
      · exact ih
/-- One number changed. -/
def clv (j x : Nat) : Nat := if j % 4 = 3 then x % 16 else if j % 4 = 0 ∧ 0 < j then x / 4 * 4 else x
theorem clC_get (l : List Nat) (k : Nat) (hk : k ≤ l.length) (j : Nat) : (clC l k).getD j 0 = if j < k then clv j (l.getD j 0) else l.getD j 0 := by
  induction k with
  | zero => simp [clC]
  | succ k ih =>
    have ih := ih (by omega)
    have ihk : (clC l k).getD k 0 = l.getD k 0 := by
      have h := clC_length l k
      clear ih
      have : ∀ n, n ≤ k → (clC l n).getD k 0 = l.getD k 0 := by
        intro n hn
        induction n with
        | zero => rfl
        | succ n ihn =>
          have ihn := ihn (by omega)
          unfold clC
          split
          · rw [getD_setM, if_neg (by omega)]; exact ihn
          · split
            · rw [getD_setM, if_neg (by omega)]; exact ihn
            · exact ihn
      exact this k (Nat.le_refl _)
    by_cases e : k = j
    · subst e
      rw [if_pos (by omega)]
      unfold clC clv
      split
      · rw [getD_setM, if_pos ⟨rfl, by rw [clC_length]; omega⟩, ihk]
      · split
        · rw [getD_setM, if_pos ⟨rfl, by rw [clC_length]; omega⟩, ihk]
        · exact ihk
    · have hs : (clC l (k + 1)).getD j 0 = (clC l k).getD j 0 := by
        rw [clC_succ]
        split
        · rw [getD_setM, if_neg (by omega)]
        · split
          · rw [getD_setM, if_neg (by omega)]
          · rfl
      rw [hs, ih]
      by_cases h2 : j < k
      · rw [if_pos h2, if_pos (by omega)]
      · rw [if_neg h2, if_neg (by omega)]
theorem getD_set8 (l : List UInt8) (i j : Nat) (x : UInt8) : (l.set i x).getD j 0 = if i = j ∧ j < l.length then x else l.getD j 0 := by
  simp only [List.getD_eq_getElem?_getD, List.getElem?_set]
  by_cases h : i = j
  · subst h
    by_cases h2 : i < l.length
    · simp [h2]
    · simp [h2]
  · simp [h]
theorem clA_get (l : List UInt8) (k : Nat) (hk : 4 * k ≤ l.length) (j : Nat) : (clA l k).getD j 0 = if j % 4 = 3 ∧ j < 4 * k then l.getD j 0 &&& 15 else l.getD j 0 := by
  induction k with
  | zero => simp [clA]
  | succ k ih =>
    have ih := ih (by omega)
    have ih3 : (clA l k).getD (3 + 4 * k) 0 = l.getD (3 + 4 * k) 0 := by
      have h : ∀ n, n ≤ k → (clA l n).getD (3 + 4 * k) 0 = l.getD (3 + 4 * k) 0 := by
        intro n hn
        induction n with
        | zero => rfl
        | succ n ihn => rw [clA, getD_set8, if_neg (by omega)]; exact ihn (by omega)
      exact h k (Nat.le_refl _)
    rw [clA, getD_set8, clA_length, ih, ih3]
    by_cases e : 3 + 4 * k = j
    · subst e
      rw [if_pos ⟨rfl, by omega⟩, if_pos (by omega)]
    · rw [if_neg (fun h => e h.1)]
      by_cases h2 : j % 4 = 3 ∧ j < 4 * k
      · rw [if_pos h2, if_pos (by omega)]
      · rw [if_neg h2, if_neg (by omega)]
theorem clB_get (l : List UInt8) (k : Nat) (hk : 4 * k < l.length) (j : Nat) : (clB l k).getD j 0 = if j % 4 = 0 ∧ 0 < j ∧ j ≤ 4 * k then l.getD j 0 &&& 252 else l.getD j 0 := by
  induction k with
  | zero => rw [if_neg (by omega)]; rfl
  | succ k ih =>
    have ih := ih (by omega)
    have ih3 : (clB l k).getD (4 + 4 * k) 0 = l.getD (4 + 4 * k) 0 := by
      have h : ∀ n, n ≤ k → (clB l n).getD (4 + 4 * k) 0 = l.getD (4 + 4 * k) 0 := by
        intro n hn
        induction n with
        | zero => rfl
        | succ n ihn => rw [clB, getD_set8, if_neg (by omega)]; exact ihn (by omega)
      exact h k (Nat.le_refl _)
    rw [clB, getD_set8, clB_length, ih, ih3]
    by_cases e : 4 + 4 * k = j
    · subst e
      rw [if_pos ⟨rfl, by omega⟩, if_pos (by omega)]
    · rw [if_neg (fun h => e h.1)]
      by_cases h2 : j % 4 = 0 ∧ 0 < j ∧ j ≤ 4 * k
      · rw [if_pos h2, if_pos (by omega)]
      · rw [if_neg h2, if_neg (by omega)]
theorem and15 (a : UInt8) : (a &&& 15).toNat = a.toNat % 16 := by
  rw [UInt8.toNat_and]; exact Nat.and_two_pow_sub_one_eq_mod a.toNat 4
theorem and252_fin : ∀ n : Fin 256, n.val &&& 252 = n.val / 4 * 4 := by decide +kernel
theorem and252 (a : UInt8) : (a &&& 252).toNat = a.toNat / 4 * 4 := by
  rw [UInt8.toNat_and]; exact and252_fin ⟨a.toNat, a.toNat_lt⟩
theorem getD_map8 (l : List UInt8) (j : Nat) : (l.map (·.toNat)).getD j 0 = (l.getD j 0).toNat := by
  simp only [List.getD_eq_getElem?_getD, List.getElem?_map]
  cases l[j]? <;> rfl
theorem ext_getM {a b : List Nat} (hl : a.length = b.length) (h : ∀ i, i < a.length → a.getD i 0 = b.getD i 0) : a = b := by
  apply List.ext_getElem hl
  intro i h1 h2
  have := h i h1
  rwa [List.getD_eq_getElem?_getD, List.getD_eq_getElem?_getD, List.getElem?_eq_getElem h1, List.getElem?_eq_getElem h2] at this
theorem cl_same (l : List UInt8) (hl : l.length = 16) : clC (l.map (·.toNat)) 16 = (clB (clA l 4) 3).map (·.toNat) := by
  apply ext_getM
  · simp [clC_length, clB_length, clA_length]
  · intro i hi
    rw [clC_length, List.length_map, hl] at hi
    rw [clC_get _ _ (by simp [hl]), if_pos hi, getD_map8, getD_map8, clB_get _ _ (by rw [clA_length]; omega), clA_get _ _ (by omega)]
    unfold clv
    by_cases h3 : i % 4 = 3
    · rw [if_pos h3, if_neg (by omega), if_pos (by omega), and15]
    · rw [if_neg h3]
      by_cases h0 : i % 4 = 0 ∧ 0 < i
      · rw [if_pos h0, if_pos (by omega), if_neg (by omega), and252]
      · rw [if_neg h0, if_neg (by omega), if_neg (by omega)]
theorem cl_vo (l : List UInt8) (hl : l.length = 16) : vo (clC (l.map (·.toNat)) 16) = num (clB (clA l 4) 3) := by
  rw [cl_same l hl, vo_num]
/-- Sixteen octets of a number: k of them laid. -/
def taK (v k : Nat) : List UInt8 := octV v k ++ List.replicate (16 - k) 0
theorem taK_length (v k : Nat) (h : k ≤ 16) : (taK v k).length = 16 := by unfold taK; rw [List.length_append, octV_length, List.length_replicate]; omega
theorem taK_step (v k : Nat) (h : k < 16) : (taK v k).set k (UInt8.ofNat (v / 256 ^ k % 256)) = taK v (k + 1) := by
  unfold taK
  rw [List.set_append_right _ _ (by rw [octV_length]; exact Nat.le_refl _), octV_length, Nat.sub_self, show 16 - k = (16 - (k + 1)) + 1 by omega, List.replicate_succ, List.set_cons_zero, octV_succ, List.append_assoc]; rfl
theorem taK_last (v : Nat) : taK v 16 = octV v 16 := by unfold taK; simp
theorem taK_zero (v : Nat) : taK v 0 = List.replicate 16 0 := rfl
theorem taK_end (v k : Nat) (h : k ≤ 16) (hv : v < 256 ^ k) : taK v k = octV v 16 := by
  rw [← taK_last]
  have : ∀ n, k + n ≤ 16 → taK v (k + n) = taK v k := by
    intro n hn
    induction n with
    | zero => rfl
    | succ n ih =>
      have ih := ih (by omega)
      rw [← Nat.add_assoc, ← taK_step v (k + n) (by omega), ← ih]
      have hz : v / 256 ^ (k + n) = 0 := Nat.div_eq_of_lt (Nat.lt_of_lt_of_le hv (Nat.pow_le_pow_right (by decide) (by omega)))
      rw [hz]
      unfold taK
      rw [List.set_append_right _ _ (by rw [octV_length]; exact Nat.le_refl _), octV_length, Nat.sub_self, show 16 - (k + n) = (16 - (k + n + 1)) + 1 by omega, List.replicate_succ, List.set_cons_zero]; rfl
  rw [← this (16 - k) (by omega), show k + (16 - k) = 16 by omega]
end
section
open Go.RowKit Go.ChangeShapes
theorem Nu.drew {w : World} {v : Value} {l : List Nat} (h : Nu w v l) : Nu w.drew v l := h
set_option maxRecDepth 100000 in
set_option maxHeartbeats 8000000 in
/-- The reference's Tag. -/
theorem rtag (k s : List UInt8) (w : World) (hk : k.length = 32) (hs : s.length ≤ 9000) :
    Calls Tryd.prog 15 #[.string (bs k), .string (bs s)] w fun e w' => e = .returned (.string (bs (tagO k s))) ∧ Below w.heap.size w w' := by
  obtain ⟨i0, hi, hz0, hz1, hz2⟩ := info_parts info3
  obtain ⟨j0, gi, gz0, gz1, gz2⟩ := info_parts info5
  have l1 : (k.take 16).length = 16 := by rw [List.length_take]; omega
  have l2 : (k.drop 16).length = 16 := by rw [List.length_drop]; omega
  obtain ⟨RL, hRL⟩ : ∃ RL, (k.take 16).map (·.toNat) = RL := ⟨_, rfl⟩
  have rl16 : RL.length = 16 := by rw [← hRL, List.length_map, l1]
  have rdg : Dg RL := by rw [← hRL]; intro x hx; obtain ⟨u, _, rfl⟩ := List.mem_map.1 hx; exact u.toNat_lt
  have hfac : vo (clC RL 16) = facN k := by rw [← hRL]; exact cl_vo _ l1
  obtain ⟨QL, hQL⟩ : ∃ QL, (k.drop 16).map (·.toNat) = QL := ⟨_, rfl⟩
  have ql16 : QL.length = 16 := by rw [← hQL, List.length_map, l2]
  have qdg : Dg QL := by rw [← hQL]; intro x hx; obtain ⟨u, _, rfl⟩ := List.mem_map.1 hx; exact u.toNat_lt
  have qvo : vo QL = num (k.drop 16) := by rw [← hQL, vo_num]
  have C1 : Hid (∀ w, Calls Tryd.prog 38 #[.string ((bs k).extract 0 16)] w fun e w' => ∃ v, e = .returned v ∧ w'.ownsRow w.heap.size 3 1 v 16 (inC RL) ∧ Below w.heap.size w w') := Lib.hid fun w => by
    have h := rlist (k.take 16) w (by omega)
    rw [l1, hRL] at h
    rw [ext_bs, bs_data, List.drop_zero]
    exact h
  have C2 : Hid (∀ w, Calls Tryd.prog 38 #[.string ((bs k).extract 16 32)] w fun e w' => ∃ v, e = .returned v ∧ w'.ownsRow w.heap.size 3 1 v 16 (inC QL) ∧ Below w.heap.size w w') := Lib.hid fun w => by
    have h := rlist (k.drop 16) w (by omega)
    rw [l2, hQL] at h
    rw [ext_bs, bs_data, List.take_of_length_le (by omega)]
    exact h
  have C3 : Hid (∀ (m hi : Nat) (w : World), min (16 * m + 16) s.length = hi → 16 * m ≤ hi → ∃ p : List Nat, p.length ≤ 16 ∧ Dg (p ++ [1]) ∧ accN (facN k) s (m + 1) = (accN (facN k) s m + vo (p ++ [1])) * facN k % pP ∧ Calls Tryd.prog 38 #[.string ((bs s).extract (16 * m) hi)] w fun e w' => ∃ v, e = .returned v ∧ w'.ownsRow w.heap.size 3 1 v p.length (inC p) ∧ Below w.heap.size w w') := Lib.hid fun m hi w h1 h2 => by
    have e : (s.drop (16 * m)).take (hi - 16 * m) = (s.drop (16 * m)).take 16 := by
      rcases Nat.le_total (16 * m + 16) s.length with h | h
      · rw [show hi - 16 * m = 16 by omega]
      · rw [List.take_of_length_le (by rw [List.length_drop]; omega), List.take_of_length_le (by rw [List.length_drop]; omega)]
    obtain ⟨P, hP⟩ : ∃ P, (s.drop (16 * m)).take 16 = P := ⟨_, rfl⟩
    have hl : P.length ≤ 16 := by rw [← hP, List.length_take]; omega
    refine ⟨P.map (·.toNat), by rw [List.length_map]; exact hl, ?_, ?_, ?_⟩
    · have : Dg (P.map (·.toNat)) := by intro x hx; obtain ⟨u, _, rfl⟩ := List.mem_map.1 hx; exact u.toNat_lt
      exact this.snoc (by decide)
    · have : vo (P.map (·.toNat) ++ [1]) = num (P ++ [1]) := by rw [← vo_num, List.map_append]; rfl
      rw [this, accN, hP]
    · have h := rlist P w (by omega)
      rw [ext_bs, bs_data, e, hP, List.length_map]
      exact h
  have hA0 : accN (facN k) s 0 = 0 := rfl
  have hAL : Hid (∀ m, accN (facN k) s m < pP) := Lib.hid (accN_lt (facN k) s)
  have hTG : tagO k s = octV (accN (facN k) s ((s.length + 15) / 16) + num (k.drop 16)) 16 := rfl
  have CD := Lib.hid (clC_dg RL rdg)
  have CL : Hid (∀ n, (clC RL n).length = 16) := Lib.hid fun n => by rw [clC_length, rl16]
  have CS1 : Hid (∀ n, n % 4 = 3 → (clC RL n).set n ((clC RL n).getD n 0 % 16) = clC RL (n + 1)) := Lib.hid fun n h => by rw [clC_succ, if_pos h]
  have CS2 : Hid (∀ n, n % 4 = 0 → 0 < n → (clC RL n).set n ((clC RL n).getD n 0 / 4 * 4) = clC RL (n + 1)) := Lib.hid fun n h h2 => by rw [clC_succ, if_neg (by omega), if_pos ⟨h, h2⟩]
  have CS3 : Hid (∀ n, n % 4 ≠ 3 → ¬ (n % 4 = 0 ∧ 0 < n) → clC RL n = clC RL (n + 1)) := Lib.hid fun n h h2 => by rw [clC_succ, if_neg h, if_neg h2]
  have C0 : clC RL 0 = RL := rfl
  rw [hTG]
  clear hTG
  generalize num (k.drop 16) = qn at qvo ⊢
  generalize facN k = fk at hfac C3 hA0 hAL ⊢
  generalize accN fk s = AC at C3 hA0 hAL ⊢
  obtain ⟨N, hN⟩ : ∃ N, (s.length + 15) / 16 = N := ⟨_, rfl⟩
  have n1 : s.length ≤ 16 * N := by omega
  have n2 : 16 * N ≤ s.length + 15 := by omega
  rw [hN]
  clear hN
  obtain ⟨L, hL⟩ : ∃ L, s.length = L := ⟨_, rfl⟩
  obtain ⟨K, hK⟩ : ∃ K, bs k = K := ⟨_, rfl⟩
  obtain ⟨S, hS⟩ : ∃ S, bs s = S := ⟨_, rfl⟩
  have sk : K.size = 32 := by rw [← hK, bs_size, hk]
  have ss : S.size = L := by rw [← hS, bs_size, hL]
  rw [hK] at C1 C2 ⊢
  rw [hS] at C3 ⊢
  rw [hL] at C3 hs n1 n2
  have hP17 : Hid (∀ x, x < pP → x < 256 ^ 17) := Lib.hid fun x h => Nat.lt_trans h (by decide)
  have D0 : Hid (Dg [0]) := Lib.hid (by unfold Dg; decide)
  have V0 : Hid (vo [0] = AC 0) := Lib.hid (by rw [hA0]; rfl)
  have TK := Lib.hid taK_step
  have TKL := Lib.hid taK_length
  have TKE := Lib.hid taK_end
  have TK0 : Hid (∀ v, byC (taK v 0) = List.replicate 16 (.int .u8 0)) := Lib.hid fun v => by rw [taK_zero]; rfl
  have TKZ := Lib.hid taK_last
  obtain ⟨pp, hpp⟩ : ∃ pp, pP = pp := ⟨_, rfl⟩
  rw [hpp] at C3 hAL hP17
  have HPP := Lib.hid hpp
  clear hpp
  clear hL hK hS l1 l2 hRL hQL hA0 hk
  go_enter Tryd.func15, Tryd.ntmps15
  go_wp2_with fail
  refine (C1.out _).mono ?_
  rintro e w1 ⟨v1, rfl, hn1, hb1⟩
  obtain ⟨g, cap, rfl⟩ := Joins.ownsRow_form hn1 (by decide)
  rw [← C0] at hn1
  have HO1 := Lib.hid hn1
  have HB1 := Lib.hid hb1
  clear hn1 hb1 C1 C0
  go_wp2_with fail
  go_loopw [6] (fun i wr => ∃ j : Nat, j ≤ 16 ∧ i = .int .i64 j ∧ Hid (wr.ownsRow w.heap.size 3 1 (.slice (some ⟨g, 0, none⟩) 16 cap) 16 (inC (clC RL j))) ∧ Hid (Below w.heap.size w wr)) (fun i _ => 16 - (intOf i).toNat)
  case atStart => exact ⟨0, Nat.zero_le _, rfl, HO1, HB1⟩
  case round =>
    clear HO1 HB1
    obtain ⟨j, hj, rfl, HO, HB⟩ := hrel
    by_cases hlt : j < 16
    · have j16 : (j : Int) < 16 := by omega
      have gx := CD.out j |>.get j
      have hlen := CL.out j
      have hcell := (HO.out.cellAt j (by omega)).trans (inC_get _ j (by omega))
      have hfr := HO.out.frozenAt j
      obtain ⟨m, hm⟩ : ∃ m, j % 4 = m := ⟨_, rfl⟩
      have m1 : (j : Int).tmod 4 = (m : Int) := by rw [Int.tmod_eq_emod_of_nonneg (by omega)]; omega
      have m2 : (j : Int) % 4 = (m : Int) := by omega
      by_cases c3 : m = 3
      · subst c3
        have cs := CS1.out j hm
        obtain ⟨x, hx⟩ : ∃ x, (clC RL j).getD j 0 = x := ⟨_, rfl⟩
        rw [hx] at cs gx hcell
        obtain ⟨q, hq⟩ : ∃ q, x % 16 = q := ⟨_, rfl⟩
        rw [hq] at cs
        have r1 : (x : Int).tmod 16 = (q : Int) := by rw [Int.tmod_eq_emod_of_nonneg (by omega)]; omega
        have r2 : (x : Int) % 16 = (q : Int) := by omega
        have hst := (HO.out.stored j (.int .i64 (q : Int))).1
        rw [show (inC (clC RL j)).set j (.int .i64 (q : Int)) = inC ((clC RL j).set j q) from by simp [inC, List.map_set], cs] at hst
        have HST := Lib.hid hst
        have hB2 := Lib.hid (HB.out.setCell (p := ⟨g, j, none⟩) (HO.out.lt g rfl).1 (.int .i64 (q : Int)))
        clear hst cs hx hq hm hlen
        go_wp2
        go_roundw
        case rel => exact ⟨j + 1, by omega, by go_num, HST, hB2⟩
        case measure => simp [intOf]; omega
      · have m3 : ¬ (m : Int) = 3 := by omega
        by_cases c0 : m = 0 ∧ 0 < j
        · obtain ⟨c0, cj⟩ := c0
          subst c0
          have j0 : (0 : Int) < (j : Int) := by omega
          have cs := CS2.out j hm cj
          obtain ⟨x, hx⟩ : ∃ x, (clC RL j).getD j 0 = x := ⟨_, rfl⟩
          rw [hx] at cs gx hcell
          obtain ⟨y, hy⟩ : ∃ y, x / 4 = y := ⟨_, rfl⟩
          rw [hy] at cs
          obtain ⟨q, hq⟩ : ∃ q, y * 4 = q := ⟨_, rfl⟩
          rw [hq] at cs
          have r1 : (x : Int).tdiv 4 = (y : Int) := by rw [Int.tdiv_eq_ediv_of_nonneg (by omega)]; omega
          have r2 : (x : Int) / 4 = (y : Int) := by omega
          have r3 : (y : Int) * 4 = (q : Int) := by omega
          have q256 : q ≤ 256 := by omega
          have hst := (HO.out.stored j (.int .i64 (q : Int))).1
          rw [show (inC (clC RL j)).set j (.int .i64 (q : Int)) = inC ((clC RL j).set j q) from by simp [inC, List.map_set], cs] at hst
          have HST := Lib.hid hst
          have hB2 := Lib.hid (HB.out.setCell (p := ⟨g, j, none⟩) (HO.out.lt g rfl).1 (.int .i64 (q : Int)))
          clear hst cs hx hy hq hm hlen
          go_wp2
          go_roundw
          case rel => exact ⟨j + 1, by omega, by go_num, HST, hB2⟩
          case measure => simp [intOf]; omega
        · have cs := CS3.out j (by omega) (by omega)
          have HOO : Hid (wr.ownsRow w.heap.size 3 1 (.slice (some ⟨g, 0, none⟩) 16 cap) 16 (inC (clC RL (j + 1)))) := Lib.hid (by rw [← cs]; exact HO.out)
          clear cs hcell gx hlen
          by_cases cm : m = 0
          · subst cm
            have j0 : j = 0 := by omega
            subst j0
            clear hm m1 m2
            go_wp2
            go_roundw
            case rel => exact ⟨1, by omega, by go_num, HOO, HB⟩
            case measure => simp [intOf]
          · have m0 : ¬ (m : Int) = 0 := by omega
            clear hm c0
            go_wp2
            go_roundw
            case rel => exact ⟨j + 1, by omega, by go_num, HOO, HB⟩
            case measure => simp [intOf]; omega
    · have ej : 16 = j := by omega
      have j16 : ¬ (j : Int) < 16 := by omega
      rw [ej] at hfac
      have NR : Hid (Nu wr (.slice (some ⟨g, 0, none⟩) 16 cap) (clC RL j)) := Lib.hid (by unfold Nu; rw [CL.out]; exact Joins.ownsRow_le (base' := 0) HO.out (Nat.zero_le _))
      have RD := Lib.hid (CD.out j)
      have RLn := Lib.hid (CL.out j)
      have RV := Lib.hid hfac
      generalize clC RL j = RC at NR RD RLn RV
      clear HO hfac CD CL CS1 CS2 CS3 hlt hj ej
      go_wp2_with fail
      have N0 : Hid (Nu (wr.alloc (.cells #[.int .i64 0] 3)) (.slice (some ⟨wr.heap.size, 0, none⟩) 1 1) [0]) := Lib.hid (Joins.ownsRow_le (base' := 0) (own_one wr 0 0 (Nat.zero_le _)) (Nat.zero_le _))
      have NR0 := Lib.hid (NR.out.below ((Below.refl _ wr).alloc (Nat.le_refl _) (.cells #[.int .i64 0] 3)))
      have HB0 := Lib.hid (HB.out.alloc HB.out.size (.cells #[.int .i64 0] 3))
      clear NR HB
      go_loopw [7, 8] (fun av iv wr => ∃ (m : Nat) (ao : List Nat), m ≤ N ∧ iv = .int .i64 ((16 * m : Nat) : Int) ∧ ao.length ≤ 17 ∧ Hid (Nu wr av ao) ∧ Hid (Dg ao) ∧ Hid (vo ao = AC m) ∧ Hid (Nu wr (.slice (some ⟨g, 0, none⟩) 16 cap) RC) ∧ Hid (Below w.heap.size w wr)) (fun _ i _ => 16 * N - (intOf i).toNat)
      case atStart => exact ⟨0, [0], Nat.zero_le _, rfl, by decide, N0, D0, V0, NR0, HB0⟩
      case round =>
        clear N0 NR0 HB0 V0 D0
        obtain ⟨m, ao, hm, rfl, hal, HN, HD, HV, HR, HB⟩ := hrel
        obtain ⟨I, hI⟩ : ∃ I, 16 * m = I := ⟨_, rfl⟩
        rw [hI]
        have zwr := HB.out.size
        by_cases hlt : I < L
        · obtain ⟨tp, htp⟩ : ∃ h, min (I + 16) L = h := ⟨_, rfl⟩
          have a1 : (I : Int) < (S.size : Int) := by omega
          obtain ⟨p, pl, pd, pacc, pc⟩ := C3.out m tp wr (by rw [hI]; exact htp) (by omega)
          rw [hI] at pc
          have PD := Lib.hid pd
          have PA := Lib.hid pacc
          have hI1 := Lib.hid hI
          by_cases hc : I + 16 ≤ L
          · obtain rfl : tp = I + 16 := by omega
            have a2 : (I : Int) + 16 ≤ (S.size : Int) := by omega
            have a5 : ((I : Int) + 16).toNat = I + 16 := by omega
            have hsl : ∀ wx : World, (Instr.slice 9 (.string S) (some (.int .i64 (I : Int))) (some (.int .i64 ((I : Int) + 16))) none).run Tryd.prog wx = .ok (.string (S.extract I (I + 16))) wx := fun wx => by
              rw [run_slice_string wx 9 S .i64 .i64 _ _ Tryd.underlying9 (by omega) (by omega) (by omega)]
              rw [a5]; rfl
            have PC := Lib.hid pc
            clear htp pd pacc pc hI
            go_wp2_with fail
            refine PC.out.mono ?_
            rintro e V ⟨v, rfl, hn, hb⟩
            have zV := hb.size
            go_wp2_with (first | (at_builtin; refine wpList_append_own _ rfl _ _ 70 rfl wr.heap.size 3 i0 (.int .i64 0) 1 8 Tryd.underlying70 hi hz0 hz1 hz2 rfl (by decide) _ p.length _ rfl (hn.alloc _) ⟨V.heap.size, 0, none⟩ 1 1 [.int .i64 1] rfl rfl ?_ ?_ ?_ ?_ ?_ ?_; exact World.news_of_block (cs := #[.int .i64 1]) (t := 3) (fr := (0, 0)) (heap_alloc_new V _); (simp [Value.oneCell']); (unfold maxLen; omega); omega; (simp; omega); intro v2 w3 hown3 hg3 _))
            have hW3 : Below wr.heap.size wr w3 := ((hb.alloc hb.size _).grown hg3 (by have := hb.size; simp; omega) (fun g hg => (hn.lt g hg).1))
            have nblk : Nu w3 v2 (p ++ [1]) := by
              unfold Nu
              rw [List.length_append, inC_snoc]
              exact Joins.ownsRow_le (base' := 0) hown3 (Nat.zero_le _)
            have hpl : (p ++ [1]).length ≤ 17 := by rw [List.length_append]; simp; omega
            have SM := Lib.hid (rsum _ _ ao (p ++ [1]) w3 (HN.out.below hW3) nblk HD.out PD.out (by omega) (by omega))
            have NR3 := Lib.hid (HR.out.below hW3)
            have HB3 := Lib.hid (HB.out.trans (hW3.mono zwr))
            clear hown3 hg3 hn hb hW3 nblk
            go_wp2_with fail
            refine SM.out.mono ?_
            rintro e w4 ⟨v4, o4, rfl, hn4, hd4, hv4, hl4, hb4⟩
            have PR := Lib.hid (rproduct _ _ o4 RC w4 hn4 (NR3.out.below hb4) hd4 RD.out (by omega) (by rw [RLn.out]; omega))
            have NR4 := Lib.hid (NR3.out.below hb4)
            have HB4 := Lib.hid (HB3.out.trans (hb4.mono HB3.out.size))
            have HV4 := Lib.hid hv4
            have hl4' : o4.length ≤ 18 := by omega
            clear hn4 hd4 hv4 hl4 hb4 SM NR3 HB3
            go_wp2_with fail
            refine PR.out.mono ?_
            rintro e w5 ⟨v5, o5, rfl, hn5, hd5, hv5, hl5, hb5⟩
            have RS := Lib.hid (rrest _ o5 w5 hn5 hd5 (by rw [RLn.out] at hl5; omega))
            have NR5 := Lib.hid (NR4.out.below hb5)
            have HB5 := Lib.hid (HB4.out.trans (hb5.mono HB4.out.size))
            have HV5 := Lib.hid hv5
            clear hn5 hd5 hv5 hl5 hb5 PR NR4 HB4
            go_wp2_with fail
            refine RS.out.mono ?_
            rintro e w6 ⟨v6, o6, rfl, hn6, hd6, hv6, hl6, hb6⟩
            have N6 := Lib.hid hn6
            have D6 := Lib.hid hd6
            have NR6 := Lib.hid (NR5.out.below hb6)
            have HB6 := Lib.hid (HB5.out.trans (hb6.mono HB5.out.size))
            have V6 : Hid (vo o6 = AC (m + 1)) := Lib.hid (by rw [hv6, HV5.out, HV4.out, HV.out, RV.out, PA.out, HPP.out])
            clear hn6 hd6 hv6 hb6 RS NR5 HB5
            go_wp2
            go_roundw
            case rel => exact ⟨m + 1, o6, by have := hI1.out; omega, by rw [show ((16 * (m + 1) : Nat) : Int) = (I : Int) + 16 by have := hI1.out; omega], hl6, N6, D6, V6, NR6, HB6⟩
            case measure => have := hI1.out; simp [intOf]; omega
          · obtain rfl : tp = L := by omega
            have a4 : ¬ (I : Int) + 16 ≤ (S.size : Int) := by omega
            have a5 : (S.size : Int) ≤ (I : Int) + 16 := by omega
            have hsl : ∀ wx : World, (Instr.slice 9 (.string S) (some (.int .i64 (I : Int))) (some (.int .i64 (tp : Int))) none).run Tryd.prog wx = .ok (.string (S.extract I tp)) wx := fun wx => by
              rw [run_slice_string wx 9 S .i64 .i64 _ _ Tryd.underlying9 (by omega) (by omega) (by omega)]
              rfl
            have PC := Lib.hid pc
            clear htp pd pacc pc hI
            go_wp2_with fail
            refine PC.out.mono ?_
            rintro e V ⟨v, rfl, hn, hb⟩
            have zV := hb.size
            go_wp2_with (first | (at_builtin; refine wpList_append_own _ rfl _ _ 70 rfl wr.heap.size 3 i0 (.int .i64 0) 1 8 Tryd.underlying70 hi hz0 hz1 hz2 rfl (by decide) _ p.length _ rfl (hn.alloc _) ⟨V.heap.size, 0, none⟩ 1 1 [.int .i64 1] rfl rfl ?_ ?_ ?_ ?_ ?_ ?_; exact World.news_of_block (cs := #[.int .i64 1]) (t := 3) (fr := (0, 0)) (heap_alloc_new V _); (simp [Value.oneCell']); (unfold maxLen; omega); omega; (simp; omega); intro v2 w3 hown3 hg3 _))
            have hW3 : Below wr.heap.size wr w3 := ((hb.alloc hb.size _).grown hg3 (by have := hb.size; simp; omega) (fun g hg => (hn.lt g hg).1))
            have nblk : Nu w3 v2 (p ++ [1]) := by
              unfold Nu
              rw [List.length_append, inC_snoc]
              exact Joins.ownsRow_le (base' := 0) hown3 (Nat.zero_le _)
            have hpl : (p ++ [1]).length ≤ 17 := by rw [List.length_append]; simp; omega
            have SM := Lib.hid (rsum _ _ ao (p ++ [1]) w3 (HN.out.below hW3) nblk HD.out PD.out (by omega) (by omega))
            have NR3 := Lib.hid (HR.out.below hW3)
            have HB3 := Lib.hid (HB.out.trans (hW3.mono zwr))
            clear hown3 hg3 hn hb hW3 nblk
            go_wp2_with fail
            refine SM.out.mono ?_
            rintro e w4 ⟨v4, o4, rfl, hn4, hd4, hv4, hl4, hb4⟩
            have PR := Lib.hid (rproduct _ _ o4 RC w4 hn4 (NR3.out.below hb4) hd4 RD.out (by omega) (by rw [RLn.out]; omega))
            have NR4 := Lib.hid (NR3.out.below hb4)
            have HB4 := Lib.hid (HB3.out.trans (hb4.mono HB3.out.size))
            have HV4 := Lib.hid hv4
            have hl4' : o4.length ≤ 18 := by omega
            clear hn4 hd4 hv4 hl4 hb4 SM NR3 HB3
            go_wp2_with fail
            refine PR.out.mono ?_
            rintro e w5 ⟨v5, o5, rfl, hn5, hd5, hv5, hl5, hb5⟩
            have RS := Lib.hid (rrest _ o5 w5 hn5 hd5 (by rw [RLn.out] at hl5; omega))
            have NR5 := Lib.hid (NR4.out.below hb5)
            have HB5 := Lib.hid (HB4.out.trans (hb5.mono HB4.out.size))
            have HV5 := Lib.hid hv5
            clear hn5 hd5 hv5 hl5 hb5 PR NR4 HB4
            go_wp2_with fail
            refine RS.out.mono ?_
            rintro e w6 ⟨v6, o6, rfl, hn6, hd6, hv6, hl6, hb6⟩
            have N6 := Lib.hid hn6
            have D6 := Lib.hid hd6
            have NR6 := Lib.hid (NR5.out.below hb6)
            have HB6 := Lib.hid (HB5.out.trans (hb6.mono HB5.out.size))
            have V6 : Hid (vo o6 = AC (m + 1)) := Lib.hid (by rw [hv6, HV5.out, HV4.out, HV.out, RV.out, PA.out, HPP.out])
            clear hn6 hd6 hv6 hb6 RS NR5 HB5
            go_wp2
            go_roundw
            case rel => exact ⟨m + 1, o6, by have := hI1.out; omega, by rw [show ((16 * (m + 1) : Nat) : Int) = (I : Int) + 16 by have := hI1.out; omega], hl6, N6, D6, V6, NR6, HB6⟩
            case measure => have := hI1.out; simp [intOf]; omega
        · obtain rfl : m = N := by omega
          have sl : ¬ (I : Int) < (S.size : Int) := by omega
          clear hI
          go_wp2_with fail
          refine (C2.out _).mono ?_
          rintro e w6 ⟨v6, rfl, hn6, hb6⟩
          have N6 : Nu w6 v6 QL := by unfold Nu; rw [ql16]; exact Joins.ownsRow_le (base' := 0) hn6 (Nat.zero_le _)
          have S6 := Lib.hid (rsum _ _ ao QL w6 (HN.out.below hb6) N6 HD.out qdg (by omega) (by omega))
          have HB6 := Lib.hid (HB.out.trans (hb6.mono zwr))
          clear hn6 hb6 N6 C2 C3
          go_wp2_with fail
          refine S6.out.mono ?_
          rintro e w7 ⟨v7, o7, rfl, hn7, hd7, hv7, hl7, hb7⟩
          obtain ⟨a7, c7, rfl, f7⟩ := hn7.form
          have HB7 := Lib.hid (HB6.out.trans (hb7.mono HB6.out.size))
          have F7 := Lib.hid f7
          have G7 := Lib.hid (fun j => hd7.get j)
          have O7 := Lib.hid (vo_oct o7 hd7)
          have L7 := Lib.hid (vo_lt o7 hd7)
          have E7 : Hid (vo o7 = AC m + qn) := Lib.hid (by rw [hv7, HV.out, qvo])
          obtain ⟨T, hT⟩ : ∃ T, vo o7 = T := ⟨_, rfl⟩
          rw [hT] at O7 L7 E7
          obtain ⟨LO, hLO⟩ : ∃ n, o7.length = n := ⟨_, rfl⟩
          rw [hLO] at F7 L7 ⊢
          have lo18 : LO ≤ 18 := by omega
          clear hn7 hd7 hv7 hl7 hb7 S6 f7 hT HB6 HB HN HD HV HR RD RLn RV
          go_wp2_with (first | (at_make; refine wpList_make_full _ rfl _ _ 25 rfl w7.heap.size 5 j0 (.int .u8 0) 1 Tryd.underlying25 gi gz0 gz1 .i64 .i64 _ _ 16 rfl rfl ?_ ?_ ?_ ?_ ?_ ?_; rfl; rfl; rw [gz2]; omega; (unfold maxLen; omega); omega; intro w8 hown8 hg8))
          have hB8 : Below w7.heap.size w7 w8 := (Below.refl _ _).grown hg8 (Nat.le_refl _) (by simp)
          have hr0 : (madeCells (Value.int .u8 0).cells (16 * 1)).toList = byC (taK T 0) := by
            rw [TK0.out, Nat.mul_one]
            simp [madeCells, Value.cells, Nat.mod_one, List.map_const']
          rw [hr0] at hown8
          have HO8 := Lib.hid hown8
          have HB8 := Lib.hid hB8
          clear hr0 hown8 hB8 hg8 TK0
          go_loopw [10] (fun i wr => ∃ j : Nat, j ≤ 16 ∧ j ≤ LO ∧ i = .int .i64 j ∧ Hid (wr.ownsRow w7.heap.size 5 1 (.slice (some ⟨w7.heap.size, 0, none⟩) 16 16) 16 (byC (taK T j))) ∧ Hid (Below w7.heap.size w7 wr)) (fun i _ => 16 - (intOf i).toNat)
          case atStart => exact ⟨0, Nat.zero_le _, Nat.zero_le _, rfl, HO8, HB8⟩
          case round =>
            clear HO8 HB8
            obtain ⟨j, hj, hjl, rfl, HO, HB⟩ := hrel
            by_cases hgo : j < 16 ∧ j < LO
            · obtain ⟨hl1, hl2⟩ := hgo
              have j1 : (j : Int) < 16 := by omega
              have j2 : (j : Int) < (LO : Int) := by omega
              obtain ⟨gq, rfl, hgq, hcq⟩ := F7.out j hl2
              have hxc := (HB.out.cell (p := ⟨gq, j, none⟩) hgq).trans hcq
              have gx := G7.out j
              have hstp := TK.out T j hl1
              have ho := O7.out j
              obtain ⟨x, hx⟩ : ∃ x, o7.getD j 0 = x := ⟨_, rfl⟩
              rw [hx] at gx hxc ho
              rw [← ho] at hstp
              have hlen := TKL.out T j hj
              have e5 : IntKind.u8.wrap (x : Int) = (x : Int) := by rw [IntKind.wrap_u8']; omega
              have hlen2 : (byC (taK T j)).length = 16 := by rw [byC_length, hlen]
              have hcell := (HO.out.cellAt j (by omega)).trans (List.getElem?_eq_getElem (by omega))
              have hfr := HO.out.frozenAt j
              have hst := (HO.out.stored j (.int .u8 (x : Int))).1
              have hrow : (byC (taK T j)).set j (.int .u8 (x : Int)) = byC (taK T (j + 1)) := by
                have hbn : ((UInt8.ofNat x).toNat : Int) = (x : Int) := by rw [UInt8.toNat_ofNat']; omega
                rw [← hstp]; unfold byC; rw [List.map_set, hbn]
              rw [hrow] at hst
              have HST := Lib.hid hst
              generalize (byC (taK T j))[j] = old at hcell
              have hB2 := Lib.hid (HB.out.setCell (p := ⟨w7.heap.size, j, none⟩) (Nat.le_refl _) (.int .u8 (x : Int)))
              clear hst hrow hlen hlen2 hstp hx ho hcq
              go_wp2
              go_roundw
              case rel => exact ⟨j + 1, by omega, by omega, by go_num, HST, hB2⟩
              case measure => simp [intOf]; omega
            · have hend : byC (taK T j) = byC (octV T 16) := by
                by_cases h16 : j = 16
                · rw [h16, TKZ.out]
                · rw [TKE.out T j hj (by rw [show j = LO by omega]; exact L7.out)]
              have ho := HO.out
              rw [hend] at ho
              have hcv := string_of_own (w := wr) (l := octV T 16) (by rw [octV_length]; exact ho)
              have HBF := Lib.hid (HB7.out.trans (HB.out.mono HB7.out.size))
              clear hend ho HO TK TKL TKE O7 F7 G7 L7
              by_cases h16 : j = 16
              · subst h16
                clear hgo
                go_wp2
                go_ret
                exact ⟨by rw [← E7.out]; rfl, HBF.out⟩
              · obtain rfl : j = LO := by omega
                have j1 : (j : Int) < 16 := by omega
                clear hgo h16
                go_wp2
                go_ret
                exact ⟨by rw [← E7.out]; rfl, HBF.out⟩
end
end Go.Proofs.YtnfefkcfifnjnaaDoor
