/- The reference: folded. -/
import Derived.Test.YtbadiljligcenaaDoorGA
namespace Go.Proofs.YtbadiljligcenaaDoor
open Go.RowKit Go.ChangeShapes
theorem take_vah (l : List Nat) (i : Nat) (h : i < l.length) : vah (l.take (i + 1)) = vah (l.take i) + 65536 ^ i * l.getD i 0 := by
  rw [take_snocN l i h, vah_append, List.length_take, Nat.min_eq_left (by omega)]
  simp [vah]
theorem step_lo (o l : List Nat) (i : Nat) (hi : i < o.length) (hl : i < l.length) (h : vah o % pC = vah (l.take i) % pC) : vah (o.set i (o.getD i 0 + l.getD i 0)) % pC = vah (l.take (i + 1)) % pC := by
  rw [vah_set o i _ _ hi rfl, take_vah l i hl, Nat.add_mod, h, ← Nat.add_mod]
theorem step_hi (o l : List Nat) (j : Nat) (hj : j < o.length) (hl : j + 16 < l.length) (h : vah o % pC = vah (l.take (j + 16)) % pC) : vah (o.set j (o.getD j 0 + 38 * l.getD (j + 16) 0)) % pC = vah (l.take (j + 16 + 1)) % pC := by
  rw [vah_set o j _ _ hj rfl, take_vah l (j + 16) hl, Nat.add_mod, h]
  have e : 65536 ^ (j + 16) * l.getD (j + 16) 0 = 65536 ^ j * (38 * l.getD (j + 16) 0) + pC * (2 * (65536 ^ j * l.getD (j + 16) 0)) := by
    rw [Nat.pow_add, pow16, two256_p]
    generalize 65536 ^ j = q
    generalize l.getD (j + 16) 0 = y
    rw [Nat.mul_add, Nat.add_mul, Nat.add_comm]
    congr 1
    · rw [Nat.mul_assoc]
    · rw [Nat.mul_comm q (2 * pC), Nat.mul_assoc, Nat.mul_comm 2 pC, Nat.mul_assoc]
  rw [e, ← Nat.add_assoc, Nat.add_mul_mod_self_left, ← Nat.add_mod]
theorem set_le {o : List Nat} {B C : Nat} (h : ∀ x ∈ o, x ≤ B) (hB : B ≤ C) {i y : Nat} (hy : y ≤ C) : ∀ x ∈ o.set i y, x ≤ C := by
  intro x hx
  rcases List.mem_or_eq_of_mem_set hx with hx | rfl
  · exact Nat.le_trans (h x hx) hB
  · exact hy
def Z16 : List Nat := List.replicate 16 0
theorem zero48 (w : World) : (zeroValue 48).run Tryd.prog w = .ok (.agg (niC Z16)) w := by kernel_rfl
theorem size48 : (Tryd.prog.info? 48).map (·.size) = some 16 := by kernel_rfl
theorem i64_nat {x : Nat} (h : x < 9223372036854775808) : IntKind.i64.wrap (x : Int) = (x : Int) := IntWalk.i64_in _ (by omega)
theorem bK_ex : ∃ b : Nat → Nat, (∀ k, b (k + 1) = b k + 41781441855488) ∧ (∀ k, k ≤ 31 → b k ≤ 1295224697520128) := ⟨fun k => k * 41781441855488, fun k => Nat.succ_mul _ _, fun k h => by show k * 41781441855488 ≤ _; omega⟩
theorem w64_nat {x : Nat} (h : x < 9223372036854775808) : wrap64 (x : Int) = (x : Int) := by unfold wrap64; omega
set_option maxRecDepth 100000 in
set_option maxHeartbeats 8000000 in
theorem folded_any (l : List Nat) (gs n c : Nat) (w : World) (hn : l.length = n) (h16 : 16 ≤ n) (h31 : n ≤ 31) (hb : ∀ x ∈ l, x ≤ 1099511627776) (hA : Iar w gs 3 l) :
    Calls Tryd.prog 50 #[.slice (some ⟨gs, 0, none⟩) n c] w fun e w' => (∃ r, e = .returned (.agg (niC (dN r))) ∧ r < two256 ∧ r % pC = vah l % pC) ∧ Below w.heap.size w w' := by
  obtain ⟨bK, hbK1, hbK2⟩ := bK_ex
  have HBK := Lib.hid (And.intro hbK1 hbK2)
  clear hbK1 hbK2
  have hz := zero48
  have hgs := hA.lt
  have hA1 : Iar ((w.alloc (.cells (niC Z16) 48)).alloc (.cells (niC Z16) 48)) w.heap.size 48 Z16 := (Iar.new w 48 Z16).alloc _
  have hA2 : Iar ((w.alloc (.cells (niC Z16) 48)).alloc (.cells (niC Z16) 48)) (w.heap.size + 1) 48 Z16 := by
    have h := Iar.new (w.alloc (.cells (niC Z16) 48)) 48 Z16
    rwa [World.size_alloc] at h
  have hA3 := (hA.alloc (.cells (niC Z16) 48)).alloc (.cells (niC Z16) 48)
  have hB : Below w.heap.size w ((w.alloc (.cells (niC Z16) 48)).alloc (.cells (niC Z16) 48)) := bstep1 (bstep1 (Below.refl _ _))
  have H0 := Lib.hid (And.intro hA1 (And.intro hA2 (And.intro hA3 hB)))
  have HL := Lib.hid (And.intro hn hb)
  have HGS := Lib.hid hgs
  clear hA hA1 hA2 hA3 hB hgs hb hn
  go_enter Tryd.func50, Tryd.ntmps50
  go_upto_region 2 with fail
  clear hz
  generalize World.alloc (World.alloc w _) _ = V at H0 ⊢
  go_wp2
  go_loopw [4] (fun i wr => ∃ k : Nat, k ≤ n ∧ i = .int .i64 (k : Int) ∧ ∃ o : List Nat, o.length = 16 ∧ Hid (Iar wr w.heap.size 48 Z16 ∧ Iar wr (w.heap.size + 1) 48 o ∧ Iar wr gs 3 l ∧ Below w.heap.size w wr) ∧ Hid ((∀ x ∈ o, x ≤ bK k) ∧ vah o % pC = vah (l.take k) % pC)) (fun i _ => n - (intOf i).toNat)
  case atStart => exact ⟨0, by omega, rfl, Z16, rfl, H0, Lib.hid ⟨fun x hx => by rw [List.eq_of_mem_replicate hx]; exact Nat.zero_le _, rfl⟩⟩
  case round =>
    clear H0
    obtain ⟨k, hk, rfl, o, ho, H1, H2⟩ := hrel
    by_cases hlt : k < n
    · have hki : (k : Int) < (n : Int) := by omega
      have hlk := getD_le HL.out.2 k
      by_cases hk16 : k < 16
      · have hki2 : (k : Int) < 16 := by omega
        have cx := H1.out.2.1.getD (i := k) (by omega)
        have cf := H1.out.2.1.free k
        have cy := H1.out.2.2.1.getD (i := k) (by rw [HL.out.1]; exact hlt)
        have hok := getD_le H2.out.1 k
        have hbk := HBK.out.2 k (by omega)
        have hst := step_lo o l k (by omega) (by rw [HL.out.1]; exact hlt) H2.out.2
        have hle : ∀ x ∈ o.set k (o.getD k 0 + l.getD k 0), x ≤ bK (k + 1) := set_le H2.out.1 (by rw [HBK.out.1]; omega) (by rw [HBK.out.1]; omega)
        have R2 := (H1.out.2.1.set k (o.getD k 0 + l.getD k 0)).drew
        have R1 := (H1.out.1.other (a := ⟨w.heap.size + 1, k, none⟩) (show w.heap.size ≠ w.heap.size + 1 by omega) (li (o.getD k 0 + l.getD k 0))).drew
        have R3 := (H1.out.2.2.1.other (a := ⟨w.heap.size + 1, k, none⟩) (show gs ≠ w.heap.size + 1 by have := HGS.out; omega) (li (o.getD k 0 + l.getD k 0))).drew
        have RB := (H1.out.2.2.2.setCell (p := ⟨w.heap.size + 1, k, none⟩) (show w.heap.size ≤ w.heap.size + 1 by omega) (li (o.getD k 0 + l.getD k 0))).drew
        have HR := Lib.hid (And.intro R1 (And.intro R2 (And.intro R3 RB)))
        have HS := Lib.hid (And.intro hle hst)
        have hlen : (o.set k (o.getD k 0 + l.getD k 0)).length = 16 := by rw [List.length_set]; exact ho
        generalize o.set k (o.getD k 0 + l.getD k 0) = o2 at HR HS hlen
        generalize o.getD k 0 = x at cx hok HR
        generalize l.getD k 0 = y at cy hlk HR
        obtain ⟨z, hz⟩ : ∃ z, x + y = z := ⟨_, rfl⟩
        have a1 : IntKind.i64.wrap ((x : Int) + (y : Int)) = (z : Int) := by rw [← Int.natCast_add, hz]; exact i64_nat (by omega)
        have a2 : (x : Int) + (y : Int) = (z : Int) := by omega
        have a3 : wrap64 (z : Int) = (z : Int) := w64_nat (by omega)
        rw [hz] at HR
        clear R1 R2 R3 RB hle hst hz H1 H2 hok hbk hlk ho
        go_upto_region 6 with fail
        refine wp_region_still_tail 10 (by kernel_rfl) (by kernel_rfl) ?_
        change wpStill _ _ (World.drew wr) (fun a' => wpList _ _ _ _ a' (World.drew wr)) _ _
        simp only [List.take_succ_cons, List.take_zero, List.drop_succ_cons, List.drop_zero]
        repeat still_step
        refine wpStill_nil ?_
        go_wp2
        go_roundw
        case rel => exact ⟨k + 1, by omega, by go_num, o2, hlen, HR, HS⟩
        case measure => simp [intOf]; omega
      · obtain ⟨j, hj⟩ : ∃ j, j + 16 = k := ⟨k - 16, by omega⟩
        have hki2 : ¬ (k : Int) < 16 := by omega
        have hj16 : j < 16 := by omega
        have hj16i : (j : Int) < 16 := by omega
        have hji : (k : Int) - 16 = (j : Int) := by omega
        have cx := H1.out.2.1.getD (i := j) (by omega)
        have cf := H1.out.2.1.free j
        have cy := H1.out.2.2.1.getD (i := k) (by rw [HL.out.1]; exact hlt)
        have hok := getD_le H2.out.1 j
        have hbk := HBK.out.2 k (by omega)
        have hst := step_hi o l j (by omega) (by rw [HL.out.1]; omega) (by rw [hj]; exact H2.out.2)
        rw [hj] at hst
        obtain ⟨x, hx⟩ : ∃ x, o.getD j 0 = x := ⟨_, rfl⟩
        obtain ⟨y, hy⟩ : ∃ x, l.getD k 0 = x := ⟨_, rfl⟩
        rw [hx] at cx hok hst
        rw [hy] at cy hlk hst
        obtain ⟨y2, hy2⟩ : ∃ z, 38 * y = z := ⟨_, rfl⟩
        rw [hy2] at hst
        obtain ⟨z, hz⟩ : ∃ z, x + y2 = z := ⟨_, rfl⟩
        rw [hz] at hst
        have hzb : z ≤ bK (k + 1) := by rw [HBK.out.1]; omega
        have hle : ∀ x ∈ o.set j z, x ≤ bK (k + 1) := set_le H2.out.1 (by rw [HBK.out.1]; omega) hzb
        have R2 := (H1.out.2.1.set j z).drew
        have R1 := (H1.out.1.other (a := ⟨w.heap.size + 1, j, none⟩) (show w.heap.size ≠ w.heap.size + 1 by omega) (li z)).drew
        have R3 := (H1.out.2.2.1.other (a := ⟨w.heap.size + 1, j, none⟩) (show gs ≠ w.heap.size + 1 by have := HGS.out; omega) (li z)).drew
        have RB := (H1.out.2.2.2.setCell (p := ⟨w.heap.size + 1, j, none⟩) (show w.heap.size ≤ w.heap.size + 1 by omega) (li z)).drew
        have HR := Lib.hid (And.intro R1 (And.intro R2 (And.intro R3 RB)))
        have HS := Lib.hid (And.intro hle hst)
        have hlen : (o.set j z).length = 16 := by rw [List.length_set]; exact ho
        generalize o.set j z = o2 at HR HS hlen
        have a0 : (38 : Int) * (y : Int) = (y2 : Int) := by omega
        have a2 : (x : Int) + (y2 : Int) = (z : Int) := by omega
        have hzB : z < 9223372036854775808 := by have := HBK.out.1 k; omega
        have hyB : y2 < 9223372036854775808 := by omega
        have hjB : j < 9223372036854775808 := by omega
        have a01 : IntKind.i64.wrap (y2 : Int) = (y2 : Int) := i64_nat hyB
        have a3 : wrap64 (z : Int) = (z : Int) := w64_nat hzB
        have a6 : IntKind.i64.wrap (j : Int) = (j : Int) := i64_nat hjB
        clear R1 R2 R3 RB hle hst hz hy2 hx hy hzb hzB hyB hjB H1 H2 hok hbk hlk ho hj
        go_upto_region 7 with fail
        refine wp_region_still_tail 13 (by kernel_rfl) (by kernel_rfl) ?_
        change wpStill _ _ (World.drew wr) (fun a' => wpList _ _ _ _ a' (World.drew wr)) _ _
        simp only [List.take_succ_cons, List.take_zero, List.drop_succ_cons, List.drop_zero]
        repeat still_step
        refine wpStill_nil ?_
        go_wp2
        go_roundw
        case rel => exact ⟨k + 1, by omega, by go_num, o2, hlen, HR, HS⟩
        case measure => simp [intOf]; omega
    · obtain rfl : k = n := by omega
      have hb52 : ∀ x ∈ o, x ≤ 4503599627370496 := fun x hx => by have := H2.out.1 x hx; have := HBK.out.2 k (by omega); omega
      have hV := vah_bnd o ho hb52
      have hfin := olL_end o hV
      have hr := rn_two (vah o) hV
      have hm : rn (rn (vah o)) % pC = vah l % pC := by
        rw [rn_mod, rn_mod, H2.out.2, List.take_of_length_le (Nat.le_of_eq HL.out.1)]
      have HFIN := Lib.hid (And.intro hfin (And.intro hr hm))
      have HOL := Lib.hid (fun j => olL_length o ho j)
      have HOB := Lib.hid (fun j => olL_le o hb52 hV j)
      have HOV := Lib.hid (fun j => (rn_lo _ (olL_lt o hV j)).2)
      have HST : Hid (∀ j, (dN (vah (olL o j))).set 0 ((dN (vah (olL o j))).getD 0 0 + 38 * (vah (olL o j) / two256)) = olL o (j + 1)) := Lib.hid (fun j => rfl)
      have H3 : Hid (Iar wr w.heap.size 48 Z16 ∧ Iar wr (w.heap.size + 1) 48 (olL o 0) ∧ Below w.heap.size w wr) := Lib.hid ⟨H1.out.1, H1.out.2.1, H1.out.2.2.2⟩
      clear H1 H2 hb52 hV hfin hr hm HL
      go_wp2
      go_loopw [5] (fun i wx => ∃ j : Nat, j ≤ 3 ∧ i = .int .i64 (j : Int) ∧ Hid (Iar wx w.heap.size 48 Z16 ∧ Iar wx (w.heap.size + 1) 48 (olL o j) ∧ Below w.heap.size w wx)) (fun i _ => 3 - (intOf i).toNat)
      case atStart => exact ⟨0, by omega, rfl, H3⟩
      case round =>
        clear H3
        obtain ⟨j, hj, rfl, H3⟩ := hrel
        by_cases hj3 : j < 3
        · have hji : (j : Int) < 3 := by omega
          have hol := HOL.out j
          have hob := HOB.out j
          have hov := HOV.out j
          have hst := HST.out j
          generalize hm : olL o j = m at H3 hol hob hov hst
          have HM := Lib.hid (And.intro hol hob)
          have HV := Lib.hid (And.intro hov hst)
          have H4 : Hid (Iar wr w.heap.size 48 Z16 ∧ Iar wr (w.heap.size + 1) 48 (sth m 0) ∧ Below w.heap.size w wr) := Lib.hid (by rw [sth_zero]; exact H3.out)
          clear hol hob hov hst H3 hm
          go_wp2
          go_loopw [6, 7] (fun cv i wy => ∃ q : Nat, q ≤ 16 ∧ cv = .int .i64 ((ovh m q : Nat) : Int) ∧ i = .int .i64 (q : Int) ∧ Hid (Iar wy w.heap.size 48 Z16 ∧ Iar wy (w.heap.size + 1) 48 (sth m q) ∧ Below w.heap.size w wy)) (fun _ i _ => 16 - (intOf i).toNat)
          case atStart => exact ⟨0, by omega, by rw [ovh_zero]; rfl, rfl, H4⟩
          case round =>
            clear H4
            obtain ⟨q, hq, rfl, rfl, H4⟩ := hrel
            by_cases hq16 : q < 16
            · have hqi : (q : Int) < 16 := by omega
              have cx := H4.out.2.1.getD (i := q) (by rw [sth_length _ _ (by rw [HM.out.1]; omega), HM.out.1]; exact hq16)
              rw [sth_get] at cx
              have cf := H4.out.2.1.free q
              have hxb := getD_le HM.out.2 q
              have hob := ovh_lt m q _ HM.out.2
              obtain ⟨hs1, hs2⟩ := sth_step m q (by rw [HM.out.1]; exact hq16)
              obtain ⟨x, hx⟩ : ∃ x, m.getD q 0 = x := ⟨_, rfl⟩
              obtain ⟨cc, hcc⟩ : ∃ x, ovh m q = x := ⟨_, rfl⟩
              obtain ⟨z, hz⟩ : ∃ z, x + cc = z := ⟨_, rfl⟩
              rw [hx] at cx hxb hs1 hs2
              rw [hcc] at hob hs1 hs2 ⊢
              rw [hz] at hs1 hs2
              have a1 : (cc : Int) + (x : Int) = (z : Int) := by omega
              have a1w : IntKind.i64.wrap (z : Int) = (z : Int) := i64_nat (by omega)
              have a2 : (z : Int).tmod 65536 = ((z % 65536 : Nat) : Int) := by rw [Int.tmod_eq_emod_of_nonneg (by omega)]; rfl
              have a3 : (z : Int) % 65536 = ((z % 65536 : Nat) : Int) := rfl
              have a4 : (z : Int).tdiv 65536 = ((z / 65536 : Nat) : Int) := by rw [Int.tdiv_eq_ediv_of_nonneg (by omega)]; rfl
              have a5 : (z : Int) / 65536 = ((z / 65536 : Nat) : Int) := rfl
              have R2 := H4.out.2.1.set q (z % 65536)
              rw [hs1] at R2
              have R1 := H4.out.1.other (a := ⟨w.heap.size + 1, q, none⟩) (show w.heap.size ≠ w.heap.size + 1 by omega) (li (z % 65536))
              have RB := H4.out.2.2.setCell (p := ⟨w.heap.size + 1, q, none⟩) (show w.heap.size ≤ w.heap.size + 1 by omega) (li (z % 65536))
              have HR := Lib.hid (And.intro R1 (And.intro R2 RB))
              have HS2 := Lib.hid hs2
              generalize hzm : z % 65536 = zm at a2 a3 HR
              generalize hzd : z / 65536 = zd at a4 a5 HS2
              have hzm2 : zm < 65536 := by omega
              have hzd2 : zd < 9223372036854775808 := by omega
              clear R1 R2 RB hs1 hs2 hx hcc hz hxb hob hzm hzd H4
              go_wp2
              go_roundw
              case rel => exact ⟨q + 1, by omega, by rw [HS2.out], by go_num, HR⟩
              case measure => simp [intOf]; omega
            · obtain rfl : q = 16 := by omega
              obtain ⟨e1, e2⟩ := settledH m HM.out.1
              have H5 := Lib.hid H4.out.2.1
              rw [e1] at H5
              rw [e2]
              have cx := H5.out.getD (i := 0) (by rw [dN_length]; decide)
              have cf := H5.out.free 0
              have hxb := getD_le (B := 65535) (fun y hy => by have := dN_lt _ y hy; omega) 0 (l := dN (vah m))
              have hcb := HV.out.1
              have hst := HV.out.2
              have R2 := H5.out.set 0 ((dN (vah m)).getD 0 0 + 38 * (vah m / two256))
              rw [hst] at R2
              generalize (dN (vah m)).getD 0 0 = x at cx hxb R2
              generalize vah m / two256 = cc at hcb R2
              obtain ⟨y, hy⟩ : ∃ y, 38 * cc = y := ⟨_, rfl⟩
              obtain ⟨z, hz⟩ : ∃ z, x + y = z := ⟨_, rfl⟩
              rw [hy, hz] at R2
              have R1 := H4.out.1.other (a := ⟨w.heap.size + 1, 0, none⟩) (show w.heap.size ≠ w.heap.size + 1 by omega) (li z)
              have RB := H4.out.2.2.setCell (p := ⟨w.heap.size + 1, 0, none⟩) (show w.heap.size ≤ w.heap.size + 1 by omega) (li z)
              have HR := Lib.hid (And.intro R1 (And.intro R2 RB))
              have a1 : (38 : Int) * (cc : Int) = (y : Int) := by omega
              have a1w : IntKind.i64.wrap (y : Int) = (y : Int) := i64_nat (by omega)
              have a2 : (x : Int) + (y : Int) = (z : Int) := by omega
              have a2w : IntKind.i64.wrap (z : Int) = (z : Int) := i64_nat (by omega)
              clear R1 R2 RB hst H4 H5 e1 e2 hxb hcb hy hz
              go_wp2
              go_roundw
              case rel => exact ⟨j + 1, by omega, by go_num, HR⟩
              case measure => simp [intOf]; omega
        · obtain rfl : j = 3 := by omega
          obtain ⟨e0, e2, eB⟩ := H3.out
          rw [HFIN.out.1] at e2
          have RB := Lib.hid (below_setRow eB (Nat.le_refl _) (niC (dN (rn (rn (vah o))))))
          have R1 := Lib.hid (e0.row (dN (rn (rn (vah o)))))
          have H4 := Lib.hid e2
          have HE0 := Lib.hid e0
          have HLN := Lib.hid (show (niC (dN (rn (rn (vah o))))).size = 16 ∧ (niC Z16).size = 16 by rw [niC_size, niC_size, dN_length]; exact ⟨rfl, rfl⟩)
          clear e0 e2 eB H3
          go_wp2_with (first | (refine wpList_load_row rfl 48 _ rfl (w.heap.size + 1) rfl 48 (niC (dN (rn (rn (vah o))))) (0, 0) _ H4.out Tryd.underlying48 rfl (by rw [size48, HLN.out.1]) ?_) | (refine wpList_store_row rfl 48 _ _ rfl w.heap.size (niC (dN (rn (rn (vah o))))) rfl rfl 48 _ HE0.out (by rw [size48, HLN.out.1]) (by rw [HLN.out.1, HLN.out.2]) (niC_one _) ?_))
          exact bodyPost_ret (v := .agg (niC (dN (rn (rn (vah o)))))) (results_cell_row (p := 2) (ty := 48) Tryd.results50 _ _ w.heap.size 48 _ (0, 0) _ rfl R1.out Tryd.underlying48 rfl (by rw [size48, HLN.out.1])) rfl ⟨⟨_, rfl, HFIN.out.2.1, HFIN.out.2.2⟩, RB.out⟩
end Go.Proofs.YtbadiljligcenaaDoor
