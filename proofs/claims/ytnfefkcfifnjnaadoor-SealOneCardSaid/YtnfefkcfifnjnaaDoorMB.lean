/- Contract of numberOf. -/
import Derived.Test.YtnfefkcfifnjnaaDoorMA
import Derived.Test.YtnfefkcfifnjnaaDoorV
namespace Go.Proofs.YtnfefkcfifnjnaaDoor
open Go.RowKit Go.ChangeShapes
theorem size110 : (Tryd.prog.info? 110).map (·.size) = some 5 := by kernel_rfl
theorem size108 : (Tryd.prog.info? 108).map (·.size) = some 5 := by kernel_rfl
theorem size113 : (Tryd.prog.info? 113).map (·.size) = some 10 := by kernel_rfl
/-- The value of a number. -/
abbrev nv (v : Nat) : Value := .agg (lsC (lm v))
theorem oct_sh64 (c : UInt8) (m : Nat) (hm : m ≤ 25) : IntKind.u64.wrap ((c.toNat : Int) * 2 ^ m) = ((c.toNat * 2 ^ m : Nat) : Int) := by
  have h2 := oct_sh c m hm
  have e2 : (c.toNat : Int) * 2 ^ m = ((c.toNat * 2 ^ m : Nat) : Int) := by simp
  rw [e2]
  exact u64_back (by omega)
set_option maxRecDepth 100000 in
set_option maxHeartbeats 4000000 in
theorem numberOf_any (s : List UInt8) (w : World) (hn : s.length ≤ 17) :
    Calls Tryd.prog 93 #[.string (bs s)] w fun e w' => e = .returned (nv (num s)) ∧ Below w.heap.size w w' := by
  have hval := nbK_val s hn
  have hle := nbK_le s s.length
  have hsz : (bs s).size = s.length := rfl
  have hget : ∀ k (h : k < (bs s).size), (bs s)[k] = s.getD k 0 := fun k h => by
    rw [List.getD_eq_getElem?_getD, List.getElem?_eq_getElem (by rw [bs_size] at h; exact h)]; rfl
  obtain ⟨S, hS⟩ : ∃ S, bs s = S := ⟨_, rfl⟩
  rw [hS] at hsz hget ⊢
  rw [← hsz] at hval hle hn
  have h0 := (Lar.new w 110 [0, 0, 0, 0, 0]).alloc (.cells (lsC [0, 0, 0, 0, 0]) 110)
  have h1 := Lar.new (w.alloc (.cells (lsC [0, 0, 0, 0, 0]) 110)) 110 [0, 0, 0, 0, 0]
  rw [World.size_alloc] at h1
  have hB : Below w.heap.size w ((w.alloc (.cells (lsC [0, 0, 0, 0, 0]) 110)).alloc (.cells (lsC [0, 0, 0, 0, 0]) 110)) := by go_grown
  have HG := Lib.hid hget
  have HV := Lib.hid hval
  have HL := Lib.hid hle
  have HR := Lib.hid h0
  have HA := Lib.hid h1
  have HB := Lib.hid hB
  clear hget hval hle h0 h1 hB hS hsz
  go_enter Tryd.func93, Tryd.ntmps93
  go_wp2_with fail
  go_loopw [8] (fun i wr => ∃ k : Nat, k ≤ S.size ∧ i = .int .i64 k ∧ Hid (Lar wr (w.heap.size + 1) 110 (nbK s k)) ∧ Hid (Lar wr w.heap.size 110 [0, 0, 0, 0, 0]) ∧ Hid (Below w.heap.size w wr)) (fun i _ => S.size - (intOf i).toNat)
  case atStart => exact ⟨0, by omega, rfl, HA, HR, HB⟩
  case round =>
    clear HA HR HB
    obtain ⟨k, hk, rfl, HA, HR, HB⟩ := hrel
    by_cases hlt : k < S.size
    · obtain ⟨q, hq⟩ : ∃ q, 8 * k / 26 = q := ⟨_, rfl⟩
      obtain ⟨m, hm⟩ : ∃ m, 8 * k % 26 = m := ⟨_, rfl⟩
      have hq5 : q < 5 := by omega
      have hm25 : m ≤ 25 := by omega
      have r0 : (0 : Int) ≤ (q : Int) := by omega
      have r1 : (q : Int) < 5 := by omega
      have hlen := nbK_length s k
      have cx := HA.out.getD (i := q) (by omega)
      have cf := HA.out.free q
      have hww : (nbK s k).getD q 0 < 2 ^ 64 := by have := getD_le (B := 8589934591) (fun x hx => by have := nbK_le s k x hx; omega) q; omega
      have hcb : S[k] = s.getD k 0 := HG.out k hlt
      have hsv := oct_sh64 (s.getD k 0) m hm25
      have hyy : (s.getD k 0).toNat * 2 ^ m < 2 ^ 64 := by have := oct_sh (s.getD k 0) m hm25; omega
      have hor := u64_or hww hyy
      have HS := Lib.hid ((HA.out.set q ((nbK s k).getD q 0 ||| (s.getD k 0).toNat * 2 ^ m)).drew)
      have HE : Hid ((nbK s k).set q ((nbK s k).getD q 0 ||| (s.getD k 0).toNat * 2 ^ m) = nbK s (k + 1)) := Lib.hid (by rw [nbK, hq, hm])
      rw [HE.out] at HS
      clear HE
      rw [← hcb] at hsv hor HS
      obtain ⟨x, hx⟩ : ∃ x, (nbK s k).getD q 0 = x := ⟨_, rfl⟩
      obtain ⟨y, hy⟩ : ∃ x, S[k].toNat * 2 ^ m = x := ⟨_, rfl⟩
      rw [hx] at cx hor HS
      rw [hy] at hsv hor HS
      have q1 : 8 * (k : Int) / 26 = (q : Int) := by omega
      have m1 : 8 * (k : Int) % 26 = (m : Int) := by omega
      have q2 : (8 * (k : Int)).tdiv 26 = (q : Int) := by rw [Int.tdiv_eq_ediv_of_nonneg (by omega)]; omega
      have m2 : (8 * (k : Int)).tmod 26 = (m : Int) := by rw [Int.tmod_eq_emod_of_nonneg (by omega)]; omega
      have e5 : IntKind.u64.wrap (S[k].toNat : Int) = (S[k].toNat : Int) := IntWalk.u64_in _ (by have := S[k].toNat_lt; omega)
      have e1 : IntKind.i64.wrap (q : Int) = (q : Int) := IntWalk.i64_in _ (by omega)
      have e3 : IntKind.i64.wrap (m : Int) = (m : Int) := IntWalk.i64_in _ (by omega)
      have HR2 := Lib.hid (HR.out.other (a := ⟨w.heap.size + 1, q, none⟩) (by simp) (ld (x ||| y)))
      have HB2 := Lib.hid (HB.out.setCell (p := ⟨w.heap.size + 1, q, none⟩) (by simp) (ld (x ||| y)))
      clear hx hy hq hm hcb hlen hww hyy
      go_wp2
      refine wp_region_still_tail 15 (by kernel_rfl) (by kernel_rfl) ?_
      change wpStill _ _ (World.drew wr) (fun a' => wpList _ _ _ _ a' (World.drew wr)) _ _
      simp only [List.take_succ_cons, List.take_zero, List.drop_succ_cons, List.drop_zero]
      repeat still_step
      refine wpStill_nil ?_
      go_wp2
      go_roundw
      case rel =>
        exact ⟨k + 1, by omega, by go_num, HS, Lib.hid HR2.out.drew, Lib.hid HB2.out.drew⟩
      case measure => simp [intOf]; omega
    · obtain rfl : k = S.size := by omega
      have hs := Lib.hid (settle_any (w.heap.size + 1) 110 (nbK s S.size) [] wr (nbK_length _ _) (fun x hx => by have := HL.out x hx; omega) (by rw [List.append_nil]; exact HA.out))
      have hzz := HB.out.size
      have hz1 := HA.out.lt
      rw [HV.out] at hs
      go_wp2_with (first | (refine wpList_load_row rfl 110 _ rfl (w.heap.size + 1) rfl 110 (lsC (lm (num s))) (0, 0) _ HA2.out Tryd.underlying110 rfl (by rw [size110, lsC_size, lm_length]) ?_) | (refine wpList_store_row rfl 110 _ _ rfl w.heap.size (lsC (lm (num s))) rfl rfl 110 _ HR2.out (by rw [size110, lsC_size, lm_length]) (by rw [lsC_size, lsC_size, lm_length]; rfl) (lsC_one _) ?_) | (go_at_call 97; (with_reducible refine hs.out.mono ?_); rintro e w2 ⟨rfl, hA2, hO2⟩; rw [List.append_nil] at hA2; have HA2 := Lib.hid hA2; have HR2 := Lib.hid (Lar.of_only hO2 HR.out (by omega)); have HB2 := Lib.hid (hO2.below HB.out hzz (by omega)); clear hA2 hO2))
      have hr2 := HR2.out.row (lm (num s))
      have hB5 := below_setRow HB2.out (Nat.le_refl _) (lsC (lm (num s)))
      exact bodyPost_ret (v := nv (num s)) (results_cell_row (p := 2) (ty := 110) Tryd.results93 _ _ w.heap.size 110 _ (0, 0) _ rfl hr2 Tryd.underlying110 rfl (by rw [size110, lsC_size, lm_length])) rfl ⟨rfl, hB5⟩
end Go.Proofs.YtnfefkcfifnjnaaDoor
