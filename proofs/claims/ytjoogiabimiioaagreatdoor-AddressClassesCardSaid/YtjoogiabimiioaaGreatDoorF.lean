/- Contracts of write. -/
import Derived.Test.YtjoogiabimiioaaGreatDoorE
namespace Go.Proofs.YtjoogiabimiioaaGreatDoor
open Go.RowKit Go.ChangeShapes
/-- Strings in memory. -/
def Sc (w : World) (g : Nat) (l : List (List UInt8)) : Prop := ∀ j, j < l.length → w.cell? ⟨g, j, none⟩ = some (.string (bs (l.getD j []))) ∧ w.frozen? ⟨g, j, none⟩ = false
theorem Sc.set {w : World} {g : Nat} {l : List (List UInt8)} (h : Sc w g l) (k : Nat) (hk : k < l.length) (b : List UInt8) : Sc (w.setCell ⟨g, k, none⟩ (.string (bs b))) g (l.set k b) := by
  intro j hj
  rw [List.length_set] at hj
  obtain ⟨h1, h2⟩ := h j hj
  refine ⟨?_, by rw [World.frozen?_setCell]; exact h2⟩
  by_cases e : j = k
  · subst e
    rw [World.cell?_setCell_same _ _ _ h1, List.getD_eq_getElem?_getD, List.getElem?_set_self hj]
    rfl
  · rw [World.cell?_setCell_other _ _ _ _ (by simp), h1, List.getD_eq_getElem?_getD, List.getD_eq_getElem?_getD, List.getElem?_set_ne (Ne.symm e)]
theorem Sc.below {w V : World} {g : Nat} {l : List (List UInt8)} (h : Sc w g l) (hb : Below w.heap.size w V) (hg : g < w.heap.size) : Sc V g l := fun j hj => by
  obtain ⟨h1, h2⟩ := h j hj
  refine ⟨?_, ?_⟩
  · rw [← h1]; unfold World.cell?; rw [hb.block g hg]
  · rw [← h2]; unfold World.frozen?; rw [hb.block g hg]
theorem sc_new (w : World) (l : List (List UInt8)) : Sc (w.alloc (.cells (l.map fun b => Value.string (bs b)).toArray 9)) w.heap.size l := fun j hj => by
  have hrow : (w.alloc (.cells (l.map fun b => Value.string (bs b)).toArray 9)).heap[w.heap.size]? = some (.cells (l.map fun b => Value.string (bs b)).toArray 9 (0, 0)) := heap_alloc_new w _
  refine ⟨?_, frozen_of_row _ _ _ _ _ hrow⟩
  rw [cell_of_row _ _ j _ 9 (0, 0) hrow]
  simp [hj, List.getD_eq_getElem?_getD]
def empS (n : Nat) : Obj := .cells ((List.replicate n ([] : List UInt8)).map fun b => Value.string (bs b)).toArray 9
theorem make_strs (n : Nat) (hn : n ≤ 8) (W : World) : (Instr.makeSlice 97 (.int .i64 (n : Int)) (.int .i64 (n : Int))).run Tryz.prog W = .ok (.slice (some ⟨W.heap.size, 0, none⟩) n n) (W.alloc (empS n)) := by
  have : n = 0 ∨ n = 1 ∨ n = 2 ∨ n = 3 ∨ n = 4 ∨ n = 5 ∨ n = 6 ∨ n = 7 ∨ n = 8 := by omega
  rcases this with rfl | rfl | rfl | rfl | rfl | rfl | rfl | rfl | rfl <;> (show _ = _; kernel_rfl)
/-- The parts while k of them are written. -/
def parK (base : Nat) (l : List Nat) (k : Nat) : List (List UInt8) := (l.take k).map (numT base) ++ List.replicate (l.length - k) []
theorem parK_length (base : Nat) (l : List Nat) (k : Nat) (hk : k ≤ l.length) : (parK base l k).length = l.length := by simp [parK]; omega
theorem parK_set (base : Nat) (l : List Nat) (k : Nat) (hk : k < l.length) : (parK base l k).set k (numT base (l.getD k 0)) = parK base l (k + 1) := by
  unfold parK
  have h1 : ((l.take k).map (numT base)).length = k := by simp; omega
  rw [List.set_append_right _ _ (by omega), h1, Nat.sub_self, show l.length - k = (l.length - (k + 1)) + 1 by omega, List.replicate_succ, List.set_cons_zero, List.take_succ_eq_append_getElem hk, List.map_append, List.append_assoc]
  congr 1
  simp [List.getD_eq_getElem?_getD, List.getElem?_eq_getElem hk]
theorem parK_all (base : Nat) (l : List Nat) : parK base l l.length = l.map (numT base) := by simp [parK]

set_option maxRecDepth 100000 in
set_option maxHeartbeats 4000000 in
theorem write80_any (g o cap : Nat) (l : List Nat) (sep : List UInt8) (base : Nat) (hb : base = 10 ∨ base = 16) (w : World) (hE : Env w) (hl : l.length ≤ 8) (hv : ∀ x ∈ l, x < 256) (hg : g < w.heap.size) (hcap : l.length ≤ cap)
    (hc : ∀ j, j < l.length → w.cell? ⟨g, o + j, none⟩ = some (.int .u8 ((l.getD j 0 : Nat) : Int))) (hlen : (Lib.join (l.map (numT base)) sep).length ≤ 1000) :
    Calls Tryz.prog 80 #[.slice (some ⟨g, o, none⟩) l.length cap, .string (bs sep), .int .i64 (base : Int)] w fun e w' => e = .returned (.string (bs (Lib.join (l.map (numT base)) sep))) ∧ Below w.heap.size w w' := by
  obtain ⟨n, hn⟩ : ∃ n, l.length = n := ⟨_, rfl⟩
  have hmk := make_strs n (by omega)
  have H0 := Lib.hid (sc_new w (List.replicate n ([] : List UInt8)))
  have HB := Lib.hid ((Below.refl w.heap.size w).alloc (Nat.le_refl _) (empS n))
  have HE := Lib.hid hE
  have HC := Lib.hid (And.intro hc (And.intro hg hv))
  have HL := Lib.hid (And.intro hlen (And.intro hb hl))
  rw [hn] at hcap ⊢
  have hn8 : n ≤ 8 := by omega
  obtain ⟨SP, hSP⟩ : ∃ SP, bs sep = SP := ⟨_, rfl⟩
  rw [hSP]
  have HSP := Lib.hid hSP
  have HN := Lib.hid hn
  clear hE hc hg hv hlen hb hl hSP hn
  go_enter Tryz.func80, Tryz.ntmps80
  go_upto_region 2 with fail
  change Hid (Sc (w.alloc (empS n)) w.heap.size (List.replicate n [])) at H0
  rw [show List.replicate n ([] : List UInt8) = parK base l 0 by unfold parK; rw [HN.out]; rfl] at H0
  generalize hV : w.alloc (empS n) = V at H0 HB ⊢
  have HVZ : Hid (V.heap.size = w.heap.size + 1) := Lib.hid (by rw [← hV]; simp)
  clear hV hmk
  go_wp2
  go_loopw [8, 9, 15] (fun _ _ i wr => ∃ j : Nat, j ≤ n ∧ i = .int .i64 (j : Int) ∧ Hid (Sc wr w.heap.size (parK base l j)) ∧ Hid (Below w.heap.size w wr) ∧ Hid (w.heap.size < wr.heap.size)) (fun _ _ i _ => n - (intOf i).toNat)
  case atStart => exact ⟨0, by omega, rfl, H0, HB, Lib.hid (by have := HVZ.out; omega)⟩
  case round =>
    clear H0 HB HVZ
    obtain ⟨j, hj, rfl, H1, HB, HZ⟩ := hrel
    by_cases hlt : j < n
    · have hji : (j : Int) < (n : Int) := by omega
      have hjl : j < l.length := by rw [HN.out]; exact hlt
      have c1 : wr.cell? ⟨g, o + j, none⟩ = some (.int .u8 ((l.getD j 0 : Nat) : Int)) := by
        rw [← HC.out.1 j hjl]; unfold World.cell?; rw [HB.out.block g HC.out.2.1]
      have hx : l.getD j 0 < 256 := by
        rw [List.getD_eq_getElem?_getD, List.getElem?_eq_getElem hjl]
        exact HC.out.2.2 _ (List.getElem_mem hjl)
      have hset := parK_set base l j hjl
      have hpl := parK_length base l j (by omega)
      obtain ⟨x, hxx⟩ : ∃ x, l.getD j 0 = x := ⟨_, rfl⟩
      rw [hxx] at c1 hx hset
      have hw : IntKind.u64.wrap (x : Int) = (x : Int) := IntWalk.u64_in _ (by omega)
      have HF := Lib.hid (fun W hEW => FormatUint_any base x HL.out.2.1 (show x < 65536 by omega) W hEW)
      obtain ⟨c2, f2⟩ := H1.out j (by rw [hpl]; exact hjl)
      have HS := Lib.hid (And.intro hset hpl)
      have HEW := Lib.hid (HE.out.below HB.out)
      clear hset hpl hjl hxx c2 f2
      go_wp2_with fail
      (with_reducible refine (HF.out _ HEW.out).mono ?_)
      rintro e V2 ⟨rfl, hb⟩
      have H2 := Lib.hid (H1.out.below hb HZ.out)
      obtain ⟨c2, f2⟩ := H2.out j (by rw [HS.out.2, HN.out]; exact hlt)
      have H3 := H2.out.set j (by rw [HS.out.2, HN.out]; exact hlt) (numT base x)
      rw [HS.out.1] at H3
      have HB2 := Lib.hid (bstep HB.out hb)
      have HB3 := Lib.hid (HB2.out.setCell (p := ⟨w.heap.size, j, none⟩) (Nat.le_refl _) (.string (bs (numT base x))))
      have H3 := Lib.hid H3
      have HZ2 := Lib.hid (Nat.lt_of_lt_of_le HZ.out hb.size)
      clear hb H1 H2 HB HF HS HEW HB2
      generalize bs (numT base x) = XS at H3 HB3 ⊢
      go_wp2
      go_roundw
      case rel => exact ⟨j + 1, by omega, by go_num, H3, HB3, Lib.hid (by simpa using HZ2.out)⟩
      case measure => simp [intOf]; omega
    · obtain rfl : j = n := by omega
      have hcond : ¬ (j : Int) < (j : Int) := by omega
      have hpa : parK base l j = l.map (numT base) := by rw [← HN.out]; exact parK_all base l
      have hcs : ∀ (i : Nat) x, ((l.map (numT base)).map bs)[i]? = some x → wr.cell? ⟨w.heap.size, 0 + i, none⟩ = some (.string x) := by
        intro i x hi
        have h1 := H1.out
        rw [hpa] at h1
        have hil : i < (l.map (numT base)).length := by
          have := (List.getElem?_eq_some_iff.1 hi).1
          simpa using this
        rw [Nat.zero_add, (h1 i hil).1]
        rw [List.getElem?_map, List.getElem?_eq_getElem hil] at hi
        rw [List.getD_eq_getElem?_getD, List.getElem?_eq_getElem hil]
        simpa using hi
      have e1 : ((l.map (numT base)).map bs).map (fun b : ByteArray => b.data.toList) = l.map (numT base) := by
        rw [List.map_map]
        exact (List.map_congr_left (g := id) fun x _ => bs_data x).trans (List.map_id _)
      have e2 : ((l.map (numT base)).map bs).length = j := by rw [List.length_map, List.length_map, HN.out]
      have hjn := Tryz.strings_Join w.heap.size 0 j ((l.map (numT base)).map bs) (bs sep) wr hcs HZ.out (by omega) (by omega)
        (by rw [e1, bs_data]; have := HL.out.1; omega)
      rw [e1, bs_data, e2, HSP.out] at hjn
      have HJ := Lib.hid hjn
      clear hjn hcs hpa
      go_wp2_with fail
      (with_reducible refine HJ.out.mono ?_)
      rintro e V3 ⟨rfl, hb⟩
      have HB3 := Lib.hid (bstep HB.out hb)
      clear hb
      go_wp2
      go_ret
      exact ⟨rfl, HB3.out⟩

set_option maxRecDepth 100000 in
set_option maxHeartbeats 4000000 in
theorem write104_any (g o cap : Nat) (l : List Nat) (sep : List UInt8) (base : Nat) (hb : base = 10 ∨ base = 16) (w : World) (hE : Env w) (hl : l.length ≤ 8) (hv : ∀ x ∈ l, x < 65536) (hg : g < w.heap.size) (hcap : l.length ≤ cap)
    (hc : ∀ j, j < l.length → w.cell? ⟨g, o + j, none⟩ = some (.int .u16 ((l.getD j 0 : Nat) : Int))) (hlen : (Lib.join (l.map (numT base)) sep).length ≤ 1000) :
    Calls Tryz.prog 104 #[.slice (some ⟨g, o, none⟩) l.length cap, .string (bs sep), .int .i64 (base : Int)] w fun e w' => e = .returned (.string (bs (Lib.join (l.map (numT base)) sep))) ∧ Below w.heap.size w w' := by
  obtain ⟨n, hn⟩ : ∃ n, l.length = n := ⟨_, rfl⟩
  have hmk := make_strs n (by omega)
  have H0 := Lib.hid (sc_new w (List.replicate n ([] : List UInt8)))
  have HB := Lib.hid ((Below.refl w.heap.size w).alloc (Nat.le_refl _) (empS n))
  have HE := Lib.hid hE
  have HC := Lib.hid (And.intro hc (And.intro hg hv))
  have HL := Lib.hid (And.intro hlen (And.intro hb hl))
  rw [hn] at hcap ⊢
  have hn8 : n ≤ 8 := by omega
  obtain ⟨SP, hSP⟩ : ∃ SP, bs sep = SP := ⟨_, rfl⟩
  rw [hSP]
  have HSP := Lib.hid hSP
  have HN := Lib.hid hn
  clear hE hc hg hv hlen hb hl hSP hn
  go_enter Tryz.func104, Tryz.ntmps104
  go_upto_region 2 with fail
  change Hid (Sc (w.alloc (empS n)) w.heap.size (List.replicate n [])) at H0
  rw [show List.replicate n ([] : List UInt8) = parK base l 0 by unfold parK; rw [HN.out]; rfl] at H0
  generalize hV : w.alloc (empS n) = V at H0 HB ⊢
  have HVZ : Hid (V.heap.size = w.heap.size + 1) := Lib.hid (by rw [← hV]; simp)
  clear hV hmk
  go_wp2
  go_loopw [8, 9, 15] (fun _ _ i wr => ∃ j : Nat, j ≤ n ∧ i = .int .i64 (j : Int) ∧ Hid (Sc wr w.heap.size (parK base l j)) ∧ Hid (Below w.heap.size w wr) ∧ Hid (w.heap.size < wr.heap.size)) (fun _ _ i _ => n - (intOf i).toNat)
  case atStart => exact ⟨0, by omega, rfl, H0, HB, Lib.hid (by have := HVZ.out; omega)⟩
  case round =>
    clear H0 HB HVZ
    obtain ⟨j, hj, rfl, H1, HB, HZ⟩ := hrel
    by_cases hlt : j < n
    · have hji : (j : Int) < (n : Int) := by omega
      have hjl : j < l.length := by rw [HN.out]; exact hlt
      have c1 : wr.cell? ⟨g, o + j, none⟩ = some (.int .u16 ((l.getD j 0 : Nat) : Int)) := by
        rw [← HC.out.1 j hjl]; unfold World.cell?; rw [HB.out.block g HC.out.2.1]
      have hx : l.getD j 0 < 65536 := by
        rw [List.getD_eq_getElem?_getD, List.getElem?_eq_getElem hjl]
        exact HC.out.2.2 _ (List.getElem_mem hjl)
      have hset := parK_set base l j hjl
      have hpl := parK_length base l j (by omega)
      obtain ⟨x, hxx⟩ : ∃ x, l.getD j 0 = x := ⟨_, rfl⟩
      rw [hxx] at c1 hx hset
      have hw : IntKind.u64.wrap (x : Int) = (x : Int) := IntWalk.u64_in _ (by omega)
      have HF := Lib.hid (fun W hEW => FormatUint_any base x HL.out.2.1 (show x < 65536 by omega) W hEW)
      obtain ⟨c2, f2⟩ := H1.out j (by rw [hpl]; exact hjl)
      have HS := Lib.hid (And.intro hset hpl)
      have HEW := Lib.hid (HE.out.below HB.out)
      clear hset hpl hjl hxx c2 f2
      go_wp2_with fail
      (with_reducible refine (HF.out _ HEW.out).mono ?_)
      rintro e V2 ⟨rfl, hb⟩
      have H2 := Lib.hid (H1.out.below hb HZ.out)
      obtain ⟨c2, f2⟩ := H2.out j (by rw [HS.out.2, HN.out]; exact hlt)
      have H3 := H2.out.set j (by rw [HS.out.2, HN.out]; exact hlt) (numT base x)
      rw [HS.out.1] at H3
      have HB2 := Lib.hid (bstep HB.out hb)
      have HB3 := Lib.hid (HB2.out.setCell (p := ⟨w.heap.size, j, none⟩) (Nat.le_refl _) (.string (bs (numT base x))))
      have H3 := Lib.hid H3
      have HZ2 := Lib.hid (Nat.lt_of_lt_of_le HZ.out hb.size)
      clear hb H1 H2 HB HF HS HEW HB2
      generalize bs (numT base x) = XS at H3 HB3 ⊢
      go_wp2
      go_roundw
      case rel => exact ⟨j + 1, by omega, by go_num, H3, HB3, Lib.hid (by simpa using HZ2.out)⟩
      case measure => simp [intOf]; omega
    · obtain rfl : j = n := by omega
      have hcond : ¬ (j : Int) < (j : Int) := by omega
      have hpa : parK base l j = l.map (numT base) := by rw [← HN.out]; exact parK_all base l
      have hcs : ∀ (i : Nat) x, ((l.map (numT base)).map bs)[i]? = some x → wr.cell? ⟨w.heap.size, 0 + i, none⟩ = some (.string x) := by
        intro i x hi
        have h1 := H1.out
        rw [hpa] at h1
        have hil : i < (l.map (numT base)).length := by
          have := (List.getElem?_eq_some_iff.1 hi).1
          simpa using this
        rw [Nat.zero_add, (h1 i hil).1]
        rw [List.getElem?_map, List.getElem?_eq_getElem hil] at hi
        rw [List.getD_eq_getElem?_getD, List.getElem?_eq_getElem hil]
        simpa using hi
      have e1 : ((l.map (numT base)).map bs).map (fun b : ByteArray => b.data.toList) = l.map (numT base) := by
        rw [List.map_map]
        exact (List.map_congr_left (g := id) fun x _ => bs_data x).trans (List.map_id _)
      have e2 : ((l.map (numT base)).map bs).length = j := by rw [List.length_map, List.length_map, HN.out]
      have hjn := Tryz.strings_Join w.heap.size 0 j ((l.map (numT base)).map bs) (bs sep) wr hcs HZ.out (by omega) (by omega)
        (by rw [e1, bs_data]; have := HL.out.1; omega)
      rw [e1, bs_data, e2, HSP.out] at hjn
      have HJ := Lib.hid hjn
      clear hjn hcs hpa
      go_wp2_with fail
      (with_reducible refine HJ.out.mono ?_)
      rintro e V3 ⟨rfl, hb⟩
      have HB3 := Lib.hid (bstep HB.out hb)
      clear hb
      go_wp2
      go_ret
      exact ⟨rfl, HB3.out⟩
end Go.Proofs.YtjoogiabimiioaaGreatDoor
