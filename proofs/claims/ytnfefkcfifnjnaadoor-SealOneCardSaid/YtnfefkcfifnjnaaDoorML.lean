/- Contract of joined. -/
import Derived.Test.YtnfefkcfifnjnaaDoorMK
import Derived.Test.YtnfefkcfifnjnaaDoorShelf2
import Derived.Test.YtnfefkcfifnjnaaDoorE
namespace Go.Proofs.YtnfefkcfifnjnaaDoor
open Go.RowKit Go.ChangeShapes
theorem BuilderAt_below {T e : TypeId} {B b : Nat} {p : Value} {l : List Value} {W W' : World} (h : Lib.BuilderAt T e B b p l W) (hb : Below W.heap.size W W') : Lib.BuilderAt T e B b p l W' := by
  have hlt := h.lt
  obtain ⟨hB, v, hv, hown, hne⟩ := h
  exact ⟨hB, v, (hb.block b hlt).trans hv, hown.kept (row := none) ⟨hb.os, hb.tape, hb.output, hb.size, fun k hk _ => hb.block k hk⟩ (Classical.em _), hne⟩
theorem IsBuilder_below {T e : TypeId} {B b : Nat} {l : List Value} {W W' : World} (h : Lib.IsBuilder T e B b l W) (hb : Below W.heap.size W W') : Lib.IsBuilder T e B b l W' :=
  h.elim (fun x => .inl (BuilderAt_below x hb)) (fun x => .inr (BuilderAt_below x hb))
theorem IsBuilder_lt {T e : TypeId} {B b : Nat} {l : List Value} {W : World} (h : Lib.IsBuilder T e B b l W) : b < W.heap.size := h.elim (·.lt) (·.lt)
/-- Parts, each with octets 0 behind it. -/
def joinO (ps : List (List UInt8)) : List UInt8 := (ps.map padO).flatten
theorem joinO_snoc (ps : List (List UInt8)) (p : List UInt8) : joinO (ps ++ [p]) = joinO ps ++ padO p := by simp [joinO]
theorem padO_length (p : List UInt8) : (padO p).length ≤ p.length + 15 := by simp [padO]; omega
theorem joinO_le (ps : List (List UInt8)) (h : ∀ p ∈ ps, p.length ≤ 8192) : (joinO ps).length ≤ 9000 * ps.length := by
  induction ps with
  | nil => simp [joinO]
  | cons p ps ih =>
    have h1 := ih (fun q hq => h q (List.mem_cons_of_mem _ hq))
    have h2 := h p List.mem_cons_self
    have h3 := padO_length p
    have e : joinO (p :: ps) = padO p ++ joinO ps := by simp [joinO]
    rw [e, List.length_append, List.length_cons]
    omega
theorem take_snocP2 (l : List (List UInt8)) (k : Nat) (h : k < l.length) : l.take (k + 1) = l.take k ++ [l.getD k []] := by
  rw [List.take_succ_eq_append_getElem h, List.getD_eq_getElem?_getD, List.getElem?_eq_getElem h]; rfl
set_option maxRecDepth 100000 in
set_option maxHeartbeats 8000000 in
theorem joined_any (ps : List (List UInt8)) (pb : Nat) (w : World) (hn : ps.length = 3) (hp : ∀ p ∈ ps, p.length ≤ 8192) (hb : w.heap[pb]? = some (.cells (ps.map fun p => Value.string (bs p)).toArray 9 (0, 0))) :
    Calls Tryd.prog 76 #[.slice (some ⟨pb, 0, none⟩) 3 3] w fun e w' => e = .returned (.string (bs (joinO ps))) ∧ Below w.heap.size w w' := by
  have hpb : pb < w.heap.size := (Array.getElem?_eq_some_iff.1 hb).1
  have hget : ∀ (W : World), Below w.heap.size w W → ∀ k, k < 3 → W.cell? ⟨pb, k, none⟩ = some (.string (bs (ps.getD k []))) := fun W hB k hk => by
    rw [hB.cell (p := ⟨pb, k, none⟩) hpb, cell_of_row w pb k _ 9 (0, 0) hb, List.getElem?_toArray, List.getElem?_map, List.getD_eq_getElem?_getD, List.getElem?_eq_getElem (by omega)]; rfl
  have hlen : ∀ k, (ps.getD k []).length ≤ 8192 := fun k => by
    rw [List.getD_eq_getElem?_getD]
    by_cases hk : k < ps.length
    · rw [List.getElem?_eq_getElem hk]; exact hp _ (List.getElem_mem hk)
    · rw [List.getElem?_eq_none (by omega)]; simp
  have hjl : ∀ k, k ≤ 3 → (joinO (ps.take k)).length ≤ 27000 := fun k hk => by
    have := joinO_le (ps.take k) (fun p h => hp p (List.mem_of_mem_take h))
    rw [List.length_take, Nat.min_eq_left (by omega)] at this
    omega
  have HG := Lib.hid hget
  have HN := Lib.hid hn
  have HLN := Lib.hid hlen
  have HJ := Lib.hid hjl
  have HF := Lib.hid (Lib.fresh_isBuilder 91 5 w)
  clear hget hn hp hlen hjl hb
  go_enter Tryd.func76, Tryd.ntmps76
  go_wp2
  go_loopw [9] (fun i wr => ∃ k : Nat, k ≤ 3 ∧ i = .int .i64 k ∧ Hid (Lib.IsBuilder 91 5 w.heap.size w.heap.size (Lib.byteCells (joinO (ps.take k))) wr) ∧ Hid (Below w.heap.size w wr)) (fun i _ => 3 - (intOf i).toNat)
  case atStart => exact ⟨0, by omega, rfl, HF, Lib.hid ((Below.refl _ _).alloc (Nat.le_refl _) _)⟩
  case round =>
    clear HF
    obtain ⟨k, hk, rfl, HI, HB⟩ := hrel
    by_cases hlt : k < 3
    · have cx := HG.out wr HB.out k hlt
      have hl := HLN.out k
      have hj := HJ.out k hk
      have hzb := HB.out.size
      have e1 : joinO (ps.take (k + 1)) = joinO (ps.take k) ++ padO (ps.getD k []) := by rw [take_snocP2 ps k (by rw [HN.out]; exact hlt), joinO_snoc]
      obtain ⟨p, hpp⟩ : ∃ p, ps.getD k [] = p := ⟨_, rfl⟩
      rw [hpp] at cx hl e1
      obtain ⟨L, hL⟩ : ∃ L, p.length = L := ⟨_, rfl⟩
      obtain ⟨q, hq⟩ : ∃ q, L % 16 = q := ⟨_, rfl⟩
      obtain ⟨m, hm⟩ : ∃ m, (16 - q) % 16 = m := ⟨_, rfl⟩
      have hpad : padO p = p ++ List.replicate m 0 := by unfold padO; rw [hL, hq, hm]
      rw [hpad] at e1
      have hsz : (bs p).size = L := hL
      obtain ⟨S, hS⟩ : ∃ S, bs p = S := ⟨_, rfl⟩
      obtain ⟨J, hJ⟩ : ∃ J, joinO (ps.take k) = J := ⟨_, rfl⟩
      rw [hJ] at e1 hj HI
      have hW1 := Tryd.Builder_WriteString w.heap.size w.heap.size _ S wr HI.out (by rw [Lib.byteCells_length, ← hS, bs_size]; omega) (by omega)
      have ec : Lib.byteCells J ++ Lib.strCells S = Lib.byteCells (J ++ p) := by rw [Lib.byteCells_append, ← hS]; rfl
      rw [ec] at hW1
      rw [hS] at cx hsz
      have m1 : (L : Int) % 16 = (q : Int) := by omega
      have m2 : (L : Int).tmod 16 = (q : Int) := by rw [Int.tmod_eq_emod_of_nonneg (by omega)]; omega
      have m3 : ((16 : Int) - (q : Int)) % 16 = (m : Int) := by omega
      have m4 : ((16 : Int) - (q : Int)).tmod 16 = (m : Int) := by rw [Int.tmod_eq_emod_of_nonneg (by omega)]; omega
      have m5 : (S.size : Int) = (L : Int) := by omega
      have hq16 : q < 16 := by omega
      have hm16 : m < 16 := by omega
      have HW1 := Lib.hid hW1
      have HE := Lib.hid e1
      have hL2 : L ≤ 8192 := by omega
      have HJL : Hid ((J ++ p).length ≤ 40000) := Lib.hid (by rw [List.length_append]; omega)
      clear hW1 ec e1 hpp hq hm hpad hS hJ hL hj hl
      have hm40 : (m : Int) ≤ 140737488355328 := by omega
      go_wp2_with (first
        | (go_at_call 58; (with_reducible refine HW1.out.mono ?_); rintro e w1 ⟨rfl, hA1, hb1⟩; have HA1 := Lib.hid hA1; have HB1 := Lib.hid (HB.out.trans hb1); clear hA1 hb1 HW1)
        | (go_at_call 30; (with_reducible refine (kRep 0 m (m : Int) w1 rfl (by omega)).mono ?_); rintro e w2 ⟨rfl, hb2⟩; have HI2 := Lib.hid (IsBuilder_below (Or.inr HA1.out) hb2); have HB2 := Lib.hid (HB1.out.trans (hb2.mono HB1.out.size)); clear hb2)
        | (go_at_call 58; (with_reducible refine (Tryd.Builder_WriteString w.heap.size w.heap.size _ (rp 0 m) w2 HI2.out (by rw [Lib.byteCells_length, rp_size]; have := HJL.out; omega) HB2.out.size).mono ?_); rintro e w3 ⟨rfl, hA3, hb3⟩; have HA3 := Lib.hid hA3; have HB3 := Lib.hid (HB2.out.trans hb3); clear hA3 hb3))
      have ec2 : Lib.byteCells (J ++ p) ++ Lib.strCells (rp 0 m) = Lib.byteCells (joinO (ps.take (k + 1))) := by rw [HE.out, ← List.append_assoc, Lib.byteCells_append (J ++ p)]; rfl
      have hA3 := HA3.out
      rw [ec2] at hA3
      have HA4 := Lib.hid hA3
      clear hA3 ec2 HA3
      go_roundw
      case rel => exact ⟨k + 1, by omega, by go_num, Lib.hid (Or.inr HA4.out), HB3⟩
      case measure => simp [intOf]; omega
    · obtain rfl : k = 3 := by omega
      have hST := Tryd.Builder_String_any w.heap.size w.heap.size (joinO ps) wr (by have := HI.out; rwa [List.take_of_length_le (by rw [HN.out]; exact Nat.le_refl _)] at this) (Nat.le_of_lt (IsBuilder_lt HI.out))
      have HST := Lib.hid hST
      clear hST
      go_wp2_with (go_at_call 60; (with_reducible refine HST.out.mono ?_); rintro e w2 ⟨rfl, hb2⟩)
      go_ret
      exact ⟨rfl, HB.out.trans hb2⟩
end Go.Proofs.YtnfefkcfifnjnaaDoor
