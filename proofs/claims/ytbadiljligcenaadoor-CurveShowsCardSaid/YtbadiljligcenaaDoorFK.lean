/- Contracts of bitsOf and of its iterator. -/
import Derived.RangeFuncNested
import Derived.RangeFuncBound
import Derived.RangeFuncCalls
import Derived.RangeFuncLeaves
import Derived.Shelf.Abstract
import Derived.Shelf.RegionOpen
import Derived.WalkKit
import Derived.OwnWalkIn
import Derived.TacticsInMore
import Derived.LoopNIn
import Derived.LoopIn
import Derived.Test.YtbadiljligcenaaDoorFB
import Derived.Test.YtbadiljligcenaaDoorZA
namespace Go.Proofs.YtbadiljligcenaaDoor
open Go.RowKit Go.Shelf
attribute [local go_sem] Oper.semAt_some
/-- The first k bits that the iterator gives. -/
def bitsK (s : List UInt8) (k : Nat) : List Bool := (List.range k).map fun i => bitN s (254 - i)
theorem bitsK_succ (s : List UInt8) (k : Nat) : bitsK s (k + 1) = bitsK s k ++ [bitN s (254 - k)] := by simp [bitsK, List.range_succ]
theorem bitsK_length (s : List UInt8) (k : Nat) : (bitsK s k).length = k := by simp [bitsK]
/-- What a round keeps: all cells but those of two blocks. -/
def KpX (b1 b2 : Nat) (A B : World) : Prop := ∀ (k : Nat) (cs : Array Value) (t : TypeId) (fr : Nat × Nat), A.heap[k]? = some (.cells cs t fr) → k ≠ b1 → k ≠ b2 → B.heap[k]? = some (.cells cs t fr)
theorem KpX.trans {b1 b2 : Nat} {A B C : World} (h : KpX b1 b2 A B) (k : KpX b1 b2 B C) : KpX b1 b2 A C := fun i cs t fr hi h1 h2 => k i cs t fr (h i cs t fr hi h1 h2) h1 h2
theorem KpX.refl (b1 b2 : Nat) (A : World) : KpX b1 b2 A A := fun _ _ _ _ h _ _ => h
theorem grown_of_below {W V : World} (h : Below W.heap.size W V) (row : Option Nat) : W.grownBy V row := ⟨h.os, h.tape, h.output, h.size, fun k hk _ => h.block k hk⟩
theorem c_and1 (x : Nat) (h : x < 256) : bits .and .u8 (x : Int) 1 = ((x % 2 : Nat) : Int) := by
  have := List.all_eq_true.1 (show (List.range 256).all (fun n => bits .and .u8 (n : Int) 1 == ((n % 2 : Nat) : Int)) = true by decide +kernel) x (List.mem_range.2 h)
  simpa using this
set_option maxRecDepth 100000 in
set_option maxHeartbeats 4000000 in
theorem bits_seq (m b1 b2 B : Nat) (s : List UInt8) (w : World) (hm : 1 ≤ m) (hs : s.length = 32) (hB1 : B ≠ b1) (hB2 : B ≠ b2)
    (hC : w.heap[B]? = some (.cells #[.string (bs s)] 9 (0, 0))) :
    SeqC Fence.wide m Tryd.prog 57 #[.pointer (some ⟨B, 0, none⟩)] (fun b : Bool => #[Value.bool b]) (KpX b1 b2) (fun xs => xs = bitsK s 255) 255 w := by
  intro l J W hBW hJ hY h0
  have hBl : B < w.heap.size := (Array.getElem?_eq_some_iff.1 hC).1
  have hC1 : W.heap[B]? = some (.cells #[.string (bs s)] 9 (0, 0)) := (hBW.block B hBl).trans hC
  have hget : ∀ k (h : k < (bs s).size), (bs s)[k] = s.getD k 0 := fun k h => bs_idx s k h
  have hsz : (bs s).size = 32 := by rw [bs_size, hs]
  have hN : bitsK s 0 = [] := rfl
  obtain ⟨S, hS⟩ : ∃ S, bs s = S := ⟨_, rfl⟩
  rw [hS] at hC1 hget hsz
  have c0 : W.cell? ⟨B, 0, none⟩ = some (.string S) := cell_of_row _ _ 0 _ 9 (0, 0) hC1
  have HC := Lib.hid hC1
  have HG := Lib.hid hget
  have HJ := Lib.hid hJ
  have HY := Lib.hid hY
  have HJ0 : Hid (J (bitsK s 0) W) := Lib.hid h0
  clear hC1 hget hJ hY h0 hC hBW hS hs hBl hN
  refine callsIn_of_wp Tryd.func57 rfl trivial ?_ rfl
  simp only [Tryd.ntmps57, List.size_toArray, List.length_cons, List.length_nil, Nat.reduceAdd, Nat.reduceSub, Array.replicate_succ, Array.replicate_zero, List.push_toArray, List.append_toArray, List.nil_append, List.cons_append]
  have hs8 : (8 : Int) * (S.size : Int) - 2 = 254 := by omega
  gi_wp2
  clear c0 hs8
  gi_loopw [3] (fun i wr => ∃ (k : Nat), k ≤ 255 ∧ i = .int .i64 (254 - (k : Int)) ∧ Hid (J (bitsK s k) wr) ∧ Hid (wr.heap[B]? = some (.cells #[.string S] 9 (0, 0))))
    (fun i _ => (intOf i + 1).toNat)
  case atStart => exact ⟨0, by omega, by simp, HJ0, HC⟩
  case round =>
    clear HJ0 HC
    obtain ⟨k, hk, rfl, HJr, HC⟩ := hrel
    by_cases hlt : k < 255
    · obtain ⟨t, ht⟩ : ∃ t, 254 - k = t := ⟨_, rfl⟩
      have ht1 : 254 - (k : Int) = (t : Int) := by omega
      have ht2 : t ≤ 254 := by omega
      rw [ht1]
      obtain ⟨q, hq⟩ : ∃ q, t / 8 = q := ⟨_, rfl⟩
      obtain ⟨r, hr⟩ : ∃ q, t % 8 = q := ⟨_, rfl⟩
      have hq32 : q < 32 := by omega
      have q1 : (t : Int) / 8 = (q : Int) := by omega
      have r1 : (t : Int) % 8 = (r : Int) := by omega
      have q2 : (t : Int).tdiv 8 = (q : Int) := by rw [Int.tdiv_eq_ediv_of_nonneg (by omega)]; omega
      have r2 : (t : Int).tmod 8 = (r : Int) := by rw [Int.tmod_eq_emod_of_nonneg (by omega)]; omega
      have t0 : (0 : Int) ≤ (t : Int) := by omega
      have r0 : (0 : Int) ≤ (r : Int) := by omega
      have qs : q < S.size := by omega
      have hcb : S[q] = s.getD q 0 := HG.out q qs
      have hbit : bitN s t = ((s.getD q 0).toNat / 2 ^ r % 2 == 1) := by unfold bitN; rw [hq, hr]
      rw [← hcb] at hbit
      have hxl : S[q].toNat / 2 ^ r < 256 := by have := S[q].toNat_lt; have := Nat.div_le_self S[q].toNat (2 ^ r); omega
      obtain ⟨x, hx⟩ : ∃ x, S[q].toNat / 2 ^ r = x := ⟨_, rfl⟩
      rw [hx] at hbit hxl
      have x1 : (S[q].toNat : Int) / 2 ^ r = (x : Int) := by rw [← hx]; simp
      have x2 := c_and1 x hxl
      obtain ⟨y, hy⟩ : ∃ y, x % 2 = y := ⟨_, rfl⟩
      rw [hy] at x2 hbit
      have c0 : wr.cell? ⟨B, 0, none⟩ = some (.string S) := cell_of_row _ _ 0 _ 9 (0, 0) HC.out
      obtain ⟨fn, tmps, assign, body, hyy, hR⟩ := HY.out (bitsK s k) (bitN s t) wr HJr.out (by rw [bitsK_length]; exact hlt)
      have hbi : (y == 1) = ((y : Int) == 1) := by rw [Bool.eq_iff_iff, beq_iff_eq, beq_iff_eq]; omega
      rw [hbi] at hbit
      have hk1 : bitsK s (k + 1) = bitsK s k ++ [(y : Int) == 1] := by rw [bitsK_succ, ht, hbit]
      rw [hbit] at hR hyy
      rw [← hk1] at hR
      have HR := Lib.hid hR
      have HT := Lib.hid ht1
      clear hq hr hcb hx hxl hy hbit hR hbi hk1
      gi_wp2
      refine HR.out.mono ?_
      rintro e' W3 ⟨rfl, hJ3, hk3⟩
      have HJ3 := Lib.hid hJ3
      have HC3 := Lib.hid (hk3 _ _ _ _ HC.out hB1 hB2)
      clear hJ3 hk3 HR hyy
      gi_wp2
      go_roundw
      case rel => exact ⟨k + 1, by omega, by have h := HT.out; first | (congr 1; omega) | (simp; omega), HJ3, HC3⟩
      case measure => simp [intOf] <;> omega
    · obtain rfl : k = 255 := by omega
      gi_wp2
      go_end0
      exact ⟨⟨_, rfl⟩, _, rfl, HJr.out⟩
set_option maxHeartbeats 1000000 in
theorem bitsOf_any (S : ByteArray) (w : World) :
    Calls Tryd.prog 44 #[.string S] w fun e w' => e = .returned (.func (.func 57) #[] #[.pointer (some ⟨w.heap.size, 0, none⟩)]) ∧ w' = w.alloc (.cells #[.string S] 9) := by
  have hmf : ∀ (fn : Fn) (first cap : Array Value) (w : World), (Instr.makeFunc fn first cap).run Tryd.prog w = .ok (.func fn first cap) w := fun _ _ _ _ => rfl
  go_enter Tryd.func44, Tryd.ntmps44
  go_wp2
  go_ret
  exact ⟨rfl, rfl⟩
set_option maxHeartbeats 1000000 in
theorem raiser_any (S : ByteArray) (w : World) :
    Calls Tryd.prog 61 #[.string S] w fun e w' => e = .returned (.func (.func 66) #[] #[.pointer (some ⟨w.heap.size, 0, none⟩)]) ∧ w' = w.alloc (.cells #[.string S] 9) := by
  have hmf : ∀ (fn : Fn) (first cap : Array Value) (w : World), (Instr.makeFunc fn first cap).run Tryd.prog w = .ok (.func fn first cap) w := fun _ _ _ _ => rfl
  go_enter Tryd.func61, Tryd.ntmps61
  go_wp2
  go_ret
  exact ⟨rfl, rfl⟩
end Go.Proofs.YtbadiljligcenaaDoor
