/- Groups: what eachGroup gives, and groupsOf. -/
import Derived.RangeFuncNested
import Derived.RangeFuncBound
import Derived.RangeFuncCalls
import Derived.RangeFuncLeaves
import Derived.Shelf.Abstract
import Derived.Shelf.RegionOpen
import Derived.WalkKit
import Derived.OwnWalkIn
import Derived.TacticsInMore
import Derived.LoopNIn
import Derived.LoopIn
import Derived.Stop.RegionWithIn
import Derived.Test.YtjoogiabimiioaaGreatDoorF
import Derived.Test.YtjoogiabimiioaaGreatDoorZA
namespace Go.Proofs.YtjoogiabimiioaaGreatDoor
open Go.RowKit Go.ChangeShapes
attribute [local go_sem] Oper.semAt_some
theorem idx_str (S : ByteArray) (i : Nat) (h : i < S.size) (W : World) : (Instr.index 9 (.string S) (.int .i64 (i : Int))).run Tryz.prog W = .ok (.int .u8 (S[i].toNat : Int)) W := by
  rw [run_index_string (P := Tryz.prog) W 9 S .i64 (i : Int) Tryz.underlying9, dif_pos ⟨by omega, by omega⟩]
  rfl
/-- What a round keeps: all cells but those of two blocks. -/
def KpX (b1 b2 : Nat) (A B : World) : Prop := ∀ (k : Nat) (cs : Array Value) (t : TypeId) (fr : Nat × Nat), A.heap[k]? = some (.cells cs t fr) → k ≠ b1 → k ≠ b2 → B.heap[k]? = some (.cells cs t fr)
theorem KpX.trans {b1 b2 : Nat} {A B C : World} (h : KpX b1 b2 A B) (k : KpX b1 b2 B C) : KpX b1 b2 A C := fun i cs t fr hi h1 h2 => k i cs t fr (h i cs t fr hi h1 h2) h1 h2
theorem KpX.refl (b1 b2 : Nat) (A : World) : KpX b1 b2 A A := fun _ _ _ _ h _ _ => h
/-- A group of a host: two octets. -/
def gN (s : List UInt8) (i : Nat) : Nat := (s.getD (2 * i) 0).toNat * 256 + (s.getD (2 * i + 1) 0).toNat
def prF (s : List UInt8) (k : Nat) : List (Fin 8 × Nat) := (List.range k).map fun i => (Fin.ofNat 8 i, gN s i)
theorem prF_succ (s : List UInt8) (k : Nat) : prF s (k + 1) = prF s k ++ [(Fin.ofNat 8 k, gN s k)] := by simp [prF, List.range_succ]
theorem prF_length (s : List UInt8) (k : Nat) : (prF s k).length = k := by simp [prF]
abbrev enG : Fin 8 × Nat → Array Value := fun x => #[.int .i64 (x.1.val : Int), .int .u16 (x.2 : Int)]
theorem or_16 (x y : Nat) (hx : x < 256) (hy : y < 256) : bits .or .u16 ((x : Int) * 256) (y : Int) = ((x * 256 + y : Nat) : Int) := by
  have h16 : ∀ z : Nat, z < 65536 → (BitVec.ofInt 16 (z : Int)).toNat = z := fun z hz => by rw [BitVec.ofInt_natCast, BitVec.toNat_ofNat, Nat.mod_eq_of_lt (by simpa using hz)]
  rw [show (x : Int) * 256 = ((x * 256 : Nat) : Int) by omega]
  show IntKind.u16.wrap ((BitVec.ofInt 16 ((x * 256 : Nat) : Int) ||| BitVec.ofInt 16 (y : Int)).toNat : Int) = _
  rw [BitVec.toNat_or, h16 _ (by omega), h16 _ (by omega)]
  have h := Nat.shiftLeft_add_eq_or_of_lt (i := 8) (show y < 2 ^ 8 by omega) x
  rw [Nat.shiftLeft_eq, show (2 : Nat) ^ 8 = 256 from rfl] at h
  rw [← h, IntKind.wrap_u16]
  omega
set_option maxRecDepth 100000 in
set_option maxHeartbeats 8000000 in
theorem grp_seq (m b1 b2 B : Nat) (s : List UInt8) (w : World) (hm : 1 ≤ m) (hs : s.length ≤ 16) (hB1 : B ≠ b1) (hB2 : B ≠ b2)
    (hC : w.heap[B]? = some (.cells #[.string (bs s)] 9 (0, 0))) :
    SeqC Fence.wide m Tryz.prog 121 #[.pointer (some ⟨B, 0, none⟩)] enG (KpX b1 b2) (fun xs => xs = prF s (s.length / 2)) 8 w := by
  intro l J W hBW hJ hY h0
  have hBl : B < w.heap.size := (Array.getElem?_eq_some_iff.1 hC).1
  have hC1 : W.heap[B]? = some (.cells #[.string (bs s)] 9 (0, 0)) := (hBW.block B hBl).trans hC
  have hget : ∀ k (h : k < (bs s).size), (bs s)[k] = s.getD k 0 := fun k h => bs_idx s k h
  have hsz : (bs s).size = s.length := bs_size s
  obtain ⟨S, hS⟩ : ∃ S, bs s = S := ⟨_, rfl⟩
  rw [hS] at hC1 hget hsz
  obtain ⟨n, hn⟩ : ∃ n, s.length / 2 = n := ⟨_, rfl⟩
  have hn1 : (S.size : Int) / 2 = (n : Int) := by omega
  have hn2 : (S.size : Int).tdiv 2 = (n : Int) := by rw [Int.tdiv_eq_ediv_of_nonneg (by omega)]; omega
  have hn8 : n ≤ 8 := by omega
  have hnS : 2 * n ≤ S.size := by omega
  rw [hn]
  have c0 : W.cell? ⟨B, 0, none⟩ = some (.string S) := cell_of_row _ _ 0 _ 9 (0, 0) hC1
  have HC := Lib.hid hC1
  have HG := Lib.hid hget
  have HJ := Lib.hid hJ
  have HY := Lib.hid hY
  have HJ0 : Hid (J (prF s 0) W) := Lib.hid h0
  clear hC1 hget hJ hY h0 hC hBW hS hBl hn hs hsz
  refine callsIn_of_wp Tryz.func121 rfl trivial ?_ rfl
  simp only [Tryz.ntmps121, List.size_toArray, List.length_cons, List.length_nil, Nat.reduceAdd, Nat.reduceSub, Array.replicate_succ, Array.replicate_zero, List.push_toArray, List.append_toArray, List.nil_append, List.cons_append]
  gi_wp2
  clear c0 hn1 hn2
  gi_loopw [3, 7] (fun _ i wr => ∃ (k : Nat), k ≤ n ∧ i = .int .i64 (k : Int) ∧ Hid (J (prF s k) wr) ∧ Hid (wr.heap[B]? = some (.cells #[.string S] 9 (0, 0))))
    (fun _ i _ => n - (intOf i).toNat)
  case atStart => exact ⟨0, by omega, rfl, HJ0, HC⟩
  case round =>
    clear HJ0 HC
    obtain ⟨k, hk, rfl, HJr, HC⟩ := hrel
    by_cases hlt : k < n
    · have hki : (k : Int) < (n : Int) := by omega
      have i1 : 2 * k < S.size := by omega
      have i2 : 2 * k + 1 < S.size := by omega
      obtain ⟨p, hp⟩ : ∃ p, 2 * k = p := ⟨_, rfl⟩
      have hp1 : (2 : Int) * (k : Int) = (p : Int) := by omega
      rw [hp] at i1 i2
      obtain ⟨p2, hp2⟩ : ∃ p2, p + 1 = p2 := ⟨_, rfl⟩
      have hp3 : (p : Int) + 1 = (p2 : Int) := by omega
      rw [hp2] at i2
      have hw1 : IntKind.i64.wrap (p : Int) = (p : Int) := IntWalk.i64_in _ (by omega)
      have hw2 : IntKind.i64.wrap (p2 : Int) = (p2 : Int) := IntWalk.i64_in _ (by omega)
      have j0 : (0 : Int) ≤ (p : Int) := by omega
      have j1 : (p : Int) < (S.size : Int) := by omega
      have j2 : (0 : Int) ≤ (p2 : Int) := by omega
      have j3 : (p2 : Int) < (S.size : Int) := by omega
      have g1 : S[p] = s.getD p 0 := HG.out p i1
      have g2 : S[p2] = s.getD p2 0 := HG.out p2 i2
      have hgn : gN s k = S[p].toNat * 256 + S[p2].toNat := by unfold gN; rw [hp, hp2, g1, g2]
      have hx := S[p].toNat_lt
      have hy := S[p2].toNat_lt
      have hi1 := fun W => idx_str S p i1 W
      have hi2 := fun W => idx_str S p2 i2 W
      have hor := or_16 S[p].toNat S[p2].toNat hx hy
      obtain ⟨x, hxx⟩ : ∃ x, S[p].toNat = x := ⟨_, rfl⟩
      obtain ⟨y, hyy2⟩ : ∃ y, S[p2].toNat = y := ⟨_, rfl⟩
      rw [hxx, hyy2] at hor hgn
      rw [hxx] at hx
      simp only [hxx] at hi1
      simp only [hyy2] at hi2
      rw [hyy2] at hy
      have hc1 : IntKind.u16.wrap (x : Int) = (x : Int) := by rw [IntKind.wrap_u16]; omega
      have hc2 : IntKind.u16.wrap (y : Int) = (y : Int) := by rw [IntKind.wrap_u16]; omega
      have hsh : IntKind.u16.wrap ((x : Int) * 256) = (x : Int) * 256 := by rw [IntKind.wrap_u16]; omega
      have c0 : wr.drew.cell? ⟨B, 0, none⟩ = some (.string S) := cell_of_row _ _ 0 _ 9 (0, 0) HC.out
      have hJd : J (prF s k) wr.drew := HJ.out _ wr wr.drew none HJr.out ⟨rfl, rfl, rfl, Nat.le_refl _, fun _ _ _ => rfl⟩ (fun r e => by cases e)
      obtain ⟨fn, tmps, assign, body, hyy, hR⟩ := HY.out (prF s k) (Fin.ofNat 8 k, gN s k) wr.drew hJd (by rw [prF_length]; omega)
      rw [← prF_succ] at hR
      rw [hgn] at hyy
      have hfin : ((Fin.ofNat 8 k).val : Int) = (k : Int) := by simp only [Fin.val_ofNat]; omega
      simp only [enG, hfin, show ((x * 256 + y : Nat) : Int) = (x : Int) * 256 + (y : Int) by omega] at hyy
      have HR := Lib.hid hR
      clear g1 g2 hgn hR hp hp2 hJd
      gi_wp2
      gi_region_with (refine HR.out.mono ?_; rintro e' W3 ⟨rfl, hJ3, hk3⟩)
      all_goals (
        have HJ3 := Lib.hid hJ3
        have HC3 := Lib.hid (hk3 _ _ _ _ (show (World.drew wr).heap[B]? = _ from HC.out) hB1 hB2)
        clear hJ3 hk3 HR hyy hi1 hi2 hor
        gi_wp2
        go_roundw
        case rel => exact ⟨k + 1, by omega, by go_num, HJ3, HC3⟩
        case measure => simp [intOf]; omega)
    · obtain rfl : k = n := by omega
      gi_wp2
      go_end0
      exact ⟨⟨_, rfl⟩, _, rfl, HJr.out⟩
end Go.Proofs.YtjoogiabimiioaaGreatDoor
