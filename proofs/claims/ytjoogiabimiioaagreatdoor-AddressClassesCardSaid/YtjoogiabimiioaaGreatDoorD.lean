/- Numbers in decimal digits: FormatUint at base 10. -/
import Derived.Test.YtjoogiabimiioaaGreatDoorB
import Derived.Test.YtjoogiabimiioaaGreatDoorShelf
import Derived.Lib.AppendIntMem
import Derived.Lib.ItoaLen
namespace Go.Proofs.YtjoogiabimiioaaGreatDoor
open Go.RowKit Go.ChangeShapes Go.Sort
/-- What the library reads of the world: a length that the machine knows, and the powers of ten. -/
structure Env (w : World) : Prop where
  m : ∃ m : Int, w.cell? ⟨0, 0, none⟩ = some (.int .i64 m)
  t : Lib.TabIs Tryz.prog w "internal/strconv.uint64pow10" .u64 Lib.pow10Tab
  d : w.cell? ⟨3, 15, none⟩ = some (.int .u8 4)
theorem Env.below {w V : World} (h : Env w) (hb : Below w.heap.size w V) : Env V := by
  refine ⟨?_, ?_, ?_⟩
  · obtain ⟨m, hm⟩ := h.m
    have hz := World.block_lt_of_cell? w _ hm
    refine ⟨m, ?_⟩
    rw [← hm]
    unfold World.cell?
    rw [hb.block 0 hz]
  · have ht := h.t
    unfold Lib.TabIs World.var? at *
    cases hg : Tryz.prog.globalNamed "internal/strconv.uint64pow10" with
    | none => simp [hg] at ht
    | some g =>
      simp only [hg, Option.bind_some] at ht ⊢
      have hlt : g < w.heap.size := by
        rcases Nat.lt_or_ge g w.heap.size with h' | h'
        · exact h'
        · rw [Array.getElem?_eq_none h'] at ht; simp at ht
      rw [hb.block g hlt]
      exact ht
  · have hz := World.block_lt_of_cell? w _ h.d
    rw [← h.d]
    unfold World.cell?
    rw [hb.block 3 hz]
theorem Env.alloc {w : World} (h : Env w) (o : Obj) : Env (w.alloc o) := h.below ((Below.refl _ w).alloc (Nat.le_refl _) o)
theorem Env.drew {w : World} (h : Env w) : Env w.drew := h.below (Below.refl _ w).drew
abbrev e8 : UInt8 → Value := fun b => Value.int .u8 (b.toNat : Int)
theorem below_putRow {w0 w : World} (h : Below w0.heap.size w0 w) (g o : Nat) (hg : w0.heap.size ≤ g) (d : Array UInt8) (k : Nat) : Below w0.heap.size w0 ((putRow e8 w g o d).drewN k) := by
  suffices key : Below w0.heap.size w0 (putRow e8 w g o d) from ⟨key.os, key.tape, key.output, key.size, key.block⟩
  refine ⟨h.os, h.tape, h.output, ?_, fun j hj => ?_⟩
  · have := h.size
    unfold putRow mapBlock
    simpa using this
  · rw [← h.block j hj]
    unfold putRow mapBlock
    simp only [Array.getElem?_modify]
    rw [if_neg (by omega)]
set_option maxRecDepth 100000 in
set_option maxHeartbeats 6400000 in
theorem dec_fmt (u : Nat) (hu : u < 65536) (w : World) (hE : Env w) :
    Calls Tryz.prog 120 #[.int .u64 (u : Int), .int .i64 10] w fun e w' => e = .returned (.string (bs (Lib.decDigits u))) ∧ Below w.heap.size w w' := by
  by_cases hs : u < 100
  · have h1 : (u : Int) < 100 := by omega
    have hw : IntKind.i64.wrap (u : Int) = (u : Int) := IntWalk.i64_in _ (by omega)
    go_enter Tryz.func120, Tryz.ntmps120
    go_wp2_with (go_at_call 116; (with_reducible refine (Tryz.internal_strconv_small u hs _).mono ?_); rintro e V ⟨rfl, rfl⟩)
    go_ret
    exact ⟨rfl, Below.refl _ _⟩
  · have h1 : ¬ (u : Int) < 100 := by omega
    have h2 : (100 : Int) ≤ (u : Int) := by omega
    have hu1 : 1 ≤ u := by omega
    have hu64 : u < 18446744073709551616 := by omega
    have hnd20 : Lib.nDigits u ≤ 20 := Lib.nDigits_le20 u hu64
    have hal : Tryz.prog.arrayLen 157 = 24 := by kernel_rfl
    have hsl : ∀ W, (Instr.sliceAt 157 (.pointer (some ⟨w.heap.size, 0, none⟩)) none (some (.int .i64 (Lib.nDigits u : Int))) none).run Tryz.prog W = .ok (.slice (some ⟨w.heap.size, 0, none⟩) (Lib.nDigits u) 24) W := fun W => by
      rw [run_sliceAt_array_h W 157 ⟨w.heap.size, 0, none⟩ (by kernel_rfl) .i64 (Lib.nDigits u : Int) (by omega) (by rw [hal]; omega)]
      go_simp
    have hH0 := Lib.holds_zero0 w 157 (Lib.nDigits u) (by omega)
    have hfmt := Tryz.internal_strconv_formatBase10 w.heap.size 0 24 u (Array.replicate (Lib.nDigits u) 0) (w.alloc (.cells Lib.zeros24 157)) hH0 (by rw [Array.size_replicate]; exact Lib.lt_pow_nDigits u) hu64 (by rw [Array.size_replicate]; omega)
    rw [Array.size_replicate] at hfmt
    have HH0 := Lib.hid hH0
    have HF := Lib.hid hfmt
    have HND := Lib.hid (Tryz.internal_strconv_numDigits u hu1 hu64 (w.alloc (.cells Lib.zeros24 157)) (hE.alloc _).t)
    have HB := Lib.hid ((Below.refl w.heap.size w).alloc (Nat.le_refl _) (.cells Lib.zeros24 157))
    have hz : ∀ w, (zeroValue 157).run Tryz.prog w = .ok (.agg Lib.zeros24) w := fun w => by kernel_rfl
    clear hH0 hal hfmt hE
    go_enter Tryz.func120, Tryz.ntmps120
    go_wp2_with fail
    (with_reducible refine HND.out.mono ?_)
    rintro e V ⟨rfl, rfl⟩
    go_wp2_with fail
    (with_reducible refine HF.out.mono ?_)
    rintro e V ⟨rfl, k, v', dk, rfl, hF⟩
    have hcv : (convert 54 9 (.slice (some ⟨w.heap.size, 0, none⟩) (Lib.nDigits u) 24)).run Tryz.prog ((putRow e8 (w.alloc (.cells Lib.zeros24 157)) w.heap.size 0 dk).drewN k) = .ok (.string (bs (Lib.decDigits u))) ((putRow e8 (w.alloc (.cells Lib.zeros24 157)) w.heap.size 0 dk).drewN k) := by
      have h := run_convert_bytes_back (P := Tryz.prog) ((putRow e8 (w.alloc (.cells Lib.zeros24 157)) w.heap.size 0 dk).drewN k) 54 9 5 ⟨w.heap.size, 0, none⟩ 24 (Lib.decDigits u) Tryz.underlying54 Tryz.underlying5 Tryz.underlying9 (fun j hj => by
        rw [Lib.row_is_numeral hF j hj, Lib.add_plain, World.cell?_drewN]
        exact cell?_putRow e8 _ w.heap.size 0 _ dk HH0.out (by rw [hF.size, Array.size_replicate]) j (by rw [hF.size]; rw [Lib.decDigits_length] at hj; exact hj))
      rw [Lib.decDigits_length] at h
      exact h
    have HV := Lib.hid (below_putRow HB.out w.heap.size 0 (Nat.le_refl _) dk k)
    clear hF HND HF HH0 HB
    go_wp2
    go_ret
    exact ⟨rfl, HV.out⟩
end Go.Proofs.YtjoogiabimiioaaGreatDoor
