/- Contracts of the words that are there at first, of a block. -/
import Derived.Test.YtnfefkcfifnjnaaDoorU
import Derived.Laws.CopyOwn
namespace Go.Proofs.YtnfefkcfifnjnaaDoor
open Go.RowKit Go.ChangeShapes

theorem list16 {f : List Nat} (h : f.length = 16) : ∃ a0 a1 a2 a3 a4 a5 a6 a7 a8 a9 a10 a11 a12 a13 a14 a15, f = [a0, a1, a2, a3, a4, a5, a6, a7, a8, a9, a10, a11, a12, a13, a14, a15] := by
  match f, h with
  | [a0, a1, a2, a3, a4, a5, a6, a7, a8, a9, a10, a11, a12, a13, a14, a15], _ => exact ⟨a0, a1, a2, a3, a4, a5, a6, a7, a8, a9, a10, a11, a12, a13, a14, a15, rfl⟩
theorem build_run (f : List Nat) (h : f.length = 16) (w : World) : (Instr.build 119 #[(0, .agg (wsC f)), (1, .agg (wsC f))]).run Tryd.prog w = .ok (.agg (wsC (f ++ f))) w := by
  obtain ⟨a0, a1, a2, a3, a4, a5, a6, a7, a8, a9, a10, a11, a12, a13, a14, a15, rfl⟩ := list16 h
  kernel_rfl
/-- 'build', by its run. -/
theorem wpList_build {P : Program} {ops : Array Oper} {rest : List Oper} {o : Oper} {a : Act} {w : World} {Q : Exit → Act → World → Prop} (hgd : o.guard = none) (ty : TypeId) (parts : Array (Nat × Operand)) (ps : Array (Nat × Value)) (ho : o.op = .build ty parts) (hp : (parts.map fun x => (x.1, a.eval x.2)) = ps)
    (v : Value) (hr : (Instr.build ty ps).run P w = .ok v w) (h : wpList P ops Q rest (a.put o.dst v) w) : wpList P ops Q (o :: rest) a w :=
  wpList_plain hgd fun _ hK => by
    unfold Oper.wp execOp
    simp only [ho, hp, Sem.run_bind, hr, Result.andThen_ok]
    exact hK _ _ h
theorem qrL_app {l : List Nat} (m : List Nat) {a b c d : Nat} (h1 : a < l.length) (h2 : b < l.length) (h3 : c < l.length) (h4 : d < l.length) : qrL (l ++ m) a b c d = qrL l a b c d ++ m := by
  unfold qrL at4 put4
  rw [getD_app_l h1, getD_app_l h2, getD_app_l h3, getD_app_l h4, set_app_l h1, set_app_l (by rw [List.length_set]; exact h2), set_app_l (by rw [List.length_set, List.length_set]; exact h3), set_app_l (by rw [List.length_set, List.length_set, List.length_set]; exact h4)]
theorem qrs_app (ps : List P4) : ∀ (l m : List Nat), (∀ p ∈ ps, p.lt l.length) → qrs (l ++ m) ps = qrs l ps ++ m := by
  induction ps with
  | nil => intro l m _; rfl
  | cons p ps ih =>
    intro l m h
    have hp := h p List.mem_cons_self
    show qrs (qrL (l ++ m) p.a p.b p.c p.d) ps = qrs (qrL l p.a p.b p.c p.d) ps ++ m
    rw [qrL_app m hp.1 hp.2.1 hp.2.2.1 hp.2.2.2]
    exact ih _ m fun q hq => by rw [qrL_length]; exact h q (List.mem_cons_of_mem _ hq)
theorem roundL_app (l m : List Nat) (h : l.length = 16) : roundL (l ++ m) = roundL l ++ m := by
  unfold roundL
  rw [qrs_app colP l m (by rw [h]; exact colP_lt), qrs_app diaP _ m (by rw [qrs_length, h]; exact diaP_lt)]
theorem rounds_app (n : Nat) (l m : List Nat) (h : l.length = 16) : rounds n (l ++ m) = rounds n l ++ m := by
  induction n with
  | zero => rfl
  | succ n ih => rw [rounds, ih, roundL_app _ _ (by rw [rounds_length, h]), rounds]
set_option maxRecDepth 100000 in
set_option maxHeartbeats 4000000 in
theorem block_any (f : List Nat) (w : World) (hl : f.length = 16) (hW : AllW f) :
    Calls Tryd.prog 54 #[.agg (wsC f)] w fun e w' => e = .returned (.string (bs (blockW f))) ∧ Below w.heap.size w w' := by
  have hA := Arr.new w 84 f
  have hZ := heap_alloc_new (w.alloc (.cells (wsC f) 84)) (.cells (wsC (List.replicate 32 0)) 119)
  rw [World.size_alloc] at hZ
  have HZ := Lib.hid hZ
  have hb := Lib.hid (build_run f hl)
  have HA := Lib.hid hA
  have HL := Lib.hid hl
  have HW := Lib.hid hW
  clear hA hl hW hZ
  go_enter Tryd.func54, Tryd.ntmps54
  go_wp2_with (first | (refine wpList_load_row rfl 84 _ rfl w.heap.size rfl 84 (wsC f) (0, 0) _ HA.out Tryd.underlying84 rfl (by rw [size53, wsC_size, HL.out]) ?_) | (refine wpList_build rfl 119 #[(0, .tmp 4), (1, .tmp 5)] #[(0, .agg (wsC f)), (1, .agg (wsC f))] rfl (by simp [Act.eval, Act.put]) (.agg (wsC (f ++ f))) (hb.out _) ?_) | (refine wpList_store_row rfl 119 _ _ rfl (w.heap.size + 1) (wsC (f ++ f)) rfl rfl 119 _ HZ.out (by rw [size79, wsC_size, List.length_append, HL.out]) (by rw [wsC_size, wsC_size, List.length_append, HL.out]; rfl) (wsC_one _) ?_))
  clear hb
  have hR : Arr (((w.alloc (.cells (wsC f) 84)).alloc (.cells (wsC (List.replicate 32 0)) 119)).setRow (w.heap.size + 1) (wsC (f ++ f))) (w.heap.size + 1) 119 (f ++ f) := Arr.row HZ.out (f ++ f)
  have hB : Below w.heap.size w (((w.alloc (.cells (wsC f) 84)).alloc (.cells (wsC (List.replicate 32 0)) 119)).setRow (w.heap.size + 1) (wsC (f ++ f))) := below_setRow (by go_grown) (by omega) _
  have HR := Lib.hid hR
  have HB := Lib.hid hB
  clear hR hB HZ HA
  go_loopw [7] (fun i wr => ∃ k : Nat, k ≤ 10 ∧ i = .int .i64 k ∧ Hid (Arr wr (w.heap.size + 1) 119 (rounds k f ++ f)) ∧ Hid (Below w.heap.size w wr)) (fun i _ => 10 - (intOf i).toNat)
  case atStart => exact ⟨0, by omega, rfl, HR, HB⟩
  case round =>
    clear HR HB
    obtain ⟨k, hk, rfl, HA, HB⟩ := hrel
    by_cases hlt : k < 10
    · have hR := Lib.hid (round_any (w.heap.size + 1) (rounds k f ++ f) wr (by rw [List.length_append, rounds_length, HL.out]; decide) ((rounds_all HW.out k).append HW.out) HA.out)
      go_wp2_with fail
      (with_reducible refine hR.out.mono ?_)
      rintro e w1 ⟨⟨v, rfl⟩, hA1, hO1⟩
      rw [roundL_app _ _ (by rw [rounds_length, HL.out])] at hA1
      have HA1 := Lib.hid hA1
      have HB1 := Lib.hid (hO1.below HB.out HB.out.size (by omega))
      clear hA1 hO1 hR
      go_wp2
      go_roundw
      case rel => exact ⟨k + 1, by omega, by go_num, HA1, HB1⟩
      case measure => simp [intOf]; omega
    · obtain rfl : k = 10 := by omega
      have hF := Lib.hid (addFirst_any (w.heap.size + 1) (rounds 10 f) f wr (by rw [rounds_length, HL.out]) HL.out HA.out)
      go_wp2_with fail
      (with_reducible refine hF.out.mono ?_)
      rintro e w1 ⟨⟨v, rfl⟩, hA1, hO1⟩
      have hT := Lib.hid (octets_any (w.heap.size + 1) (addN f 16 (rounds 10 f)) f w1 (by rw [addN_length, rounds_length, HL.out]) (addN_all _ _ (rounds_all HW.out 10)) hA1)
      have HB1 := Lib.hid (hO1.below HB.out HB.out.size (by omega))
      clear hA1 hO1 hF HA HB
      go_wp2_with fail
      (with_reducible refine hT.out.mono ?_)
      rintro e w2 ⟨rfl, hb2⟩
      have HB2 := Lib.hid (HB1.out.trans (hb2.mono HB1.out.size))
      clear hb2 hT HB1
      go_wp2
      go_ret
      exact ⟨rfl, HB2.out⟩
end Go.Proofs.YtnfefkcfifnjnaaDoor
