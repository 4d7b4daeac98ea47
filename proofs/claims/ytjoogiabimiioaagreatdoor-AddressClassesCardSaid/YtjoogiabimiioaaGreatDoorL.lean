/- Contracts of host, six and four: hosts of groups and of octets. -/
import Derived.Test.YtjoogiabimiioaaGreatDoorI
import Derived.Great.BuildSlice
namespace Go.Proofs.YtjoogiabimiioaaGreatDoor
open Go.RowKit Go.ChangeShapes
theorem wp_append_two {o : Oper} {a : Act} {w : World} {K : Act → World → Prop} {Q : Exit → Act → World → Prop} (sl x : Operand)
    (ho : o.op = .call { callee := .builtin .append, args := #[sl, x], argTypes := #[54, 54] })
    (base : Nat) (v : Value) (n : Nat) (xs : List Value) (hs : a.eval sl = v) (hown : w.ownsRow base 5 1 v n xs) (g : Nat) (hx : a.eval x = .slice (some ⟨g, 0, none⟩) 2 2)
    (Y Z : Int) (hg : w.heap[g]? = some (.cells #[.int .u8 Y, .int .u8 Z] 5 (0, 0))) (hn : n ≤ 64) (hbase : base ≤ w.heap.size)
    (h : ∀ v' w', w'.ownsRow base 5 1 v' (n + 2) (xs ++ [.int .u8 Y, .int .u8 Z]) → w.grownBy w' v.ownBlock → K (a.put o.dst v') w') : o.wp Tryz.prog a w K Q := by
  obtain ⟨i0, hi, hz0, hz1, hz2⟩ := info_parts info5
  obtain ⟨v', w', hr, h2, h3, _⟩ := run_append_own (P := Tryz.prog) w base 54 o.type 5 i0 _ 1 1 Tryz.underlying54 hi hz0 hz1 hz2 rfl (by decide) v n xs hown ⟨g, 0, none⟩ 2 2 [.int .u8 Y, .int .u8 Z] rfl
    (World.news_of_block (cs := #[.int .u8 Y, .int .u8 Z]) (t := 5) (fr := (0, 0)) hg) (by simp [Value.oneCell']) (by unfold maxLen; omega) (by omega) hbase
  unfold Oper.wp execOp
  simp only [ho, resolve, invoke, builtin, Sem.run_bind, Sem.run_pure, Result.andThen_ok, List.map_toArray, List.map_cons, List.map_nil, hs, hx, hr]
  exact h v' w' h2 h3
/-- The octets of groups. -/
def octL (l : List Nat) : List UInt8 := l.flatMap fun n => [UInt8.ofNat (n / 256), UInt8.ofNat (n % 256)]
theorem octL_length (l : List Nat) : (octL l).length = 2 * l.length := by
  induction l with
  | nil => rfl
  | cons x r ih => unfold octL at *; rw [List.flatMap_cons, List.length_append, ih, List.length_cons]; simp; omega
theorem octL_succ (l : List Nat) (k : Nat) (hk : k < l.length) : octL (l.take (k + 1)) = octL (l.take k) ++ [UInt8.ofNat (l.getD k 0 / 256), UInt8.ofNat (l.getD k 0 % 256)] := by
  unfold octL
  rw [List.take_succ_eq_append_getElem hk, List.flatMap_append, List.flatMap_cons, List.flatMap_nil, List.append_nil, List.getD_eq_getElem?_getD, List.getElem?_eq_getElem hk]
  rfl
def C16 : Obj := .cells (List.replicate 16 (Value.int .u8 0)).toArray 5
theorem make16 (w : World) : (Instr.makeSlice 54 (.int .i64 0) (.int .i64 16)).run Tryz.prog w = .ok (.slice (some ⟨w.heap.size, 0, none⟩) 0 16) (w.alloc C16) := by kernel_rfl
/-- What the loop keeps. -/
structure Hk (w : World) (v : Value) (n : Nat) (xs : List Value) (W : World) : Prop where
  b : Below w.heap.size w W
  o : W.ownsRow (w.heap.size + 1) 5 1 v n xs
  z : w.heap.size + 1 ≤ W.heap.size
set_option maxRecDepth 100000 in
set_option maxHeartbeats 8000000 in
theorem host_any (l : List Nat) (w : World) (hl : l.length = 8) (hv : ∀ x ∈ l, x < 65536) :
    Calls Tryz.prog 86 #[.agg (gsC l)] w fun e w' => e = .returned (.string (bs (octL l))) ∧ Below w.heap.size w w' := by
  have HG := Lib.hid (Gr.new w l)
  have hB := (Below.refl w.heap.size w).alloc (Nat.le_refl _) (.cells (gsC l) 120)
  have hmk := make16
  have HI := Lib.hid (fun i hi W => idx_gs l hl i hi W)
  have HL := Lib.hid (And.intro hl hv)
  have hV1 : (w.alloc (.cells (gsC l) 120)).heap.size = w.heap.size + 1 := by simp
  generalize hV : w.alloc (.cells (gsC l) 120) = V at HG hB hV1
  have HK0 : Hid (Hk w (.slice (some ⟨V.heap.size, 0, none⟩) (2 * 0) 16) (2 * 0) (byC (octL (l.take 0))) (V.alloc C16)) := Lib.hid
    ⟨hB.alloc hB.size _, ⟨rfl, .inr ⟨V.heap.size, 16, _, rfl, by omega, heap_alloc_new V _, by decide, by decide, rfl, rfl⟩⟩, by rw [World.size_alloc]; omega⟩
  have HG2 := Lib.hid (HG.out.alloc C16)
  clear hl hv hB HG hV1
  go_enter Tryz.func86, Tryz.ntmps86
  go_upto_region 1 with fail
  clear hV
  go_upto_region 2 with fail
  generalize hX : V.alloc C16 = X at HK0 HG2 ⊢
  clear hX hmk
  change Hid (Hk w (.slice (some ⟨V.heap.size, 0, none⟩) 0 16) (2 * 0) (byC (octL (l.take 0))) X) at HK0
  generalize (Value.slice (some ⟨V.heap.size, 0, none⟩) 0 16) = v0 at HK0 ⊢
  go_upto_region 3 with (refine wpList_load_row rfl 120 _ rfl w.heap.size rfl 120 (gsC l) (0, 0) _ HG2.out Tryz.underlying120 rfl (by rw [size120, gsC_size, HL.out.1]) ?_)
  clear HG2
  go_loopw [3, 5, 8] (fun v _ i wr => ∃ k : Nat, k ≤ 8 ∧ i = .int .i64 (k : Int) ∧ Hid (Hk w v (2 * k) (byC (octL (l.take k))) wr)) (fun _ _ i _ => 8 - (intOf i).toNat)
  case atStart => exact ⟨0, by omega, rfl, HK0⟩
  case round =>
    clear HK0
    obtain ⟨k, hk, rfl, HK⟩ := hrel
    by_cases hlt : k < 8
    · have hki : (k : Int) < 8 := by omega
      have hix := fun W => HI.out k hlt W
      have hkl : k < l.length := by rw [HL.out.1]; exact hlt
      have ho2 := octL_succ l k hkl
      have hxb : l.getD k 0 < 65536 := by rw [List.getD_eq_getElem?_getD, List.getElem?_eq_getElem hkl]; exact HL.out.2 _ (List.getElem_mem hkl)
      obtain ⟨x, hx⟩ : ∃ x, l.getD k 0 = x := ⟨_, rfl⟩
      simp only [hx] at hix
      rw [hx] at hxb ho2
      obtain ⟨y, hy⟩ : ∃ y, x / 256 = y := ⟨_, rfl⟩
      obtain ⟨z, hz⟩ : ∃ y, x % 256 = y := ⟨_, rfl⟩
      rw [hy, hz] at ho2
      have hyB : y < 256 := by omega
      have hzB : z < 256 := by omega
      have a1 : (x : Int) / 256 = (y : Int) := by omega
      have a2 : (x : Int) / 2 ^ 8 = (y : Int) := by omega
      have b1 : IntKind.u8.wrap (y : Int) = (y : Int) := by rw [IntKind.wrap_u8]; omega
      have b2 : IntKind.u8.wrap (x : Int) = (z : Int) := by rw [IntKind.wrap_u8]; omega
      have hby : byC [UInt8.ofNat y, UInt8.ofNat z] = [.int .u8 (y : Int), .int .u8 (z : Int)] := by
        have e1 : (UInt8.ofNat y).toNat = y := UInt8.toNat_ofNat_of_lt' (by show y < 256; omega)
        have e2 : (UInt8.ofNat z).toNat = z := UInt8.toNat_ofNat_of_lt' (by show z < 256; omega)
        simp [byC, e1, e2]
      have HO : Hid (byC (octL (l.take k)) ++ [.int .u8 (y : Int), .int .u8 (z : Int)] = byC (octL (l.take (k + 1)))) := Lib.hid (by rw [ho2, ← hby, byC_append])
      clear hxb ho2 hx hy hz hby hkl
      go_upto_region 5 with fail
      have HR : Hid ((wr.alloc (.cells #[.int .u8 (y : Int), .int .u8 (z : Int)] 5)).ownsRow (w.heap.size + 1) 5 1 u3 (2 * k) (byC (octL (l.take k))) ∧ w.heap.size + 1 ≤ (wr.alloc (.cells #[.int .u8 (y : Int), .int .u8 (z : Int)] 5)).heap.size) := Lib.hid ⟨HK.out.o.alloc _, by have := HK.out.z; rw [World.size_alloc]; omega⟩
      go_wp2_with (refine wpList_plain (o := ⟨some 18, _, _, _, _, _⟩) rfl fun K hK => ?_; refine wp_append_two _ _ rfl (w.heap.size + 1) _ (2 * k) (byC (octL (l.take k))) rfl HR.out.1 wr.heap.size rfl (y : Int) (z : Int) (heap_alloc_new wr _) (by omega) HR.out.2 ?_; intro v2 w3 hown3 hg3; refine hK _ _ ?_)
      have hg4 : (wr.alloc (.cells #[.int .u8 (y : Int), .int .u8 (z : Int)] 5)).grownBy w3 u3.ownBlock := hg3
      rw [HO.out] at hown3
      have hB3 : Below w.heap.size w w3 := (HK.out.b.alloc HK.out.b.size _).grown hg4 (by have := HK.out.z; simp; omega) (fun g hg => by have := (HK.out.o.lt g hg).1; omega)
      exact ⟨⟨k + 1, by omega, by go_num, Lib.hid ⟨hB3, hown3, by have := hg4.size; have := HR.out.2; omega⟩⟩, by simp [intOf]; omega⟩
    · obtain rfl : k = 8 := by omega
      have hcv := string_of_own (w := wr) (l := octL (l.take 8)) (by rw [octL_length, List.length_take, HL.out.1]; exact HK.out.o)
      rw [List.take_of_length_le (by rw [HL.out.1]; omega)] at hcv
      have HB := Lib.hid HK.out.b
      clear HK
      go_wp2
      go_ret
      exact ⟨rfl, HB.out⟩
theorem built120 (n : Nat) : Tryz.prog.built 120 [(0, .int .u16 (n : Int))] = some (gsC [n, 0, 0, 0, 0, 0, 0, 0]) := by kernel_rfl
set_option maxRecDepth 100000 in
set_option maxHeartbeats 2000000 in
theorem six_any (n : Nat) (w : World) (hn : n < 65536) : Calls Tryz.prog 109 #[.int .u16 (n : Int)] w fun e w' => e = .returned (.string (bs (octL [n, 0, 0, 0, 0, 0, 0, 0]))) ∧ Below w.heap.size w w' := by
  have HH := Lib.hid (fun W => host_any [n, 0, 0, 0, 0, 0, 0, 0] W rfl (by simp; omega))
  have HB := Lib.hid (built120 n)
  go_enter Tryz.func109, Tryz.ntmps109
  go_upto_region 1 with fail
  refine wp_region_lit ?_
  go_wp2_with (first
    | (refine wpList_buildTo (o := ⟨some 4, _, _, _, _, _⟩) rfl 120 _ rfl (some 4) rfl (gsC [n, 0, 0, 0, 0, 0, 0, 0]) (by simp only [List.map_toArray, List.map_cons, List.map_nil]; exact HB.out) ?_)
    | (go_at_call 86; (with_reducible refine (HH.out _).mono ?_); rintro e V ⟨rfl, hb⟩))
  go_ret
  exact ⟨rfl, hb⟩
end Go.Proofs.YtjoogiabimiioaaGreatDoor
