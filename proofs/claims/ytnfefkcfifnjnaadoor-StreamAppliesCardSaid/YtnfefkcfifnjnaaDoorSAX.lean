/- The walk of StreamApplies. -/
import Derived.Test.YtnfefkcfifnjnaaDoorSBX
import Derived.Test.YtnfefkcfifnjnaaDoorAX
import Derived.ArgAppend
import Derived.Lib.SmallJoins
import Derived.Deep.MidRow
namespace Go.Proofs.YtnfefkcfifnjnaaDoor
open Go.RowKit Go.ChangeShapes
theorem addr_at (g i : Nat) : (⟨g, 0, none⟩ : Addr).add i = ⟨g, i, none⟩ := by unfold Addr.add; split <;> simp_all
def pk4 {α : Type} (a b c d : α) (i : Nat) : α := if i = 0 then a else if i = 1 then b else if i = 2 then c else d
def pk2 {α : Type} (a b : α) (i : Nat) : α := if i = 0 then a else b
theorem sl54 (b u : Nat) (w : World) (h : u = 1 ∨ u = 2) : (Instr.slice 54 (.slice (some ⟨b, 0, none⟩) 2 2) none (some (.int .i64 (u : Int))) none).run Tryd.prog w = .ok (.slice (some ⟨b, 0, none⟩) u 2) w := by
  rcases h with rfl | rfl
  · kernel_rfl
  · kernel_rfl
theorem wp_append_grows {P : Program} (w : World) {o : Oper} {a : Act} {K : Act → World → Prop} {Q : Exit → Act → World → Prop}
    (s x : Operand) (t : TypeId) (hop : o.op = Op.call { callee := Callee.builtin Builtin.append, args := #[s, x], argTypes := #[t, t] })
    (e : TypeId) (i : TypeInfo) (z : Value) (size bytes : Nat) (h1 : P.underlying t = some (.slice e)) (h2 : P.info? e = some i) (h3 : i.zero = some z) (h4 : i.size = size) (h5 : i.bytes = bytes) (h6 : z.cells.size = size) (h7 : 0 < size)
    (b : Addr) (n cap : Nat) (olds : List Value) (hs : a.eval s = .slice (some b) n cap) (hlo : olds.length = n * size) (holds : ∀ j u, olds[j]? = some u → w.cell? (b.add j) = some u)
    (ad : Addr) (m c : Nat) (news : List Value) (hx : a.eval x = .slice (some ad) m c) (hn : news.length = m * size) (hc : ∀ j u, news[j]? = some u → w.cell? (ad.add j) = some u)
    (hfull : cap < n + m) (b1 : n + m ≤ maxLen) (b2 : (n + m) * bytes ≤ 140737488355328)
    (hK : ∀ v' w', w'.ownsRow w.heap.size e size v' (n + m) (olds ++ news) → w.grownBy w' none → K (a.put o.dst v') w') :
    Oper.wp P o a w K Q := by
  obtain ⟨v', w', hrun, r1, r2⟩ := run_append_arg_grows (P := P) w t o.type e i z size bytes h1 h2 h3 h4 h5 h6 h7 b n cap olds hlo holds ad m c news hn hc hfull b1 b2
  unfold Oper.wp
  simp [execOp, hop, resolve, invoke, builtin, hs, hx, hrun, Result.andThen]
  exact hK _ _ r1 r2
theorem info59 : (Tryd.prog.info? 59).map (fun i => (i.zero, i.size, i.bytes)) = some (some (.agg #[.string ⟨#[]⟩, .string ⟨#[]⟩, .int .i64 0]), 3, 40) := by kernel_rfl
set_option maxRecDepth 1000000 in
set_option maxHeartbeats 8000000 in
theorem applies_true (s1 s2 : ByteArray) (x : Int) (c : Nat) (s5 : ByteArray) (n : Nat) (w : World) (hD : Digits w) (h1 : s1.size ≤ maxLen) (h2 : s2.size ≤ maxLen) (hc : c ≤ 4294967295) (hn : n ≤ 65535) :
    Calls Tryd.prog 11 #[.string s1, .string s2, .int .i64 x, .int .u32 (c : Int), .string s5, .int .u16 (n : Int)] w fun e w' => e = .returned (.bool true) ∧ Below w.heap.size w w' := by
  have K0 := Wk.start hD
  obtain ⟨m5, z5, hz5, hl5, i5, j5⟩ := cut_n s5 300 300 rfl
  have nm : n % 4200 ≤ 4200 := by omega
  have q2 : ∀ w, Calls Tryd.prog 14 #[.string (bs z5), .int .i64 ((n % 4200 : Nat) : Int)] w fun e w' => e = .returned (.string (bs (sizL z5 (n % 4200)))) ∧ Below w.heap.size w w' := fun w => sized_any z5 (n % 4200) w (by omega) (by omega)
  have sl : (bs (sizL z5 (n % 4200))).size ≤ 4200 := by rw [bs_size, sizL_length]; exact nm
  have s5' : (bs z5).size ≤ 4200 := by rw [bs_size]; omega
  have hm1 : (n : Int).tmod 4200 = ((n % 4200 : Nat) : Int) := by rw [Int.tmod_eq_emod_of_nonneg (by omega)]; omega
  have hm2 : (n : Int) % 4200 = ((n % 4200 : Nat) : Int) := by omega
  have hcv : IntKind.i64.wrap (n : Int) = (n : Int) := IntWalk.i64_in _ (by omega)
  obtain ⟨B, hB⟩ : ∃ Y : ByteArray, bs z5 = Y := ⟨_, rfl⟩
  obtain ⟨LL, hLL⟩ : ∃ Y : ByteArray, bs (sizL z5 (n % 4200)) = Y := ⟨_, rfl⟩
  rw [hB] at hz5 q2 s5'
  rw [hLL] at q2 sl
  obtain ⟨nl, hnl⟩ : ∃ x, n % 4200 = x := ⟨_, rfl⟩
  rw [hnl] at q2 hm1 hm2 nm
  have Q2 := Lib.hid q2
  obtain ⟨c8, hc8⟩ : ∃ x, c % 8 = x := ⟨_, rfl⟩
  have c81 : (c : Int).tmod 8 = (c8 : Int) := by rw [Int.tmod_eq_emod_of_nonneg (by omega)]; omega
  have c82 : (c : Int) % 8 = (c8 : Int) := by omega
  have c83 : c8 ≤ 7 := by omega
  have c84 : IntKind.i64.wrap (c8 : Int) = (c8 : Int) := IntWalk.i64_in _ (by omega)
  obtain ⟨lc, hlc⟩ : ∃ x, 4294967295 - c8 = x := ⟨_, rfl⟩
  have lc1 : (4294967295 : Int) - (c8 : Int) = (lc : Int) := by omega
  have lc2 : lc ≤ 4294967295 := by omega
  have hz5' : s5.extract 0 m5 = B := hz5
  clear hB hLL hnl hc8 hlc q2 hl5 hz5 hD
  go_enter Tryd.func11, Tryd.ntmps11
  go_wp2_with fail
  refine (works_true _ K0.d).mono ?_
  rintro e W1 ⟨rfl, hb⟩
  have B1 := Lib.hid hb
  clear hb K0
  obtain ⟨z1, z2, ha⟩ := asks_any s1 s2 x c W1 h1 h2 hc
  have HA := Lib.hid ha
  obtain ⟨a1, ha1⟩ : ∃ Y : ByteArray, bs z1 = Y := ⟨_, rfl⟩
  obtain ⟨a2, ha2⟩ : ∃ Y : ByteArray, bs z2 = Y := ⟨_, rfl⟩
  obtain ⟨k1, hk1⟩ : ∃ Y : ByteArray, bs (sizL z1 32) = Y := ⟨_, rfl⟩
  obtain ⟨k2, hk2⟩ : ∃ Y : ByteArray, bs (sizL z2 12) = Y := ⟨_, rfl⟩
  rw [ha1, ha2, hk1, hk2] at HA
  clear ha h1 h2 ha1 ha2 hk1 hk2
  unfold askC at HA
  go_upto_region 7 with (first
    | (go_at_call 32; (with_reducible refine HA.out.mono ?_); rintro e W2 ⟨rfl, hb⟩; have B2 := Lib.hid (B1.out.trans (hb.mono B1.out.size)); clear hb))
  have hz2 : W2.heap.size < (W2.alloc (.cells #[.string a1, .string a2, .int .i64 x, .string k1, .string k2, .int .i64 x, .string k1, .string k2, .int .i64 (c : Int)] 60)).heap.size := by simp
  have f1 := heap_alloc_new W2 (.cells #[.string a1, .string a2, .int .i64 x, .string k1, .string k2, .int .i64 x, .string k1, .string k2, .int .i64 (c : Int)] 60)
  have f2 := heap_alloc_new (W2.alloc (.cells #[.string a1, .string a2, .int .i64 x, .string k1, .string k2, .int .i64 x, .string k1, .string k2, .int .i64 (c : Int)] 60)) (.cells #[.string k1, .string k2, .int .i64 (lc : Int)] 59)
  have f3 := (Below.heap_alloc (W2.alloc (.cells #[.string a1, .string a2, .int .i64 x, .string k1, .string k2, .int .i64 x, .string k1, .string k2, .int .i64 (c : Int)] 60)) (.cells #[.string k1, .string k2, .int .i64 (lc : Int)] 59) W2.heap.size hz2).trans f1
  have B3 := Lib.hid ((B2.out.alloc B2.out.size (.cells #[.string a1, .string a2, .int .i64 x, .string k1, .string k2, .int .i64 x, .string k1, .string k2, .int .i64 (c : Int)] 60)).alloc (Nat.le_trans B2.out.size (Nat.le_of_lt hz2)) (.cells #[.string k1, .string k2, .int .i64 (lc : Int)] 59))
  rw [show (W2.alloc (.cells #[.string a1, .string a2, .int .i64 x, .string k1, .string k2, .int .i64 x, .string k1, .string k2, .int .i64 (c : Int)] 60)).heap.size = W2.heap.size + 1 by simp] at f2
  have hz3 : ((W2.alloc (.cells #[.string a1, .string a2, .int .i64 x, .string k1, .string k2, .int .i64 x, .string k1, .string k2, .int .i64 (c : Int)] 60)).alloc (.cells #[.string k1, .string k2, .int .i64 (lc : Int)] 59)).heap.size = W2.heap.size + 2 := by simp
  generalize ((W2.alloc (.cells #[.string a1, .string a2, .int .i64 x, .string k1, .string k2, .int .i64 x, .string k1, .string k2, .int .i64 (c : Int)] 60)).alloc (.cells #[.string k1, .string k2, .int .i64 (lc : Int)] 59)) = W3 at f2 f3 B3 hz3 ⊢
  have r0 : W3.rangeAt (W2.heap.size + 1) 0 [.string k1, .string k2, .int .i64 (lc : Int)] := fun j v hj => by
    rw [Nat.zero_add, cell_of_row W3 _ j _ 59 (0, 0) f2]; simpa using hj
  have r9 : ∀ j u, [Value.string a1, .string a2, .int .i64 x, .string k1, .string k2, .int .i64 x, .string k1, .string k2, .int .i64 (c : Int)][j]? = some u → W3.cell? ⟨W2.heap.size, j, none⟩ = some u := fun j u hj => by
    rw [cell_of_row W3 _ j _ 60 (0, 0) f3]; simpa using hj
  clear f1 f2 f3 B1 B2 hz2
  obtain ⟨i0, hi, gz0, gz1, gz2⟩ := info_parts info59
  refine region_anyC (fun w' => w'.rangeAt (W2.heap.size + 1) 0 [.string k1, .string k2, .int .i64 (lc : Int)]) (fun _ => True) [] (by kernel_rfl) ?_
  refine anyC_takeS (i := 0) (oi := ⟨some 42, _, _, _, _, _⟩) (v := _) rfl (by kernel_rfl) (by kernel_rfl) (by kernel_rfl) (by kernel_rfl) (fun _ _ _ h => h) (Or.inl ⟨by rfl, fun w' hw' => (by clear hw'; go_simp; try with_reducible rfl)⟩) r0 (fun _ => trivial) ?_
  try simp only [Act.put, List.setIfInBounds_toArray, List.set_cons_zero, List.set_cons_succ]
  refine anyC_takeS (i := 1) (oi := ⟨some 43, _, _, _, _, _⟩) (v := _) rfl (by kernel_rfl) (by kernel_rfl) (by kernel_rfl) (by kernel_rfl) (fun _ _ _ h => h) (yieldsIf_load_mid (by rfl) 59 _ rfl (W2.heap.size + 1) 0 rfl _ _ (fun _ h => h) Tryd.underlying59 rfl (by kernel_rfl)) r0 (fun _ => trivial) ?_
  try simp only [Act.put, List.setIfInBounds_toArray, List.set_cons_zero, List.set_cons_succ]
  refine anyC_takeS (i := 5) (oi := ⟨some 47, _, _, _, _, _⟩) (v := _) rfl (by kernel_rfl) (by kernel_rfl) (by kernel_rfl) (by kernel_rfl) (fun _ _ _ h => h) (Or.inl ⟨by rfl, fun w' hw' => (by clear hw'; go_simp; try with_reducible rfl)⟩) r0 (fun _ => trivial) ?_
  try simp only [Act.put, List.setIfInBounds_toArray, List.set_cons_zero, List.set_cons_succ]
  refine anyC_keep (i := 2) (o := ⟨some 44, _, _, _, _, _⟩) (by kernel_rfl) rfl (fun K hK => ?_)
  rw [if_pos (by rfl)]
  go_simp
  have zx : ((W3.alloc (.cells #[.string k1, .string k2, .int .i64 (lc : Int)] 59)).drew).heap.size = W2.heap.size + 3 := by show (W3.alloc _).heap.size = _; rw [World.size_alloc, hz3]
  have fN := heap_alloc_new W3 (.cells #[.string k1, .string k2, .int .i64 (lc : Int)] 59)
  rw [hz3] at fN
  have rN : ∀ j u, [Value.string k1, .string k2, .int .i64 (lc : Int)][j]? = some u → ((W3.alloc (.cells #[.string k1, .string k2, .int .i64 (lc : Int)] 59)).drew).cell? ⟨W2.heap.size + 2, j, none⟩ = some u := fun j u hj => by
    show (W3.alloc _).cell? _ = _
    rw [cell_of_row _ _ j _ 59 (0, 0) fN]; simpa using hj
  have rA : ∀ g j u, g < W2.heap.size + 2 → W3.cell? ⟨g, j, none⟩ = some u → ((W3.alloc (.cells #[.string k1, .string k2, .int .i64 (lc : Int)] 59)).drew).cell? ⟨g, j, none⟩ = some u := fun g j u hg hj => by
    show (W3.alloc _).cell? _ = _
    rw [World.cell?_alloc_lt _ _ _ (by rw [hz3]; exact hg)]; exact hj
  have r0' : ((W3.alloc (.cells #[.string k1, .string k2, .int .i64 (lc : Int)] 59)).drew).rangeAt (W2.heap.size + 1) 0 [.string k1, .string k2, .int .i64 (lc : Int)] := fun j v hj => rA _ _ _ (by omega) (r0 j v hj)
  have r9' : ∀ j u, [Value.string a1, .string a2, .int .i64 x, .string k1, .string k2, .int .i64 x, .string k1, .string k2, .int .i64 (c : Int)][j]? = some u → ((W3.alloc (.cells #[.string k1, .string k2, .int .i64 (lc : Int)] 59)).drew).cell? ((⟨W2.heap.size, 0, none⟩ : Addr).add j) = some u := fun j u hj => by
    rw [addr_at]; exact rA _ _ _ (by omega) (r9 j u hj)
  have rN' : ∀ j u, [Value.string k1, .string k2, .int .i64 (lc : Int)][j]? = some u → ((W3.alloc (.cells #[.string k1, .string k2, .int .i64 (lc : Int)] 59)).drew).cell? ((⟨W2.heap.size + 2, 0, none⟩ : Addr).add j) = some u := fun j u hj => by
    rw [addr_at]; exact rN j u hj
  have B4 := Lib.hid ((B3.out.alloc B3.out.size (.cells #[.string k1, .string k2, .int .i64 (lc : Int)] 59)).drew)
  refine hK.out _ _ ⟨r0', fun _ => trivial⟩ ?_
  clear hK K rN rA fN r0 r9 B3 hz3
  try simp only [Act.put, List.setIfInBounds_toArray, List.set_cons_zero, List.set_cons_succ]
  generalize ((W3.alloc (.cells #[.string k1, .string k2, .int .i64 (lc : Int)] 59)).drew) = W4 at zx r0' r9' rN' B4 ⊢
  refine anyC_keep (i := 3) (o := ⟨some 45, _, _, _, _, _⟩) (by kernel_rfl) rfl (fun K hK => ?_)
  rw [if_pos (by rfl)]
  refine wp_append_grows W4 _ _ 65 rfl 59 i0 _ 3 40 Tryd.underlying65 hi gz0 gz1 gz2 (by rfl) (by decide) ⟨W2.heap.size, 0, none⟩ 3 3 [.string a1, .string a2, .int .i64 x, .string k1, .string k2, .int .i64 x, .string k1, .string k2, .int .i64 (c : Int)] rfl rfl r9' ⟨W2.heap.size + 2, 0, none⟩ 1 1 [.string k1, .string k2, .int .i64 (lc : Int)] rfl rfl rN' (by decide) (by unfold maxLen; decide) (by decide) ?_
  intro v5 W5 hown5 hg5
  have hB5 : Below W4.heap.size W4 W5 := (Below.refl _ _).grown hg5 (Nat.le_refl _) (by simp)
  have B5 := Lib.hid (B4.out.trans (hB5.mono B4.out.size))
  have r05 : W5.rangeAt (W2.heap.size + 1) 0 [.string k1, .string k2, .int .i64 (lc : Int)] := fun j v hj => (hB5.cell (p := ⟨W2.heap.size + 1, 0 + j, none⟩) (by show W2.heap.size + 1 < W4.heap.size; omega)).trans (r0' j v hj)
  refine hK.out _ _ ⟨r05, fun _ => trivial⟩ ?_
  clear hK K
  obtain ⟨g, cap, rfl⟩ := Joins.ownsRow_form hown5 (by decide)
  have hgz := (hown5.lt g rfl).2
  have hcell : ∀ j u, [Value.string a1, .string a2, .int .i64 x, .string k1, .string k2, .int .i64 x, .string k1, .string k2, .int .i64 (c : Int), .string k1, .string k2, .int .i64 (lc : Int)][j]? = some u → W5.cell? ⟨g, j, none⟩ = some u := fun j u hj => by
    have := World.ownsRow.cells hown5 (g := g) rfl j u hj
    rwa [addr_at] at this
  try simp only [Act.put, List.setIfInBounds_toArray, List.set_cons_zero, List.set_cons_succ]
  refine anyC_takeS (i := 4) (oi := ⟨some 46, _, _, _, _, _⟩) (v := _) rfl (by kernel_rfl) (by kernel_rfl) (by kernel_rfl) (by kernel_rfl) (fun _ _ _ h => h) (Or.inl ⟨by rfl, fun w' hw' => (by clear hw'; go_simp; try with_reducible rfl)⟩) r05 (fun _ => trivial) ?_
  try simp only [Act.put, List.setIfInBounds_toArray, List.set_cons_zero, List.set_cons_succ]
  refine anyC_done (by kernel_rfl) ?_ _
  have hrow : ∀ i, i < 4 → W5.rangeAt g (3 * i) [.string (pk4 a1 k1 k1 k1 i), .string (pk4 a2 k2 k2 k2 i), .int .i64 (pk4 x x (c : Int) (lc : Int) i)] := fun i hi j v hj => by
    have hj3 : j < 3 := by
      have := (List.getElem?_eq_some_iff.1 hj).1
      simpa using this
    apply hcell
    rw [← hj]
    rcases (by omega : i = 0 ∨ i = 1 ∨ i = 2 ∨ i = 3) with rfl | rfl | rfl | rfl <;> rcases (by omega : j = 0 ∨ j = 1 ∨ j = 2) with rfl | rfl | rfl <;> rfl
  have HROW := Lib.hid hrow
  generalize pk4 a1 k1 k1 k1 = AA at HROW
  generalize pk4 a2 k2 k2 k2 = AB at HROW
  generalize pk4 x x (c : Int) (lc : Int) = AY at HROW
  clear hown5 hg5 hB5 hcell hrow r05 r0' r9' rN' B4 zx HA
  rw [show (3 + 1 : Nat) = 4 from rfl]
  have hS54 := Lib.hid sl54
  have hPQ : Hid (∀ q, (pk2 B LL q).size ≤ 4200) := Lib.hid fun q => by unfold pk2; split <;> omega
  go_wp2_with fail
  go_loopw [47] (fun i wr => ∃ j : Nat, j ≤ 4 ∧ i = .int .i64 j ∧ Hid (Below w.heap.size w wr) ∧ Hid (Below W5.heap.size W5 wr)) (fun i _ => 4 - (intOf i).toNat)
  case atStart => exact ⟨0, Nat.zero_le _, rfl, B5, Lib.hid (Below.refl _ _)⟩
  case round =>
    clear B5
    obtain ⟨j, hj, rfl, HB, HC⟩ := hrel
    by_cases hlt : j < 4
    · have j4 : (j : Int) < 4 := by omega
      have hrow := HROW.out j hlt
      have p0 : wr.cell? ⟨g, j * 3, none⟩ = some (.string (AA j)) := (HC.out.cell (p := ⟨g, j * 3, none⟩) hgz).trans (by rw [show j * 3 = 3 * j + 0 by omega]; exact hrow 0 _ rfl)
      have p1 : wr.cell? ⟨g, j * 3 + 1, none⟩ = some (.string (AB j)) := (HC.out.cell (p := ⟨g, j * 3 + 1, none⟩) hgz).trans (by rw [show j * 3 = 3 * j by omega]; exact hrow 1 _ rfl)
      have p2 : wr.cell? ⟨g, j * 3 + 2, none⟩ = some (.int .i64 (AY j)) := (HC.out.cell (p := ⟨g, j * 3 + 2, none⟩) hgz).trans (by rw [show j * 3 = 3 * j by omega]; exact hrow 2 _ rfl)
      clear hrow
      generalize AA j = kb at p0
      generalize AB j = nb at p1
      generalize AY j = y at p2
      obtain ⟨u, hu⟩ : ∃ u, j % 2 + 1 = u := ⟨_, rfl⟩
      obtain ⟨u0, hu0⟩ : ∃ u, j % 2 = u := ⟨_, rfl⟩
      have t1 : (j : Int).tmod 2 = (u0 : Int) := by rw [Int.tmod_eq_emod_of_nonneg (by omega)]; omega
      have t2 : (j : Int) % 2 = (u0 : Int) := by omega
      have t3 : (1 : Int) + (u0 : Int) = (u : Int) := by omega
      have u12 : u = 1 ∨ u = 2 := by omega
      have hsl := fun b w => hS54.out b u w u12
      have ul : u ≤ 2 := by omega
      have z5r := HC.out.size
      have zwr := HB.out.size
      clear hu hu0 u12
      go_wp2_with (first
        | (go_at_call 14; (with_reducible refine (Q2.out _).mono ?_); rintro e V ⟨rfl, hb⟩))
      have zal : wr.heap.size < (wr.alloc (.cells #[.string kb, .string nb, .int .i64 y] 59)).heap.size := by simp
      have hh := heap_alloc_new wr (.cells #[.string kb, .string nb, .int .i64 y] 59)
      have B6 := Lib.hid ((HB.out.alloc zwr (.cells #[.string kb, .string nb, .int .i64 y] 59)).trans (hb.mono (Nat.le_trans zwr (Nat.le_of_lt zal))))
      have C6 := Lib.hid ((HC.out.alloc z5r (.cells #[.string kb, .string nb, .int .i64 y] 59)).trans (hb.mono (Nat.le_trans z5r (Nat.le_of_lt zal))))
      have s0 := (hb.cell (p := ⟨wr.heap.size, 0, none⟩) zal).trans (cell_of_row _ _ 0 _ 59 (0, 0) hh)
      have s1 := (hb.cell (p := ⟨wr.heap.size, 1, none⟩) zal).trans (cell_of_row _ _ 1 _ 59 (0, 0) hh)
      have s2 := (hb.cell (p := ⟨wr.heap.size, 2, none⟩) zal).trans (cell_of_row _ _ 2 _ 59 (0, 0) hh)
      have zV : wr.heap.size < V.heap.size := Nat.lt_of_lt_of_le zal hb.size
      have hh2 := heap_alloc_new V (.cells #[.string B, .string LL] 9)
      have zal2 : V.heap.size < (V.alloc (.cells #[.string B, .string LL] 9)).heap.size := by simp
      have B7 := Lib.hid (B6.out.alloc B6.out.size (.cells #[.string B, .string LL] 9))
      have C7 := Lib.hid (C6.out.alloc C6.out.size (.cells #[.string B, .string LL] 9))
      have S0 := (World.cell?_alloc_lt V (.cells #[.string B, .string LL] 9) ⟨wr.heap.size, 0, none⟩ zV).trans s0
      have S1 := (World.cell?_alloc_lt V (.cells #[.string B, .string LL] 9) ⟨wr.heap.size, 1, none⟩ zV).trans s1
      have S2 := (World.cell?_alloc_lt V (.cells #[.string B, .string LL] 9) ⟨wr.heap.size, 2, none⟩ zV).trans s2
      have S3 : ∀ q, q < 2 → (V.alloc (.cells #[.string B, .string LL] 9)).cell? ⟨V.heap.size, q, none⟩ = some (.string (pk2 B LL q)) := fun q hq => by
        rw [cell_of_row _ _ q _ 9 (0, 0) hh2]
        rcases (by omega : q = 0 ∨ q = 1) with rfl | rfl <;> rfl
      have zW7 : wr.heap.size < (V.alloc (.cells #[.string B, .string LL] 9)).heap.size := Nat.lt_trans zV zal2
      generalize (V.alloc (.cells #[.string B, .string LL] 9)) = W7 at zal2 B7 C7 S0 S1 S2 S3 zW7 ⊢
      generalize V.heap.size = b7 at S3 zal2 ⊢
      generalize wr.heap.size = b6 at S0 S1 S2 zW7 ⊢
      have HS0 := Lib.hid S0
      have HS1 := Lib.hid S1
      have HS2 := Lib.hid S2
      have HS3 := Lib.hid S3
      clear S0 S1 S2 S3 s0 s1 s2 hh hh2 B6 C6 hb zV zal zwr z5r p0 p1 p2 HB HC
      go_wp2_with fail
      go_loopw [64] (fun i wr => ∃ q : Nat, q ≤ u ∧ i = .int .i64 q ∧ Hid (Below W7.heap.size W7 wr)) (fun i _ => u - (intOf i).toNat)
      case atStart => exact ⟨0, Nat.zero_le _, rfl, Lib.hid (Below.refl _ _)⟩
      case round =>
        obtain ⟨q, hq, rfl, HB⟩ := hrel
        by_cases hqu : q < u
        · have q1 : (q : Int) < (u : Int) := by omega
          have x0 := (HB.out.cell (p := ⟨b6, 0, none⟩) zW7).trans HS0.out
          have x1 := (HB.out.cell (p := ⟨b6, 1, none⟩) zW7).trans HS1.out
          have x2 := (HB.out.cell (p := ⟨b6, 2, none⟩) zW7).trans HS2.out
          have x3 := (HB.out.cell (p := ⟨b7, q, none⟩) zal2).trans (HS3.out q (by omega))
          have ht := hPQ.out q
          generalize pk2 B LL q = tb at x3 ht
          have zr := HB.out.size
          cases hg : good kb nb y
          · have T1 := Lib.hid fun w => apply_arg kb nb y tb w hg
            have T2 : Hid (∀ w, Calls Tryd.prog 33 #[.string kb, .string nb, .int .i64 y] w fun e w' => e = .returned (.bool false) ∧ w = w') := Lib.hid fun w => by
              have := rright kb nb y w
              rw [hg] at this
              exact this
            clear hg
            go_wp2_with (first
              | (go_at_call 23; (with_reducible refine (T1.out _).mono ?_); rintro e V1 ⟨rfl, rfl⟩)
              | (go_at_call 33; (with_reducible refine (T2.out _).mono ?_); rintro e V2 ⟨rfl, rfl⟩))
            go_roundw
            case rel => exact ⟨q + 1, by omega, by go_num, HB⟩
            case measure => simp [intOf]; omega
          · have T2 : Hid (∀ w, Calls Tryd.prog 33 #[.string kb, .string nb, .int .i64 y] w fun e w' => e = .returned (.bool true) ∧ w = w') := Lib.hid fun w => by
              have := rright kb nb y w
              rw [hg] at this
              exact this
            obtain ⟨g1, g2, g3, g4⟩ := of_decide_eq_true hg
            obtain ⟨d, rfl⟩ := Int.eq_ofNat_of_zero_le g3
            have d1 : d ≤ 4294967295 := by omega
            by_cases hl : tb.size ≤ 4096
            · have hl1 : ¬ (4096 : Int) < (tb.size : Int) := by omega
              have ft := rfits d tb.size
              by_cases hf : d + (tb.size + 63) / 64 ≤ 4294967296
              · have T3 : Hid (∀ w, Calls Tryd.prog 35 #[.int .i64 (d : Int), .int .i64 (tb.size : Int)] w fun e w' => e = .returned (.bool true) ∧ w = w') := Lib.hid fun w => by
                  have := ft w d1 (by omega)
                  rw [decide_eq_true hf] at this
                  exact this
                have t4 := rapply kb.data.toList nb.data.toList d tb.data.toList
                have t5 := apply_ok kb.data.toList nb.data.toList d tb.data.toList
                rw [bs_of, bs_of, bs_of] at t4 t5
                generalize bs (appO kb.data.toList nb.data.toList d tb.data.toList) = AP at t4 t5
                have T4 := Lib.hid fun w => t4 w g1 g2 (by show tb.size ≤ 4200; omega) hf
                have T5 := Lib.hid fun w => t5 w g1 g2 d1 hl hf
                clear t4 t5 ft hg g1 g2 g3 g4 hf
                go_wp2_with (first
                  | (go_at_call 23; (with_reducible refine (T5.out _).mono ?_); rintro e V1 ⟨rfl, hb⟩; have y0 := (hb.cell (p := ⟨b6, 0, none⟩) (Nat.lt_of_lt_of_le zW7 zr)).trans x0; have y1 := (hb.cell (p := ⟨b6, 1, none⟩) (Nat.lt_of_lt_of_le zW7 zr)).trans x1; have y2 := (hb.cell (p := ⟨b6, 2, none⟩) (Nat.lt_of_lt_of_le zW7 zr)).trans x2; have B8 := Lib.hid (HB.out.trans (hb.mono zr)); clear hb)
                  | (go_at_call 33; (with_reducible refine (T2.out _).mono ?_); rintro e V2 ⟨rfl, rfl⟩)
                  | (go_at_call 35; (with_reducible refine (T3.out _).mono ?_); rintro e V3 ⟨rfl, rfl⟩)
                  | (go_at_call 36; (with_reducible refine (T4.out _).mono ?_); rintro e V4 ⟨rfl, hb⟩; have B9 := Lib.hid (B8.out.trans (hb.mono B8.out.size)); clear hb))
                go_roundw
                case rel => exact ⟨q + 1, by omega, by go_num, B9⟩
                case measure => simp [intOf]; omega
              · have T3 : Hid (∀ w, Calls Tryd.prog 35 #[.int .i64 (d : Int), .int .i64 (tb.size : Int)] w fun e w' => e = .returned (.bool false) ∧ w = w') := Lib.hid fun w => by
                  have := ft w d1 (by omega)
                  rw [decide_eq_false hf] at this
                  exact this
                have T5 := Lib.hid fun w => apply_big kb nb d tb w hg hl (by omega) d1
                clear ft hg g1 g2 g3 g4 hf
                go_wp2_with (first
                  | (go_at_call 23; (with_reducible refine (T5.out _).mono ?_); rintro e V1 ⟨rfl, rfl⟩)
                  | (go_at_call 33; (with_reducible refine (T2.out _).mono ?_); rintro e V2 ⟨rfl, rfl⟩)
                  | (go_at_call 35; (with_reducible refine (T3.out _).mono ?_); rintro e V3 ⟨rfl, rfl⟩))
                go_roundw
                case rel => exact ⟨q + 1, by omega, by go_num, HB⟩
                case measure => simp [intOf]; omega
            · have hl1 : (4096 : Int) < (tb.size : Int) := by omega
              have T5 := Lib.hid fun w => apply_long kb nb d tb w (by omega) hg (by omega)
              clear hg g1 g2 g3 g4
              go_wp2_with (first
                | (go_at_call 23; (with_reducible refine (T5.out _).mono ?_); rintro e V1 ⟨rfl, rfl⟩)
                | (go_at_call 33; (with_reducible refine (T2.out _).mono ?_); rintro e V2 ⟨rfl, rfl⟩))
              go_roundw
              case rel => exact ⟨q + 1, by omega, by go_num, HB⟩
              case measure => simp [intOf]; omega
        · have q1 : ¬ (q : Int) < (u : Int) := by omega
          have B8 := Lib.hid (B7.out.trans (HB.out.mono B7.out.size))
          have C8 := Lib.hid (C7.out.trans (HB.out.mono C7.out.size))
          go_wp2
          go_roundw
          case rel => exact ⟨j + 1, by omega, by go_num, B8, C8⟩
          case measure => simp [intOf]; omega
    · have j4 : ¬ (j : Int) < 4 := by omega
      go_wp2
      go_ret
      exact ⟨rfl, HB.out⟩
end Go.Proofs.YtnfefkcfifnjnaaDoor
