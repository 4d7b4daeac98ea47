/- The walk of AddressClasses. -/
import Derived.Test.YtjoogiabimiioaaGreatDoorPJ
import Derived.Test.YtjoogiabimiioaaGreatDoorRB
namespace Go.Proofs.YtjoogiabimiioaaGreatDoor
open Go.RowKit Go.ChangeShapes
theorem yieldsIf_build {P : Program} {ops : Array Oper} {S : World → Prop} {op : Oper} {a : Act} (hw : Region.wanted op (yielded ops a.tmps) = true) (t : TypeId) (parts : Array (Nat × Operand)) (ho : op.op = .build t parts)
    (cells : Array Value) (h : P.built t (parts.map fun (i, x) => (i, a.eval x)).toList = some cells) : YieldsIf P ops S op (.agg cells) a :=
  .inl ⟨hw, fun w hw' => by
    have := run_build (P := P) w t (parts.map fun (i, x) => (i, a.eval x)) cells h
    unfold execOp
    simp only [ho, Sem.run_bind, Sem.run_pure, Result.andThen_ok, this]⟩
theorem built46 (a b : ByteArray) : Tryz.prog.built 46 [(0, .string a), (1, .string b)] = some #[.string a, .string b] := by kernel_rfl
theorem built55 (a b c d e f g h : ByteArray) : Tryz.prog.built 55 [(0, .agg #[.string a, .string b]), (1, .agg #[.string c, .string d]), (2, .agg #[.string e, .string f]), (3, .agg #[.string g, .string h])] = some #[.string a, .string b, .string c, .string d, .string e, .string f, .string g, .string h] := by kernel_rfl
theorem built57 (a b : Int) : Tryz.prog.built 57 [(0, .int .i64 a), (1, .int .i64 b)] = some #[.int .i64 a, .int .i64 b] := by kernel_rfl
theorem size46 : (Tryz.prog.info? 46).map (·.size) = some 2 := by kernel_rfl
theorem row46_one (a b : ByteArray) : (#[.string a, .string b] : Array Value).all (·.oneCell') = true := by simp [Value.oneCell']
/-- The octets and the second draft beside what a walk carries. -/
structure Nc (w : World) (d2 : Array Value) (G : Nat) (l : List UInt8) (W : World) : Prop where
  z : Wz w W [(w.heap.size + 1, .cells d2 27)]
  o : Oc W G l
  lt : G < W.heap.size
theorem Nc.step {w W V : World} {d2 : Array Value} {G : Nat} {l : List UInt8} (h : Nc w d2 G l W) (hb : Below W.heap.size W V) : Nc w d2 G l V := ⟨h.z.step hb, h.o.below hb h.lt, Nat.lt_of_lt_of_le h.lt hb.size⟩
theorem Nc.text {w W : World} {d2 : Array Value} {G : Nat} {l : List UInt8} (h : Nc w d2 G l W) {n cap : Nat} (hn : l.length = n) : (convert 54 9 (.slice (some ⟨G, 0, none⟩) n cap)).run Tryz.prog W = .ok (.string (bs l)) W := by
  subst hn
  refine run_convert_bytes_back (P := Tryz.prog) W 54 9 5 ⟨G, 0, none⟩ cap l Tryz.underlying54 Tryz.underlying5 Tryz.underlying9 (fun j hj => ?_)
  rw [WideShapes.add_plain, Nat.zero_add, (h.o j hj).1, List.getD_eq_getElem?_getD, List.getElem?_eq_getElem hj]; rfl
/-- What Class and the reference say of any octets. -/
theorem class_both (A : ByteArray) : ∃ c e : Int, (∀ W, Calls Tryz.prog 26 #[.string A] W fun x w' => x = .returned (.tuple #[.int .i64 c, .int .i64 e]) ∧ Below W.heap.size W w') ∧
    (hostB A = true → e = 0 ∧ ∀ W, Calls Tryz.prog 27 #[.string A] W fun x w' => x = .returned (.int .i64 c) ∧ Below W.heap.size W w') ∧ (hostB A = false → c = 0 ∧ e = 2) := by
  by_cases h : hostB A = true
  · have hs : A.data.toList.length = 4 ∨ A.data.toList.length = 16 := by
      rcases host_size h with h | h
      · exact .inl h
      · exact .inr h
    refine ⟨(clsN A.data.toList : Int), 0, fun W => Class_yes A.data.toList W hs, fun _ => ⟨rfl, fun W => rClass_any A.data.toList W hs⟩, fun h2 => ?_⟩
    rw [h] at h2; cases h2
  · rw [Bool.not_eq_true] at h
    refine ⟨0, 2, fun W => Class_no A W h, fun h2 => ?_, fun _ => ⟨rfl, rfl⟩⟩
    rw [h] at h2; cases h2
set_option maxRecDepth 100000 in
set_option maxHeartbeats 16000000 in
theorem classes_true (R P : ByteArray) (bits : Int) (d1 d2 : Array Value) (at_ : Nat) (w : World) (hE : Env w) (h1 : isD d1) (h2 : isD d2) (hat : at_ < 256) (hlo : -9223372036854775808 ≤ bits) (hhi : bits ≤ 9223372036854775807) :
    Calls Tryz.prog 5 #[.string R, .string P, .int .i64 bits, .agg d1, .agg d2, .int .u8 (at_ : Int)] w fun e w' => e = .returned (.bool true) ∧ Below w.heap.size w w' := by
  have HW := Lib.hid (fun W (h : Env W) => works_true W h)
  have HZ := Lib.hid (((Wz.start hE).add1 (.cells d1 27) rfl).add1 (.cells d2 27) (n := w.heap.size + 1) (by simp))
  have hb1 := boxD h1
  have hb2 := boxD h2
  have hs1 := isD_size h1
  have hs2 := isD_size h2
  have A1 := Lib.hid (fun W => Addr_of h1 W)
  have A2 := Lib.hid (fun W => Addr_of h2 W)
  have HB := Lib.hid (And.intro hat (And.intro hlo hhi))
  have hfd := field0
  have WA := Lib.hid (w64_nat (x := at_) (by omega))
  clear h1 h2 hE hat hlo hhi
  go_enter Tryz.func5, Tryz.ntmps5
  go_upto_region 1 with fail
  generalize (w.alloc (.cells d1 27)).alloc (.cells d2 27) = V0 at HZ ⊢
  clear hb1 hb2
  go_upto_region 4 with (first
    | (go_at_call 10; (with_reducible refine (HW.out _ HZ.out.e).mono ?_); rintro e V ⟨rfl, hb⟩; (have HZ := Lib.hid (HZ.out.step hb)); clear hb)
    | (refine wpList_load_row rfl 27 _ rfl w.heap.size rfl 27 d1 (0, 0) _ HZ.out.tl.hd Tryz.underlying27 rfl hs1 ?_)
    | (go_at_call 12; (with_reducible refine (A1.out _).mono ?_); rintro e V1 ⟨⟨s1, p1, rfl, hl1, hp1⟩, hb⟩; (have HZ := Lib.hid (HZ.out.step hb)); clear hb))
  clear HW A1 hs1 hp1
  have HZ : Hid (Wz w V1 [(w.heap.size + 1, .cells d2 27)]) := Lib.hid ⟨HZ.out.b, HZ.out.e, fun x hx => HZ.out.k x (by rcases List.mem_cons.1 hx with rfl | h; exact .head _; cases h)⟩
  obtain ⟨z1, hz1⟩ : ∃ z, s1.length = z := ⟨_, rfl⟩
  have hS1 : (bs s1).size = z1 := hz1
  obtain ⟨cap, W1, hcap, hconv, hO1, hB1, hsz⟩ := bytes_made (bs s1) V1
  rw [hS1] at hconv
  rw [bs_data] at hO1
  have HNC : Hid (Nc w d2 V1.heap.size s1 W1) := Lib.hid ⟨HZ.out.step hB1, hO1, by omega⟩
  rw [hz1] at hl1
  have hzb : z1 ≤ 16 := by omega
  have hz0 : 0 < z1 := by omega
  obtain ⟨a8, ha8⟩ : ∃ q, at_ / 8 = q := ⟨_, rfl⟩
  obtain ⟨q, hq⟩ : ∃ q, a8 % z1 = q := ⟨_, rfl⟩
  obtain ⟨r, hr⟩ : ∃ r, at_ % 8 = r := ⟨_, rfl⟩
  have hqz : q < z1 := by rw [← hq]; exact Nat.mod_lt _ hz0
  have hqI : (q : Int) < (z1 : Int) := by omega
  have q1 : (at_ : Int) / 8 = (a8 : Int) := by omega
  have q2 : (at_ : Int).tdiv 8 = (a8 : Int) := by rw [Int.tdiv_eq_ediv_of_nonneg (by omega)]; omega
  obtain ⟨m1, m2⟩ := mods a8 z1 q hq
  obtain ⟨r1, r2⟩ := mods at_ 8 r hr
  change (at_ : Int) % 8 = (r : Int) at r1
  change (at_ : Int).tmod 8 = (r : Int) at r2
  have hzi : ((z1 : Int) == 0) = false := beq_false_of_ne (by omega)
  have hzj : ¬ (z1 : Int) = 0 := by omega
  have hr8 : r < 8 := by omega
  obtain ⟨x, hx⟩ : ∃ x, s1.getD q 0 = x := ⟨_, rfl⟩
  have hcx : W1.cell? ⟨V1.heap.size, q, none⟩ = some (.int .u8 (x.toNat : Int)) := by rw [← hx]; exact (HNC.out.o q (by omega)).1
  have hfx : W1.frozen? ⟨V1.heap.size, q, none⟩ = false := (HNC.out.o q (by omega)).2
  obtain ⟨y, hy⟩ : ∃ y : UInt8, UInt8.ofNat (2 ^ r) = y := ⟨_, rfl⟩
  have hyn : y.toNat = 2 ^ r := by rw [← hy]; exact UInt8.toNat_ofNat_of_lt' (pow_small _ (by omega))
  have hsh : (2 : Int) ^ min r 8 % 256 = (y.toNat : Int) := by
    rw [hyn]
    have h8 : r = 0 ∨ r = 1 ∨ r = 2 ∨ r = 3 ∨ r = 4 ∨ r = 5 ∨ r = 6 ∨ r = 7 := by omega
    rcases h8 with rfl | rfl | rfl | rfl | rfl | rfl | rfl | rfl <;> rfl
  have hsw : IntKind.u8.wrap (y.toNat : Int) = (y.toNat : Int) := u8_in y
  have hxo := c_xor8 x y
  have WQ := Lib.hid (w64_nat (x := a8) (by have := HB.out.1; omega))
  have HN2 : Hid (Nc w d2 V1.heap.size (s1.set q (x ^^^ y)) (W1.setCell ⟨V1.heap.size, q, none⟩ (by8 (x ^^^ y)))) := Lib.hid ⟨⟨below_setCell HNC.out.z.b HZ.out.b.size _ _, HZ.out.e.below (below_setCell hB1 (Nat.le_refl _) _ _), fun v hv => by
    rcases List.mem_cons.1 hv with rfl | h
    · have hlt := (Array.getElem?_eq_some_iff.1 HZ.out.hd).1
      exact (heap_setCell_other W1 _ _ _ (by show w.heap.size + 1 ≠ V1.heap.size; omega)).trans HNC.out.z.hd
    · cases h⟩, HNC.out.o.set q (x ^^^ y), by simp; exact HNC.out.lt⟩
  have hnl : (s1.set q (x ^^^ y)).length = z1 := by rw [List.length_set, hz1]
  have wa := WA.out
  have wq := WQ.out
  clear hO1 hB1 hcap hx hy hyn hq hr ha8 HNC HZ hl1 hqz hr8 hz0
  go_upto_region 6 with fail
  clear wa wq q1 q2 m1 m2 r1 r2 hcx hfx hsh hsw hxo hconv hzi hzj
  change Code.wp _ _ _ _ (W1.setCell ⟨V1.heap.size, q, none⟩ (by8 (x ^^^ y)))
  rw [WA.out]
  generalize W1.setCell ⟨V1.heap.size, q, none⟩ (by8 (x ^^^ y)) = W2 at *
  generalize s1.set q (x ^^^ y) = l2 at *
  have HN2 := Lib.hid (HN2.out.step (Below.refl _ _).drew)
  have HCU := Lib.hid cut_any
  refine region_anyC (fun w' => Nc w d2 V1.heap.size l2 w') (fun _ => True) [] (by kernel_rfl) ?_
  refine anyC_takeS (i := 0) (oi := ⟨some 45, _, _, _, _, _⟩) (v := _) rfl (by kernel_rfl) (by kernel_rfl) (by kernel_rfl) (by kernel_rfl) (fun _ _ _ h => h) (Or.inl ⟨by rfl, fun w' hw' => (by clear hw'; go_simp; try with_reducible rfl)⟩) HN2.out (fun _ => trivial) ?_
  try simp only [Act.put, List.setIfInBounds_toArray, List.set_cons_zero, List.set_cons_succ]
  refine anyC_takeS (i := 2) (oi := ⟨some 47, _, _, _, _, _⟩) (v := _) rfl (by kernel_rfl) (by kernel_rfl) (by kernel_rfl) (by kernel_rfl) (fun _ _ _ h => h) (Or.inl ⟨by rfl, fun w' hw' => (by clear hw'; go_simp; try with_reducible rfl)⟩) HN2.out (fun _ => trivial) ?_
  try simp only [Act.put, List.setIfInBounds_toArray, List.set_cons_zero, List.set_cons_succ]
  refine anyC_takeS (i := 5) (oi := ⟨some 50, _, _, _, _, _⟩) (v := _) rfl (by kernel_rfl) (by kernel_rfl) (by kernel_rfl) (by kernel_rfl) (fun _ _ _ h => h) (Or.inl ⟨by rfl, fun w' hw' => (by clear hw'; go_simp; try with_reducible rfl)⟩) HN2.out (fun _ => trivial) ?_
  try simp only [Act.put, List.setIfInBounds_toArray, List.set_cons_zero, List.set_cons_succ]
  refine anyC_takeS (i := 10) (oi := ⟨some 55, _, _, _, _, _⟩) (v := _) rfl (by kernel_rfl) (by kernel_rfl) (by kernel_rfl) (by kernel_rfl) (fun _ _ _ h => h) (Or.inl ⟨by rfl, fun w' hw' => (by clear hw'; go_simp; try with_reducible rfl)⟩) HN2.out (fun _ => trivial) ?_
  try simp only [Act.put, List.setIfInBounds_toArray, List.set_cons_zero, List.set_cons_succ]
  refine anyC_takeS (i := 11) (oi := ⟨some 56, _, _, _, _, _⟩) (v := _) rfl (by kernel_rfl) (by kernel_rfl) (by kernel_rfl) (by kernel_rfl) (fun _ _ _ h => h) (Or.inl ⟨by rfl, fun w' hw' => (by clear hw'; go_simp; try with_reducible rfl)⟩) HN2.out (fun _ => trivial) ?_
  try simp only [Act.put, List.setIfInBounds_toArray, List.set_cons_zero, List.set_cons_succ]
  refine anyC_takeS (i := 14) (oi := ⟨some 59, _, _, _, _, _⟩) (v := _) rfl (by kernel_rfl) (by kernel_rfl) (by kernel_rfl) (by kernel_rfl) (fun _ _ _ h => h) (Or.inl ⟨by rfl, fun w' hw' => (by clear hw'; go_simp; try with_reducible rfl)⟩) HN2.out (fun _ => trivial) ?_
  try simp only [Act.put, List.setIfInBounds_toArray, List.set_cons_zero, List.set_cons_succ]
  refine anyC_takeS (i := 15) (oi := ⟨some 60, _, _, _, _, _⟩) (v := _) rfl (by kernel_rfl) (by kernel_rfl) (by kernel_rfl) (by kernel_rfl) (fun _ _ _ h => h) (Or.inl ⟨by rfl, fun w' hw' => (by clear hw'; go_simp; try with_reducible rfl)⟩) HN2.out (fun _ => trivial) ?_
  try simp only [Act.put, List.setIfInBounds_toArray, List.set_cons_zero, List.set_cons_succ]
  refine anyC_takeS (i := 19) (oi := ⟨some 64, _, _, _, _, _⟩) (v := _) rfl (by kernel_rfl) (by kernel_rfl) (by kernel_rfl) (by kernel_rfl) (fun _ _ _ h => h) (Or.inl ⟨by rfl, fun w' hw' => (by clear hw'; go_simp; try with_reducible rfl)⟩) HN2.out (fun _ => trivial) ?_
  try simp only [Act.put, List.setIfInBounds_toArray, List.set_cons_zero, List.set_cons_succ]
  refine anyC_takeS (i := 6) (oi := ⟨some 51, _, _, _, _, _⟩) (v := _) rfl (by kernel_rfl) (by kernel_rfl) (by kernel_rfl) (by kernel_rfl) (fun _ _ _ h => h) (yields_row (by rfl) 27 _ rfl (w.heap.size + 1) rfl d2 27 _ (fun w' hw' => hw'.z.hd) Tryz.underlying27 rfl hs2) HN2.out (fun _ => trivial) ?_
  try simp only [Act.put, List.setIfInBounds_toArray, List.set_cons_zero, List.set_cons_succ]
  refine anyC_takeS (i := 12) (oi := ⟨some 57, _, _, _, _, _⟩) (v := _) rfl (by kernel_rfl) (by kernel_rfl) (by kernel_rfl) (by kernel_rfl) (fun _ _ _ h => h) (Or.inl ⟨by rfl, fun w' hw' => (by have hcv := hw'.text (n := z1) (cap := cap) hnl; clear hw'; go_simp; try with_reducible rfl)⟩) HN2.out (fun _ => trivial) ?_
  try simp only [Act.put, List.setIfInBounds_toArray, List.set_cons_zero, List.set_cons_succ]
  refine anyC_takeS (i := 13) (oi := ⟨some 58, _, _, _, _, _⟩) (v := _) rfl (by kernel_rfl) (by kernel_rfl) (by kernel_rfl) (by kernel_rfl) (fun _ _ _ h => h) (yieldsIf_build (by rfl) 46 _ rfl (#[.string (bs s1), .string (bs l2)]) (by rw [List.map_toArray]; exact built46 _ _)) HN2.out (fun _ => trivial) ?_
  try simp only [Act.put, List.setIfInBounds_toArray, List.set_cons_zero, List.set_cons_succ]
  refine anyC_keep (i := 1) (o := ⟨some 46, _, _, _, _, _⟩) (by kernel_rfl) rfl (fun K hK => ?_)
  rw [if_pos (by rfl)]
  go_wp2_with fail
  (with_reducible refine (HCU.out R _).mono ?_)
  rintro e Y1 ⟨⟨Z1, hZ1, rfl⟩, hb⟩
  have HN2 := Lib.hid (HN2.out.step hb)
  clear hb
  refine hK.out _ _ ⟨HN2.out, fun _ => trivial⟩ ?_
  clear hK K
  try simp only [Act.put, List.setIfInBounds_toArray, List.set_cons_zero, List.set_cons_succ]
  refine anyC_keep (i := 3) (o := ⟨some 48, _, _, _, _, _⟩) (by kernel_rfl) rfl (fun K hK => ?_)
  rw [if_pos (by rfl)]
  go_wp2_with fail
  (with_reducible refine (HCU.out P _).mono ?_)
  rintro e Y2 ⟨⟨Z2, hZ2, rfl⟩, hb⟩
  have HN2 := Lib.hid (HN2.out.step hb)
  clear hb
  refine hK.out _ _ ⟨HN2.out, fun _ => trivial⟩ ?_
  clear hK K
  try simp only [Act.put, List.setIfInBounds_toArray, List.set_cons_zero, List.set_cons_succ]
  refine anyC_takeS (i := 4) (oi := ⟨some 49, _, _, _, _, _⟩) (v := _) rfl (by kernel_rfl) (by kernel_rfl) (by kernel_rfl) (by kernel_rfl) (fun _ _ _ h => h) (yieldsIf_build (by rfl) 46 _ rfl (#[.string Z1, .string Z2]) (by rw [List.map_toArray]; exact built46 _ _)) HN2.out (fun _ => trivial) ?_
  try simp only [Act.put, List.setIfInBounds_toArray, List.set_cons_zero, List.set_cons_succ]
  refine anyC_keep (i := 7) (o := ⟨some 52, _, _, _, _, _⟩) (by kernel_rfl) rfl (fun K hK => ?_)
  rw [if_pos (by rfl)]
  go_wp2_with fail
  (with_reducible refine (A2.out _).mono ?_)
  rintro e Y3 ⟨⟨s2, p2, rfl, hl2, hp2⟩, hb⟩
  have HN2 := Lib.hid (HN2.out.step hb)
  clear hb
  refine hK.out _ _ ⟨HN2.out, fun _ => trivial⟩ ?_
  clear hK K
  try simp only [Act.put, List.setIfInBounds_toArray, List.set_cons_zero, List.set_cons_succ]
  refine anyC_takeS (i := 8) (oi := ⟨some 53, _, _, _, _, _⟩) (v := _) rfl (by kernel_rfl) (by kernel_rfl) (by kernel_rfl) (by kernel_rfl) (fun _ _ _ h => h) (Or.inl ⟨by rfl, fun w' hw' => (by clear hw'; go_simp; try with_reducible rfl)⟩) HN2.out (fun _ => trivial) ?_
  try simp only [Act.put, List.setIfInBounds_toArray, List.set_cons_zero, List.set_cons_succ]
  refine anyC_takeS (i := 9) (oi := ⟨some 54, _, _, _, _, _⟩) (v := _) rfl (by kernel_rfl) (by kernel_rfl) (by kernel_rfl) (by kernel_rfl) (fun _ _ _ h => h) (yieldsIf_build (by rfl) 46 _ rfl (#[.string (bs s1), .string (bs s2)]) (by rw [List.map_toArray]; exact built46 _ _)) HN2.out (fun _ => trivial) ?_
  try simp only [Act.put, List.setIfInBounds_toArray, List.set_cons_zero, List.set_cons_succ]
  refine anyC_keep (i := 16) (o := ⟨some 61, _, _, _, _, _⟩) (by kernel_rfl) rfl (fun K hK => ?_)
  rw [if_pos (by rfl)]
  go_wp2_with fail
  (with_reducible refine (HCU.out P _).mono ?_)
  rintro e Y4 ⟨⟨Z3, hZ3, rfl⟩, hb⟩
  have HN2 := Lib.hid (HN2.out.step hb)
  clear hb
  refine hK.out _ _ ⟨HN2.out, fun _ => trivial⟩ ?_
  clear hK K
  try simp only [Act.put, List.setIfInBounds_toArray, List.set_cons_zero, List.set_cons_succ]
  refine anyC_takeS (i := 17) (oi := ⟨some 62, _, _, _, _, _⟩) (v := _) rfl (by kernel_rfl) (by kernel_rfl) (by kernel_rfl) (by kernel_rfl) (fun _ _ _ h => h) (yieldsIf_build (by rfl) 46 _ rfl (#[.string (bs s1), .string Z3]) (by rw [List.map_toArray]; exact built46 _ _)) HN2.out (fun _ => trivial) ?_
  try simp only [Act.put, List.setIfInBounds_toArray, List.set_cons_zero, List.set_cons_succ]
  refine anyC_takeS (i := 18) (oi := ⟨some 63, _, _, _, _, _⟩) (v := _) rfl (by kernel_rfl) (by kernel_rfl) (by kernel_rfl) (by kernel_rfl) (fun _ _ _ h => h) (yieldsIf_build (by rfl) 55 _ rfl (#[.string Z1, .string Z2, .string (bs s1), .string (bs s2), .string (bs s1), .string (bs l2), .string (bs s1), .string Z3]) (by rw [List.map_toArray]; exact built55 _ _ _ _ _ _ _ _)) HN2.out (fun _ => trivial) ?_
  try simp only [Act.put, List.setIfInBounds_toArray, List.set_cons_zero, List.set_cons_succ]
  refine anyC_done (by kernel_rfl) ?_ _
  have HZ : Hid (Wz w Y4 []) := Lib.hid HN2.out.z.tl
  have hq1 : (bs s1).size ≤ 60 := by omega
  have hq2 : (bs s2).size ≤ 60 := by rw [bs_size]; omega
  have hq3 : (bs l2).size ≤ 60 := by rw [bs_size]; omega
  generalize bs s1 = S1 at *
  generalize bs s2 = S2 at *
  generalize bs l2 = S3 at *
  have HP : Hid (∀ k : Nat, k < 4 → ∃ A B : ByteArray, A.size ≤ 60 ∧ B.size ≤ 60 ∧ ∀ W, (Instr.index 55 (.agg #[.string Z1, .string Z2, .string S1, .string S2, .string S1, .string S3, .string S1, .string Z3]) (.int .i64 (k : Int))).run Tryz.prog W = .ok (.agg #[.string A, .string B]) W) := Lib.hid fun k hk => by
    have h4 : k = 0 ∨ k = 1 ∨ k = 2 ∨ k = 3 := by omega
    rcases h4 with rfl | rfl | rfl | rfl
    · exact ⟨Z1, Z2, hZ1, hZ2, fun W => by kernel_rfl⟩
    · exact ⟨S1, S2, hq1, hq2, fun W => by kernel_rfl⟩
    · exact ⟨S1, S3, hq1, hq3, fun W => by kernel_rfl⟩
    · exact ⟨S1, Z3, hq1, hZ3, fun W => by kernel_rfl⟩
  generalize (#[.string Z1, .string Z2, .string S1, .string S2, .string S1, .string S3, .string S1, .string Z3] : Array Value) = AR at *
  clear A2 HCU HN2 hZ1 hZ2 hZ3 hq1 hq2 hq3 hl2 hp2 hS1 hnl hz1 hzb hs2 hfd hqI
  have hz46 : ∀ W, (zeroValue 46).run Tryz.prog W = .ok (.agg #[.string ⟨#[]⟩, .string ⟨#[]⟩]) W := fun W => by kernel_rfl
  go_upto_region 7 with fail
  go_loopw [64] (fun i wr => ∃ k : Nat, k ≤ 4 ∧ i = .int .i64 (k : Int) ∧ Hid (Wz w wr [])) (fun i _ => 4 - (intOf i).toNat)
  case atStart => exact ⟨0, by omega, rfl, HZ⟩
  case round =>
    clear HZ
    obtain ⟨k, hk, rfl, HZ⟩ := hrel
    by_cases hlt : k < 4
    · have hki : (k : Int) < 4 := by omega
      obtain ⟨A, B, hA, hB, hix⟩ := HP.out k hlt
      obtain ⟨c, e, HC0, HC1, HC2⟩ := class_both A
      have HC := Lib.hid HC0
      have HD := Lib.hid (And.intro HC1 HC2)
      have HRH := Lib.hid rHost_any
      have HSZ := Lib.hid (And.intro hA hB)
      have HLT := Lib.hid hlt
      clear HC0 HC1 HC2 hA hB hlt hk
      go_upto_region 9 with fail
      clear hix hki
      change Code.wp _ _ _ _ (wr.alloc (.cells #[.string A, .string B] 46))
      have HZ := Lib.hid (HZ.out.add (.cells #[.string A, .string B] 46))
      have c0 := cell_of_row _ _ 0 _ 46 (0, 0) HZ.out.hd
      have c1 := cell_of_row _ _ 1 _ 46 (0, 0) HZ.out.hd
      generalize wr.alloc (.cells #[.string A, .string B] 46) = V2 at *
      generalize wr.heap.size = g at *
      go_upto_region 11 with (first
        | (go_at_call 26; (with_reducible refine (HC.out _).mono ?_); rintro x V3 ⟨rfl, hb⟩; (have HZ := Lib.hid (HZ.out.step hb)); (have c0 := cell_of_row _ _ 0 _ 46 (0, 0) HZ.out.hd); (have c1 := cell_of_row _ _ 1 _ 46 (0, 0) HZ.out.hd); clear hb)
        | (go_at_call 22; (with_reducible refine (HRH.out _ _).mono ?_); rintro x V4 ⟨rfl, rfl⟩))
      obtain ⟨hA, hAe⟩ : ∃ b, hostB A = b := ⟨_, rfl⟩
      rw [hAe] at HD ⊢
      go_cut [64, 99] from 64 to 160 (fun vi v wx => vi = .int .i64 (k : Int) ∧ v = .bool false ∧ Hid (Wz w wx [(g, .cells #[.string A, .string B] 46)]))
      case first =>
        rcases hA with _ | _
        · obtain ⟨rfl, rfl⟩ := HD.out.2 rfl
          go_wp2_with fail
          go_meet
          exact ⟨rfl, rfl, HZ⟩
        · obtain ⟨rfl, h27⟩ := HD.out.1 rfl
          have H27 := Lib.hid h27
          clear h27
          go_wp2_with (go_at_call 27; (with_reducible refine (H27.out _).mono ?_); rintro x V5 ⟨rfl, hb⟩; (have HZ := Lib.hid (HZ.out.step hb)); clear hb)
          go_meet
          exact ⟨rfl, rfl, HZ⟩
      case rest =>
      clear HZ HC HD c0 c1
      obtain ⟨rfl, rfl, HZ⟩ := hcut
      have c0 := cell_of_row _ _ 0 _ 46 (0, 0) HZ.out.hd
      have c1 := cell_of_row _ _ 1 _ 46 (0, 0) HZ.out.hd
      obtain ⟨m, hm⟩ : ∃ m, at_ % (8 * B.size + 1) = m := ⟨_, rfl⟩
      have HM := Lib.hid (mods at_ (8 * B.size + 1) m hm)
      rw [show ((8 * B.size + 1 : Nat) : Int) = 8 * (B.size : Int) + 1 by omega] at HM
      have hmb : m ≤ 8 * B.size := by have := Nat.mod_lt at_ (show 0 < 8 * B.size + 1 by omega); omega
      obtain ⟨zb, hzb⟩ : ∃ z, B.size = z := ⟨_, rfl⟩
      have HZB := Lib.hid hzb
      have hzl : zb ≤ 60 := by have := HSZ.out.2; omega
      rw [hzb] at HM hmb
      have hk1 := HM.out.1
      have hk2 := HM.out.2
      have wa := WA.out
      have hbu := built57
      clear hm
      go_upto_region 14 with (refine wpList_buildTo (o := ⟨some 109, _, _, _, _, _⟩) rfl 57 _ rfl (some 109) rfl (#[.int .i64 bits, .int .i64 (m : Int)]) (by simp only [List.map_toArray, List.map_cons, List.map_nil]; exact built57 _ _) ?_)
      clear hk1 hk2 wa hbu c0 c1
      have HNN : Hid (∀ k2 : Nat, k2 < 2 → ∃ n : Int, -9223372036854775808 ≤ n ∧ n ≤ 9223372036854775807 ∧ ∀ W, (Instr.index 57 (.agg #[.int .i64 bits, .int .i64 (m : Int)]) (.int .i64 (k2 : Int))).run Tryz.prog W = .ok (.int .i64 n) W) := Lib.hid fun k2 h => by
        have h2 : k2 = 0 ∨ k2 = 1 := by omega
        rcases h2 with rfl | rfl
        · exact ⟨bits, HB.out.2.1, HB.out.2.2, fun W => by kernel_rfl⟩
        · exact ⟨(m : Int), by omega, by omega, fun W => by kernel_rfl⟩
      generalize (#[.int .i64 bits, .int .i64 (m : Int)] : Array Value) = AN at *
      clear hmb hzl hzb
      go_loopw [110] (fun i wr => ∃ k2 : Nat, k2 ≤ 2 ∧ i = .int .i64 (k2 : Int) ∧ Hid (Wz w wr [(g, .cells #[.string A, .string B] 46)])) (fun i _ => 2 - (intOf i).toNat)
      case atStart => exact ⟨0, by omega, rfl, HZ⟩
      case round =>
        clear HZ
        obtain ⟨k2, hk2, rfl, HZ⟩ := hrel
        by_cases hlt2 : k2 < 2
        · obtain ⟨n, hnl, hnh, hix⟩ := HNN.out k2 hlt2
          have hk2i : (k2 : Int) < 2 := by omega
          have HLT2 := Lib.hid hlt2
          have c0 := cell_of_row _ _ 0 _ 46 (0, 0) HZ.out.hd
          have c1 := cell_of_row _ _ 1 _ 46 (0, 0) HZ.out.hd
          have hsB : B.size ≤ 1000 := by have := HSZ.out.2; omega
          have hsA : A.size ≤ 1000 := by have := HSZ.out.1; omega
          have hzb := HZB.out
          have hzl : zb ≤ 60 := by have := HSZ.out.2; omega
          obtain ⟨hB, hBe⟩ : ∃ b, hostB B = b := ⟨_, rfl⟩
          clear hlt2 hk2
          by_cases hv : hA = true ∧ hB = true ∧ 0 ≤ n ∧ n ≤ 8 * (zb : Int)
          · obtain ⟨rfl, rfl, hn0, hn1⟩ := hv
            obtain ⟨m2, rfl⟩ := Int.eq_ofNat_of_zero_le hn0
            have HWN := Lib.hid (fun W => Within_yes A B m2 W hAe hBe (by omega))
            have HRW := Lib.hid (fun W => rWithin_any A B m2 W (by omega) hsB hsA)
            have g1 : ¬ (m2 : Int) < 0 := by omega
            have g2 : ¬ 8 * (zb : Int) < (m2 : Int) := by omega
            clear hnl hnh hsB hsA hn0 hn1
            generalize wiB A B m2 = bw at *
            rcases bw with _ | _
            all_goals
              go_wp2_with (first
            | (go_at_call 28; (with_reducible refine (HWN.out _).mono ?_); rintro x V6 ⟨rfl, hb⟩; (have HZ := Lib.hid (HZ.out.step hb)); (have c0 := cell_of_row _ _ 0 _ 46 (0, 0) HZ.out.hd); (have c1 := cell_of_row _ _ 1 _ 46 (0, 0) HZ.out.hd); clear hb)
            | (go_at_call 22; (with_reducible refine (HRH.out _ _).mono ?_); rintro x V7 ⟨rfl, rfl⟩)
            | (go_at_call 29; (with_reducible refine (HRW.out _).mono ?_); rintro x V8 ⟨rfl, rfl⟩))
              exact ⟨⟨k2 + 1, by have := HLT2.out; omega, by go_num, HZ⟩, by have := HLT2.out; simp [intOf]; omega⟩
          · have HWN := Lib.hid (fun W => Within_no A B n W hnl hnh hsB (by
              rcases Bool.eq_false_or_eq_true (hostB A) with h1 | h1
              · rcases Bool.eq_false_or_eq_true (hostB B) with h2 | h2
                · by_cases h3 : n < 0
                  · exact .inr (.inr (.inl h3))
                  · by_cases h4 : 8 * (B.size : Int) < n
                    · exact .inr (.inr (.inr h4))
                    · exact absurd ⟨hAe.symm.trans h1, hBe.symm.trans h2, by omega, by omega⟩ hv
                · exact .inr (.inl h2)
              · exact .inl h1))
            clear hsB hsA hnl hnh
            rcases hA with _ | _
            · clear hv
              go_wp2_with (first
            | (go_at_call 28; (with_reducible refine (HWN.out _).mono ?_); rintro x V6 ⟨rfl, hb⟩; (have HZ := Lib.hid (HZ.out.step hb)); (have c0 := cell_of_row _ _ 0 _ 46 (0, 0) HZ.out.hd); (have c1 := cell_of_row _ _ 1 _ 46 (0, 0) HZ.out.hd); clear hb)
            | (go_at_call 22; (with_reducible refine (HRH.out _ _).mono ?_); rintro x V7 ⟨rfl, rfl⟩))
              exact ⟨⟨k2 + 1, by have := HLT2.out; omega, by go_num, HZ⟩, by have := HLT2.out; simp [intOf]; omega⟩
            · rcases hB with _ | _
              · clear hv
                go_wp2_with (first
            | (go_at_call 28; (with_reducible refine (HWN.out _).mono ?_); rintro x V6 ⟨rfl, hb⟩; (have HZ := Lib.hid (HZ.out.step hb)); (have c0 := cell_of_row _ _ 0 _ 46 (0, 0) HZ.out.hd); (have c1 := cell_of_row _ _ 1 _ 46 (0, 0) HZ.out.hd); clear hb)
            | (go_at_call 22; (with_reducible refine (HRH.out _ _).mono ?_); rintro x V7 ⟨rfl, rfl⟩))
                exact ⟨⟨k2 + 1, by have := HLT2.out; omega, by go_num, HZ⟩, by have := HLT2.out; simp [intOf]; omega⟩
              · by_cases h3 : n < 0
                · clear hv
                  go_wp2_with (first
            | (go_at_call 28; (with_reducible refine (HWN.out _).mono ?_); rintro x V6 ⟨rfl, hb⟩; (have HZ := Lib.hid (HZ.out.step hb)); (have c0 := cell_of_row _ _ 0 _ 46 (0, 0) HZ.out.hd); (have c1 := cell_of_row _ _ 1 _ 46 (0, 0) HZ.out.hd); clear hb)
            | (go_at_call 22; (with_reducible refine (HRH.out _ _).mono ?_); rintro x V7 ⟨rfl, rfl⟩))
                  exact ⟨⟨k2 + 1, by have := HLT2.out; omega, by go_num, HZ⟩, by have := HLT2.out; simp [intOf]; omega⟩
                · have h4 : 8 * (zb : Int) < n := Int.not_le.1 fun h => hv ⟨rfl, rfl, by omega, h⟩
                  clear hv
                  go_wp2_with (first
            | (go_at_call 28; (with_reducible refine (HWN.out _).mono ?_); rintro x V6 ⟨rfl, hb⟩; (have HZ := Lib.hid (HZ.out.step hb)); (have c0 := cell_of_row _ _ 0 _ 46 (0, 0) HZ.out.hd); (have c1 := cell_of_row _ _ 1 _ 46 (0, 0) HZ.out.hd); clear hb)
            | (go_at_call 22; (with_reducible refine (HRH.out _ _).mono ?_); rintro x V7 ⟨rfl, rfl⟩))
                  exact ⟨⟨k2 + 1, by have := HLT2.out; omega, by go_num, HZ⟩, by have := HLT2.out; simp [intOf]; omega⟩
        · obtain rfl : k2 = 2 := by omega
          have HZ : Hid (Wz w wr []) := Lib.hid HZ.out.tl
          have hlt := HLT.out
          go_wp2_with fail
          refine ⟨?_, ?_⟩
          · exact ⟨k + 1, by have := HLT.out; omega, by go_num, HZ⟩
          · show 4 - (intOf (.int .i64 ((k : Int) + 1))).toNat < 4 - (intOf (.int .i64 (k : Int))).toNat
            simp [intOf]; omega
    · obtain rfl : k = 4 := by omega
      go_wp2
      go_ret
      exact ⟨rfl, HZ.out.b⟩
end Go.Proofs.YtjoogiabimiioaaGreatDoor
