/- Structs by value among a law's arguments: their cells. -/
import Derived.Test.YtjoogiabimiioaaGreatDoorLA
import Derived.Test.YtjoogiabimiioaaGreatDoorPJ
import Derived.Carry
namespace Go.Proofs.YtjoogiabimiioaaGreatDoor
open Go Go.ChangeShapes Go.WideShapes Go.ChangeAt Go.RowKit
set_option maxRecDepth 100000
section
variable {W : World} {base : Nat} {v : Value} {t : TypeId} {fs : Array Field}
theorem row_cells (ts : List TypeId) (hu : Tryz.prog.underlying t = some (.struct fs)) (hc : Tryz.prog.cellTypes Tryz.prog.depth t = some ts) (hn : Tryz.prog.cellsOf t = ts.length) (h : Value.okWide Tryz.prog W .any base t v) :
    ∃ cs : Array Value, v = .agg cs ∧ cs.size = ts.length ∧ ∀ (i : Nat) (u : TypeId), ts[i]? = some u → ∃ x, cs[i]? = some x ∧ Cell.okWide Tryz.prog W .any base u x := by
  simp only [Value.okWide, hu] at h
  obtain ⟨cs, h1, h2, ts', h3, _, h4⟩ := h
  obtain rfl : ts = ts' := Option.some.inj (hc.symm.trans h3)
  refine ⟨cs, h1, h2.trans hn, fun i u hi => ?_⟩
  have hlt : i < ts.length := (List.getElem?_eq_some_iff.1 hi).1
  have hlt2 : i < cs.size := by omega
  obtain ⟨u', hu', hok⟩ := h4 i cs[i] (Array.getElem?_eq_getElem hlt2)
  rw [Nat.mod_eq_of_lt hlt, hi] at hu'
  cases hu'
  exact ⟨cs[i], Array.getElem?_eq_getElem hlt2, hok⟩
theorem cell_int {k : IntKind} {x : Value} (hu : Tryz.prog.underlying t = some (.int k)) (h : Cell.okWide Tryz.prog W .any base t x) : ∃ n, x = .int k n ∧ k.has n := by
  simp only [Cell.okWide, hu] at h
  cases x <;> simp_all [Cell.ok]
theorem cell_bool {x : Value} (hu : Tryz.prog.underlying t = some .bool) (h : Cell.okWide Tryz.prog W .any base t x) : ∃ b, x = .bool b := by
  simp only [Cell.okWide, hu] at h
  cases x <;> simp_all [Cell.ok]
theorem cell_str {x : Value} (hu : Tryz.prog.underlying t = some .string) (h : Cell.okWide Tryz.prog W .any base t x) : ∃ s, x = .string s ∧ (s.size : Int) ≤ 9223372036854775807 := by
  simp only [Cell.okWide, hu] at h
  cases x <;> simp_all [Cell.ok, IntKind.max, IntKind.signed, IntKind.bits]
end
theorem u16_nat {n : Int} (h : IntKind.u16.has n) : ∃ m : Nat, n = (m : Int) ∧ m < 65536 := by
  have h1 : 0 ≤ n ∧ n ≤ 65535 := by simpa [IntKind.has, IntKind.min, IntKind.max, IntKind.signed, IntKind.bits] using h
  exact ⟨n.toNat, by omega, by omega⟩
theorem u8_nat {n : Int} (h : IntKind.u8.has n) : ∃ m : Nat, n = (m : Int) ∧ m < 256 := by
  have h1 : 0 ≤ n ∧ n ≤ 255 := by simpa [IntKind.has, IntKind.min, IntKind.max, IntKind.signed, IntKind.bits] using h
  exact ⟨n.toNat, by omega, by omega⟩
theorem arr_ten {cs : Array Value} (h : cs.size = 10) {a b c d e f g i j k : Value} (h0 : cs[0]? = some a) (h1 : cs[1]? = some b) (h2 : cs[2]? = some c) (h3 : cs[3]? = some d) (h4 : cs[4]? = some e) (h5 : cs[5]? = some f) (h6 : cs[6]? = some g) (h7 : cs[7]? = some i) (h8 : cs[8]? = some j) (h9 : cs[9]? = some k) :
    cs = #[a, b, c, d, e, f, g, i, j, k] := by
  apply Array.ext_getElem?
  intro n
  match n with
  | 0 => exact h0
  | 1 => exact h1
  | 2 => exact h2
  | 3 => exact h3
  | 4 => exact h4
  | 5 => exact h5
  | 6 => exact h6
  | 7 => exact h7
  | 8 => exact h8
  | 9 => exact h9
  | n + 10 => rw [Array.getElem?_eq_none (by omega), Array.getElem?_eq_none (by simp)]
theorem draft_of {W : World} {base : Nat} {v : Value} (h : Value.okWide Tryz.prog W .any base 27 v) : ∃ cs, v = .agg cs ∧ isD cs := by
  obtain ⟨cs, rfl, hsz, hc⟩ := row_cells [4, 24, 24, 24, 24, 24, 24, 24, 24, 24] Tryz.underlying27 (by kernel_rfl) (by kernel_rfl) h
  obtain ⟨x0, e0, k0⟩ := hc 0 4 rfl
  obtain ⟨b, rfl⟩ := cell_bool Tryz.underlying4 k0
  obtain ⟨x1, e1, k1⟩ := hc 1 24 rfl
  obtain ⟨n1, rfl, l1⟩ := cell_int Tryz.underlying24 k1
  obtain ⟨m1, rfl, b1⟩ := u16_nat l1
  obtain ⟨x2, e2, k2⟩ := hc 2 24 rfl
  obtain ⟨n2, rfl, l2⟩ := cell_int Tryz.underlying24 k2
  obtain ⟨m2, rfl, b2⟩ := u16_nat l2
  obtain ⟨x3, e3, k3⟩ := hc 3 24 rfl
  obtain ⟨n3, rfl, l3⟩ := cell_int Tryz.underlying24 k3
  obtain ⟨m3, rfl, b3⟩ := u16_nat l3
  obtain ⟨x4, e4, k4⟩ := hc 4 24 rfl
  obtain ⟨n4, rfl, l4⟩ := cell_int Tryz.underlying24 k4
  obtain ⟨m4, rfl, b4⟩ := u16_nat l4
  obtain ⟨x5, e5, k5⟩ := hc 5 24 rfl
  obtain ⟨n5, rfl, l5⟩ := cell_int Tryz.underlying24 k5
  obtain ⟨m5, rfl, b5⟩ := u16_nat l5
  obtain ⟨x6, e6, k6⟩ := hc 6 24 rfl
  obtain ⟨n6, rfl, l6⟩ := cell_int Tryz.underlying24 k6
  obtain ⟨m6, rfl, b6⟩ := u16_nat l6
  obtain ⟨x7, e7, k7⟩ := hc 7 24 rfl
  obtain ⟨n7, rfl, l7⟩ := cell_int Tryz.underlying24 k7
  obtain ⟨m7, rfl, b7⟩ := u16_nat l7
  obtain ⟨x8, e8, k8⟩ := hc 8 24 rfl
  obtain ⟨n8, rfl, l8⟩ := cell_int Tryz.underlying24 k8
  obtain ⟨m8, rfl, b8⟩ := u16_nat l8
  obtain ⟨x9, e9, k9⟩ := hc 9 24 rfl
  obtain ⟨n9, rfl, l9⟩ := cell_int Tryz.underlying24 k9
  obtain ⟨m9, rfl, b9⟩ := u16_nat l9
  exact ⟨cs, rfl, b, m1, m2, m3, m4, m5, m6, m7, m8, m9, ⟨b1, b2, b3, b4, b5, b6, b7, b8, b9⟩, arr_ten hsz e0 e1 e2 e3 e4 e5 e6 e7 e8 e9⟩
/-- Arguments read behind a call as they read before. -/
theorem below_all {H : Type} {enc : TypeId × Value → H} {W W' : World} (hb : Below W.heap.size W W') :
    ∀ {ts : List TypeId} {vs : List Value} {ds : List (DataW H)} {ps : List MemPlace}, (∀ t ∈ ts, Tryz.prog.readableRec t = true ∧ t < Tryz.prog.types.size) → (∀ x ∈ ps, x.block < W.heap.size) → DataW.TrodAll enc Tryz.prog W 0 (fun _ => true) true ts vs ds ps →
      DataW.TrodAll enc Tryz.prog W' 0 (fun b => decide (b < W.heap.size)) true ts vs ds ps
  | [], [], [], _, _, _, h => h
  | [], [], _ :: _, _, _, _, h => h.elim
  | [], _ :: _, [], _, _, _, h => h.elim
  | [], _ :: _, _ :: _, _, _, _, h => h.elim
  | _ :: _, [], [], _, _, _, h => h.elim
  | _ :: _, [], _ :: _, _, _, _, h => h.elim
  | _ :: _, _ :: _, [], _, _, _, h => h.elim
  | t :: ts, v :: vs, d :: ds, _, hr, hlt, ⟨p, p', h, hs, e⟩ => by
    subst e
    exact ⟨p, p', Below.trod (by kernel_rfl) (hr t (.head _)).1 (hr t (.head _)).2 h hb (fun x hx => hlt x (List.mem_append_left _ hx)), below_all hb (fun t ht => hr t (.tail _ ht)) (fun x hx => hlt x (List.mem_append_right _ hx)) hs, rfl⟩
theorem readable_all (ts : List TypeId) (h : (ts.all fun t => Tryz.prog.readableRec t && decide (t < Tryz.prog.types.size)) = true) : ∀ t ∈ ts, Tryz.prog.readableRec t = true ∧ t < Tryz.prog.types.size := fun t ht => by
  have := List.all_eq_true.1 h t ht
  rw [Bool.and_eq_true, decide_eq_true_eq] at this
  exact this
end Go.Proofs.YtjoogiabimiioaaGreatDoor
