/- The examples; the laws' closures; what the walks of the laws carry. -/
import Derived.Test.YtnfefkcfifnjnaaDoorZD
import Derived.Test.YtnfefkcfifnjnaaDoorShelf
namespace Go.Proofs.YtnfefkcfifnjnaaDoor
open Go.RowKit Go.ChangeShapes
theorem bstep {w W W' : World} (hB : Below w.heap.size w W) (h : Below W.heap.size W W') : Below w.heap.size w W' := hB.trans (h.mono hB.size)
theorem bstep1 {w W : World} {o : Obj} (hB : Below w.heap.size w W) : Below w.heap.size w (W.alloc o) := hB.alloc hB.size o
/-- A call in a world that has one more block, of one cell. -/
theorem pstep {W W' : World} {x : Value} {t : TypeId} (h : Below (W.alloc (.cells #[x] t)).heap.size (W.alloc (.cells #[x] t)) W') :
    W'.cell? ⟨W.heap.size, 0, none⟩ = some x ∧ Below W.heap.size W W' := by
  refine ⟨(h.cell (p := ⟨W.heap.size, 0, none⟩) (by simp)).trans ?_, ?_⟩
  · simp
  · exact (bstep1 (Below.refl _ _)).trans (h.mono (by simp))
theorem bel_of_drew {W W' : World} (h : Below W.drew.heap.size W.drew W') : Below W.heap.size W W' := (Below.refl _ W).drew.trans h
theorem ret_b {a b : Bool} (h : a = b) : Ending.returned (.bool a) = .returned (.bool b) := by rw [h]
set_option maxHeartbeats 400000 in
theorem same_any (s : ByteArray) (w : World) :
    Calls Tryd.prog 63 #[.string s] w fun e w' => e = .returned (.func (.func 89) #[] #[.pointer (some ⟨w.heap.size, 0, none⟩)]) ∧ w' = w.alloc (.cells #[.string s] 9) := by
  have hmf : ∀ (fn : Fn) (first cap : Array Value) (w : World), (Instr.makeFunc fn first cap).run Tryd.prog w = .ok (.func fn first cap) w := fun _ _ _ _ => rfl
  go_enter Tryd.func63, Tryd.ntmps63
  go_wp2
  go_ret
  exact ⟨rfl, rfl⟩
set_option maxHeartbeats 400000 in
theorem fails_any (n : Int) (w : World) :
    Calls Tryd.prog 64 #[.int .i64 n] w fun e w' => e = .returned (.func (.func 90) #[] #[.pointer (some ⟨w.heap.size, 0, none⟩)]) ∧ w' = w.alloc (.cells #[.int .i64 n] 28) := by
  have hmf : ∀ (fn : Fn) (first cap : Array Value) (w : World), (Instr.makeFunc fn first cap).run Tryd.prog w = .ok (.func fn first cap) w := fun _ _ _ _ => rfl
  go_enter Tryd.func64, Tryd.ntmps64
  go_wp2
  go_ret
  exact ⟨rfl, rfl⟩
set_option maxHeartbeats 400000 in
theorem same1_yes (s : ByteArray) (p : Addr) (w : World) (hp : w.cell? p = some (.string s)) :
    Calls Tryd.prog 89 #[.string s, .int .i64 0, .pointer (some p)] w fun e w' => e = .returned (.bool true) ∧ w = w' := by
  go_enter Tryd.func89, Tryd.ntmps89
  go_wp2
  go_ret
  exact ⟨ret_b (by simp), rfl⟩
set_option maxHeartbeats 400000 in
theorem fails1_yes (n : Int) (p : Addr) (w : World) (hp : w.cell? p = some (.int .i64 n)) :
    Calls Tryd.prog 90 #[.string ⟨#[]⟩, .int .i64 n, .pointer (some p)] w fun e w' => e = .returned (.bool true) ∧ w = w' := by
  go_enter Tryd.func90, Tryd.ntmps90
  go_wp2
  go_ret
  exact ⟨ret_b (by simp), rfl⟩
/-- What a walk carries from world to world: old memory, the digits, and blocks that stay. -/
structure Wk (w W : World) (ps : List (Nat × Obj)) : Prop where
  b : Below w.heap.size w W
  d : Digits W
  k : ∀ x ∈ ps, W.heap[x.1]? = some x.2
theorem Wk.start {w : World} (hD : Digits w) : Wk w w [] := ⟨Below.refl _ _, hD, fun _ h => absurd h List.not_mem_nil⟩
theorem Wk.step {w W V : World} {ps : List (Nat × Obj)} (h : Wk w W ps) (hb : Below W.heap.size W V) : Wk w V ps :=
  ⟨bstep h.b hb, h.d.below (w := W) (by exact hb), fun x hx => (hb.block x.1 (Array.getElem?_eq_some_iff.1 (h.k x hx)).1).trans (h.k x hx)⟩
theorem Wk.alloc {w W : World} {ps : List (Nat × Obj)} (h : Wk w W ps) (o : Obj) : Wk w (W.alloc o) ps := h.step ((Below.refl _ W).alloc (Nat.le_refl _) o)
theorem Wk.drew {w W : World} {ps : List (Nat × Obj)} (h : Wk w W ps) : Wk w W.drew ps := h.step ((Below.refl _ W).drew)
/-- A block of one cell beside what stays: its cell, behind a call. -/
theorem Wk.cell1 {w W V : World} {ps : List (Nat × Obj)} {x : Value} {t : TypeId} (h : Wk w W ps) (hb : Below (W.alloc (.cells #[x] t)).heap.size (W.alloc (.cells #[x] t)) V) : Wk w V ps ∧ V.cell? ⟨W.heap.size, 0, none⟩ = some x ∧ W.heap.size < V.heap.size :=
  ⟨h.step (pstep hb).2, (pstep hb).1, Nat.lt_of_lt_of_le (by simp) hb.size⟩
theorem Wk.keep1 {w W V : World} {ps : List (Nat × Obj)} {x : Value} {g : Nat} (h : Wk w W ps) (hp : W.cell? ⟨g, 0, none⟩ = some x) (hz : g < W.heap.size) (hb : Below W.heap.size W V) : Wk w V ps ∧ V.cell? ⟨g, 0, none⟩ = some x ∧ g < V.heap.size :=
  ⟨h.step hb, (hb.cell (p := ⟨g, 0, none⟩) hz).trans hp, Nat.lt_of_lt_of_le hz hb.size⟩
theorem Wk.cell2 {w W V : World} {ps : List (Nat × Obj)} {x : Value} {t : TypeId} (h : Wk w W ps) (hb : Below ((W.alloc (.cells #[x] t)).drew).heap.size ((W.alloc (.cells #[x] t)).drew) V) : Wk w V ps ∧ V.cell? ⟨W.heap.size, 0, none⟩ = some x ∧ W.heap.size < V.heap.size := h.cell1 (bel_of_drew hb)
theorem rep_cons (c : UInt8) (n : Nat) : Lib.repeatL [c] n = List.replicate n c := by
  induction n with
  | zero => rfl
  | succ n ih => rw [Lib.repeatL, ih]; rfl
/-- One octet, n times. -/
def rp (c : UInt8) (n : Nat) : ByteArray := bs (List.replicate n c)
theorem rp_size (c : UInt8) (n : Nat) : (rp c n).size = n := by unfold rp; rw [bs_size, List.length_replicate]
theorem repeat_any (c : UInt8) (n : Nat) (w : World) (hn : n ≤ 140737488355328) :
    Calls Tryd.prog 30 #[.string ⟨#[c]⟩, .int .i64 n] w fun e w' => e = .returned (.string (rp c n)) ∧ Below w.heap.size w w' := by
  have h := Tryd.strings_Repeat ⟨#[c]⟩ n w (by omega) (by show 1 * n ≤ _; omega)
  rw [show (⟨#[c]⟩ : ByteArray).data.toList = [c] from rfl, rep_cons] at h
  exact h
def KEY : List UInt8 := [0, 1, 2, 3, 4, 5, 6, 7, 8, 9, 10, 11, 12, 13, 14, 15, 16, 17, 18, 19, 20, 21, 22, 23, 24, 25, 26, 27, 28, 29, 30, 31]
def NONL : List UInt8 := [0, 0, 0, 9, 0, 0, 0, 74, 0, 0, 0, 0]
theorem keyT (k : Nat) (h : k < 32) : KEY.take (k + 1) = KEY.take k ++ [UInt8.ofNat k] := by
  match k, h with
  | 0, _ | 1, _ | 2, _ | 3, _ | 4, _ | 5, _ | 6, _ | 7, _ | 8, _ | 9, _ | 10, _ | 11, _ | 12, _ | 13, _ | 14, _ | 15, _ | 16, _ | 17, _ | 18, _ | 19, _ | 20, _ | 21, _ | 22, _ | 23, _ | 24, _ | 25, _ | 26, _ | 27, _ | 28, _ | 29, _ | 30, _ | 31, _ => rfl
  | n + 32, h => exact absurd h (by omega)
set_option maxRecDepth 100000 in
set_option maxHeartbeats 1000000 in
theorem keys_any (w : World) : Calls Tryd.prog 61 #[] w fun e w' => e = .returned (.tuple #[.string (bs KEY), .string ⟨#[0, 0, 0, 9, 0, 0, 0, 74, 0, 0, 0, 0]⟩]) ∧ Below w.heap.size w w' := by
  obtain ⟨i0, hi, hz0, hz1, hz2⟩ := info_parts info5
  go_enter Tryd.func61, Tryd.ntmps61
  go_wp2
  go_loopw [2, 4] (fun v i wr => ∃ k : Nat, k ≤ 32 ∧ i = .int .i64 k ∧ Hid (wr.ownsRow w.heap.size 5 1 v k (byC (KEY.take k))) ∧ Hid (Below w.heap.size w wr)) (fun _ i _ => 32 - (intOf i).toNat)
  case atStart => exact ⟨0, by omega, rfl, Lib.hid (World.ownsRow_nil _ _ _ _), Lib.hid (Below.refl _ _)⟩
  case round =>
    obtain ⟨k, hk, rfl, HO, HB⟩ := hrel
    by_cases hlt : k < 32
    · have hz := HB.out.size
      have hu : IntKind.u8.wrap (k : Int) = (k : Int) := by rw [IntKind.wrap_u8']; omega
      go_wp2_with (first | (at_builtin; refine wpList_append_own _ rfl _ _ 25 rfl w.heap.size 5 i0 (.int .u8 0) 1 1 Tryd.underlying25 hi hz0 hz1 hz2 rfl (by decide) _ k _ rfl (HO.out.alloc _) ⟨wr.heap.size, 0, none⟩ 1 1 [.int .u8 (k : Int)] rfl rfl ?_ ?_ ?_ ?_ ?_ ?_; exact World.news_of_block (cs := #[.int .u8 (k : Int)]) (t := 5) (fr := (0, 0)) (heap_alloc_new wr _); (simp [Value.oneCell']); (unfold maxLen; omega); omega; (simp; omega); intro v2 w3 hown3 hg3 _))
      have hrow : byC (KEY.take k) ++ [.int .u8 (k : Int)] = byC (KEY.take (k + 1)) := by
        rw [keyT k hlt, ← byC_append]
        have : ((UInt8.ofNat k).toNat : Int) = (k : Int) := by rw [UInt8.toNat_ofNat']; omega
        simp [byC]; omega
      rw [hrow] at hown3
      have hB3 : Below w.heap.size w w3 := (HB.out.alloc hz _).grown hg3 (by simp; omega) (fun g hg => (HO.out.lt g hg).1)
      have HO3 := Lib.hid hown3
      have HB3 := Lib.hid hB3
      clear hrow hown3 hg3 hB3 hu
      go_wp2
      go_roundw
      case rel => exact ⟨k + 1, by omega, by go_num, HO3, HB3⟩
      case measure => simp [intOf]; omega
    · obtain rfl : k = 32 := by omega
      have hcv := string_of_own (w := wr) (l := KEY) (by have := HO.out; exact this)
      go_wp2
      go_ret2
      exact ⟨rfl, HB.out⟩
theorem blk_ex : blockO KEY NONL 1 = [16, 241, 231, 228, 209, 59, 89, 21, 80, 15, 221, 31, 163, 32, 113, 196, 199, 209, 244, 199, 51, 192, 104, 3, 4, 34, 170, 154, 195, 212, 108, 78, 210, 130, 100, 70, 7, 159, 170, 9, 20, 194, 215, 5, 217, 139, 2, 162, 181, 18, 156, 209, 222, 22, 78, 185, 203, 208, 131, 232, 162, 80, 60, 78] := by decide +kernel
theorem kBlock (w : World) : Calls Tryd.prog 26 #[.string (bs KEY), .string ⟨#[0, 0, 0, 9, 0, 0, 0, 74, 0, 0, 0, 0]⟩, .int .i64 1] w fun e w' => e = .returned (.tuple #[.string ⟨#[16, 241, 231, 228, 209, 59, 89, 21, 80, 15, 221, 31, 163, 32, 113, 196, 199, 209, 244, 199, 51, 192, 104, 3, 4, 34, 170, 154, 195, 212, 108, 78, 210, 130, 100, 70, 7, 159, 170, 9, 20, 194, 215, 5, 217, 139, 2, 162, 181, 18, 156, 209, 222, 22, 78, 185, 203, 208, 131, 232, 162, 80, 60, 78]⟩, .int .i64 0]) ∧ Below w.heap.size w w' := by
  have h := block_ok KEY NONL 1 w rfl rfl (by decide)
  rw [blk_ex] at h
  exact h
theorem app_ex4 : appO KEY NONL 1 [0, 0, 0, 0] = [16, 241, 231, 228] := by decide +kernel
theorem app_ex2 : appO KEY NONL 1 [16, 241] = [0, 0] := by decide +kernel
theorem kApp4 (w : World) : Calls Tryd.prog 23 #[.string (bs KEY), .string ⟨#[0, 0, 0, 9, 0, 0, 0, 74, 0, 0, 0, 0]⟩, .int .i64 1, .string ⟨#[0, 0, 0, 0]⟩] w fun e w' => e = .returned (.tuple #[.string ⟨#[16, 241, 231, 228]⟩, .int .i64 0]) ∧ Below w.heap.size w w' := by
  have h := apply_ok KEY NONL 1 [0, 0, 0, 0] w rfl rfl (by decide) (by decide) (by decide)
  rw [app_ex4] at h
  exact h
theorem kApp2 (w : World) : Calls Tryd.prog 23 #[.string (bs KEY), .string ⟨#[0, 0, 0, 9, 0, 0, 0, 74, 0, 0, 0, 0]⟩, .int .i64 1, .string ⟨#[16, 241]⟩] w fun e w' => e = .returned (.tuple #[.string ⟨#[0, 0]⟩, .int .i64 0]) ∧ Below w.heap.size w w' := by
  have h := apply_ok KEY NONL 1 [16, 241] w rfl rfl (by decide) (by decide) (by decide)
  rw [app_ex2] at h
  exact h
theorem kBig (w : World) : Calls Tryd.prog 23 #[.string (bs KEY), .string ⟨#[0, 0, 0, 9, 0, 0, 0, 74, 0, 0, 0, 0]⟩, .int .i64 4294967295, .string (rp 120 65)] w fun e w' => e = .returned (.tuple #[.string ⟨#[]⟩, .int .i64 6]) ∧ w = w' :=
  apply_big (bs KEY) _ 4294967295 (rp 120 65) w (by decide +kernel) (by rw [rp_size]; decide) (by rw [rp_size]; decide) (by decide)
theorem kRep (c : UInt8) (n : Nat) (z : Int) (w : World) (hz : z = (n : Int)) (hn : n ≤ 140737488355328) :
    Calls Tryd.prog 30 #[.string ⟨#[c]⟩, .int .i64 z] w fun e w' => e = .returned (.string (rp c n)) ∧ Below w.heap.size w w' := by
  subst hz; exact repeat_any c n w hn
theorem kR65 (w : World) : Calls Tryd.prog 30 #[.string ⟨#[120]⟩, .int .i64 65] w fun e w' => e = .returned (.string (rp 120 65)) ∧ Below w.heap.size w w' := kRep 120 65 65 w rfl (by decide)
theorem kHexB (w : World) (hD : Digits w) : Calls Tryd.prog 62 #[.string ⟨#[16, 241, 231, 228, 209, 59, 89, 21, 80, 15, 221, 31, 163, 32, 113, 196, 199, 209, 244, 199, 51, 192, 104, 3, 4, 34, 170, 154, 195, 212, 108, 78, 210, 130, 100, 70, 7, 159, 170, 9, 20, 194, 215, 5, 217, 139, 2, 162, 181, 18, 156, 209, 222, 22, 78, 185, 203, 208, 131, 232, 162, 80, 60, 78]⟩] w fun e w' => e = .returned (.string ⟨#[49, 48, 102, 49, 101, 55, 101, 52, 100, 49, 51, 98, 53, 57, 49, 53, 53, 48, 48, 102, 100, 100, 49, 102, 97, 51, 50, 48, 55, 49, 99, 52, 99, 55, 100, 49, 102, 52, 99, 55, 51, 51, 99, 48, 54, 56, 48, 51, 48, 52, 50, 50, 97, 97, 57, 97, 99, 51, 100, 52, 54, 99, 52, 101, 100, 50, 56, 50, 54, 52, 52, 54, 48, 55, 57, 102, 97, 97, 48, 57, 49, 52, 99, 50, 100, 55, 48, 53, 100, 57, 56, 98, 48, 50, 97, 50, 98, 53, 49, 50, 57, 99, 100, 49, 100, 101, 49, 54, 52, 101, 98, 57, 99, 98, 100, 48, 56, 51, 101, 56, 97, 50, 53, 48, 51, 99, 52, 101]⟩) ∧ Below w.heap.size w w' := by
  have h := hex_any ⟨#[16, 241, 231, 228, 209, 59, 89, 21, 80, 15, 221, 31, 163, 32, 113, 196, 199, 209, 244, 199, 51, 192, 104, 3, 4, 34, 170, 154, 195, 212, 108, 78, 210, 130, 100, 70, 7, 159, 170, 9, 20, 194, 215, 5, 217, 139, 2, 162, 181, 18, 156, 209, 222, 22, 78, 185, 203, 208, 131, 232, 162, 80, 60, 78]⟩ w hD (by decide)
  have e : (hexL (⟨#[16, 241, 231, 228, 209, 59, 89, 21, 80, 15, 221, 31, 163, 32, 113, 196, 199, 209, 244, 199, 51, 192, 104, 3, 4, 34, 170, 154, 195, 212, 108, 78, 210, 130, 100, 70, 7, 159, 170, 9, 20, 194, 215, 5, 217, 139, 2, 162, 181, 18, 156, 209, 222, 22, 78, 185, 203, 208, 131, 232, 162, 80, 60, 78]⟩ : ByteArray).data.toList).toArray = #[49, 48, 102, 49, 101, 55, 101, 52, 100, 49, 51, 98, 53, 57, 49, 53, 53, 48, 48, 102, 100, 100, 49, 102, 97, 51, 50, 48, 55, 49, 99, 52, 99, 55, 100, 49, 102, 52, 99, 55, 51, 51, 99, 48, 54, 56, 48, 51, 48, 52, 50, 50, 97, 97, 57, 97, 99, 51, 100, 52, 54, 99, 52, 101, 100, 50, 56, 50, 54, 52, 52, 54, 48, 55, 57, 102, 97, 97, 48, 57, 49, 52, 99, 50, 100, 55, 48, 53, 100, 57, 56, 98, 48, 50, 97, 50, 98, 53, 49, 50, 57, 99, 100, 49, 100, 101, 49, 54, 52, 101, 98, 57, 99, 98, 100, 48, 56, 51, 101, 56, 97, 50, 53, 48, 51, 99, 52, 101] := by decide +kernel
  rw [e] at h
  exact h
theorem kHex4 (w : World) (hD : Digits w) : Calls Tryd.prog 62 #[.string ⟨#[16, 241, 231, 228]⟩] w fun e w' => e = .returned (.string ⟨#[49, 48, 102, 49, 101, 55, 101, 52]⟩) ∧ Below w.heap.size w w' := by
  have h := hex_any ⟨#[16, 241, 231, 228]⟩ w hD (by decide)
  have e : (hexL (⟨#[16, 241, 231, 228]⟩ : ByteArray).data.toList).toArray = #[49, 48, 102, 49, 101, 55, 101, 52] := by decide +kernel
  rw [e] at h
  exact h
theorem kShort (w : World) : Calls Tryd.prog 26 #[.string ((bs KEY).extract 0 31), .string ⟨#[0, 0, 0, 9, 0, 0, 0, 74, 0, 0, 0, 0]⟩, .int .i64 1] w fun e w' => e = .returned (.tuple #[.string ⟨#[]⟩, .int .i64 2]) ∧ w = w' := block_no _ _ _ w (by decide +kernel)
theorem kOver (w : World) : Calls Tryd.prog 26 #[.string (bs KEY), .string ⟨#[0, 0, 0, 9, 0, 0, 0, 74, 0, 0, 0, 0]⟩, .int .i64 4294967296] w fun e w' => e = .returned (.tuple #[.string ⟨#[]⟩, .int .i64 2]) ∧ w = w' := block_no _ _ _ w (by decide +kernel)
theorem slice31 (w : World) : (Instr.slice 9 (.string (bs KEY)) none (some (.int .i64 31)) none).run Tryd.prog w = .ok (.string ((bs KEY).extract 0 31)) w := by kernel_rfl
end Go.Proofs.YtnfefkcfifnjnaaDoor
