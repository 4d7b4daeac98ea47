/- Contract of Unhex (layer 1, moved to this seat). -/
import Derived.Test.YtbadiljligcenaaDoorO
import Derived.Deep.LoopGhost
import Derived.BigQuiet
import Derived.Deep.AppendLies
import Derived.Deep.QuietTactic
namespace Go.Proofs.YtbadiljligcenaaDoor
open Go.RowKit Go.ChangeShapes
def isDg (c : Int) : Bool := decide ((48 ≤ c ∧ c ≤ 57) ∨ (97 ≤ c ∧ c ≤ 102))
def vlDg (c : Int) : Int := if c ≤ 57 then c - 48 else c - 87
theorem isDg_iff (c : Int) : isDg c = true ↔ (48 ≤ c ∧ c ≤ 57) ∨ (97 ≤ c ∧ c ≤ 102) := by simp [isDg]
def dvV (c : Int) : Int := if isDg c = true then vlDg c else 0
theorem dvV_yes {c : Int} (h : isDg c = true) : dvV c = vlDg c := by simp [dvV, h]
theorem dvV_no {c : Int} (h : isDg c = false) : dvV c = 0 := by simp [dvV, h]
theorem dg_eq {i : Nat} (h : i < 16) (c : Int) (e : dg i = c) : isDg c = true ∧ vlDg c = i := by
  subst e
  rw [isDg_iff]
  unfold dg vlDg
  split <;> (split <;> omega)
theorem dg_all {c : Int} (h : ∀ j, j < 16 → dg j ≠ c) : isDg c = false := by
  rw [Bool.eq_false_iff]
  intro hc
  rcases (isDg_iff c).1 hc with ⟨h1, h2⟩ | ⟨h1, h2⟩
  · exact h (c - 48).toNat (by omega) (by unfold dg; rw [if_pos (by omega)]; omega)
  · exact h (c - 87).toNat (by omega) (by unfold dg; rw [if_neg (by omega)]; omega)
/-- What Unhex makes of a text. -/
def tAt (s : ByteArray) (k : Nat) : Nat := (s.data.toList.getD k 0).toNat
theorem tAt_eq (s : ByteArray) (k : Nat) (h : k < s.size) : s[k].toNat = tAt s k := by
  unfold tAt
  rw [List.getD_eq_getElem?_getD, List.getElem?_eq_getElem (by simpa using h)]
  rfl
theorem tAt_lt (s : ByteArray) (k : Nat) : tAt s k < 256 := UInt8.toNat_lt _
theorem idx_run (s : ByteArray) (k : Nat) (i : Int) (hi : i = (k : Int)) (h : k < s.size) (w : World) : (Instr.index 9 (.string s) (.int .i64 i)).run Tryd.prog w = .ok (.int .u8 (tAt s k : Int)) w := by
  subst hi
  rw [run_index_string w 9 s .i64 _ Tryd.underlying9, dif_pos ⟨by omega, by omega⟩]
  simp only [Int.toNat_natCast]
  rw [tAt_eq s k h]
def pairOk (s : ByteArray) (k : Nat) : Prop := isDg (tAt s (2 * k)) = true ∧ isDg (tAt s (2 * k + 1)) = true
def okUn (s : ByteArray) : Prop := s.size % 2 = 0 ∧ ∀ k, k < s.size / 2 → pairOk s k
def unB (s : ByteArray) (k : Nat) : UInt8 := UInt8.ofNat ((vlDg (tAt s (2 * k))).toNat * 16 + (vlDg (tAt s (2 * k + 1))).toNat)
def unL (s : ByteArray) (n : Nat) : List UInt8 := (List.range n).map (unB s)
theorem unL_length (s : ByteArray) (n : Nat) : (unL s n).length = n := by simp [unL]
theorem unL_succ (s : ByteArray) (n : Nat) : unL s (n + 1) = unL s n ++ [unB s n] := by simp [unL, List.range_succ]
open Classical in
noncomputable def unRes (s : ByteArray) : Value := if okUn s then .tuple #[.string ⟨(unL s (s.size / 2)).toArray⟩, .int .i64 0] else .tuple #[.string ByteArray.empty, .int .i64 5]
theorem unRes_yes {s : ByteArray} (h : okUn s) : unRes s = .tuple #[.string ⟨(unL s (s.size / 2)).toArray⟩, .int .i64 0] := by simp [unRes, h]
theorem unRes_no {s : ByteArray} (h : ¬ okUn s) : unRes s = .tuple #[.string ByteArray.empty, .int .i64 5] := by simp [unRes, h]
theorem vlDg_range {c : Int} (h : isDg c = true) : 0 ≤ vlDg c ∧ vlDg c < 16 := by
  have := (isDg_iff c).1 h
  unfold vlDg
  split <;> omega
theorem i64_or0 (x : Nat) (hx : x < 16) : bits .or .i64 0 (x : Int) = (x : Int) := by
  show IntKind.i64.wrap ((BitVec.ofInt 64 0 ||| BitVec.ofInt 64 (x : Int)).toNat : Int) = _
  rw [BitVec.toNat_or, BitVec.ofInt_natCast, show BitVec.ofInt 64 0 = 0#64 from rfl, BitVec.toNat_ofNat, BitVec.toNat_ofNat, Nat.mod_eq_of_lt (by omega : x < 2 ^ 64)]
  simp
  exact IntWalk.i64_in _ ⟨by omega, by omega⟩
theorem i64_or16 (x y : Nat) (hx : x < 16) (hy : y < 16) : bits .or .i64 ((x : Int) * 16) (y : Int) = (x : Int) * 16 + y := by
  have e : (x : Int) * 16 = ((x * 16 : Nat) : Int) := by rw [Int.natCast_mul]; rfl
  rw [e]
  show IntKind.i64.wrap ((BitVec.ofInt 64 ((x * 16 : Nat) : Int) ||| BitVec.ofInt 64 (y : Int)).toNat : Int) = _
  rw [BitVec.toNat_or, BitVec.ofInt_natCast, BitVec.ofInt_natCast, BitVec.toNat_ofNat, BitVec.toNat_ofNat, Nat.mod_eq_of_lt (by omega), Nat.mod_eq_of_lt (by omega)]
  rw [show x * 16 ||| y = x * 16 + y from nat_join 4 (x * 16) y (by omega) (by omega)]
  exact IntWalk.i64_in _ ⟨by omega, by omega⟩
theorem unB_toNat {s : ByteArray} {k x y : Nat} (hx : vlDg (tAt s (2 * k)) = x) (hy : vlDg (tAt s (2 * k + 1)) = y) (h1 : x < 16) (h2 : y < 16) : ((unB s k).toNat : Int) = (x : Int) * 16 + y := by
  unfold unB
  rw [hx, hy, Int.toNat_natCast, Int.toNat_natCast, UInt8.toNat_ofNat_of_lt' (by simp [UInt8.size]; omega)]
  omega
theorem ret_ib {a b : Bool} {c d : Int} {l : IntKind} (h : c = d) (g : a = b) : Ending.returned (.tuple #[.int l c, .bool a]) = .returned (.tuple #[.int l d, .bool b]) := by rw [h, g]
set_option maxHeartbeats 400000 in
theorem digitValue_any (c : Int) (w : World) (hD : Digits w) :
    Calls Tryd.prog 43 #[.int .u8 c] w fun e w' => e = .returned (.tuple #[.int .i64 (dvV c), .bool (isDg c)]) ∧ w = w' := by
  have HD := Lib.hid hD
  clear hD
  go_enter Tryd.func43, Tryd.ntmps43
  go_wp2
  go_loop [5] (fun i => ∃ k : Nat, k ≤ 16 ∧ i = .int .i64 k ∧ Hid (∀ j, j < k → dg j ≠ c)) (fun i => 16 - (intOf i).toNat)
  case atStart => exact ⟨0, Nat.zero_le _, rfl, fun j hj => absurd hj (Nat.not_lt_zero _)⟩
  case round =>
    obtain ⟨k, hk, rfl, hno⟩ := hrel
    by_cases hlt : k < 16
    · have hcell := HD.out.2 k hlt
      by_cases he : dg k = c
      · have hv := dg_eq hlt c he
        have HV := Lib.hid hv
        have hb : (dg k == c) = true := by simp [he]
        generalize dg k = d at hb hcell
        clear hv he
        go_wp2
        go_ret2
        exact ⟨ret_ib (by rw [dvV_yes HV.out.1, HV.out.2]) HV.out.1.symm, rfl⟩
      · have hb : (dg k == c) = false := by simp [he]
        have HE := Lib.hid he
        generalize hd : dg k = d at hb hcell
        have HDD := Lib.hid hd
        clear he hd
        go_wp2
        go_round
        case rel =>
          refine ⟨k + 1, by omega, by go_num, fun j hj => ?_⟩
          by_cases hjk : j = k
          · subst hjk; exact HE.out
          · exact hno.out j (by omega)
        case measure => simp [intOf]; omega
    · have hf : isDg c = false := dg_all fun j hj => hno.out j (by omega)
      have HF := Lib.hid hf
      clear hf
      go_wp2
      go_ret2
      exact ⟨ret_ib (by rw [dvV_no HF.out]) HF.out.symm, rfl⟩
def IsRow (v : Value) (k : Nat) : Prop := ∃ ad cap, v = .slice (some ad) k cap
theorem bel_drewN {B : Nat} {a w : World} (h : Below B a w) (n : Nat) : Below B a (w.drewN n) := ⟨h.os, h.tape, h.output, h.size, h.block⟩
theorem own_drewN {w : World} {base : Nat} {e : TypeId} {size : Nat} {v : Value} {n : Nat} {xs : List Value} (h : w.ownsRow base e size v n xs) (q : Nat) : (w.drewN q).ownsRow base e size v n xs := h
theorem news_drewN {w : World} {B : Nat} {cs : Array Value} {t : TypeId} (q : Nat) (hB : B = w.heap.size) : ∀ j u, cs.toList[j]? = some u → ((w.drewN q).alloc (.cells cs t)).cell? ((⟨B, 0, none⟩ : Addr).add j) = some u := by
  subst hB
  exact World.news_of_block (heap_alloc_new (w.drewN q) _)
set_option maxRecDepth 100000 in
set_option maxHeartbeats 1000000 in
theorem unhex_any (s : ByteArray) (w : World) (hD : Digits w) (hs : s.size ≤ 70368744177664) :
    Calls Tryd.prog 23 #[.string s] w fun e w' => e = .returned (unRes s) ∧ Below w.heap.size w w' := by
  obtain ⟨i0, hi, hz0, hz1, hz2⟩ := info_parts info5
  have x0 : ∀ (a b : Value) (w : World), (Instr.index 65 (.agg #[a, b]) (.int .i64 0)).run Tryd.prog w = .ok a w := fun _ _ _ => by kernel_rfl
  have x1 : ∀ (a b : Value) (w : World), (Instr.index 65 (.agg #[a, b]) (.int .i64 1)).run Tryd.prog w = .ok b w := fun _ _ _ => by kernel_rfl
  have HD := Lib.hid hD
  clear hD
  go_enter Tryd.func23, Tryd.ntmps23
  go_wp2_with (first | (at_make; refine wpList_make_own _ rfl _ _ 32 rfl w.heap.size 5 i0 (.int .u8 0) 1 Tryd.underlying32 hi hz0 hz1 .i64 .i64 _ (s.size / 2) rfl rfl ?_ ?_ ?_ ?_ ?_; omega; rw [hz2]; omega; (unfold maxLen; omega); omega; intro w1 hown1 hg1))
  go_step3
  go_wp2_with (first | (at_make; refine wpList_make_own _ rfl _ _ 32 rfl w.heap.size 5 i0 (.int .u8 0) 1 Tryd.underlying32 hi hz0 hz1 .i64 .i64 _ (s.size / 2) rfl rfl ?_ ?_ ?_ ?_ ?_; omega; rw [hz2]; omega; (unfold maxLen; omega); omega; intro w1 hown1 hg1))
  go_step3
  go_wp2
  have hB1 : Below w.heap.size w w1 := (Below.refl _ _).grown hg1 (Nat.le_refl _) (by simp)
  go_loopw [4, 5] (fun v i wr => ∃ k : Nat, 2 * k ≤ s.size ∧ i = .int .i64 (2 * k : Nat) ∧ wr.ownsRow w.heap.size 5 1 v k (byC (unL s k)) ∧ Below w.heap.size w wr ∧ Hid (∀ j, j < k → pairOk s j) ∧ IsRow v k) (fun _ i _ => s.size + 1 - (intOf i).toNat)
  case atStart => exact ⟨0, by omega, rfl, hown1, hB1, fun j hj => absurd hj (Nat.not_lt_zero _), ⟨_, _, rfl⟩⟩
  case round =>
    obtain ⟨k, hk, rfl, hown, hB, hok, hrow⟩ := hrel
    obtain ⟨ad, cap, rfl⟩ := hrow
    have hz := hB.size
    have HDr := Lib.hid (HD.out.below hB)
    by_cases hlt : 2 * k + 1 < s.size
    · have ea := idx_run s (2 * k) (2 * (k : Int)) (by omega) (by omega)
      have eb := idx_run s (2 * k + 1) (2 * (k : Int) + 1) (by omega) (by omega)
      have ha := tAt_lt s (2 * k)
      have hb := tAt_lt s (2 * k + 1)
      have hpk : pairOk s k ↔ (isDg (tAt s (2 * k)) = true ∧ isDg (tAt s (2 * k + 1)) = true) := Iff.rfl
      have HPK := Lib.hid hpk
      have HUB := Lib.hid (fun x y h1 h2 h3 h4 => unB_toNat (s := s) (k := k) (x := x) (y := y) h1 h2 h3 h4)
      clear hpk
      generalize tAt s (2 * k) = a at ea ha HPK HUB
      generalize tAt s (2 * k + 1) = b at eb hb HPK HUB
      by_cases da : isDg (a : Int) = true
      · by_cases db : isDg (b : Int) = true
        · have va := vlDg_range da
          have vb := vlDg_range db
          obtain ⟨x, hx⟩ := Int.eq_ofNat_of_zero_le va.1
          obtain ⟨y, hy⟩ := Int.eq_ofNat_of_zero_le vb.1
          have hx1 : x < 16 := by omega
          have hy1 : y < 16 := by omega
          have dva : dvV (a : Int) = (x : Int) := by rw [dvV_yes da, hx]
          have dvb : dvV (b : Int) = (y : Int) := by rw [dvV_yes db, hy]
          have o1 := i64_or0 x hx1
          have o2 := i64_or16 x y hx1 hy1
          have HUBX := Lib.hid (HUB.out x y hx hy hx1 hy1)
          clear va vb hx hy HUB
          go_wp2
          go_quiet (fail)
          go_wp2
          refine wp_loop_rounds 3 ?_
          rw [rounds_succ]
          go_wp2_with (first | (go_at_call 43; refine (digitValue_any _ _ (HDr.out.drewN _)).mono ?_; rintro e w2 ⟨rfl, rfl⟩))
          rw [rounds_succ]
          go_wp2_with (first | (go_at_call 43; refine (digitValue_any _ _ (HDr.out.drewN _)).mono ?_; rintro e w2 ⟨rfl, rfl⟩))
          rw [rounds_succ]
          go_wp2_with (first | (at_builtin; refine wpList_append_own _ rfl _ _ 32 rfl w.heap.size 5 i0 (.int .u8 0) 1 1 Tryd.underlying32 hi hz0 hz1 hz2 rfl (by decide) _ k _ rfl ((own_drewN hown _).alloc _) ⟨wr.heap.size, 0, none⟩ 1 1 [.int .u8 ((x : Int) * 16 + y)] rfl rfl ?_ ?_ ?_ ?_ ?_ ?_; exact news_drewN (cs := #[.int .u8 ((x : Int) * 16 + y)]) _ rfl; (simp [Value.oneCell']); (unfold maxLen; omega); omega; (go_size); intro v2 w3 hown3 hg3 _))
          have hBn : Below w.heap.size w w3 := ((bel_drewN hB _).alloc (by go_size) _).grown hg3 (by go_size) (fun g hg => (hown.lt g hg).1)
          have hrow : byC (unL s k) ++ [.int .u8 ((x : Int) * 16 + y)] = byC (unL s (k + 1)) := by
            rw [unL_succ, ← byC_append]
            simp only [byC, List.map_cons, List.map_nil, HUBX.out]
          rw [hrow] at hown3
          obtain ⟨g3, c3, hv3, _, _⟩ := hown3.form (by omega)
          have HP : Hid (∀ j, j < k + 1 → pairOk s j) := fun j hj => by
            by_cases e : j = k
            · subst e; exact HPK.out.2 ⟨da, db⟩
            · exact hok.out j (by omega)
          have HV := Lib.hid hv3
          clear hv3 hrow hown
          go_roundw
          case rel => exact ⟨k + 1, by omega, by go_num, hown3, hBn, HP, ⟨_, _, HV.out⟩⟩
          case measure => simp [intOf]; omega
        · have db' : isDg (b : Int) = false := by simpa using db
          have hbad : ¬ okUn s := fun h => db (HPK.out.1 (h.2 k (by omega))).2
          have HBAD := Lib.hid hbad
          have va := vlDg_range da
          obtain ⟨x, hx⟩ := Int.eq_ofNat_of_zero_le va.1
          have hx1 : x < 16 := by omega
          have dva : dvV (a : Int) = (x : Int) := by rw [dvV_yes da, hx]
          have o1 := i64_or0 x hx1
          have bne : ((2 * (k : Int)) != (s.size : Int)) = true := by simp; omega
          clear va hx HUB db hbad
          go_wp2
          go_quiet (fail)
          go_wp2
          refine wp_loop_rounds 3 ?_
          rw [rounds_succ]
          go_wp2_with (first | (go_at_call 43; refine (digitValue_any _ _ (HDr.out.drewN _)).mono ?_; rintro e w2 ⟨rfl, rfl⟩))
          rw [rounds_succ]
          go_wp2_with (first | (go_at_call 43; refine (digitValue_any _ _ (HDr.out.drewN _)).mono ?_; rintro e w2 ⟨rfl, rfl⟩))
          try rw [Exit.noGoto_ret]
          go_ret2
          exact ⟨by rw [unRes_no HBAD.out]; rfl, bel_drewN hB _⟩
      · have da' : isDg (a : Int) = false := by simpa using da
        have hbad : ¬ okUn s := fun h => da (HPK.out.1 (h.2 k (by omega))).1
        have HBAD := Lib.hid hbad
        have bne : ((2 * (k : Int)) != (s.size : Int)) = true := by simp; omega
        clear HUB da hbad
        go_wp2
        go_quiet (fail)
        go_wp2
        refine wp_loop_rounds 3 ?_
        rw [rounds_succ]
        go_wp2_with (first | (go_at_call 43; refine (digitValue_any _ _ (HDr.out.drewN _)).mono ?_; rintro e w2 ⟨rfl, rfl⟩))
        try rw [Exit.noGoto_ret]
        go_ret2
        exact ⟨by rw [unRes_no HBAD.out]; rfl, bel_drewN hB _⟩
    · by_cases he : 2 * k = s.size
      · have hok2 : okUn s := ⟨by omega, fun j hj => hok.out j (by omega)⟩
        have HOK := Lib.hid hok2
        have hkk : s.size / 2 = k := by omega
        have HK := Lib.hid hkk
        have bne : ((2 * (k : Int)) != (s.size : Int)) = false := by simp; omega
        have hcv := string_of_own (w := wr) (l := unL s k) (by rw [unL_length]; exact hown)
        clear hok2 hkk he
        go_wp2
        try rw [Exit.noGoto_ret]
        go_ret2
        exact ⟨by rw [unRes_yes HOK.out, HK.out]; rfl, hB⟩
      · have hbad : ¬ okUn s := fun h => by have := h.1; omega
        have HBAD := Lib.hid hbad
        have bne : ((2 * (k : Int)) != (s.size : Int)) = true := by simp; omega
        clear hbad he
        go_wp2
        try rw [Exit.noGoto_ret]
        go_ret2
        exact ⟨by rw [unRes_no HBAD.out]; rfl, hB⟩
end Go.Proofs.YtbadiljligcenaaDoor
