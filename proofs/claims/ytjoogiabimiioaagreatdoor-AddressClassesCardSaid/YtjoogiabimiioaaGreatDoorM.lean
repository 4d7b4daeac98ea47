/- What SplitSeq gives. -/
import Derived.Test.YtjoogiabimiioaaGreatDoorG
import Derived.Test.YtjoogiabimiioaaGreatDoorZX
import Derived.Lib.IndexLaws
namespace Go.Proofs.YtjoogiabimiioaaGreatDoor
open Go.RowKit Go.ChangeShapes
attribute [local go_sem] Oper.semAt_some
/-- The parts of octets between octets c. -/
def splP (c : UInt8) : List UInt8 → List (List UInt8)
  | [] => [[]]
  | b :: r => if b = c then [] :: splP c r else
    match splP c r with
    | p :: ps => (b :: p) :: ps
    | [] => [[b]]
theorem splP_ne (c : UInt8) (s : List UInt8) : splP c s ≠ [] := by
  cases s with
  | nil => simp [splP]
  | cons b r => rw [splP]; split; simp; split <;> simp
theorem splP_len (c : UInt8) (s : List UInt8) : (splP c s).length ≤ s.length + 1 := by
  induction s with
  | nil => simp [splP]
  | cons b r ih =>
    rw [splP]
    split
    · simp; omega
    · split
      · rename_i h; rw [h] at ih; simp at ih ⊢; omega
      · simp
theorem splP_none (c : UInt8) : ∀ s : List UInt8, Lib.indexByte s c = -1 → splP c s = [s]
  | [], _ => rfl
  | b :: r, h => by
    unfold Lib.indexByte at h
    split at h
    · simp at h
    · rename_i hb
      split at h
      · rename_i hr
        have ih := splP_none c r (by simpa using hr)
        rw [splP, if_neg (by simpa using hb), ih]
      · have := Lib.indexByte_ge r c
        rename_i h2
        simp at h2
        omega
theorem splP_some (c : UInt8) : ∀ (s : List UInt8) (i : Nat), Lib.indexByte s c = (i : Int) → i < s.length ∧ splP c s = s.take i :: splP c (s.drop (i + 1))
  | [], i, h => by unfold Lib.indexByte at h; omega
  | b :: r, i, h => by
    unfold Lib.indexByte at h
    split at h
    · rename_i hb
      obtain rfl : i = 0 := by omega
      have hb2 : b = c := by simpa using hb
      exact ⟨by simp, by rw [splP, if_pos hb2]; rfl⟩
    · rename_i hb
      split at h
      · omega
      · cases i with
        | zero => have := Lib.indexByte_ge r c; rename_i h2; simp at h2; omega
        | succ j =>
          obtain ⟨h1, h2⟩ := splP_some c r j (by omega)
          refine ⟨by simp; omega, ?_⟩
          rw [splP, if_neg (by simpa using hb), h2]
          rfl
/-- Three blocks stay. -/
def KpT (b1 b2 b3 : Nat) (A B : World) : Prop := B.heap[b1]? = A.heap[b1]? ∧ B.heap[b2]? = A.heap[b2]? ∧ B.heap[b3]? = A.heap[b3]?
theorem KpT.trans {b1 b2 b3 : Nat} {A B C : World} (h : KpT b1 b2 b3 A B) (k : KpT b1 b2 b3 B C) : KpT b1 b2 b3 A C := ⟨k.1.trans h.1, k.2.1.trans h.2.1, k.2.2.trans h.2.2⟩
theorem w64_nat {x : Nat} (h : x < 9223372036854775808) : wrap64 (x : Int) = (x : Int) := by unfold wrap64; omega
theorem box_set {W : World} {g : Nat} {x y : Value} {t : TypeId} (h : W.heap[g]? = some (.cells #[x] t (0, 0))) : (W.setCell ⟨g, 0, none⟩ y).heap[g]? = some (.cells #[y] t (0, 0)) := by
  have := heap_setCell_same W g 0 #[x] t y h
  simpa using this
/-- The length of the string in a block. -/
def rdS (W : World) (g : Nat) : Nat :=
  match W.heap[g]? with
  | some (Obj.cells cs _ _) => match cs[0]? with
    | some (Value.string b) => b.size
    | _ => 0
  | _ => 0
theorem rdS_of {W : World} {g : Nat} {b : ByteArray} {t : TypeId} {fr : Nat × Nat} (h : W.heap[g]? = some (.cells #[.string b] t fr)) : rdS W g = b.size := by unfold rdS; rw [h]; rfl
abbrev enS : List UInt8 → Array Value := fun p => #[.string (bs p)]
set_option maxRecDepth 100000 in
set_option maxHeartbeats 8000000 in
theorem spl_seq (m b1 b2 b3 : Nat) (c : UInt8) (s : List UInt8) (w : World) (hm : 2 ≤ m) (h12 : b1 ≠ b2) (h23 : b3 ≠ b2) (hs : s.length ≤ 1000)
    (hC1 : w.heap[b1]? = some (.cells #[.string ⟨#[c]⟩] 9 (0, 0))) (hC2 : w.heap[b2]? = some (.cells #[.string (bs s)] 9 (0, 0))) (hC3 : w.heap[b3]? = some (.cells #[.int .i64 0] 3 (0, 0))) :
    SeqX Fence.wide m Tryz.prog 139 #[.pointer (some ⟨b1, 0, none⟩), .pointer (some ⟨b2, 0, none⟩), .pointer (some ⟨b3, 0, none⟩)] enS (KpT b1 b2 b3) (fun xs => xs = splP c s) (fun pre => pre <+: splP c s) (fun p => p.length ≤ 1000) (s.length + 1) b2 w := by
  intro l J Jx W hBW hJ hJx hY h0
  have hl1 := (Array.getElem?_eq_some_iff.1 hC1).1
  have hl2 := (Array.getElem?_eq_some_iff.1 hC2).1
  have hl3 := (Array.getElem?_eq_some_iff.1 hC3).1
  have H1 := Lib.hid ((hBW.block b1 hl1).trans hC1)
  have H2 := Lib.hid ((hBW.block b2 hl2).trans hC2)
  have H3 := Lib.hid ((hBW.block b3 hl3).trans hC3)
  have HJ := Lib.hid (And.intro hJ hJx)
  have HY := Lib.hid hY
  have HJ0 := Lib.hid h0
  have HN := Lib.hid (And.intro h12 h23)
  have HS := Lib.hid hs
  have hm1 : 1 ≤ m := by omega
  have c1 : W.cell? ⟨b1, 0, none⟩ = some (.string ⟨#[c]⟩) := cell_of_row _ _ 0 _ 9 (0, 0) H1.out
  have hcs : ((⟨#[c]⟩ : ByteArray).size : Int) = 1 := rfl
  obtain ⟨SEP, hSEP⟩ : ∃ X : ByteArray, ⟨#[c]⟩ = X := ⟨_, rfl⟩
  rw [hSEP] at c1 hcs H1
  have HSEP := Lib.hid hSEP
  clear hJ hJx hY h0 h12 h23 hC1 hC2 hC3 hl1 hl2 hl3 hBW hs hSEP hm
  refine callsIn_of_wp Tryz.func139 rfl trivial ?_ rfl
  simp only [Tryz.ntmps139, List.size_toArray, List.length_cons, List.length_nil, Nat.reduceAdd, Nat.reduceSub, Array.replicate_succ, Array.replicate_zero, List.push_toArray, List.append_toArray, List.nil_append, List.cons_append]
  gi_wp2
  clear c1
  gi_loopw [7, 8] (fun _ _ wr => ∃ (pre : List (List UInt8)) (rem : List UInt8), Hid (pre ++ splP c rem = splP c s ∧ rem.length ≤ s.length) ∧ Hid (J pre wr) ∧ Hid (wr.heap[b1]? = some (.cells #[.string SEP] 9 (0, 0))) ∧ Hid (wr.heap[b2]? = some (.cells #[.string (bs rem)] 9 (0, 0))) ∧ Hid (wr.heap[b3]? = some (.cells #[.int .i64 0] 3 (0, 0))))
    (fun _ _ wr => rdS wr b2)
  case atStart => exact ⟨[], s, Lib.hid ⟨rfl, Nat.le_refl _⟩, HJ0, H1, H2, H3⟩
  case round =>
    clear HJ0 H1 H2 H3
    obtain ⟨pre, rem, HP, HJr, H1, H2, H3⟩ := hrel
    have c1 : wr.cell? ⟨b1, 0, none⟩ = some (.string SEP) := cell_of_row _ _ 0 _ 9 (0, 0) H1.out
    have c2 : wr.cell? ⟨b2, 0, none⟩ = some (.string (bs rem)) := cell_of_row _ _ 0 _ 9 (0, 0) H2.out
    have hpl : pre.length < s.length + 1 := by
      have h1 := congrArg List.length HP.out.1
      have h2 := splP_len c s
      have h3 : 1 ≤ (splP c rem).length := by have := splP_ne c rem; rcases hh : splP c rem with _ | ⟨a, b⟩; exact absurd hh this; simp
      rw [List.length_append] at h1
      omega
    have hix : Calls Tryz.prog 63 #[.string (bs rem), .string SEP] wr fun e w' => e = .returned (.int .i64 (Lib.indexByte rem c)) ∧ w' = wr := by
      have := Tryz.strings_Index_one (bs rem) c wr
      rw [bs_data, HSEP.out] at this
      exact this
    have HIX := Lib.hid hix
    have hrs := bs_size rem
    clear hix
    by_cases hno : Lib.indexByte rem c = -1
    · rw [hno] at HIX
      have hsp := splP_none c rem hno
      obtain ⟨fn, tmps, assign, body, hyy, hR⟩ := HY.out pre rem wr (by have := HP.out.2; have := HS.out; omega) HJr.out hpl
      have HE : Hid (pre ++ [rem] = splP c s) := Lib.hid (by rw [← HP.out.1, hsp])
      rw [HE.out] at hR
      have HR := Lib.hid hR
      simp only [enS] at hyy
      clear hR hsp hno hpl
      gi_wp2
      refine ⟨trivial, (callsIn_wide.2 HIX.out).mono ?_⟩
      rintro e w4 ⟨rfl, rfl⟩
      clear HIX
      gi_wp2
      refine HR.out.mono ?_
      rintro e' W3 hcase
      rcases hcase with ⟨rfl, hj, hk3⟩ | ⟨rfl, hj⟩
      · have HJ3 := Lib.hid hj
        clear hj hk3 hyy HR
        gi_wp2
        go_end0
        exact ⟨⟨_, rfl⟩, .inl ⟨_, rfl, HJ3.out⟩⟩
      · have HJ3 := Lib.hid hj
        clear hj hyy HR
        gi_wp2
        go_end0
        exact ⟨⟨_, rfl⟩, .inr ⟨_, List.prefix_refl _, HJ3.out⟩⟩
    · have hge := Lib.indexByte_ge rem c
      obtain ⟨i, hi⟩ : ∃ i : Nat, Lib.indexByte rem c = (i : Int) := ⟨(Lib.indexByte rem c).toNat, by omega⟩
      rw [hi] at HIX
      obtain ⟨hil, hsp⟩ := splP_some c rem i hi
      obtain ⟨fn, tmps, assign, body, hyy, hR⟩ := HY.out pre (rem.take i) wr (by have := HP.out.2; have := HS.out; rw [List.length_take]; omega) HJr.out hpl
      have HR := Lib.hid hR
      simp only [enS] at hyy
      have HE : Hid ((pre ++ [rem.take i]) ++ splP c (rem.drop (i + 1)) = splP c s ∧ (rem.drop (i + 1)).length ≤ s.length ∧ (rem.drop (i + 1)).length < rem.length) := Lib.hid ⟨by rw [← HP.out.1, hsp, List.append_assoc]; rfl, by have := HP.out.2; rw [List.length_drop]; omega, by rw [List.length_drop]; omega⟩
      have c3 : wr.cell? ⟨b3, 0, none⟩ = some (.int .i64 0) := cell_of_row _ _ 0 _ 3 (0, 0) H3.out
      have i0 : ¬ (i : Int) < 0 := by omega
      obtain ⟨j, hj⟩ : ∃ j, i + 1 = j := ⟨_, rfl⟩
      have hij : (i : Int) + 1 = (j : Int) := by omega
      have hjb : j ≤ 1001 := by have := HP.out.2; have := HS.out; omega
      have HW := Lib.hid (And.intro (w64_nat (x := i) (by omega)) (w64_nat (x := j) (by omega)))
      have hsl1 : ∀ W, (Instr.slice 9 (.string (bs rem)) none (some (.int .i64 (i : Int))) none).run Tryz.prog W = .ok (.string (bs (rem.take i))) W := fun W => by
        rw [run_slice_string_h (P := Tryz.prog) (w := W) 9 (s := bs rem) Tryz.underlying9 .i64 (i : Int) (by omega) (by rw [hrs]; omega), Int.toNat_natCast, ext_bs, bs_data]; rfl
      have hsl2 : ∀ W, (Instr.slice 9 (.string (bs rem)) (some (.int .i64 (j : Int))) none none).run Tryz.prog W = .ok (.string (bs (rem.drop (i + 1)))) W := fun W => by
        rw [run_slice_string_l (P := Tryz.prog) (w := W) 9 (s := bs rem) Tryz.underlying9 .i64 (j : Int) (by omega) (by rw [hrs]; omega), Int.toNat_natCast, ← hj, ext_bs, bs_data, bs_size, List.take_of_length_le (by rw [List.length_drop]; exact Nat.le_refl _)]
      clear hR hsp hno hpl hge hi hil hj hjb
      obtain ⟨X1, hX1⟩ : ∃ X, bs (rem.take i) = X := ⟨_, rfl⟩
      obtain ⟨X2, hX2⟩ : ∃ X, bs (rem.drop (i + 1)) = X := ⟨_, rfl⟩
      simp only [hX1] at hsl1 hyy
      simp only [hX2] at hsl2
      have HX2 := Lib.hid hX2
      obtain ⟨RB, hRB⟩ : ∃ X, bs rem = X := ⟨_, rfl⟩
      simp only [hRB] at hsl1 hsl2 c2 HIX H2 hrs
      clear hX1 hX2 hRB
      gi_wp2
      refine ⟨trivial, (callsIn_wide.2 HIX.out).mono ?_⟩
      rintro e w4 ⟨rfl, rfl⟩
      clear HIX
      have iw0 := HW.out.1
      gi_wp2
      clear iw0
      refine HR.out.mono ?_
      rintro e' W3 hcase
      rcases hcase with ⟨rfl, hj, hk3⟩ | ⟨rfl, hj⟩
      · have HJ3 := Lib.hid hj
        have H31 := Lib.hid (hk3.1.trans H1.out)
        have H32 := Lib.hid (hk3.2.1.trans H2.out)
        have H33 := Lib.hid (hk3.2.2.trans H3.out)
        clear hj hk3 hyy HR c1 c2 c3 H1 H3 HJr
        have c1 : W3.cell? ⟨b1, 0, none⟩ = some (.string SEP) := cell_of_row _ _ 0 _ 9 (0, 0) H31.out
        have c2 : W3.cell? ⟨b2, 0, none⟩ = some (.string RB) := cell_of_row _ _ 0 _ 9 (0, 0) H32.out
        have f2 : W3.frozen? ⟨b2, 0, none⟩ = false := frozen_of_row _ _ _ _ _ H32.out
        have HJ4 : Hid (J (pre ++ [rem.take i]) (W3.setCell ⟨b2, 0, none⟩ (.string X2))) := Lib.hid (HJ.out.1 _ _ _ (some b2) HJ3.out ((Only.refl b2 W3).set 0 _) (fun r e => .inr (by injection e with e; exact e.symm)))
        have H41 : Hid ((W3.setCell ⟨b2, 0, none⟩ (.string X2)).heap[b1]? = some (.cells #[.string SEP] 9 (0, 0))) := Lib.hid ((heap_setCell_other W3 ⟨b2, 0, none⟩ b1 _ HN.out.1).trans H31.out)
        have H43 : Hid ((W3.setCell ⟨b2, 0, none⟩ (.string X2)).heap[b3]? = some (.cells #[.int .i64 0] 3 (0, 0))) := Lib.hid ((heap_setCell_other W3 ⟨b2, 0, none⟩ b3 _ HN.out.2).trans H33.out)
        have H42 : Hid ((W3.setCell ⟨b2, 0, none⟩ (.string X2)).heap[b2]? = some (.cells #[.string (bs (rem.drop (i + 1)))] 9 (0, 0))) := Lib.hid (by rw [HX2.out]; exact box_set H32.out)
        clear hsl1
        have iw := HW.out.2
        gi_wp2
        clear iw
        go_roundw
        case rel => exact ⟨pre ++ [rem.take i], rem.drop (i + 1), Lib.hid ⟨HE.out.1, HE.out.2.1⟩, HJ4, H41, H42, H43⟩
        case measure =>
          rw [rdS_of H42.out, rdS_of H2.out]
          have h1 := HE.out.2.2
          rw [bs_size]
          omega
      · have HJ3 := Lib.hid hj
        clear hj hyy HR
        gi_wp2
        exact bodyPost_ret (results_none rfl _ _ _) rfl ⟨⟨_, rfl⟩, .inr ⟨_, ⟨splP c (rem.drop (i + 1)), HE.out.1⟩, HJ3.out⟩⟩
end Go.Proofs.YtjoogiabimiioaaGreatDoor
