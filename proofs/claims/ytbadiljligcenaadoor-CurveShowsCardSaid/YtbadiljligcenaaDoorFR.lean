/- Contracts of Public and Shared. -/
import Derived.Test.YtbadiljligcenaaDoorFQ
namespace Go.Proofs.YtbadiljligcenaaDoor
open Go.RowKit Go.Shelf
theorem eq5_no_ (a b c d e : Nat) (w : World) (h : [a, b, c, d, e] ≠ [0, 0, 0, 0, 0]) :
    (Op.equalIn 10000 44 (.agg (lsC [a, b, c, d, e])) (.agg #[.int .u64 0, .int .u64 0, .int .u64 0, .int .u64 0, .int .u64 0])).run Tryd.prog w = .ok false w := by
  cases a with
  | succ a => kernel_rfl
  | zero =>
    cases b with
    | succ b => kernel_rfl
    | zero =>
      cases c with
      | succ c => kernel_rfl
      | zero =>
        cases d with
        | succ d => kernel_rfl
        | zero =>
          cases e with
          | succ e => kernel_rfl
          | zero => exact absurd rfl h
theorem eq5_yes (w : World) : (Op.equalIn 10000 44 (.agg (lsC [0, 0, 0, 0, 0])) (.agg #[.int .u64 0, .int .u64 0, .int .u64 0, .int .u64 0, .int .u64 0])).run Tryd.prog w = .ok true w := by kernel_rfl
theorem eq5 (r : Nat) (hr : r < pC) (w : World) : (Op.equalIn 10000 44 (.agg (lsC (lm r))) (.agg #[.int .u64 0, .int .u64 0, .int .u64 0, .int .u64 0, .int .u64 0])).run Tryd.prog w = .ok (decide (r = 0)) w := by
  by_cases h : r = 0
  · subst h
    rw [lm_0, decide_eq_true rfl]
    exact eq5_yes w
  · rw [decide_eq_false h]
    have hv := val_lm r (by unfold two255 pC at *; omega)
    have hl := lm_length r
    generalize lm r = l at hv hl ⊢
    match l, hl with
    | [a, b, c, d, e], _ =>
      refine eq5_no_ a b c d e w fun e5 => h ?_
      rw [← hv, e5]; rfl
theorem resN_lt (s : List UInt8) (u : Nat) : resN s u < pC := muN_lt _ _
theorem lm_9 : lsC (lm 9) = #[.int .u64 9, .int .u64 0, .int .u64 0, .int .u64 0, .int .u64 0] := by simp [lsC, lm, dig]
theorem built44n : Tryd.prog.built 44 [(0, .int .u64 9)] = some (lsC (lm 9)) := by rw [lm_9]; kernel_rfl
/-- What the public key of a secret is. -/
def pubN (s : List UInt8) : List UInt8 := octV (resN s 9) 32
/-- What two parties find, if it is not 0. -/
def shRes (r : Nat) : Array Value := if r = 0 then #[.string ⟨#[]⟩, .int .i64 2] else #[.string (bs (octV r 32)), .int .i64 0]
def shN (s p : List UInt8) : Nat := resN s (num p % two255 % pC)
set_option maxRecDepth 100000 in
set_option maxHeartbeats 4000000 in
theorem Public_no (S : ByteArray) (w : World) (h : S.size ≠ 32) : Calls Tryd.prog 16 #[.string S] w fun e w' => e = .returned (.tuple #[.string ⟨#[]⟩, .int .i64 2]) ∧ w' = w := by
  have hk := isKey_any S w
  rw [decide_eq_false (by omega)] at hk
  have HK := Lib.hid hk
  clear hk
  go_enter Tryd.func16, Tryd.ntmps16
  go_wp2_with fail
  (with_reducible refine HK.out.mono ?_)
  rintro e w1 ⟨rfl, rfl⟩
  go_wp2
  go_ret2
  exact ⟨rfl, rfl⟩
set_option maxRecDepth 100000 in
set_option maxHeartbeats 4000000 in
theorem Public_yes (s : List UInt8) (w : World) (h : s.length = 32) : Calls Tryd.prog 16 #[.string (bs s)] w fun e w' => e = .returned (.tuple #[.string (bs (pubN s)), .int .i64 0]) ∧ Below w.heap.size w w' := by
  have hk := isKey_any (bs s) w
  rw [decide_eq_true (by rw [bs_size]; omega)] at hk
  have HK := Lib.hid hk
  have hC := fun W => resultOf_any s 9 W h (by decide)
  have hO := fun W => octets_any (resN s 9) W (by have := resN_lt s 9; unfold pC two255 at *; omega)
  unfold nv at hC hO
  have HC := Lib.hid hC
  have HO := Lib.hid hO
  clear hC hO
  have HB := Lib.hid built44n
  have HP := Lib.hid (show pubN s = octV (resN s 9) 32 from rfl)
  obtain ⟨S, hS⟩ : ∃ S, bs s = S := ⟨_, rfl⟩
  rw [hS] at HK HC ⊢
  generalize resN s 9 = r at HC HO HP
  clear hk h hS
  go_enter Tryd.func16, Tryd.ntmps16
  go_wp2_with fail
  (with_reducible refine HK.out.mono ?_)
  rintro e w1 ⟨rfl, rfl⟩
  go_upto_region 3 with fail
  go_wp2_with (refine wpList_buildTo (o := ⟨some 8, _, _, _, _, _⟩) rfl 44 _ rfl (some 8) rfl (lsC (lm 9)) (by simp only [List.map_toArray, List.map_cons, List.map_nil]; exact HB.out) ?_)
  (with_reducible refine (HC.out _).mono ?_)
  rintro e w2 ⟨rfl, hb1⟩
  have HB1 := Lib.hid hb1
  clear hb1
  go_wp2_with fail
  (with_reducible refine (HO.out _).mono ?_)
  rintro e w3 ⟨rfl, hb2⟩
  have HB2 := Lib.hid (bstep HB1.out hb2)
  clear hb2
  go_wp2_with fail
  go_ret2
  exact ⟨by rw [HP.out]; rfl, HB2.out⟩
set_option maxRecDepth 100000 in
set_option maxHeartbeats 4000000 in
theorem Shared_no (S U : ByteArray) (w : World) (h : S.size ≠ 32 ∨ U.size ≠ 32) : Calls Tryd.prog 17 #[.string S, .string U] w fun e w' => e = .returned (.tuple #[.string ⟨#[]⟩, .int .i64 2]) ∧ w' = w := by
  by_cases h1 : S.size = 32
  · have hk := fun W => isKey_any S W
    have hk2 := fun W => isKey_any U W
    simp only [decide_eq_true (show (S.size : Int) = 32 by omega)] at hk
    simp only [decide_eq_false (show ¬ (U.size : Int) = 32 by omega)] at hk2
    have HK := Lib.hid hk
    have HK2 := Lib.hid hk2
    clear hk hk2 h1 h
    go_enter Tryd.func17, Tryd.ntmps17
    go_wp2_with fail
    (with_reducible refine (HK.out _).mono ?_)
    rintro e w1 ⟨rfl, rfl⟩
    go_wp2_with fail
    (with_reducible refine (HK2.out _).mono ?_)
    rintro e w1 ⟨rfl, rfl⟩
    go_wp2
    go_ret2
    exact ⟨rfl, rfl⟩
  · have hk := fun W => isKey_any S W
    simp only [decide_eq_false (show ¬ (S.size : Int) = 32 by omega)] at hk
    have HK := Lib.hid hk
    clear hk h1 h
    go_enter Tryd.func17, Tryd.ntmps17
    go_wp2_with fail
    (with_reducible refine (HK.out _).mono ?_)
    rintro e w1 ⟨rfl, rfl⟩
    go_wp2
    go_ret2
    exact ⟨rfl, rfl⟩
set_option maxRecDepth 100000 in
set_option maxHeartbeats 8000000 in
theorem Shared_yes (s p : List UInt8) (w : World) (h : s.length = 32) (h2 : p.length = 32) :
    Calls Tryd.prog 17 #[.string (bs s), .string (bs p)] w fun e w' => e = .returned (.tuple (shRes (shN s p))) ∧ Below w.heap.size w w' := by
  have hk := fun W => isKey_any (bs s) W
  have hk2 := fun W => isKey_any (bs p) W
  simp only [decide_eq_true (show ((bs s).size : Int) = 32 by rw [bs_size]; omega)] at hk
  simp only [decide_eq_true (show ((bs p).size : Int) = 32 by rw [bs_size]; omega)] at hk2
  have HN := Lib.hid (fun W => numberOf_any p W (by omega))
  have hup : num p % two255 % pC < pC := Nat.mod_lt _ (by decide)
  have hr : shN s p < pC := resN_lt _ _
  have HC : Hid (∀ W, Calls Tryd.prog 27 #[.string (bs s), nv (num p % two255 % pC)] W fun e w' => e = .returned (nv (shN s p)) ∧ Below W.heap.size W w') := Lib.hid (fun W => resultOf_any s _ W h hup)
  generalize num p % two255 % pC = u at HN HC hup
  generalize shN s p = r at HC hr ⊢
  have HO := Lib.hid (fun W => octets_any r W (by unfold pC two255 at *; omega))
  have HE := Lib.hid (eq5 r hr)
  have HK := Lib.hid hk
  have HK2 := Lib.hid hk2
  obtain ⟨S, hS⟩ : ∃ S, bs s = S := ⟨_, rfl⟩
  obtain ⟨U, hU⟩ : ∃ S, bs p = S := ⟨_, rfl⟩
  rw [hS] at HK HC ⊢
  rw [hU] at HK2 HN ⊢
  have hz0 : Tryd.prog.built 44 [] = some #[.int .u64 0, .int .u64 0, .int .u64 0, .int .u64 0, .int .u64 0] := by kernel_rfl
  have HZ := Lib.hid hz0
  clear hk hk2 h h2 hS hU hup hr hz0
  go_enter Tryd.func17, Tryd.ntmps17
  go_wp2_with fail
  (with_reducible refine (HK.out _).mono ?_)
  rintro e w1 ⟨rfl, rfl⟩
  go_wp2_with fail
  (with_reducible refine (HK2.out _).mono ?_)
  rintro e w1 ⟨rfl, rfl⟩
  go_wp2_with fail
  (with_reducible refine (HN.out _).mono ?_)
  rintro e w2 ⟨rfl, hb1⟩
  have HB1 := Lib.hid hb1
  clear hb1 HK HK2 HN
  go_wp2_with fail
  (with_reducible refine (HC.out _).mono ?_)
  rintro e w3 ⟨rfl, hb2⟩
  have HB2 := Lib.hid (bstep HB1.out hb2)
  have HL := Lib.hid (Lar.new w3 44 [0, 0, 0, 0, 0])
  clear hb2 HB1 HC
  unfold nv
  go_upto_region 4 with (refine wpList_store_row rfl 44 _ _ rfl w3.heap.size (lsC (lm r)) rfl rfl 44 _ HL.out (by rw [size44, lsC_size, lm_length]) (by rw [lsC_size, lsC_size, lm_length]; rfl) (lsC_one _) ?_)
  have HR : Hid (Lar ((w3.alloc (.cells #[.int .u64 0, .int .u64 0, .int .u64 0, .int .u64 0, .int .u64 0] 44)).setRow w3.heap.size (lsC (lm r))) w3.heap.size 44 (lm r)) := Lib.hid (HL.out.row (lm r))
  have HB : Hid (Below w1.heap.size w1 ((w3.alloc (.cells #[.int .u64 0, .int .u64 0, .int .u64 0, .int .u64 0, .int .u64 0] 44)).setRow w3.heap.size (lsC (lm r)))) := Lib.hid (below_setRow (bstep1 HB2.out) HB2.out.size _)
  clear HL HB2
  generalize World.setRow (World.alloc w3 _) _ _ = W4 at HR HB ⊢
  generalize w3.heap.size = G at HR ⊢
  have hE := HE.out
  have hO := HO.out
  unfold nv at hO
  have HSZ := Lib.hid (show (lsC (lm r)).size = 5 by rw [lsC_size, lm_length])
  have hR := HR.out
  unfold Lar at hR
  clear HE HO HR
  by_cases hr0 : r = 0
  · rw [decide_eq_true hr0] at hE
    have HPO := Lib.hid (show shRes r = _ from if_pos hr0)
    generalize lsC (lm r) = cs at hE hO HSZ hR ⊢
    have HR := Lib.hid hR
    clear hO hr0 hR
    go_wp2_with (first | (refine wpList_load_row rfl 44 _ rfl G rfl 44 cs (0, 0) _ HR.out Tryd.underlying44 rfl (by rw [size44, HSZ.out]) ?_) | (refine wpList_buildTo (o := ⟨some 20, _, _, _, _, _⟩) rfl 44 _ rfl (some 20) rfl (#[.int .u64 0, .int .u64 0, .int .u64 0, .int .u64 0, .int .u64 0]) (by simp only [List.map_toArray, List.map_nil]; exact HZ.out) ?_))
    go_ret2
    exact ⟨by rw [HPO.out]; rfl, HB.out⟩
  · rw [decide_eq_false hr0] at hE
    have HPO := Lib.hid (show shRes r = _ from if_neg hr0)
    generalize lsC (lm r) = cs at hE hO HSZ hR ⊢
    have HR := Lib.hid hR
    have HO := Lib.hid hO
    clear hO hr0 hR
    go_wp2_with (first | (refine wpList_load_row rfl 44 _ rfl G rfl 44 cs (0, 0) _ HR.out Tryd.underlying44 rfl (by rw [size44, HSZ.out]) ?_) | (refine wpList_buildTo (o := ⟨some 20, _, _, _, _, _⟩) rfl 44 _ rfl (some 20) rfl (#[.int .u64 0, .int .u64 0, .int .u64 0, .int .u64 0, .int .u64 0]) (by simp only [List.map_toArray, List.map_nil]; exact HZ.out) ?_))
    (with_reducible refine (HO.out _).mono ?_)
    rintro e w5 ⟨rfl, hb2⟩
    have HB2 := Lib.hid (bstep HB.out hb2)
    clear hb2 hE
    go_wp2_with fail
    go_ret2
    exact ⟨by rw [HPO.out]; rfl, HB2.out⟩
end Go.Proofs.YtbadiljligcenaaDoor
