/- The calls of DigestKnown. -/
import Derived.Test.YtfdeegafdaobdaaDoorCP
namespace Go.Proofs.YtfdeegafdaobdaaDoor
open Go.RowKit Go.ChangeShapes

theorem rp_eq (c : UInt8) (n : Nat) : rp c n = bs (List.replicate n c) := rfl
abbrev zsV (t : ByteArray) (n : Int) : Value := .agg #[.int .u32 0, .int .u32 0, .int .u32 0, .int .u32 0, .int .u32 0, .int .u32 0, .int .u32 0, .int .u32 0, .string t, .int .i64 n]
abbrev Ret (f : FuncId) (a : Array Value) (v : Value) : Prop := ∀ w : World, Calls Tryd.prog f a w fun e w' => e = .returned v ∧ Below w.heap.size w w'
theorem zR4097 : Ret 20 #[.string ⟨#[122]⟩, .int .i64 4097] (.string (rp 122 4097)) := fun w => kRep 122 4097 4097 w rfl (by decide)
theorem zR4096 : Ret 20 #[.string ⟨#[122]⟩, .int .i64 4096] (.string (rp 122 4096)) := fun w => kRep 122 4096 4096 w rfl (by decide)
theorem zSum (n : Nat) (hn : n ≤ 4096) : Ret 15 #[.string (rp 122 n)] (.tuple #[.string (bs (sumB (List.replicate n 122))), .int .i64 0]) := fun w => sum_ok _ w (by rw [List.length_replicate]; exact hn)
/-- More of a digest of octets, and End of it. -/
theorem zMore (a b : List UInt8) (ha : a.length ≤ 100000) (hb : b.length ≤ 4096) : Ret 22 #[hsV (mk a).w (bs (mk a).tail) ((mk a).count : Int), .string (bs b)] (.tuple #[hsV (mk (a ++ b)).w (bs (mk (a ++ b)).tail) ((mk (a ++ b)).count : Int), .int .i64 0]) := fun w => by
  have h := moreP_ok (mk a) (mk_ok a (by omega)) b w hb (by rw [mk_count]; omega)
  rw [mk_more] at h
  exact h
theorem zEnd (a : List UInt8) (ha : a.length ≤ 200000) : Ret 25 #[hsV (mk a).w (bs (mk a).tail) ((mk a).count : Int)] (.tuple #[.string (bs (sumB a)), .int .i64 0]) := fun w => endP_ok (mk a) (mk_ok a (by omega)) w
theorem zMoreFull : ∃ p, Ret 22 #[hsV IW ByteArray.empty 0, .string (rp 122 4096)] (.tuple #[hsV p ⟨#[]⟩ 4096, .int .i64 0]) ∧ Ret 25 #[hsV p ⟨#[]⟩ 4096] (.tuple #[.string (bs (sumB (List.replicate 4096 122))), .int .i64 0]) := by
  have h1 := zMore [] (List.replicate 4096 122) (by decide) (by rw [List.length_replicate]; decide)
  have h2 := zEnd (List.replicate 4096 122) (by rw [List.length_replicate]; decide)
  rw [List.nil_append, mk_nil] at h1
  have e1 : (mk (List.replicate 4096 122)).tail = [] := by
    rw [mk_tail, List.length_replicate]
    exact List.drop_eq_nil_of_le (by rw [List.length_replicate]; decide)
  have e2 : (mk (List.replicate 4096 122)).count = 4096 := by rw [mk_count, List.length_replicate]
  rw [e1, e2] at h1 h2
  exact ⟨_, h1, h2⟩
theorem zLong0 : Ret 22 #[hsV IW ByteArray.empty 0, .string (rp 122 4097)] (.tuple #[hzV, .int .i64 3]) := fun w =>
  moreP_long IW ByteArray.empty 0 _ w (by decide) ⟨by decide, by decide, by decide⟩ (by rw [rp_size]; decide) (by rw [rp_size]; decide)
theorem zBad : Ret 22 #[zsV ⟨#[]⟩ (-1), .string (rp 122 4097)] (.tuple #[hzV, .int .i64 2]) := fun w =>
  moreP_bad zW ⟨#[]⟩ (-1) _ w (by decide) (fun h => absurd h.1 (by decide))
theorem zLong1 : Ret 22 #[zsV ⟨#[]⟩ 1099511627776, .string (rp 122 4097)] (.tuple #[hzV, .int .i64 3]) := fun w =>
  moreP_long zW ⟨#[]⟩ 1099511627776 _ w (by decide) ⟨by decide, by decide, by decide⟩ (by rw [rp_size]; decide) (by rw [rp_size]; decide)
def maxH : HH := ⟨zW, [], 1099511627776⟩
theorem maxH_ok : okHH maxH := ⟨by unfold W8.ok isW; decide, by decide, by decide⟩
theorem zNone : ∃ v : HH, Ret 22 #[zsV ⟨#[]⟩ 1099511627776, .string ⟨#[]⟩] (.tuple #[hsV v.w (bs v.tail) (v.count : Int), .int .i64 0]) :=
  ⟨moreH KL maxH [], fun w => moreP_ok maxH maxH_ok [] w (by decide) (by decide)⟩
theorem zBig : Ret 22 #[zsV ⟨#[]⟩ 1099511627776, .string ⟨#[120]⟩] (.tuple #[hzV, .int .i64 6]) := fun w =>
  moreP_big zW ⟨#[]⟩ 1099511627776 ⟨#[120]⟩ w (by decide) ⟨by decide, by decide, by decide⟩ (by decide) (by decide)
theorem zEndMax : ∃ o : List UInt8, o.length = 32 ∧ Ret 25 #[zsV ⟨#[]⟩ 1099511627776] (.tuple #[.string (bs o), .int .i64 0]) :=
  ⟨endH KL maxH, endH_length _ _, fun w => endP_ok maxH maxH_ok w⟩
theorem zCk1 : Ret 27 #[zsV ⟨#[]⟩ 1099511627840] (.int .i64 2) := fun w => check_no zW ⟨#[]⟩ 1099511627840 w (by decide) (fun h => absurd h.2.1 (by decide))
theorem zCk2 : Ret 27 #[zsV (rp 122 63) 63] (.int .i64 0) := fun w => check_yes zW (rp 122 63) 63 w (by rw [rp_size]; decide) ⟨by decide, by decide, by rw [rp_size]; decide⟩
theorem zCk3 : Ret 27 #[zsV (rp 122 64) 64] (.int .i64 2) := fun w => check_no zW (rp 122 64) 64 w (by rw [rp_size]; decide) (fun h => by have := h.2.2; rw [rp_size] at this; exact absurd this (by decide))
theorem zEndBad : Ret 25 #[zsV ⟨#[120]⟩ 0] (.tuple #[.string ByteArray.empty, .int .i64 2]) := fun w => endP_bad zW ⟨#[120]⟩ 0 w (by decide) (fun h => absurd h.2.2 (by decide))
theorem lng1 (n : Nat) (h : 4096 < n) (l : List ByteArray) : lng (rp 122 n :: l) = true := by rw [lng_cons, rp_size, decide_eq_true h]; rfl
theorem zMac1 : Ret 18 #[.string (rp 122 4097), .string ⟨#[]⟩] (.tuple #[.string ByteArray.empty, .int .i64 3]) := fun w => mac_long _ _ w (lng1 _ (by decide) _) (by rw [rp_size]; decide) (by decide)
theorem zMac2 : Ret 18 #[.string ⟨#[]⟩, .string (rp 122 4097)] (.tuple #[.string ByteArray.empty, .int .i64 3]) := fun w => mac_long _ _ w (by rw [lng_cons, lng1 _ (by decide) _, Bool.or_true]) (by decide) (by rw [rp_size]; decide)
theorem zDer1 : Ret 28 #[.string (rp 122 4097), .string ⟨#[]⟩, .string ⟨#[]⟩, .int .i64 (-1)] (.tuple #[.string ByteArray.empty, .int .i64 3]) := fun w => derive_long _ _ _ _ w (lng1 _ (by decide) _) (by rw [rp_size]; decide) (by decide) (by decide)
theorem zDer2 : Ret 28 #[.string ⟨#[]⟩, .string (rp 122 4097), .string ⟨#[]⟩, .int .i64 0] (.tuple #[.string ByteArray.empty, .int .i64 3]) := fun w => derive_long _ _ _ _ w (by rw [lng_cons, lng1 _ (by decide) _, Bool.or_true]) (by decide) (by rw [rp_size]; decide) (by decide)
theorem zDer3 : Ret 28 #[.string ⟨#[]⟩, .string ⟨#[]⟩, .string (rp 122 4097), .int .i64 0] (.tuple #[.string ByteArray.empty, .int .i64 3]) := fun w => derive_long _ _ _ _ w (by rw [lng_cons, lng_cons, lng1 _ (by decide) _, Bool.or_true, Bool.or_true]) (by decide) (by decide) (by rw [rp_size]; decide)
theorem zDer4 : Ret 28 #[.string ⟨#[]⟩, .string ⟨#[]⟩, .string ⟨#[]⟩, .int .i64 (-1)] (.tuple #[.string ByteArray.empty, .int .i64 2]) := fun w => derive_arg _ _ _ _ w (by decide) (by decide) (by decide) (by decide) (.inl (by decide))
theorem zDer5 : Ret 28 #[.string ⟨#[]⟩, .string ⟨#[]⟩, .string ⟨#[]⟩, .int .i64 0] (.tuple #[.string ⟨#[]⟩, .int .i64 0]) := fun w => derive_ok [] [] [] 0 w (by decide) (by decide) (by decide) (by decide)
theorem zSlice (n : Nat) (z : Int) (hz : z = (n : Int)) (hn : n ≤ 4096) (wx : World) : (Instr.slice 9 (.string (rp 122 4096)) none (some (.int .i64 z)) none).run Tryd.prog wx = .ok (.string (rp 122 n)) wx := by
  subst hz
  have := run_slice_string_h (P := Tryd.prog) (w := wx) (t := 9) (s := rp 122 4096) Tryd.underlying9 .i64 (n : Int) (by omega) (by rw [rp_size]; omega)
  rw [this, rp_eq, ext_bs, List.drop_zero, bs_data, List.take_replicate, show min ((n : Int).toNat - 0) 4096 = n by omega, rp_eq]
end Go.Proofs.YtfdeegafdaobdaaDoor
