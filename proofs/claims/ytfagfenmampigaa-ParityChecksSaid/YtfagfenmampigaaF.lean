/- append(x, make([]byte, n)...) onto a row of the call's own. -/
import Derived.Test.YtfagfenmampigaaB
import Derived.Lib.AppendStr
namespace Go.Proofs.Ytfagfenmampigaa
open Go.RowKit Go.ChangeShapes
/-- n octets 0. -/
def zs (n : Nat) : ByteArray := bs (List.replicate n 0)
theorem zs_size (n : Nat) : (zs n).size = n := by unfold zs; rw [bs_size, List.length_replicate]
theorem zeroC (n : Nat) : Builtin.zeroCells #[Value.int .u8 0] n = (Lib.strCells (zs n)).toArray := by
  apply Array.ext
  · simp [Builtin.zeroCells, Lib.strCells, zs, bs]
  · intro i h1 h2
    simp [Builtin.zeroCells, Lib.strCells, zs, bs, Nat.mod_one]
theorem take_strC (m : Nat) : List.take m (List.map (fun b : UInt8 => Value.int IntKind.u8 (b.toNat : Int)) (zs m).data.toList) = Lib.strCells (zs m) := by
  rw [List.take_of_length_le (by rw [List.length_map]; exact Nat.le_of_eq (zs_size m))]
  rfl
theorem ext_strC (m : Nat) : (Array.map (fun b : UInt8 => Value.int IntKind.u8 (b.toNat : Int)) (zs m).data).extract 0 m = (Lib.strCells (zs m)).toArray := by
  apply Array.ext'
  rw [Array.toList_extract]
  simp only [Array.toList_map, List.extract, List.drop_zero, Nat.sub_zero]
  exact take_strC m
theorem zeros_eq (ty : TypeId) (b : Option Addr) (sLen sCap m : Nat) (w : World) (h1 : sLen ≤ 4096) (h2 : m ≤ 4096) (hm : 0 < m) :
    (Builtin.append_ #[52, 3] ty #[.slice b sLen sCap, .int .i64 (m : Int)]).run Try.prog w = (Builtin.append_ #[52, 9] ty #[.slice b sLen sCap, .string (zs m)]).run Try.prog w := by
  obtain ⟨i0, hi, hz0, hz1, hz2⟩ := info_parts info5
  have hw : IntKind.i64.wrap (m : Int) = (m : Int) := IntWalk.i64_in _ (by omega)
  have hsz := zs_size m
  have e1 : ¬ ((m : Int) < 0) := by omega
  have e2 : ¬ (281474976710656 < (m : Int)) := by omega
  have e3 : ¬ (9223372036854775807 < (sLen : Int) + (m : Int)) := by omega
  have hm1 : ¬ m = 0 := by omega
  have hm0 : ¬ (m : Int) ≤ 0 := by omega
  have t1 := zeroC m
  have t2 := take_strC m
  have t3 := ext_strC m
  by_cases hroom : sLen + m ≤ sCap
  · simp [Builtin.append_, run_underlying Try.underlying52, run_underlying Try.underlying3, run_underlying Try.underlying9, sizeOf, typeInfo, hi, hz0, hz1, hz2, Builtin.lenOf, asInt, asIntOf, go_sem, hw, e1, e2, hsz, hm1, hm0, hroom, t1, t2]
  · have e4 : ¬ (281474976710656 < Builtin.nextslicecap (sLen + m) sCap) := by
      have := nextslicecap_le (need := sLen + m) (old := sCap) (by omega)
      omega
    simp [Builtin.append_, run_underlying Try.underlying52, run_underlying Try.underlying3, run_underlying Try.underlying9, sizeOf, typeInfo, hi, hz0, hz1, hz2, Builtin.lenOf, asInt, asIntOf, go_sem, hw, e1, e2, e3, e4, hsz, hm1, hm0, hroom, t1, t3]
/-- The law at the operation. -/
theorem wpList_append_zeros {ops : Array Oper} {rest : List Oper} {o : Oper} {a : Act} {w : World} {Q : Exit → Act → World → Prop} (hgd : o.guard = none) (sl x : Operand)
    (ho : o.op = .call { callee := .builtin .append, args := #[sl, x], argTypes := #[52, 3] })
    (base : Nat) (v : Value) (n : Nat) (xs : List Value) (hs : a.eval sl = v) (hown : w.ownsRow base 5 1 v n xs) (m : Nat) (hx : a.eval x = .int .i64 (m : Int))
    (hn : n ≤ 4096) (hm : m ≤ 4096) (hm0 : 0 < m) (hbase : base ≤ w.heap.size)
    (h : ∀ v' w', w'.ownsRow base 5 1 v' (n + m) (xs ++ Lib.strCells (zs m)) → w.grownBy w' v.ownBlock → wpList Try.prog ops Q rest (a.put o.dst v') w') : wpList Try.prog ops Q (o :: rest) a w := by
  refine wpList_plain hgd fun K hK => ?_
  obtain ⟨i0, hi, hz0, hz1, hz2⟩ := info_parts info5
  have hz := zs_size m
  obtain ⟨v', w', hr, h2, h3, _⟩ := Lib.run_append_own_string (P := Try.prog) w base 52 9 o.type 5 i0 Try.underlying52 Try.underlying9 hi hz0 hz1 hz2 v n xs hown (zs m) (by rw [hz]; unfold maxLen; omega) (by rw [hz]; omega) hbase
  rw [hz] at h2
  have hr2 : (Builtin.append_ #[52, 3] o.type #[v, .int .i64 (m : Int)]).run Try.prog w = .ok v' w' := by
    rcases hown.2 with ⟨rfl, _⟩ | ⟨g, cap, cur, rfl, _⟩
    · rw [zeros_eq _ _ _ _ _ _ (by omega) hm hm0]; exact hr
    · rw [zeros_eq _ _ _ _ _ _ hn hm hm0]; exact hr
  unfold Oper.wp execOp
  simp only [ho, resolve, invoke, builtin, Sem.run_bind, Sem.run_pure, Result.andThen_ok, List.map_toArray, List.map_cons, List.map_nil, hs, hx, hr2]
  exact hK _ _ (h v' w' h2 h3)
theorem strC_by (m : Nat) : Lib.strCells (zs m) = byC (List.replicate m 0) := rfl
end Go.Proofs.Ytfagfenmampigaa
