import Derived.Test.YtlnmpbdnmlpkiaaDoorBase
import Derived.Test.YtlnmpbdnmlpkiaaDoorProg
namespace Go.Proofs.YtlnmpbdnmlpkiaaDoor
open Go.RowKit


/-- What 'mark' lays: the numbers from k on, each made an int32. -/
def mkI32 (k : Int) (n : Nat) : List Int := (List.range n).map fun (j : Nat) => wrap32 (k + (j : Int))
theorem mkI32_len (k : Int) (n : Nat) : (mkI32 k n).length = n := by simp [mkI32]
theorem mkI32_at (k : Int) (n j : Nat) (h : j < n) : at0 (mkI32 k n) j = wrap32 (k + (j : Int)) := by simp [at0, mkI32, h]
/-- The row while 'mark' is at place j. -/
def midI32 (k : Int) (xs : List Value) (j : Nat) : List Value := ((mkI32 k j).map (Value.int .i32)) ++ xs.drop j
theorem midI32_zero (k : Int) (xs : List Value) : midI32 k xs 0 = xs := by simp [midI32, mkI32]
theorem midI32_step (k : Int) (xs : List Value) (j : Nat) (h : j < xs.length) : (midI32 k xs j).set j (.int .i32 (wrap32 (k + (j : Int)))) = midI32 k xs (j + 1) := by
  have e : mkI32 k (j + 1) = mkI32 k j ++ [wrap32 (k + (j : Int))] := by simp [mkI32, List.range_succ]
  have hl : ((mkI32 k j).map (Value.int .i32)).length = j := by simp [mkI32_len]
  unfold midI32
  rw [e, List.set_append_right _ _ (by omega), hl, Nat.sub_self, List.drop_eq_getElem_cons h, List.set_cons_zero]
  simp
theorem midI32_end (k : Int) (xs : List Value) (n : Nat) (h : xs.length = n) : midI32 k xs n = (mkI32 k n).map (Value.int .i32) := by
  unfold midI32
  rw [List.drop_of_length_le (by omega)]
  simp

theorem infoI32 : (Tryd.prog.info? 21).map (fun i => (i.zero, i.size, i.bytes)) = some (some (.int .i32 0), 1, 4) := by kernel_rfl
/-- The copy while it is at place j. -/
def cpI32 (zs : List Int) (xs : List Value) (j : Nat) : List Value := ((zs.take j).map (Value.int .i32)) ++ xs.drop j
theorem cpI32_zero (zs : List Int) (xs : List Value) : cpI32 zs xs 0 = xs := by simp [cpI32]
theorem cpI32_step (zs : List Int) (xs : List Value) (j : Nat) (h : j < xs.length) (h2 : j < zs.length) : (cpI32 zs xs j).set j (.int .i32 (at0 zs j)) = cpI32 zs xs (j + 1) := by
  have e : zs.take (j + 1) = zs.take j ++ [at0 zs j] := by rw [List.take_add_one, at0_lt h2]; rfl
  have hl : ((zs.take j).map (Value.int .i32)).length = j := by simp; omega
  unfold cpI32
  rw [e, List.set_append_right _ _ (by omega), hl, Nat.sub_self, List.drop_eq_getElem_cons h, List.set_cons_zero]
  simp
theorem cpI32_end (zs : List Int) (xs : List Value) (n : Nat) (h : xs.length = n) (h2 : zs.length = n) : cpI32 zs xs n = zs.map (Value.int .i32) := by
  unfold cpI32
  rw [List.drop_of_length_le (by omega), List.take_of_length_le (by omega)]
  simp

end Go.Proofs.YtlnmpbdnmlpkiaaDoor
