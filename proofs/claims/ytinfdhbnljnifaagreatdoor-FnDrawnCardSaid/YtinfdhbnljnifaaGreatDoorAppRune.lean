import Derived.Test.YtinfdhbnljnifaaGreatDoorRsz
import Derived.Test.YtinfdhbnljnifaaGreatDoorProg
namespace Go.Proofs.YtinfdhbnljnifaaGreatDoor
open Go.RowKit
def zac (r : Int) : List Int := if Utf8.valid r = true then zbd r else [239, 191, 189]
theorem zb1 (r : Int) : (zac r).length ≤ 4 := by
 unfold zac zbd
 (repeat' split) <;> simp
theorem zdF (r : Int) : zv (zac r) := by
 unfold zac
 split
 ·rename_i h
  have := zbV h
  exact zgx r this.1 (by omega)
 ·intro n hn; simp at hn; omega
theorem zbs {w : World} (zs : List Value) (t : TypeId) : ∀ j u, zs[j]? = some u → (w.alloc (.cells zs.toArray t)).cell? ((⟨w.heap.size, 0, none⟩ : Addr).add j) = some u := by
 intro j u h
 rw [Addr.add_lit, Nat.zero_add, World.cell?_alloc_at _ _ _ _ rfl]
 simpa using h
theorem zbP : (Tryz.prog.info? 5).map (fun i => (i.zero, i.size, i.bytes)) = some (some (.int .u8 0), 1, 1) := by kernel_rfl
theorem zog {r : Int} (h0 : 0 ≤ r) (h1 : r ≤ 127) : zac r = [r] := by
 rw [zac, if_pos (by simp [Utf8.valid]; omega), zbd, if_pos (by omega)]
theorem zoC {r : Int} (h0 : 128 ≤ r) (h1 : r ≤ 2047) : zac r = [192 + r / 64, 128 + r % 64] := by
 rw [zac, if_pos (by simp [Utf8.valid]; omega), zbd, if_neg (by omega), if_pos (by omega)]
theorem zlj {r : Int} (h : (2048 ≤ r ∧ r < 55296) ∨ (57343 < r ∧ r ≤ 65535)) : zac r = [224 + r / 4096, 128 + r / 64 % 64, 128 + r % 64] := by
 rw [zac, if_pos (by simp [Utf8.valid]; omega), zbd, if_neg (by omega), if_neg (by omega), if_pos (by omega)]
theorem zmI {r : Int} (h0 : 65536 ≤ r) (h1 : r ≤ 1114111) : zac r = [240 + r / 262144, 128 + r / 4096 % 64, 128 + r / 64 % 64, 128 + r % 64] := by
 rw [zac, if_pos (by simp [Utf8.valid]; omega), zbd, if_neg (by omega), if_neg (by omega), if_neg (by omega)]
end Go.Proofs.YtinfdhbnljnifaaGreatDoor
