import Derived.Test.YtaddlkhaokdpdaaDoorUtf
import Derived.Test.YtaddlkhaokdpdaaDoorProg
namespace Go.Proofs.YtaddlkhaokdpdaaDoor
open Go.RowKit
def encR (r : Int) : List Int := if Utf8.valid r = true then encL r else [239, 191, 189]
theorem encR_len (r : Int) : (encR r).length ≤ 4 := by
  unfold encR encL
  (repeat' split) <;> simp
theorem encR_bytes (r : Int) : Bytes (encR r) := by
  unfold encR
  split
  · rename_i h
    have := valid_bd h
    exact encL_bytes r this.1 (by omega)
  · intro n hn; simp at hn; omega
theorem news_cells {w : World} (zs : List Value) (t : TypeId) : ∀ j u, zs[j]? = some u → (w.alloc (.cells zs.toArray t)).cell? ((⟨w.heap.size, 0, none⟩ : Addr).add j) = some u := by
  intro j u h
  rw [Addr.add_lit, Nat.zero_add, World.cell?_alloc_at _ _ _ _ rfl]
  simpa using h
theorem infoByteA : (Tryd.prog.info? 5).map (fun i => (i.zero, i.size, i.bytes)) = some (some (.int .u8 0), 1, 1) := by kernel_rfl
theorem encR_one {r : Int} (h0 : 0 ≤ r) (h1 : r ≤ 127) : encR r = [r] := by
  rw [encR, if_pos (by simp [Utf8.valid]; omega), encL, if_pos (by omega)]
theorem encR_two {r : Int} (h0 : 128 ≤ r) (h1 : r ≤ 2047) : encR r = [192 + r / 64, 128 + r % 64] := by
  rw [encR, if_pos (by simp [Utf8.valid]; omega), encL, if_neg (by omega), if_pos (by omega)]
theorem encR_three {r : Int} (h : (2048 ≤ r ∧ r < 55296) ∨ (57343 < r ∧ r ≤ 65535)) : encR r = [224 + r / 4096, 128 + r / 64 % 64, 128 + r % 64] := by
  rw [encR, if_pos (by simp [Utf8.valid]; omega), encL, if_neg (by omega), if_neg (by omega), if_pos (by omega)]
theorem encR_four {r : Int} (h0 : 65536 ≤ r) (h1 : r ≤ 1114111) : encR r = [240 + r / 262144, 128 + r / 4096 % 64, 128 + r / 64 % 64, 128 + r % 64] := by
  rw [encR, if_pos (by simp [Utf8.valid]; omega), encL, if_neg (by omega), if_neg (by omega), if_neg (by omega)]
end Go.Proofs.YtaddlkhaokdpdaaDoor
