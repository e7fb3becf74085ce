import Derived.Test.YtlmgeobmjkbccaaDoorRBs
import Derived.Test.YtlmgeobmjkbccaaDoorWriM
import Derived.Test.YtlmgeobmjkbccaaDoorBOk
import Derived.Test.YtlmgeobmjkbccaaDoorDec
import Derived.Test.YtlmgeobmjkbccaaDoorSame6
namespace Go.Proofs.YtlmgeobmjkbccaaDoor
open Go.RowKit
theorem slicesEqual_any (va vb : Value) (n m : Nat) (tx ty : Nat → ByteArray) (w : World) (ha : Row1At w va n (fun j => .string (tx j))) (hb : Row1At w vb m (fun j => .string (ty j))) (hn : n ≤ 1048576) (hm : m ≤ 1048576) (hn0 : 0 < n) (hm0 : 0 < m) (ok : Bool) (hok : ok = true ↔ SameR n m tx ty) :
    Calls Tryd.prog 38 #[va, vb] w fun e w' => e = .returned (.bool ok) ∧ Ext w w' := by
  obtain ⟨ao, ca, rfl, hca, hxa⟩ := ha
  obtain ⟨bo, cb, rfl, hcb, hxb⟩ := hb
  obtain ⟨b1, o1, rfl, h1⟩ := hxa hn0
  obtain ⟨b2, o2, rfl, h2⟩ := hxb hm0
  have hc := Any.slices_Equal_string Tryd.lays193 b1 o1 n ca b2 o2 m cb ((List.range n).map tx) ((List.range m).map ty) w (by simp) (by simp) (by omega) (by omega)
    (fun j hj => by
      have hj' : j < n := by simpa using hj
      rw [h1 j hj']
      simp [List.getD, hj'])
    (fun j hj => by
      have hj' : j < m := by simpa using hj
      rw [h2 j hj']
      simp [List.getD, hj'])
  refine Calls.mono hc ?_
  rintro e w' ⟨rfl, q, rfl⟩
  refine ⟨ret_bool ?_, (Ext.refl w).drewN q⟩
  rw [List.take_of_length_le (by simp), List.take_of_length_le (by simp)]
  have hiff : ((List.range n).map tx = (List.range m).map ty) ↔ SameR n m tx ty := by
    constructor
    · intro h
      have hl := congrArg List.length h
      simp at hl
      subst hl
      refine ⟨rfl, fun j hj => ?_⟩
      have := congrArg (·[j]?) h
      simpa [hj] using this
    · rintro ⟨rfl, h⟩
      exact List.map_congr_left (fun j hj => h j (by simpa using hj))
  cases hc : ok with
  | true => exact decide_eq_true (hiff.2 (hok.1 hc))
  | false => exact decide_eq_false (fun e => by rw [hok.2 (hiff.1 e)] at hc; cases hc)
end Go.Proofs.YtlmgeobmjkbccaaDoor
