import Derived.Test.YtkimnihdjeonpaaUtf
import Derived.Test.YtkimnihdjeonpaaProg
namespace Go.Proofs.Ytkimnihdjeonpaa
open Go.RowKit
theorem l1Valid_any (r : Int) (w : World) : Calls Try.prog 30 #[.int .i64 r] w fun e w' => e = .returned (.bool (Utf8.valid r)) ∧ w' = w := by
  go_enter Try.func30, Try.ntmps30
  go_wp2
  all_goals
    go_ret
    refine ⟨ret_bool ?_, rfl⟩
    rw [Bool.eq_iff_iff]
    simp [Utf8.valid]
    omega
theorem new_ints {w : World} (k : IntKind) (zs : List Int) (t n : Nat) (hn : n = zs.length) : IntsAt (w.alloc (.cells (zs.map (Value.int k)).toArray t)) k (.slice (some ⟨w.heap.size, 0, none⟩) n n) zs := by
  subst hn
  refine ⟨_, _, rfl, Nat.le_refl _, fun _ => ⟨_, 0, rfl, fun j hj => ?_⟩⟩
  rw [World.cell?_alloc_at _ _ _ _ rfl]
  simp [at0, hj]
theorem ret_str {a b : ByteArray} (h : a = b) : Ending.returned (.string a) = .returned (.string b) := by rw [h]
set_option maxHeartbeats 400000 in
theorem l1Utf8_any (r : Int) (w : World) (h0 : 0 ≤ r) (h1 : r ≤ 1114111) : Calls Try.prog 31 #[.int .i64 r] w fun e w' => e = .returned (.string (toBA (encL r))) ∧ Ext w w' := by
  have cv : ∀ zs : List Int, (convert 29 9 (.slice (some ⟨w.heap.size, 0, none⟩) zs.length zs.length)).run Try.prog (w.alloc (.cells (zs.map (Value.int .u8)).toArray 5)) = .ok (.string (toBA zs)) (w.alloc (.cells (zs.map (Value.int .u8)).toArray 5)) :=
    fun zs => run_b2s _ _ _ _ Try.underlying29 Try.underlying5 Try.underlying9 _ _ (new_ints _ _ _ _ rfl)
  have c1 := fun a : Int => cv [a]
  have c2 := fun a b : Int => cv [a, b]
  have c3 := fun a b c : Int => cv [a, b, c]
  have c4 := fun a b c d : Int => cv [a, b, c, d]
  clear cv
  simp only [List.length_cons, List.length_nil, List.map_cons, List.map_nil, Nat.zero_add, Nat.reduceAdd] at c1 c2 c3 c4
  go_enter Try.func31, Try.ntmps31
  go_wp2
  all_goals
    go_ret
    refine ⟨ret_str (congrArg toBA ?_), by repeat (first | exact Ext.refl _ | apply Ext.alloc)⟩
    unfold encL
    first | (rw [if_pos (by omega)]) | (rw [if_neg (by omega), if_pos (by omega)]) | (rw [if_neg (by omega), if_neg (by omega), if_pos (by omega)]) | (rw [if_neg (by omega), if_neg (by omega), if_neg (by omega)])
end Go.Proofs.Ytkimnihdjeonpaa
