import Derived.Test.YtkimnihdjeonpabSpecRune
import Derived.Test.YtkimnihdjeonpabRows12
namespace Go.Proofs.Ytkimnihdjeonpab
open Go.RowKit
def dgs : Nat → Nat → List Int
  | 0, _ => []
  | f + 1, k => if k = 0 then [] else dgs f (k / 10) ++ [48 + ((k % 10 : Nat) : Int)]
theorem dgs_fuel : ∀ (f g k : Nat), k ≤ f → k ≤ g → dgs f k = dgs g k
  | 0, 0, _, _, _ => rfl
  | 0, g + 1, k, h, _ => by have : k = 0 := by omega
                            subst this; simp [dgs]
  | f + 1, 0, k, _, h => by have : k = 0 := by omega
                            subst this; simp [dgs]
  | f + 1, g + 1, k, h1, h2 => by
    simp only [dgs]
    split
    · rfl
    · rw [dgs_fuel f g (k / 10) (by omega) (by omega)]
def dg (k : Nat) : List Int := dgs k k
theorem dg_step (k : Nat) (h : 0 < k) : dg k = dg (k / 10) ++ [48 + ((k % 10 : Nat) : Int)] := by
  unfold dg
  obtain ⟨m, rfl⟩ : ∃ m, k = m + 1 := ⟨k - 1, by omega⟩
  rw [dgs, if_neg (by omega), dgs_fuel m ((m + 1) / 10) _ (by omega) (Nat.le_refl _)]
theorem dg_len (k : Nat) : (dg k).length ≤ k := by
  have : ∀ f k, k ≤ f → (dgs f k).length ≤ k := by
    intro f
    induction f with
    | zero => intro k h; simp [dgs]
    | succ f ih =>
      intro k h
      rw [dgs]
      split
      · simp
      · have := ih (k / 10) (by omega); simp; omega
  exact this k k (Nat.le_refl _)
def mtx (k : Int) : ByteArray := if k ≤ 0 then toBA [109, 48] else toBA (109 :: dg k.toNat)
theorem toBA_app (xs ys : List Int) : toBA xs ++ toBA ys = toBA (xs ++ ys) := by
  apply WideShapes.bytes_inj
  rw [ByteArray.data_append]
  simp [toBA_list]
set_option maxRecDepth 100000 in
set_option maxHeartbeats 1000000 in
theorem markText_any (k : Int) (w : World) (hk : k ≤ 4398046511104) : Calls Try.prog 64 #[.int .i64 k] w fun e w' => e = .returned (.string (mtx k)) ∧ Ext w w' := by
  by_cases h0 : k ≤ 0
  · have H : Hid (mtx k = { data := #[109, 48] }) := by show _ = _; rw [mtx, if_pos h0]; rfl
    go_enter Try.func64, Try.ntmps64
    go_wp2
    go_ret
    exact ⟨ret_str H.out.symm, Ext.refl _⟩
  · obtain ⟨m, rfl⟩ := Int.eq_ofNat_of_zero_le (show 0 ≤ k by omega)
    have H : Hid (mtx (m : Int) = toBA (109 :: dg m)) := by show _ = _; rw [mtx, if_neg h0, Int.toNat_natCast]
    have cv : ∀ (W : World) (z : Int), (convert 34 9 (.slice (some ⟨W.heap.size, 0, none⟩) 1 1)).run Try.prog (W.alloc (.cells #[.int .u8 z] 5)) = .ok (.string (toBA [z])) (W.alloc (.cells #[.int .u8 z] 5)) :=
      fun W z => run_b2s _ _ _ _ Try.underlying34 Try.underlying5 Try.underlying9 _ _ (new_ints .u8 [z] _ _ rfl)
    go_enter Try.func64, Try.ntmps64
    go_wp2
    go_loopw [0, 3] (fun a o wr => ∃ (q : Nat) (acc : List Int), q ≤ m ∧ a = .int .i64 q ∧ o = .string (toBA acc) ∧ Hid (dg m = dg q ++ acc) ∧ acc.length ≤ m ∧ Ext w wr) (fun a _ _ => (intOf a).toNat)
    case atStart => exact ⟨m, [], Nat.le_refl _, rfl, rfl, by show _ = _; simp, by simp, Ext.refl _⟩
    case round =>
      obtain ⟨q, acc, hq, rfl, rfl, HD, hacc, hext⟩ := hrel
      by_cases hlt : 0 < q
      · have hb : (0 : Int) < (q : Int) := by omega
        have hc1 := cv wr (48 + (q : Int) % 10)
        have hs1 : (toBA [48 + (q : Int) % 10]).size + (toBA acc).size ≤ 9223372036854775807 := by rw [toBA_size, toBA_size]; simp; omega
        have hadd := fun W => run_string_add_sum (P := Try.prog) W _ _ hs1
        have hst := dg_step q hlt
        have HD2 : Hid (dg m = dg (q / 10) ++ ((48 + (q : Int) % 10) :: acc)) := by
          show _ = _
          rw [HD.out, hst, List.append_assoc]
          simp
        have hal : acc.length + 1 ≤ m := by
          have h1 := congrArg List.length HD2.out
          have h2 := dg_len m
          simp at h1; omega
        rw [toBA_app] at hadd
        clear cv hs1 hst
        go_wp2
        go_roundw
        case rel => exact ⟨q / 10, _, by omega, by go_num, rfl, HD2, by simp; omega, hext.alloc _⟩
        case measure => simp [intOf]; omega
      · have hb : ¬ (0 : Int) < (q : Int) := by omega
        have hq0 : q = 0 := by omega
        have hs1 : (toBA [109]).size + (toBA acc).size ≤ 9223372036854775807 := by rw [toBA_size, toBA_size]; simp; omega
        have e1 : ({ data := #[109] } : ByteArray) = toBA [109] := rfl
        have hadd := fun W => run_string_add_sum (P := Try.prog) W _ _ hs1
        rw [toBA_app, ← e1] at hadd
        have hfin : Hid (mtx (m : Int) = toBA ([109] ++ acc)) := by
          show _ = _
          rw [H.out, HD.out, hq0]; rfl
        clear cv hs1 hq0 e1
        go_wp2
        go_ret
        exact ⟨ret_str hfin.out.symm, hext⟩
end Go.Proofs.Ytkimnihdjeonpab
