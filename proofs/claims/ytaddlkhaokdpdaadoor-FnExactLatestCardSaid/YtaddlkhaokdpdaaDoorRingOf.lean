import Derived.Test.YtaddlkhaokdpdaaDoorRing
import Derived.Deep.AppendLies
namespace Go.Proofs.YtaddlkhaokdpdaaDoor
open Go.RowKit
theorem ringZero : Tryd.zeroCells65 = (Array.replicate 100 (Value.string { data := #[] }) ++ #[.int .i64 0, .int .i64 0]) := by kernel_rfl
theorem ring_frozen {W : World} {g : Nat} {cs : Array Value} {T : TypeId} (h : W.heap[g]? = some (.cells cs T (0, 0))) (i : Nat) : W.frozen? ⟨g, i, none⟩ = false := by simp [World.frozen?, h]
theorem ring_new (w : World) : RingAt (w.alloc (.cells Tryd.zeroCells65 65)) w.heap.size (fun _ => { data := #[] }) 0 0 := by
  have hb := new_block w (.cells Tryd.zeroCells65 65)
  rw [ringZero] at hb ⊢
  refine ⟨fun i hi => ⟨cells_of hb i _ ?_, ring_frozen hb i⟩, ⟨cells_of hb 100 _ ?_, ring_frozen hb 100⟩, cells_of hb 101 _ ?_, ring_frozen hb 101⟩
  · rw [Array.getElem?_append_left (by simpa using hi)]
    simp [hi]
  · rw [Array.getElem?_append_right (by simp)]
    simp
  · rw [Array.getElem?_append_right (by simp)]
    simp
set_option maxRecDepth 10000 in
set_option maxHeartbeats 1000000 in
theorem ringOf_any (v : Value) (n : Nat) (tx : Nat → ByteArray) (w : World) (hv : Row1At w v n (fun j => .string (tx j))) (hn : n ≤ 100) :
    Calls Tryd.prog 36 #[v] w fun e w' => ∃ g ty, e = .returned (.pointer (some ⟨g, 0, none⟩)) ∧ w.heap.size ≤ g ∧ (∀ i, i < n → ty i = tx i) ∧ RingAt w' g ty 0 n ∧ Ext w w' := by
  obtain ⟨ao, ca, rfl, hca, hxa⟩ := hv
  have HX := hide hxa
  have HR := hide (ring_new w)
  have EW := (Ext.refl w).alloc (.cells Tryd.zeroCells65 65)
  clear hxa
  go_enter Tryd.func36, Tryd.ntmps36
  go_wp2
  go_loopw [10] (fun i wr => ∃ (k : Nat) (ty : Nat → ByteArray), k ≤ n ∧ i = .int .i64 k ∧ Hid (∀ j, j < k → ty j = tx j) ∧ Hid (RingAt wr w.heap.size ty 0 k) ∧ Ext w wr) (fun i _ => n - (intOf i).toNat)
  case atStart => exact ⟨0, _, Nat.zero_le _, rfl, hide (fun j hj => by omega), HR, EW⟩
  case round =>
    obtain ⟨k, ty, hk, rfl, HJ, HK, hext⟩ := hrel
    by_cases hlt : k < n
    · obtain ⟨b, off, hao, hc⟩ := (unhide HX) (by omega)
      subst hao
      have g1 := hext.cell (hc k hlt)
      have bk : (k : Int) < (n : Int) := by omega
      have hcon := hide (push_any w.heap.size 0 k ty (tx k) wr (by omega) (by omega) (unhide HK))
      have HJ2 : Hid (∀ j, j < k + 1 → (if j = (0 + k) % 100 then tx k else ty j) = tx j) := hide (fun j hj => by
        by_cases e : j = k
        · subst e; rw [if_pos (by omega)]
        · rw [if_neg (by omega)]; exact (unhide HJ) j (by omega))
      clear hc
      go_wp2_with fail
      refine (unhide hcon).mono ?_
      rintro e w2 ⟨rfl, R2, K2⟩
      have HR2 := hide R2
      have hE2 := K2 w (Nat.le_refl _) hext
      clear R2 K2
      go_wp2
      go_roundw
      case rel => exact ⟨k + 1, _, by omega, by go_num, HJ2, HR2, hE2⟩
      case measure => simp [intOf]; omega
    · obtain rfl : k = n := by omega
      go_wp2
      go_ret
      exact ⟨w.heap.size, ty, rfl, Nat.le_refl _, unhide HJ, unhide HK, hext⟩
end Go.Proofs.YtaddlkhaokdpdaaDoor
