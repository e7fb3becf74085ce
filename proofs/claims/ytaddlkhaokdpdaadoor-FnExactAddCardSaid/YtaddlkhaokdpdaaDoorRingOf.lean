import Derived.Test.YtaddlkhaokdpdaaDoorRing
import Derived.Deep.AppendLies
namespace Go.Proofs.YtaddlkhaokdpdaaDoor
open Go.RowKit
theorem ringZero : Tryd.zeroCells65 = (Array.replicate 100 (Value.string { data := #[] }) ++ #[.int .i64 0, .int .i64 0]) := by kernel_rfl
theorem ring_frozen {W : World} {g : Nat} {cs : Array Value} {T : TypeId} (h : W.heap[g]? = some (.cells cs T (0, 0))) (i : Nat) : W.frozen? ⟨g, i, none⟩ = false := by simp [World.frozen?, h]
theorem ring_new (w : World) : RingAt (w.alloc (.cells Tryd.zeroCells65 65)) w.heap.size (fun _ => { data := #[] }) 0 0 := by
  have hb := new_block w (.cells Tryd.zeroCells65 65)
  rw [ringZero] at hb ⊢
  refine ⟨fun i hi => ⟨cells_of hb i _ ?_, ring_frozen hb i⟩, ⟨cells_of hb 100 _ ?_, ring_frozen hb 100⟩, cells_of hb 101 _ ?_, ring_frozen hb 101⟩
  · rw [Array.getElem?_append_left (by simpa using hi)]
    simp [hi]
  · rw [Array.getElem?_append_right (by simp)]
    simp
  · rw [Array.getElem?_append_right (by simp)]
    simp
set_option maxRecDepth 10000 in
set_option maxHeartbeats 1000000 in
theorem ringOf_any (v : Value) (n : Nat) (tx : Nat → ByteArray) (w : World) (hv : Row1At w v n (fun j => .string (tx j))) (hn : n ≤ 100) :
    Calls Tryd.prog 36 #[v] w fun e w' => ∃ g ty, e = .returned (.pointer (some ⟨g, 0, none⟩)) ∧ w.heap.size ≤ g ∧ (∀ i, i < n → ty i = tx i) ∧ RingAt w' g ty 0 n ∧ Ext w w' := by
  obtain ⟨ao, ca, rfl, hca, hxa⟩ := hv
  have HX := hide hxa
  have HR := hide (ring_new w)
  have EW := (Ext.refl w).alloc (.cells Tryd.zeroCells65 65)
  clear hxa
  go_enter Tryd.func36, Tryd.ntmps36
  go_wp2
  go_loopw [10] (fun i wr => ∃ (k : Nat) (ty : Nat → ByteArray), k ≤ n ∧ i = .int .i64 k ∧ Hid (∀ j, j < k → ty j = tx j) ∧ Hid (RingAt wr w.heap.size ty 0 k) ∧ Ext w wr) (fun i _ => n - (intOf i).toNat)
  case atStart => exact ⟨0, _, Nat.zero_le _, rfl, hide (fun j hj => by omega), HR, EW⟩
  case round =>
    obtain ⟨k, ty, hk, rfl, HJ, HK, hext⟩ := hrel
    by_cases hlt : k < n
    · obtain ⟨b, off, hao, hc⟩ := (unhide HX) (by omega)
      subst hao
      have g1 := hext.cell (hc k hlt)
      have bk : (k : Int) < (n : Int) := by omega
      have hcon := hide (push_any w.heap.size 0 k ty (tx k) wr (by omega) (by omega) (unhide HK))
      have HJ2 : Hid (∀ j, j < k + 1 → (if j = (0 + k) % 100 then tx k else ty j) = tx j) := hide (fun j hj => by
        by_cases e : j = k
        · subst e; rw [if_pos (by omega)]
        · rw [if_neg (by omega)]; exact (unhide HJ) j (by omega))
      clear hc
      go_wp2_with fail
      refine (unhide hcon).mono ?_
      rintro e w2 ⟨rfl, R2, K2⟩
      have HR2 := hide R2
      have hE2 := K2 w (Nat.le_refl _) hext
      clear R2 K2
      go_wp2
      go_roundw
      case rel => exact ⟨k + 1, _, by omega, by go_num, HJ2, HR2, hE2⟩
      case measure => simp [intOf]; omega
    · obtain rfl : k = n := by omega
      go_wp2
      go_ret
      exact ⟨w.heap.size, ty, rfl, Nat.le_refl _, unhide HJ, unhide HK, hext⟩
theorem news1 (w : World) (x : ByteArray) (T : TypeId) : ∀ j u, [Value.string x][j]? = some u → (w.alloc (.cells #[.string x] T)).cell? ((⟨w.heap.size, 0, none⟩ : Addr).add j) = some u :=
  fun j u hu => World.news_of_block (new_block w (.cells #[.string x] T)) j u hu
set_option maxRecDepth 10000 in
set_option maxHeartbeats 1000000 in
theorem list_any (g beg n : Nat) (tx : Nat → ByteArray) (w : World) (hb : beg ≤ 100) (hn : n ≤ 100) (hR : RingAt w g tx beg n) :
    Calls Tryd.prog 43 #[.pointer (some ⟨g, 0, none⟩)] w fun e w' => ∃ v, e = .returned v ∧ Own1 w' w.heap.size 9 v n (fun j => .string (tx ((beg + j) % 100))) ∧ Ext w w' := by
  obtain ⟨ic, hic, hc0, hc1, hc2⟩ := info_parts infoStrs
  have h101 := hR.2.2.1
  have hA := hide (fun W (hW : Ext w W) (k : Nat) (hk : k ≤ 100) => at_any g beg n k tx W hb hk (hR.ext hW))
  clear hR
  go_enter Tryd.func43, Tryd.ntmps43
  go_wp2
  go_loopw [3, 9] (fun o i wr => ∃ (k : Nat) (ys : List Value), k ≤ n ∧ i = .int .i64 k ∧ Hid (wr.ownsRow w.heap.size 9 1 o k ys) ∧ Hid (∀ j, j < k → ys[j]? = some (.string (tx ((beg + j) % 100)))) ∧ Ext w wr) (fun _ i _ => n - (intOf i).toNat)
  case atStart => exact ⟨0, [], Nat.zero_le _, rfl, hide ⟨rfl, .inl ⟨rfl, rfl⟩⟩, hide (fun j hj => by omega), Ext.refl _⟩
  case round =>
    obtain ⟨k, ys, hk, rfl, HO, HY, hext⟩ := hrel
    by_cases hlt : k < n
    · have bk : (k : Int) < (n : Int) := by omega
      have hcon := hide ((unhide hA) wr hext k (by omega))
      have HL : Hid (ys.length = k) := hide (by have := (unhide HO).1; omega)
      obtain ⟨x, hx⟩ : ∃ x, x = tx ((beg + k) % 100) := ⟨_, rfl⟩
      rw [← hx] at hcon
      have HXE := hide hx
      clear hx
      go_wp2_with fail
      refine (unhide hcon).mono ?_
      rintro e w2 ⟨rfl, F2⟩
      have hE2 := hext.trans F2
      have HO2 := hide ((F2.owns (unhide HO)).alloc (.cells #[.string x] 9))
      have z2 := hE2.size
      go_wp2_with (at_builtin; go_must (refine wpList_append_own _ rfl _ _ 22 rfl w.heap.size 9 ic (.string { data := #[] }) 1 16 Tryd.underlying22 hic hc0 hc1 hc2 rfl (by decide) _ k ys rfl (unhide HO2) ⟨w2.heap.size, 0, none⟩ 1 1 [.string x] rfl rfl (news1 w2 x _) (by simp [Value.oneCell']) (by unfold maxLen; omega) (by omega) (by simp; omega) ?_))
      intro v3 w3 o3 G3 _
      have hE3 : Ext w w3 := (hE2.alloc _).grown G3 (fun q hq => ((unhide HO2).lt q hq).1)
      have HO3 := hide o3
      have HY3 : Hid (∀ j, j < k + 1 → (ys ++ [Value.string x])[j]? = some (.string (tx ((beg + j) % 100)))) := hide (fun j hj => by
        by_cases e : j = k
        · subst e
          rw [List.getElem?_append_right (by rw [unhide HL]; omega), unhide HL, ← unhide HXE]
          simp
        · rw [List.getElem?_append_left (by rw [unhide HL]; omega)]
          exact (unhide HY) j (by omega))
      clear o3 G3
      go_wp2
      go_roundw
      case rel => exact ⟨k + 1, _, by omega, by go_num, HO3, HY3, hE3⟩
      case measure => simp [intOf]; omega
    · obtain rfl : k = n := by omega
      go_wp2
      go_ret
      exact ⟨_, rfl, ⟨ys, unhide HO, unhide HY⟩, hext⟩
end Go.Proofs.YtaddlkhaokdpdaaDoor
