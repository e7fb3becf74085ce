import Derived.Test.YtbieoijeilhadaaDoorGap
namespace Go.Proofs.YtbieoijeilhadaaDoor
open Go.RowKit
def handF (kd : Int) : Int := if kd = 3 then 3 else if kd = 21 then 4 else if kd = 10 then 5 else if kd = 11 then 6 else if kd = 20 then 7 else 0
set_option maxRecDepth 10000 in
set_option maxHeartbeats 4000000 in
theorem l4Handed_any (kd : Int) (w : World) :
    Calls Tryd.prog 132 #[.int .i64 kd] w fun e w' => e = .returned (.int .i64 (handF kd)) ∧ Ext w w' := by
  obtain ⟨V, hV⟩ : ∃ V, V = w.alloc (.cells #[.int .i64 3, .int .i64 21, .int .i64 10, .int .i64 11, .int .i64 20] 3) := ⟨_, rfl⟩
  have E0 : Ext w V := by rw [hV]; exact (Ext.refl w).alloc _
  have hb : V.heap[w.heap.size]? = some (.cells #[.int .i64 3, .int .i64 21, .int .i64 10, .int .i64 11, .int .i64 20] 3 (0, 0)) := by rw [hV]; exact new_block w _
  have k0 : V.cell? ⟨w.heap.size, 0, none⟩ = some (.int .i64 3) := cells_of hb 0 _ rfl
  have k1 : V.cell? ⟨w.heap.size, 1, none⟩ = some (.int .i64 21) := cells_of hb 1 _ rfl
  have k2 : V.cell? ⟨w.heap.size, 2, none⟩ = some (.int .i64 10) := cells_of hb 2 _ rfl
  have k3 : V.cell? ⟨w.heap.size, 3, none⟩ = some (.int .i64 11) := cells_of hb 3 _ rfl
  have k4 : V.cell? ⟨w.heap.size, 4, none⟩ = some (.int .i64 20) := cells_of hb 4 _ rfl
  have HE := hide E0
  have HV := hide hV
  clear hb hV E0
  go_enter Tryd.func132, Tryd.ntmps132
  go_wp2
  rw [← unhide HV]
  clear HV
  go_loopw [4] (fun i wr => ∃ j : Nat, j ≤ 5 ∧ i = .int .i64 j ∧ Hid (wr = V) ∧ Hid ((0 < j → kd ≠ 3) ∧ (1 < j → kd ≠ 21) ∧ (2 < j → kd ≠ 10) ∧ (3 < j → kd ≠ 11) ∧ (4 < j → kd ≠ 20))) (fun i _ => 5 - (intOf i).toNat)
  case atStart => exact ⟨0, Nat.zero_le _, rfl, hide rfl, hide ⟨by omega, by omega, by omega, by omega, by omega⟩⟩
  case round =>
    obtain ⟨j, hj, rfl, HV2, HK⟩ := hrel
    have hV2 := unhide HV2
    subst hV2
    clear HV2
    have : j = 0 ∨ j = 1 ∨ j = 2 ∨ j = 3 ∨ j = 4 ∨ j = 5 := by omega
    rcases this with rfl | rfl | rfl | rfl | rfl | rfl
    · by_cases hk : kd = 3
      · subst hk
        go_wp2
        exact bodyPost_ret (v := .int .i64 3) (by simp [results, Tryd.results132, go_sem]) rfl ⟨rfl, unhide HE⟩
      · have hk2 : ¬ 3 = kd := fun e => hk e.symm
        have HKs : Hid ((0 < 1 → kd ≠ 3) ∧ (1 < 1 → kd ≠ 21) ∧ (2 < 1 → kd ≠ 10) ∧ (3 < 1 → kd ≠ 11) ∧ (4 < 1 → kd ≠ 20)) := hide (by
          obtain ⟨m0, m1, m2, m3, m4⟩ := unhide HK
          exact ⟨fun _ => hk, fun h => absurd h (by omega), fun h => absurd h (by omega), fun h => absurd h (by omega), fun h => absurd h (by omega)⟩)
        clear HK
        go_wp2
        go_roundw
        case rel => exact ⟨1, by omega, by go_num, (by first | exact hide rfl | exact hide trivial), HKs⟩
        case measure => simp [intOf]
    · by_cases hk : kd = 21
      · subst hk
        go_wp2
        exact bodyPost_ret (v := .int .i64 4) (by simp [results, Tryd.results132, go_sem]) rfl ⟨rfl, unhide HE⟩
      · have hk2 : ¬ 21 = kd := fun e => hk e.symm
        have HKs : Hid ((0 < 2 → kd ≠ 3) ∧ (1 < 2 → kd ≠ 21) ∧ (2 < 2 → kd ≠ 10) ∧ (3 < 2 → kd ≠ 11) ∧ (4 < 2 → kd ≠ 20)) := hide (by
          obtain ⟨m0, m1, m2, m3, m4⟩ := unhide HK
          exact ⟨fun _ => m0 (by omega), fun _ => hk, fun h => absurd h (by omega), fun h => absurd h (by omega), fun h => absurd h (by omega)⟩)
        clear HK
        go_wp2
        go_roundw
        case rel => exact ⟨2, by omega, by go_num, (by first | exact hide rfl | exact hide trivial), HKs⟩
        case measure => simp [intOf]
    · by_cases hk : kd = 10
      · subst hk
        go_wp2
        exact bodyPost_ret (v := .int .i64 5) (by simp [results, Tryd.results132, go_sem]) rfl ⟨rfl, unhide HE⟩
      · have hk2 : ¬ 10 = kd := fun e => hk e.symm
        have HKs : Hid ((0 < 3 → kd ≠ 3) ∧ (1 < 3 → kd ≠ 21) ∧ (2 < 3 → kd ≠ 10) ∧ (3 < 3 → kd ≠ 11) ∧ (4 < 3 → kd ≠ 20)) := hide (by
          obtain ⟨m0, m1, m2, m3, m4⟩ := unhide HK
          exact ⟨fun _ => m0 (by omega), fun _ => m1 (by omega), fun _ => hk, fun h => absurd h (by omega), fun h => absurd h (by omega)⟩)
        clear HK
        go_wp2
        go_roundw
        case rel => exact ⟨3, by omega, by go_num, (by first | exact hide rfl | exact hide trivial), HKs⟩
        case measure => simp [intOf]
    · by_cases hk : kd = 11
      · subst hk
        go_wp2
        exact bodyPost_ret (v := .int .i64 6) (by simp [results, Tryd.results132, go_sem]) rfl ⟨rfl, unhide HE⟩
      · have hk2 : ¬ 11 = kd := fun e => hk e.symm
        have HKs : Hid ((0 < 4 → kd ≠ 3) ∧ (1 < 4 → kd ≠ 21) ∧ (2 < 4 → kd ≠ 10) ∧ (3 < 4 → kd ≠ 11) ∧ (4 < 4 → kd ≠ 20)) := hide (by
          obtain ⟨m0, m1, m2, m3, m4⟩ := unhide HK
          exact ⟨fun _ => m0 (by omega), fun _ => m1 (by omega), fun _ => m2 (by omega), fun _ => hk, fun h => absurd h (by omega)⟩)
        clear HK
        go_wp2
        go_roundw
        case rel => exact ⟨4, by omega, by go_num, (by first | exact hide rfl | exact hide trivial), HKs⟩
        case measure => simp [intOf]
    · by_cases hk : kd = 20
      · subst hk
        go_wp2
        exact bodyPost_ret (v := .int .i64 7) (by simp [results, Tryd.results132, go_sem]) rfl ⟨rfl, unhide HE⟩
      · have hk2 : ¬ 20 = kd := fun e => hk e.symm
        have HKs : Hid ((0 < 5 → kd ≠ 3) ∧ (1 < 5 → kd ≠ 21) ∧ (2 < 5 → kd ≠ 10) ∧ (3 < 5 → kd ≠ 11) ∧ (4 < 5 → kd ≠ 20)) := hide (by
          obtain ⟨m0, m1, m2, m3, m4⟩ := unhide HK
          exact ⟨fun _ => m0 (by omega), fun _ => m1 (by omega), fun _ => m2 (by omega), fun _ => m3 (by omega), fun _ => hk⟩)
        clear HK
        go_wp2
        go_roundw
        case rel => exact ⟨5, by omega, by go_num, (by first | exact hide rfl | exact hide trivial), HKs⟩
        case measure => simp [intOf]
    · have hh : handF kd = 0 := by
        obtain ⟨m0, m1, m2, m3, m4⟩ := unhide HK
        simp [handF, m0 (by omega), m1 (by omega), m2 (by omega), m3 (by omega), m4 (by omega)]
      clear HK
      go_wp2
      exact bodyPost_ret (v := .int .i64 0) (by simp [results, Tryd.results132, go_sem]) rfl ⟨by rw [hh], unhide HE⟩
end Go.Proofs.YtbieoijeilhadaaDoor
