import Derived.Test.YtbieoijeilhadaaDoorRkM
import Derived.Test.YtbieoijeilhadaaDoorKmU
import Derived.Test.YtbieoijeilhadaaDoorRound
namespace Go.Proofs.YtbieoijeilhadaaDoor
open Go.RowKit
theorem baListK (s : ByteArray) : s.toList = s.data.toList := by
  have aux : ∀ (n i : Nat) (r : List UInt8), s.size - i = n → ByteArray.toList.loop s i r = r.reverse ++ s.data.toList.drop i := by
    intro n
    induction n with
    | zero =>
      intro i r h
      rw [ByteArray.toList.loop, if_neg (by omega), List.drop_eq_nil_of_le (by simp; exact Nat.sub_eq_zero_iff_le.1 h)]
      simp
    | succ n ih =>
      intro i r h
      rw [ByteArray.toList.loop, if_pos (by omega), ih (i + 1) _ (by omega)]
      have hi : i < s.data.toList.length := by simp; show i < s.size; omega
      rw [List.drop_eq_getElem_cons hi]
      have e : s.get! i = s.data.toList[i] := by
        have hs : i < s.data.size := by simpa using hi
        cases s with
        | mk d => show d[i]! = d.toList[i]; simp only [getElem!_pos d i hs, Array.getElem_toList]
      rw [e]
      simp
  have := aux s.size 0 [] (by omega)
  simpa [ByteArray.toList] using this
theorem toBA_toList (xs : List Int) : (toBA xs).toList = xs.map (fun n => UInt8.ofNat n.toNat) := by rw [baListK, toBA_list]
theorem tab_at {k : IntKind} {w : World} {p : Nat} {T : TypeId} {xs : List Int} (h : w.heap[p]? = some (.cells (xs.map (Value.int k)).toArray T (0, 0))) : ∀ j, j < xs.length → w.cell? ⟨p, j, none⟩ = some (.int k (at0 xs j)) := fun j hj => cells_of h j _ (by simp [at0, hj])
set_option maxRecDepth 10000 in
set_option maxHeartbeats 4000000 in
theorem l3Control_any (c : Int) (w : World) :
    Calls Tryd.prog 68 #[.int .u8 c] w fun e w' => e = .returned (.int .i64 (ctrlF c)) ∧ Ext w w' := by
  obtain ⟨V, hV⟩ : ∃ V, V = (w.alloc (.cells (ctlB.map (Value.int .u8)).toArray 5)).alloc (.cells (ctlK.map (Value.int .i64)).toArray 3) := ⟨_, rfl⟩
  have E0 : Ext w V := by rw [hV]; exact ((Ext.refl w).alloc _).alloc _
  have hb : ∀ j, j < 19 → V.cell? ⟨w.heap.size, j, none⟩ = some (.int .u8 (at0 ctlB j)) := tab_at (xs := ctlB) (by rw [hV]; exact ((Ext.refl _).alloc _).kept (new_block w _))
  have hk : ∀ j, j < 19 → V.cell? ⟨w.heap.size + 1, j, none⟩ = some (.int .i64 (at0 ctlK j)) := tab_at (xs := ctlK) (by rw [hV]; have h := new_block (w.alloc (.cells (ctlB.map (Value.int .u8)).toArray 5)) (.cells (ctlK.map (Value.int .i64)).toArray 3); rw [show (w.alloc (.cells (ctlB.map (Value.int .u8)).toArray 5)).heap.size = w.heap.size + 1 by simp] at h; exact h)
  have HB := hide hb
  have HK := hide hk
  have HE := hide E0
  have HV := hide (show V = (w.alloc (.cells #[.int .u8 13, .int .u8 10, .int .u8 8, .int .u8 127, .int .u8 4, .int .u8 2, .int .u8 6, .int .u8 1, .int .u8 5, .int .u8 16, .int .u8 14, .int .u8 11, .int .u8 21, .int .u8 23, .int .u8 25, .int .u8 20, .int .u8 31, .int .u8 18, .int .u8 3] 5)).alloc (.cells #[.int .i64 3, .int .i64 3, .int .i64 4, .int .i64 4, .int .i64 5, .int .i64 6, .int .i64 7, .int .i64 8, .int .i64 9, .int .i64 10, .int .i64 11, .int .i64 12, .int .i64 13, .int .i64 14, .int .i64 15, .int .i64 16, .int .i64 17, .int .i64 20, .int .i64 21] 3) from hV)
  clear hb hk hV E0
  go_enter Tryd.func68, Tryd.ntmps68
  go_wp2
  rw [← unhide HV]
  clear HV
  go_loopw [5] (fun i wr => ∃ j : Nat, j ≤ 19 ∧ i = .int .i64 j ∧ Hid (wr = V) ∧ Hid (∀ m, m < j → at0 ctlB m ≠ c)) (fun i _ => 19 - (intOf i).toNat)
  case atStart => exact ⟨0, Nat.zero_le _, rfl, hide rfl, hide (fun m hm => by omega)⟩
  case round =>
    obtain ⟨j, hj, rfl, HV2, HN⟩ := hrel
    have hV2 := unhide HV2
    subst hV2
    clear HV2
    by_cases hlt : j < 19
    · have hjI : (j : Int) < 19 := by omega
      have g1 := (unhide HB) j hlt
      have g2 := (unhide HK) j hlt
      by_cases hk : at0 ctlB j = c
      · have HF := hide (show ctrlF c = at0 ctlK j from lookT_yes ctlB ctlK c _ j hlt rfl (unhide HN) hk)
        have hk2 : (at0 ctlB j == c) = true := by simpa using hk
        clear HN hk
        go_wp2
        exact bodyPost_ret (v := .int .i64 (at0 ctlK j)) (by simp [results, Tryd.results68, go_sem]) rfl ⟨by rw [unhide HF], unhide HE⟩
      · have HN2 : Hid (∀ m, m < j + 1 → at0 ctlB m ≠ c) := hide (fun m hm => by
          by_cases e : m = j
          · subst e; exact hk
          · exact (unhide HN) m (by omega))
        have hk2 : (at0 ctlB j == c) = false := by simpa using hk
        clear HN
        go_wp2
        go_roundw
        case rel => exact ⟨j + 1, by omega, by go_num, (by first | exact hide rfl | exact hide trivial), HN2⟩
        case measure => simp [intOf]; omega
    · obtain rfl : j = 19 := by omega
      have HF := hide (show ctrlF c = (if c < 32 ∧ c ≠ 9 ∧ c ≠ 27 then 23 else 0) from lookT_no ctlB ctlK c _ (unhide HN))
      clear HN
      by_cases h1 : c < 32
      · by_cases h2 : c = 9
        · subst h2
          go_wp2
          exact bodyPost_ret (v := .int .i64 0) (by simp [results, Tryd.results68, go_sem]) rfl ⟨by rw [unhide HF]; rfl, unhide HE⟩
        by_cases h3 : c = 27
        · subst h3
          go_wp2
          exact bodyPost_ret (v := .int .i64 0) (by simp [results, Tryd.results68, go_sem]) rfl ⟨by rw [unhide HF]; rfl, unhide HE⟩
        have h4 : (c != 9) = true := by simpa using h2
        have h5 : (c != 27) = true := by simpa using h3
        have HF2 := hide (show ctrlF c = 23 by rw [unhide HF, if_pos ⟨h1, h2, h3⟩])
        clear HF
        go_wp2
        exact bodyPost_ret (v := .int .i64 23) (by simp [results, Tryd.results68, go_sem]) rfl ⟨by rw [unhide HF2], unhide HE⟩
      · have HF2 := hide (show ctrlF c = 0 by rw [unhide HF, if_neg (fun h => h1 h.1)])
        clear HF
        go_wp2
        exact bodyPost_ret (v := .int .i64 0) (by simp [results, Tryd.results68, go_sem]) rfl ⟨by rw [unhide HF2], unhide HE⟩
set_option maxRecDepth 10000 in
set_option maxHeartbeats 4000000 in
theorem l3Tilde_any (xs : List Int) (hb : Bytes xs) (w : World) :
    Calls Tryd.prog 115 #[.string (toBA xs)] w fun e w' => e = .returned (.int .i64 (tilF xs)) ∧ Ext w w' := by
  have key : ∀ (ys : List Int) (us : List UInt8), Bytes ys → us = ys.map (fun n => UInt8.ofNat n.toNat) → ((toBA xs).toList == us) = decide (xs = ys) := by
    intro ys us hy e
    by_cases h : xs = ys
    · rw [h, e, toBA_toList]; simp
    · have h9 := toBA_ne hb hy h
      rw [toBA_toList ys, ← e] at h9
      rw [h9]; simp [h]
  have t0 := key [51] [51] (by intro n hn; simp at hn; omega) rfl
  have t1 := key [49] [49] (by intro n hn; simp at hn; omega) rfl
  have t2 := key [55] [55] (by intro n hn; simp at hn; omega) rfl
  have t3 := key [52] [52] (by intro n hn; simp at hn; omega) rfl
  have t4 := key [56] [56] (by intro n hn; simp at hn; omega) rfl
  have t5 := key [50, 48, 48] [50, 48, 48] (by intro n hn; simp at hn; omega) rfl
  obtain ⟨S, hS⟩ : ∃ S, S = toBA xs := ⟨_, rfl⟩
  rw [← hS] at t0 t1 t2 t3 t4 t5 ⊢
  clear key hS
  by_cases h0 : xs = [51]
  · have d0 : (S.toList == [51]) = true := by rw [t0]; simpa using h0
    clear t0 t1 t2 t3 t4 t5
    have HF := hide (show tilF xs = 5 by rw [h0]; rfl)
    clear h0
    go_enter Tryd.func115, Tryd.ntmps115
    go_wp2
    exact bodyPost_ret (v := .int .i64 5) (by simp [results, Tryd.results115, go_sem]) rfl ⟨by rw [unhide HF], Ext.refl _⟩
  have d0 : (S.toList == [51]) = false := by rw [t0]; simpa using h0
  by_cases h1 : xs = [49]
  · have d1 : (S.toList == [49]) = true := by rw [t1]; simpa using h1
    clear t0 t1 t2 t3 t4 t5
    have HF := hide (show tilF xs = 8 by rw [h1]; rfl)
    clear h1
    go_enter Tryd.func115, Tryd.ntmps115
    go_wp2
    exact bodyPost_ret (v := .int .i64 8) (by simp [results, Tryd.results115, go_sem]) rfl ⟨by rw [unhide HF], Ext.refl _⟩
  have d1 : (S.toList == [49]) = false := by rw [t1]; simpa using h1
  by_cases h2 : xs = [55]
  · have d2 : (S.toList == [55]) = true := by rw [t2]; simpa using h2
    clear t0 t1 t2 t3 t4 t5
    have HF := hide (show tilF xs = 8 by rw [h2]; rfl)
    clear h2
    go_enter Tryd.func115, Tryd.ntmps115
    go_wp2
    exact bodyPost_ret (v := .int .i64 8) (by simp [results, Tryd.results115, go_sem]) rfl ⟨by rw [unhide HF], Ext.refl _⟩
  have d2 : (S.toList == [55]) = false := by rw [t2]; simpa using h2
  by_cases h3 : xs = [52]
  · have d3 : (S.toList == [52]) = true := by rw [t3]; simpa using h3
    clear t0 t1 t2 t3 t4 t5
    have HF := hide (show tilF xs = 9 by rw [h3]; rfl)
    clear h3
    go_enter Tryd.func115, Tryd.ntmps115
    go_wp2
    exact bodyPost_ret (v := .int .i64 9) (by simp [results, Tryd.results115, go_sem]) rfl ⟨by rw [unhide HF], Ext.refl _⟩
  have d3 : (S.toList == [52]) = false := by rw [t3]; simpa using h3
  by_cases h4 : xs = [56]
  · have d4 : (S.toList == [56]) = true := by rw [t4]; simpa using h4
    clear t0 t1 t2 t3 t4 t5
    have HF := hide (show tilF xs = 9 by rw [h4]; rfl)
    clear h4
    go_enter Tryd.func115, Tryd.ntmps115
    go_wp2
    exact bodyPost_ret (v := .int .i64 9) (by simp [results, Tryd.results115, go_sem]) rfl ⟨by rw [unhide HF], Ext.refl _⟩
  have d4 : (S.toList == [56]) = false := by rw [t4]; simpa using h4
  by_cases h5 : xs = [50, 48, 48]
  · have d5 : (S.toList == [50, 48, 48]) = true := by rw [t5]; simpa using h5
    clear t0 t1 t2 t3 t4 t5
    have HF := hide (show tilF xs = (-1) by rw [h5]; rfl)
    clear h5
    go_enter Tryd.func115, Tryd.ntmps115
    go_wp2
    exact bodyPost_ret (v := .int .i64 (-1)) (by simp [results, Tryd.results115, go_sem]) rfl ⟨by rw [unhide HF], Ext.refl _⟩
  have d5 : (S.toList == [50, 48, 48]) = false := by rw [t5]; simpa using h5
  clear t0 t1 t2 t3 t4 t5
  have HF := hide (show tilF xs = 23 by simp [tilF, h0, h1, h2, h3, h4, h5])
  clear h0 h1 h2 h3 h4 h5
  go_enter Tryd.func115, Tryd.ntmps115
  go_wp2
  exact bodyPost_ret (v := .int .i64 23) (by simp [results, Tryd.results115, go_sem]) rfl ⟨by rw [unhide HF], Ext.refl _⟩
end Go.Proofs.YtbieoijeilhadaaDoor

namespace Go.Proofs.YtbieoijeilhadaaDoor
open Go.RowKit
set_option maxRecDepth 10000 in
set_option maxHeartbeats 4000000 in
theorem l3Letter_any (c : Int) (w : World) :
    Calls Tryd.prog 96 #[.int .u8 c] w fun e w' => e = .returned (.int .i64 (letF c)) ∧ Ext w w' := by
  obtain ⟨V, hV⟩ : ∃ V, V = w.alloc (.cells (letKs.map (Value.int .i64)).toArray 3) := ⟨_, rfl⟩
  have E0 : Ext w V := by rw [hV]; exact (Ext.refl w).alloc _
  have hk : ∀ j, j < 6 → V.cell? ⟨w.heap.size, j, none⟩ = some (.int .i64 (at0 letKs j)) := tab_at (xs := letKs) (by rw [hV]; exact new_block w _)
  have HK := hide hk
  have HE := hide E0
  have HV := hide (show V = w.alloc (.cells #[.int .i64 10, .int .i64 11, .int .i64 7, .int .i64 6, .int .i64 8, .int .i64 9] 3) from hV)
  clear hk hV E0
  go_enter Tryd.func96, Tryd.ntmps96
  go_wp2
  rw [← unhide HV]
  clear HV
  go_loopw [5] (fun i wr => ∃ j : Nat, j ≤ 6 ∧ i = .int .i64 j ∧ Hid (wr = V) ∧ Hid (∀ m, m < j → at0 letB m ≠ c)) (fun i _ => 6 - (intOf i).toNat)
  case atStart => exact ⟨0, Nat.zero_le _, rfl, hide rfl, hide (fun m hm => by omega)⟩
  case round =>
    obtain ⟨j, hj, rfl, HV2, HN⟩ := hrel
    have hV2 := unhide HV2
    subst hV2
    clear HV2
    have hcs : j = 0 ∨ j = 1 ∨ j = 2 ∨ j = 3 ∨ j = 4 ∨ j = 5 ∨ j = 6 := by omega
    rcases hcs with rfl | rfl | rfl | rfl | rfl | rfl | rfl
    · have g2 : wr.cell? ⟨w.heap.size, 0, none⟩ = some (.int .i64 10) := (unhide HK) 0 (by omega)
      by_cases hk : c = 65
      · subst hk
        have hk2 : (((({ data := #[65, 66, 67, 68, 72, 70] } : ByteArray)[0].toNat : Nat) : Int) == 65) = true := rfl
        go_wp2
        exact bodyPost_ret (v := .int .i64 10) (by simp [results, Tryd.results96, go_sem]) rfl ⟨rfl, unhide HE⟩
      · have HN2 : Hid (∀ m, m < 0 + 1 → at0 letB m ≠ c) := hide (fun m hm => by
          by_cases e : m = 0
          · subst e; exact fun e2 => hk e2.symm
          · exact (unhide HN) m (by omega))
        have hk2 : (((({ data := #[65, 66, 67, 68, 72, 70] } : ByteArray)[0].toNat : Nat) : Int) == c) = false := by
          show ((65 : Int) == c) = false
          simpa using (fun e : (65 : Int) = c => hk e.symm)
        clear HN hk
        go_wp2
        go_roundw
        case rel => exact ⟨1, by omega, by go_num, (by first | exact hide rfl | exact hide trivial), HN2⟩
        case measure => simp [intOf]
    · have g2 : wr.cell? ⟨w.heap.size, 1, none⟩ = some (.int .i64 11) := (unhide HK) 1 (by omega)
      by_cases hk : c = 66
      · subst hk
        have hk2 : (((({ data := #[65, 66, 67, 68, 72, 70] } : ByteArray)[1].toNat : Nat) : Int) == 66) = true := rfl
        go_wp2
        exact bodyPost_ret (v := .int .i64 11) (by simp [results, Tryd.results96, go_sem]) rfl ⟨rfl, unhide HE⟩
      · have HN2 : Hid (∀ m, m < 1 + 1 → at0 letB m ≠ c) := hide (fun m hm => by
          by_cases e : m = 1
          · subst e; exact fun e2 => hk e2.symm
          · exact (unhide HN) m (by omega))
        have hk2 : (((({ data := #[65, 66, 67, 68, 72, 70] } : ByteArray)[1].toNat : Nat) : Int) == c) = false := by
          show ((66 : Int) == c) = false
          simpa using (fun e : (66 : Int) = c => hk e.symm)
        clear HN hk
        go_wp2
        go_roundw
        case rel => exact ⟨2, by omega, by go_num, (by first | exact hide rfl | exact hide trivial), HN2⟩
        case measure => simp [intOf]
    · have g2 : wr.cell? ⟨w.heap.size, 2, none⟩ = some (.int .i64 7) := (unhide HK) 2 (by omega)
      by_cases hk : c = 67
      · subst hk
        have hk2 : (((({ data := #[65, 66, 67, 68, 72, 70] } : ByteArray)[2].toNat : Nat) : Int) == 67) = true := rfl
        go_wp2
        exact bodyPost_ret (v := .int .i64 7) (by simp [results, Tryd.results96, go_sem]) rfl ⟨rfl, unhide HE⟩
      · have HN2 : Hid (∀ m, m < 2 + 1 → at0 letB m ≠ c) := hide (fun m hm => by
          by_cases e : m = 2
          · subst e; exact fun e2 => hk e2.symm
          · exact (unhide HN) m (by omega))
        have hk2 : (((({ data := #[65, 66, 67, 68, 72, 70] } : ByteArray)[2].toNat : Nat) : Int) == c) = false := by
          show ((67 : Int) == c) = false
          simpa using (fun e : (67 : Int) = c => hk e.symm)
        clear HN hk
        go_wp2
        go_roundw
        case rel => exact ⟨3, by omega, by go_num, (by first | exact hide rfl | exact hide trivial), HN2⟩
        case measure => simp [intOf]
    · have g2 : wr.cell? ⟨w.heap.size, 3, none⟩ = some (.int .i64 6) := (unhide HK) 3 (by omega)
      by_cases hk : c = 68
      · subst hk
        have hk2 : (((({ data := #[65, 66, 67, 68, 72, 70] } : ByteArray)[3].toNat : Nat) : Int) == 68) = true := rfl
        go_wp2
        exact bodyPost_ret (v := .int .i64 6) (by simp [results, Tryd.results96, go_sem]) rfl ⟨rfl, unhide HE⟩
      · have HN2 : Hid (∀ m, m < 3 + 1 → at0 letB m ≠ c) := hide (fun m hm => by
          by_cases e : m = 3
          · subst e; exact fun e2 => hk e2.symm
          · exact (unhide HN) m (by omega))
        have hk2 : (((({ data := #[65, 66, 67, 68, 72, 70] } : ByteArray)[3].toNat : Nat) : Int) == c) = false := by
          show ((68 : Int) == c) = false
          simpa using (fun e : (68 : Int) = c => hk e.symm)
        clear HN hk
        go_wp2
        go_roundw
        case rel => exact ⟨4, by omega, by go_num, (by first | exact hide rfl | exact hide trivial), HN2⟩
        case measure => simp [intOf]
    · have g2 : wr.cell? ⟨w.heap.size, 4, none⟩ = some (.int .i64 8) := (unhide HK) 4 (by omega)
      by_cases hk : c = 72
      · subst hk
        have hk2 : (((({ data := #[65, 66, 67, 68, 72, 70] } : ByteArray)[4].toNat : Nat) : Int) == 72) = true := rfl
        go_wp2
        exact bodyPost_ret (v := .int .i64 8) (by simp [results, Tryd.results96, go_sem]) rfl ⟨rfl, unhide HE⟩
      · have HN2 : Hid (∀ m, m < 4 + 1 → at0 letB m ≠ c) := hide (fun m hm => by
          by_cases e : m = 4
          · subst e; exact fun e2 => hk e2.symm
          · exact (unhide HN) m (by omega))
        have hk2 : (((({ data := #[65, 66, 67, 68, 72, 70] } : ByteArray)[4].toNat : Nat) : Int) == c) = false := by
          show ((72 : Int) == c) = false
          simpa using (fun e : (72 : Int) = c => hk e.symm)
        clear HN hk
        go_wp2
        go_roundw
        case rel => exact ⟨5, by omega, by go_num, (by first | exact hide rfl | exact hide trivial), HN2⟩
        case measure => simp [intOf]
    · have g2 : wr.cell? ⟨w.heap.size, 5, none⟩ = some (.int .i64 9) := (unhide HK) 5 (by omega)
      by_cases hk : c = 70
      · subst hk
        have hk2 : (((({ data := #[65, 66, 67, 68, 72, 70] } : ByteArray)[5].toNat : Nat) : Int) == 70) = true := rfl
        go_wp2
        exact bodyPost_ret (v := .int .i64 9) (by simp [results, Tryd.results96, go_sem]) rfl ⟨rfl, unhide HE⟩
      · have HN2 : Hid (∀ m, m < 5 + 1 → at0 letB m ≠ c) := hide (fun m hm => by
          by_cases e : m = 5
          · subst e; exact fun e2 => hk e2.symm
          · exact (unhide HN) m (by omega))
        have hk2 : (((({ data := #[65, 66, 67, 68, 72, 70] } : ByteArray)[5].toNat : Nat) : Int) == c) = false := by
          show ((70 : Int) == c) = false
          simpa using (fun e : (70 : Int) = c => hk e.symm)
        clear HN hk
        go_wp2
        go_roundw
        case rel => exact ⟨6, by omega, by go_num, (by first | exact hide rfl | exact hide trivial), HN2⟩
        case measure => simp [intOf]
    · have HF := hide (show letF c = 23 from lookT_no letB letKs c _ (unhide HN))
      clear HN
      go_wp2
      exact bodyPost_ret (v := .int .i64 23) (by simp [results, Tryd.results96, go_sem]) rfl ⟨by rw [unhide HF], unhide HE⟩
end Go.Proofs.YtbieoijeilhadaaDoor

namespace Go.Proofs.YtbieoijeilhadaaDoor
open Go.RowKit
theorem numR_eq : ∀ (m : Nat) (s : List Int), (∀ k, k < m → k < s.length ∧ 48 ≤ at0 s k ∧ at0 s k ≤ 63) → (s.length ≤ m ∨ at0 s m < 48 ∨ 63 < at0 s m) → numR s = m
  | 0, [], _, _ => rfl
  | 0, x :: xs, _, h => by
    rw [numR, if_neg]
    intro h2
    simp [at0] at h
    omega
  | m + 1, [], h, _ => by have := (h 0 (by omega)).1; simp at this
  | m + 1, x :: xs, h, h2 => by
    rw [numR, if_pos (by have := (h 0 (by omega)).2; simpa [at0] using this), numR_eq m xs (fun k hk => by have := h (k + 1) (by omega); simpa [at0] using this) (by simpa [at0] using h2)]
theorem lookT_nn : ∀ (bs ks : List Int) (c d : Int), (∀ k ∈ ks, (0 : Int) ≤ k) → 0 ≤ d → 0 ≤ lookT bs ks c d
  | [], ks, c, d, _, hd => by cases ks <;> exact hd
  | b :: bs, [], c, d, _, hd => hd
  | b :: bs, k :: ks, c, d, h, hd => by
    rw [lookT]
    split
    · exact h k (by simp)
    · exact lookT_nn bs ks c d (fun x hx => h x (by simp [hx])) hd
theorem letF_nn (c : Int) : ¬ letF c < 0 := by
  have := lookT_nn letB letKs c 23 (by decide) (by decide)
  unfold letF
  omega
set_option maxRecDepth 10000 in
set_option maxHeartbeats 4000000 in
theorem l3Bracket_any (bs : List Int) (hb : Bytes bs) (v : Value) (i : Nat) (w : World) (hv : IntsAt w .u8 v bs) (hi : i + 2 ≤ bs.length) (hl : bs.length ≤ 4398046511104) :
    Calls Tryd.prog 95 #[v, .int .i64 i] w fun e w' => e = .returned (tkV (brkF (bs.drop i))) ∧ Ext w w' := by
  obtain ⟨ao, cap, rfl, hcap, hr⟩ := hv
  obtain ⟨b, off, rfl, hc⟩ := hr (by omega)
  have HC := hide hc
  have HBy := hide hb
  have hd : ∀ j, at0 (bs.drop i) j = at0 bs (i + j) := fun j => by rw [at0_drop]
  have hd2 : ∀ j, at0 ((bs.drop i).drop 2) j = at0 bs (i + 2 + j) := fun j => by rw [List.drop_drop, at0_drop]
  have HD := hide hd
  have HD2 := hide hd2
  have hdl : (bs.drop i).length = bs.length - i := by simp
  have HDL := hide hdl
  clear hr hc hd hd2 hdl hb
  obtain ⟨V, hV⟩ : ∃ V, V = w.alloc (.cells #[.int .i64 0, .int .i64 0, .int .i64 0, .bool false] 69) := ⟨_, rfl⟩
  have E0 : Ext w V := by rw [hV]; exact (Ext.refl w).alloc _
  have HB0 : Hid (V.heap[w.heap.size]? = some (.cells #[.int .i64 0, .int .i64 0, .int .i64 0, .bool false] 69 (0, 0))) := hide (by rw [hV]; exact new_block w _)
  have zV : w.heap.size < V.heap.size := lt_of_block (unhide HB0)
  have HE := hide E0
  have HV := hide hV
  clear hV E0
  have infoT : (Tryd.prog.info? 69).map (·.size) = some 4 := by kernel_rfl
  go_enter Tryd.func95, Tryd.ntmps95
  go_wp2
  rw [← unhide HV]
  clear HV
  go_loopw [5] (fun i9 wr => ∃ m : Nat, i + 2 + m ≤ bs.length ∧ i9 = .int .i64 m ∧ Hid (wr = V) ∧ Hid (∀ k, k < m → 48 ≤ at0 bs (i + 2 + k) ∧ at0 bs (i + 2 + k) ≤ 63)) (fun i9 _ => bs.length - (intOf i9).toNat)
  case atStart => exact ⟨0, by omega, rfl, hide rfl, hide (fun m hm => by omega)⟩
  case round =>
    obtain ⟨m, hm, rfl, HV2, HN⟩ := hrel
    have hV2 := unhide HV2
    subst hV2
    clear HV2
    have hw1 : IntKind.i64.wrap ((i : Int) + 2) = (i : Int) + 2 := by rw [IntKind.wrap_i64]; omega
    have hw2 : IntKind.i64.wrap ((i : Int) + 2 + (m : Int)) = (i : Int) + 2 + (m : Int) := by rw [IntKind.wrap_i64]; omega
    have fin : i + 2 + m = bs.length ∨ (at0 bs (i + 2 + m) < 48 ∨ 63 < at0 bs (i + 2 + m)) → numR ((bs.drop i).drop 2) = m := fun h9 =>
      numR_eq m _ (fun k hk => ⟨by rw [List.length_drop, unhide HDL]; omega, by rw [(unhide HD2)]; exact (unhide HN) k hk⟩) (by rw [List.length_drop, unhide HDL, (unhide HD2)]; omega)
    have HF := hide fin
    clear fin
    by_cases hlt : i + 2 + m < bs.length
    · have hltI : (i : Int) + 2 + (m : Int) < (bs.length : Int) := by omega
      have g1 : wr.cell? ⟨b, off + (i + 2 + m), none⟩ = some (.int .u8 (at0 bs (i + 2 + m))) := (unhide HE).cell ((unhide HC) _ hlt)
      obtain ⟨x, hx⟩ : ∃ x, x = at0 bs (i + 2 + m) := ⟨_, rfl⟩
      have hx0 : 0 ≤ x ∧ x ≤ 255 := by rw [hx]; exact (unhide HBy).at0 _
      have HX := hide hx
      rw [← hx] at g1
      rw [← hx] at HF
      clear hx
      by_cases h1 : 48 ≤ x
      · by_cases h2 : x ≤ 63
        · have HN2 : Hid (∀ k, k < m + 1 → 48 ≤ at0 bs (i + 2 + k) ∧ at0 bs (i + 2 + k) ≤ 63) := hide (fun k hk => by
            by_cases e : k = m
            · subst e; rw [← unhide HX]; exact ⟨h1, h2⟩
            · exact (unhide HN) k (by omega))
          clear HN HF
          go_wp2
          go_roundw
          case rel => exact ⟨m + 1, by omega, by go_num, (by first | exact hide rfl | exact hide trivial), HN2⟩
          case measure => simp [intOf]; omega
        · have HNm := hide ((unhide HF) (.inr (.inr (by omega))))
          clear HF HN
          by_cases h3 : 126 < x
          · have HT := hide (show brkF (bs.drop i) = ⟨m + 2, 23, 0, false⟩ by unfold brkF; rw [unhide HNm, if_neg (by rw [unhide HDL]; omega), (unhide HD), show i + (2 + m) = i + 2 + m by omega, ← unhide HX, if_pos (by omega)])
            have hw3 : IntKind.i64.wrap ((m : Int) + 2) = ((m + 2 : Nat) : Int) := by rw [IntKind.wrap_i64]; omega
            clear HNm HX
            go_wp2_with (refine wpList_store_blk rfl 69 _ _ rfl rfl (w.heap.size) rfl _ _ #[.int .i64 (((m + 2 : Nat) : Int)), .int .i64 23, .int .i64 0, .bool false] rfl (unhide HB0) infoT rfl (by simp [Value.oneCell']) ?_; intro Z hy hf9; have HY := hide hy; have FY := hide hf9; clear hy hf9)
            have v0 : Z.cell? ⟨w.heap.size, 0, none⟩ = some (.int .i64 (((m + 2 : Nat) : Int))) := cells_of (unhide HY) 0 _ rfl
            have v1 : Z.cell? ⟨w.heap.size, 1, none⟩ = some (.int .i64 23) := cells_of (unhide HY) 1 _ rfl
            have v2 : Z.cell? ⟨w.heap.size, 2, none⟩ = some (.int .i64 0) := cells_of (unhide HY) 2 _ rfl
            have v3 : Z.cell? ⟨w.heap.size, 3, none⟩ = some (.bool false) := cells_of (unhide HY) 3 _ rfl
            exact bodyPost_ret (v := .agg #[.int .i64 (((m + 2 : Nat) : Int)), .int .i64 23, .int .i64 0, .bool false]) (by simp [results, Tryd.results95, go_sem, v0, v1, v2, v3]) rfl ⟨by rw [unhide HT]; rfl, (unhide FY).ext (unhide HE) (fun q hq => by omega)⟩
          · have h4 : ¬ x < 64 := by omega
            have h5 : x ≤ 126 := by omega
            have HT0 := hide (show ∀ K, (if x = 126 then tilF (((bs.drop i).drop 2).take m) else if m = 0 then letF x else 23) = K → brkF (bs.drop i) = if K < 0 then ⟨m + 3, 0, 0, true⟩ else ⟨m + 3, K, 0, false⟩ by intro K hK; unfold brkF; rw [unhide HNm, if_neg (by rw [unhide HDL]; omega), (unhide HD), show i + (2 + m) = i + 2 + m by omega, ← unhide HX, if_neg (by omega), hK])
            have hw4 : IntKind.i64.wrap ((m : Int) + 3) = ((m + 3 : Nat) : Int) := by rw [IntKind.wrap_i64]; omega
            have hL := hide (fun W => l3Letter_any x W)
            have hcm : ¬ cap = i + 2 := by omega
            have hcI : (i : Int) + 2 ≤ (i : Int) + 2 + (m : Int) := by omega
            have hcJ : (i : Int) + 2 + (m : Int) ≤ (cap : Int) := by omega
            have hTl := hide (fun W => l3Tilde_any (((bs.drop i).drop 2).take m) (fun n hn => (unhide HBy) n (List.mem_of_mem_drop (List.mem_of_mem_drop (List.mem_of_mem_take hn)))) W)
            have HCUT : Hid (∀ (W : World), Ext w W → (convert 22 9 (.slice (some ⟨b, off + (i + 2), none⟩) m (cap - (i + 2)))).run Tryd.prog W = .ok (.string (toBA (((bs.drop i).drop 2).take m))) W) := hide (fun W he => by have h9 := run_b2s (P := Tryd.prog) W _ _ _ Tryd.underlying22 Tryd.underlying5 Tryd.underlying9 _ _ (ints_cut (cap := cap - (i + 2)) (i + 2) m (fun j hj => he.cell ((unhide HC) j hj)) (by omega) (by omega)); rw [List.drop_drop]; exact h9)
            obtain ⟨S, hS⟩ : ∃ S, S = toBA (((bs.drop i).drop 2).take m) := ⟨_, rfl⟩
            rw [← hS] at HCUT hTl
            clear hS HNm HX
            have hCw := (unhide HCUT) _ (unhide HE)
            by_cases hm0 : m = 0
            · subst hm0
              go_wp2_with fail
              refine ((unhide hL) _).mono ?_
              rintro e w3 ⟨rfl, E3⟩
              replace HB0 := hide (E3.kept (unhide HB0))
              have HE3 := hide ((unhide HE).trans E3)
              have z3 := E3.size
              clear E3 hL
              by_cases h6 : x = 126
              · subst h6
                have hCw := (unhide HCUT) _ (unhide HE3)
                go_wp2_with fail
                refine ((unhide hTl) _).mono ?_
                rintro e w4 ⟨rfl, E4⟩
                have HB4 := hide (E4.kept (unhide HB0))
                have HE4 := hide ((unhide HE3).trans E4)
                have z4 := E4.size
                clear E4
                have HT1 := hide ((unhide HT0) (tilF (((bs.drop i).drop 2).take 0)) (by simp))
                clear HT0
                obtain ⟨Kd9, hK9⟩ : ∃ k, k = tilF (((bs.drop i).drop 2).take 0) := ⟨_, rfl⟩
                rw [← hK9] at HT1 ⊢
                clear hK9
                by_cases hneg : Kd9 < 0
                · have HT := hide (show brkF (bs.drop i) = ⟨0 + 3, 0, 0, true⟩ by rw [unhide HT1, if_pos hneg])
                  clear HT1
                  go_wp2_with (refine wpList_store_blk rfl 69 _ _ rfl rfl (w.heap.size) rfl _ _ #[.int .i64 (((0 + 3 : Nat) : Int)), .int .i64 0, .int .i64 0, .bool true] rfl (unhide HB4) infoT rfl (by simp [Value.oneCell']) ?_; intro Z hy hf9; have HY := hide hy; have FY := hide hf9; clear hy hf9)
                  have v0 : Z.cell? ⟨w.heap.size, 0, none⟩ = some (.int .i64 (((0 + 3 : Nat) : Int))) := cells_of (unhide HY) 0 _ rfl
                  have v1 : Z.cell? ⟨w.heap.size, 1, none⟩ = some (.int .i64 0) := cells_of (unhide HY) 1 _ rfl
                  have v2 : Z.cell? ⟨w.heap.size, 2, none⟩ = some (.int .i64 0) := cells_of (unhide HY) 2 _ rfl
                  have v3 : Z.cell? ⟨w.heap.size, 3, none⟩ = some (.bool true) := cells_of (unhide HY) 3 _ rfl
                  exact bodyPost_ret (v := .agg #[.int .i64 (((0 + 3 : Nat) : Int)), .int .i64 0, .int .i64 0, .bool true]) (by simp [results, Tryd.results95, go_sem, v0, v1, v2, v3]) rfl ⟨by rw [unhide HT]; rfl, (unhide FY).ext (unhide HE4) (fun q hq => by omega)⟩
                · have HT := hide (show brkF (bs.drop i) = ⟨0 + 3, Kd9, 0, false⟩ by rw [unhide HT1, if_neg hneg])
                  clear HT1
                  go_wp2_with (refine wpList_store_blk rfl 69 _ _ rfl rfl (w.heap.size) rfl _ _ #[.int .i64 (((0 + 3 : Nat) : Int)), .int .i64 Kd9, .int .i64 0, .bool false] rfl (unhide HB4) infoT rfl (by simp [Value.oneCell']) ?_; intro Z hy hf9; have HY := hide hy; have FY := hide hf9; clear hy hf9)
                  have v0 : Z.cell? ⟨w.heap.size, 0, none⟩ = some (.int .i64 (((0 + 3 : Nat) : Int))) := cells_of (unhide HY) 0 _ rfl
                  have v1 : Z.cell? ⟨w.heap.size, 1, none⟩ = some (.int .i64 Kd9) := cells_of (unhide HY) 1 _ rfl
                  have v2 : Z.cell? ⟨w.heap.size, 2, none⟩ = some (.int .i64 0) := cells_of (unhide HY) 2 _ rfl
                  have v3 : Z.cell? ⟨w.heap.size, 3, none⟩ = some (.bool false) := cells_of (unhide HY) 3 _ rfl
                  exact bodyPost_ret (v := .agg #[.int .i64 (((0 + 3 : Nat) : Int)), .int .i64 Kd9, .int .i64 0, .bool false]) (by simp [results, Tryd.results95, go_sem, v0, v1, v2, v3]) rfl ⟨by rw [unhide HT]; rfl, (unhide FY).ext (unhide HE4) (fun q hq => by omega)⟩
              · have h7 : (x == 126) = false := by simpa using h6
                have HT1 := hide ((unhide HT0) (letF x) (by simp [h6]))
                clear HT0 hTl HCUT hCw
                have hnn : ¬ (letF x : Int) < 0 := letF_nn x
                have HT := hide (show brkF (bs.drop i) = ⟨0 + 3, letF x, 0, false⟩ by rw [unhide HT1, if_neg hnn])
                clear HT1
                go_wp2_with (refine wpList_store_blk rfl 69 _ _ rfl rfl (w.heap.size) rfl _ _ #[.int .i64 (((0 + 3 : Nat) : Int)), .int .i64 (letF x), .int .i64 0, .bool false] rfl (unhide HB0) infoT rfl (by simp [Value.oneCell']) ?_; intro Z hy hf9; have HY := hide hy; have FY := hide hf9; clear hy hf9)
                have v0 : Z.cell? ⟨w.heap.size, 0, none⟩ = some (.int .i64 (((0 + 3 : Nat) : Int))) := cells_of (unhide HY) 0 _ rfl
                have v1 : Z.cell? ⟨w.heap.size, 1, none⟩ = some (.int .i64 (letF x)) := cells_of (unhide HY) 1 _ rfl
                have v2 : Z.cell? ⟨w.heap.size, 2, none⟩ = some (.int .i64 0) := cells_of (unhide HY) 2 _ rfl
                have v3 : Z.cell? ⟨w.heap.size, 3, none⟩ = some (.bool false) := cells_of (unhide HY) 3 _ rfl
                exact bodyPost_ret (v := .agg #[.int .i64 (((0 + 3 : Nat) : Int)), .int .i64 (letF x), .int .i64 0, .bool false]) (by simp [results, Tryd.results95, go_sem, v0, v1, v2, v3]) rfl ⟨by rw [unhide HT]; rfl, (unhide FY).ext (unhide HE3) (fun q hq => by omega)⟩
            · have hm1 : ((m : Int) == 0) = false := by simp; omega
              clear hL
              by_cases h6 : x = 126
              · subst h6
                have hCw := (unhide HCUT) _ (unhide HE)
                go_wp2_with fail
                refine ((unhide hTl) _).mono ?_
                rintro e w4 ⟨rfl, E4⟩
                have HB4 := hide (E4.kept (unhide HB0))
                have HE4 := hide ((unhide HE).trans E4)
                have z4 := E4.size
                clear E4
                have HT1 := hide ((unhide HT0) (tilF (((bs.drop i).drop 2).take m)) (by simp))
                clear HT0
                obtain ⟨Kd9, hK9⟩ : ∃ k, k = tilF (((bs.drop i).drop 2).take m) := ⟨_, rfl⟩
                rw [← hK9] at HT1 ⊢
                clear hK9
                by_cases hneg : Kd9 < 0
                · have HT := hide (show brkF (bs.drop i) = ⟨m + 3, 0, 0, true⟩ by rw [unhide HT1, if_pos hneg])
                  clear HT1
                  go_wp2_with (refine wpList_store_blk rfl 69 _ _ rfl rfl (w.heap.size) rfl _ _ #[.int .i64 (((m + 3 : Nat) : Int)), .int .i64 0, .int .i64 0, .bool true] rfl (unhide HB4) infoT rfl (by simp [Value.oneCell']) ?_; intro Z hy hf9; have HY := hide hy; have FY := hide hf9; clear hy hf9)
                  have v0 : Z.cell? ⟨w.heap.size, 0, none⟩ = some (.int .i64 (((m + 3 : Nat) : Int))) := cells_of (unhide HY) 0 _ rfl
                  have v1 : Z.cell? ⟨w.heap.size, 1, none⟩ = some (.int .i64 0) := cells_of (unhide HY) 1 _ rfl
                  have v2 : Z.cell? ⟨w.heap.size, 2, none⟩ = some (.int .i64 0) := cells_of (unhide HY) 2 _ rfl
                  have v3 : Z.cell? ⟨w.heap.size, 3, none⟩ = some (.bool true) := cells_of (unhide HY) 3 _ rfl
                  exact bodyPost_ret (v := .agg #[.int .i64 (((m + 3 : Nat) : Int)), .int .i64 0, .int .i64 0, .bool true]) (by simp [results, Tryd.results95, go_sem, v0, v1, v2, v3]) rfl ⟨by rw [unhide HT]; rfl, (unhide FY).ext (unhide HE4) (fun q hq => by omega)⟩
                · have HT := hide (show brkF (bs.drop i) = ⟨m + 3, Kd9, 0, false⟩ by rw [unhide HT1, if_neg hneg])
                  clear HT1
                  go_wp2_with (refine wpList_store_blk rfl 69 _ _ rfl rfl (w.heap.size) rfl _ _ #[.int .i64 (((m + 3 : Nat) : Int)), .int .i64 Kd9, .int .i64 0, .bool false] rfl (unhide HB4) infoT rfl (by simp [Value.oneCell']) ?_; intro Z hy hf9; have HY := hide hy; have FY := hide hf9; clear hy hf9)
                  have v0 : Z.cell? ⟨w.heap.size, 0, none⟩ = some (.int .i64 (((m + 3 : Nat) : Int))) := cells_of (unhide HY) 0 _ rfl
                  have v1 : Z.cell? ⟨w.heap.size, 1, none⟩ = some (.int .i64 Kd9) := cells_of (unhide HY) 1 _ rfl
                  have v2 : Z.cell? ⟨w.heap.size, 2, none⟩ = some (.int .i64 0) := cells_of (unhide HY) 2 _ rfl
                  have v3 : Z.cell? ⟨w.heap.size, 3, none⟩ = some (.bool false) := cells_of (unhide HY) 3 _ rfl
                  exact bodyPost_ret (v := .agg #[.int .i64 (((m + 3 : Nat) : Int)), .int .i64 Kd9, .int .i64 0, .bool false]) (by simp [results, Tryd.results95, go_sem, v0, v1, v2, v3]) rfl ⟨by rw [unhide HT]; rfl, (unhide FY).ext (unhide HE4) (fun q hq => by omega)⟩
              · have h7 : (x == 126) = false := by simpa using h6
                have HT1 := hide ((unhide HT0) (23) (by simp [h6, hm0]))
                clear HT0 hTl HCUT hCw
                have hnn : ¬ (23 : Int) < 0 := by decide
                have HT := hide (show brkF (bs.drop i) = ⟨m + 3, 23, 0, false⟩ by rw [unhide HT1, if_neg hnn])
                clear HT1
                go_wp2_with (refine wpList_store_blk rfl 69 _ _ rfl rfl (w.heap.size) rfl _ _ #[.int .i64 (((m + 3 : Nat) : Int)), .int .i64 (23), .int .i64 0, .bool false] rfl (unhide HB0) infoT rfl (by simp [Value.oneCell']) ?_; intro Z hy hf9; have HY := hide hy; have FY := hide hf9; clear hy hf9)
                have v0 : Z.cell? ⟨w.heap.size, 0, none⟩ = some (.int .i64 (((m + 3 : Nat) : Int))) := cells_of (unhide HY) 0 _ rfl
                have v1 : Z.cell? ⟨w.heap.size, 1, none⟩ = some (.int .i64 (23)) := cells_of (unhide HY) 1 _ rfl
                have v2 : Z.cell? ⟨w.heap.size, 2, none⟩ = some (.int .i64 0) := cells_of (unhide HY) 2 _ rfl
                have v3 : Z.cell? ⟨w.heap.size, 3, none⟩ = some (.bool false) := cells_of (unhide HY) 3 _ rfl
                exact bodyPost_ret (v := .agg #[.int .i64 (((m + 3 : Nat) : Int)), .int .i64 (23), .int .i64 0, .bool false]) (by simp [results, Tryd.results95, go_sem, v0, v1, v2, v3]) rfl ⟨by rw [unhide HT]; rfl, (unhide FY).ext (unhide HE) (fun q hq => by omega)⟩
      · have HNm := hide ((unhide HF) (.inr (.inl (by omega))))
        clear HF HN
        have h4 : x < 64 := by omega
        have HT := hide (show brkF (bs.drop i) = ⟨m + 2, 23, 0, false⟩ by unfold brkF; rw [unhide HNm, if_neg (by rw [unhide HDL]; omega), (unhide HD), show i + (2 + m) = i + 2 + m by omega, ← unhide HX, if_pos (by omega)])
        have hw3 : IntKind.i64.wrap ((m : Int) + 2) = ((m + 2 : Nat) : Int) := by rw [IntKind.wrap_i64]; omega
        clear HNm HX
        go_wp2_with (refine wpList_store_blk rfl 69 _ _ rfl rfl (w.heap.size) rfl _ _ #[.int .i64 (((m + 2 : Nat) : Int)), .int .i64 23, .int .i64 0, .bool false] rfl (unhide HB0) infoT rfl (by simp [Value.oneCell']) ?_; intro Z hy hf9; have HY := hide hy; have FY := hide hf9; clear hy hf9)
        have v0 : Z.cell? ⟨w.heap.size, 0, none⟩ = some (.int .i64 (((m + 2 : Nat) : Int))) := cells_of (unhide HY) 0 _ rfl
        have v1 : Z.cell? ⟨w.heap.size, 1, none⟩ = some (.int .i64 23) := cells_of (unhide HY) 1 _ rfl
        have v2 : Z.cell? ⟨w.heap.size, 2, none⟩ = some (.int .i64 0) := cells_of (unhide HY) 2 _ rfl
        have v3 : Z.cell? ⟨w.heap.size, 3, none⟩ = some (.bool false) := cells_of (unhide HY) 3 _ rfl
        exact bodyPost_ret (v := .agg #[.int .i64 (((m + 2 : Nat) : Int)), .int .i64 23, .int .i64 0, .bool false]) (by simp [results, Tryd.results95, go_sem, v0, v1, v2, v3]) rfl ⟨by rw [unhide HT]; rfl, (unhide FY).ext (unhide HE) (fun q hq => by omega)⟩
    · have hE2 : i + 2 + m = bs.length := by omega
      have HNm := hide ((unhide HF) (.inl hE2))
      clear HF HN
      have hge : (bs.length : Int) ≤ (i : Int) + 2 + (m : Int) := by omega
      have hnl : ¬ (i : Int) + 2 + (m : Int) < (bs.length : Int) := by omega
      have HT := hide (show brkF (bs.drop i) = tk0 by unfold brkF; rw [unhide HNm, if_pos (by rw [unhide HDL]; omega)])
      clear HNm hE2
      go_wp2_with (refine wpList_store_blk rfl 69 _ _ rfl rfl (w.heap.size) rfl _ _ #[.int .i64 (0), .int .i64 0, .int .i64 0, .bool false] rfl (unhide HB0) infoT rfl (by simp [Value.oneCell']) ?_; intro Z hy hf9; have HY := hide hy; have FY := hide hf9; clear hy hf9)
      have v0 : Z.cell? ⟨w.heap.size, 0, none⟩ = some (.int .i64 (0)) := cells_of (unhide HY) 0 _ rfl
      have v1 : Z.cell? ⟨w.heap.size, 1, none⟩ = some (.int .i64 0) := cells_of (unhide HY) 1 _ rfl
      have v2 : Z.cell? ⟨w.heap.size, 2, none⟩ = some (.int .i64 0) := cells_of (unhide HY) 2 _ rfl
      have v3 : Z.cell? ⟨w.heap.size, 3, none⟩ = some (.bool false) := cells_of (unhide HY) 3 _ rfl
      exact bodyPost_ret (v := .agg #[.int .i64 (0), .int .i64 0, .int .i64 0, .bool false]) (by simp [results, Tryd.results95, go_sem, v0, v1, v2, v3]) rfl ⟨by rw [unhide HT]; rfl, (unhide FY).ext (unhide HE) (fun q hq => by omega)⟩
end Go.Proofs.YtbieoijeilhadaaDoor

namespace Go.Proofs.YtbieoijeilhadaaDoor
open Go.RowKit
set_option maxRecDepth 10000 in
set_option maxHeartbeats 4000000 in
theorem l3Escape_any (bs : List Int) (hb : Bytes bs) (v : Value) (i : Nat) (w : World) (hv : IntsAt w .u8 v bs) (hi : i < bs.length) (hl : bs.length ≤ 4398046511104) :
    Calls Tryd.prog 67 #[v, .int .i64 i] w fun e w' => e = .returned (tkV (escF (bs.drop i))) ∧ Ext w w' := by
  have hv0 := hide hv
  obtain ⟨ao, cap, rfl, hcap, hr⟩ := hv
  obtain ⟨b, off, rfl, hc⟩ := hr (by omega)
  have HC := hide hc
  have HBy := hide hb
  have hd : ∀ j, at0 (bs.drop i) j = at0 bs (i + j) := fun j => by rw [at0_drop]
  have HD := hide hd
  have hdl : (bs.drop i).length = bs.length - i := by simp
  have HDL := hide hdl
  clear hr hc hd hdl hb
  have infoT : (Tryd.prog.info? 69).map (·.size) = some 4 := by kernel_rfl
  have hw1 : IntKind.i64.wrap ((i : Int) + 1) = (i : Int) + 1 := by rw [IntKind.wrap_i64]; omega
  have hw2 : IntKind.i64.wrap ((i : Int) + 2) = (i : Int) + 2 := by rw [IntKind.wrap_i64]; omega
  by_cases h1 : i + 1 < bs.length
  · have h1I : (i : Int) + 1 < (bs.length : Int) := by omega
    have h1J : ¬ (bs.length : Int) ≤ (i : Int) + 1 := by omega
    obtain ⟨x, hx⟩ : ∃ x, x = at0 bs (i + 1) := ⟨_, rfl⟩
    have HX : Hid (at0 (bs.drop i) 1 = x) := hide (by rw [(unhide HD), hx])
    have gA : ∀ o, (w.alloc o).cell? ⟨b, off + (i + 1), none⟩ = some (.int .u8 x) := fun o => by rw [hx]; exact ((Ext.refl w).alloc o).cell ((unhide HC) _ h1)
    have hS0 : Hid (¬ (bs.drop i).length ≤ 1) := hide (by rw [unhide HDL]; omega)
    clear hx
    by_cases h27 : x = 27
    · subst h27
      have HT := hide (show escF (bs.drop i) = ⟨1, 22, 0, false⟩ by unfold escF; rw [if_neg (unhide hS0), unhide HX]; rfl)
      go_enter Tryd.func67, Tryd.ntmps67
      go_wp2_with (refine wpList_store_blk rfl 69 _ _ rfl rfl (w.heap.size) rfl _ _ #[.int .i64 (1), .int .i64 (22), .int .i64 (0), .bool false] rfl (new_block w _) infoT rfl (by simp [Value.oneCell']) ?_; intro Z hy hf9; have HY := hide hy; have FY := hide hf9; clear hy hf9)
      have v0 : Z.cell? ⟨w.heap.size, 0, none⟩ = some (.int .i64 (1)) := cells_of (unhide HY) 0 _ rfl
      have v1 : Z.cell? ⟨w.heap.size, 1, none⟩ = some (.int .i64 (22)) := cells_of (unhide HY) 1 _ rfl
      have v2 : Z.cell? ⟨w.heap.size, 2, none⟩ = some (.int .i64 (0)) := cells_of (unhide HY) 2 _ rfl
      have v3 : Z.cell? ⟨w.heap.size, 3, none⟩ = some (.bool false) := cells_of (unhide HY) 3 _ rfl
      exact bodyPost_ret (v := .agg #[.int .i64 (1), .int .i64 (22), .int .i64 (0), .bool false]) (by simp [results, Tryd.results67, go_sem, v0, v1, v2, v3]) rfl ⟨by rw [unhide HT]; rfl, (unhide FY).ext ((Ext.refl w).alloc _) (fun q hq => by omega)⟩
    have n27 : (x == 27) = false := by simpa using h27
    by_cases h91 : x = 91
    · subst h91
      have HT := hide (show escF (bs.drop i) = brkF (bs.drop i) by unfold escF; rw [if_neg (unhide hS0), unhide HX]; rfl)
      have hBr := hide (fun W (hW : Ext w W) => l3Bracket_any bs (unhide HBy) _ i W ((unhide hv0).ext hW) (by omega) hl)
      obtain ⟨t, ht⟩ : ∃ t, t = brkF (bs.drop i) := ⟨_, rfl⟩
      rw [← ht] at hBr HT
      clear ht
      go_enter Tryd.func67, Tryd.ntmps67
      go_wp2_with fail
      refine ((unhide hBr) _ ((Ext.refl w).alloc _)).mono ?_
      rintro e w3 ⟨he, E3⟩
      simp only [tkV] at he
      subst he
      have HB3 := hide (E3.kept (new_block w _))
      have z3 := E3.size
      have HE3 := hide (((Ext.refl w).alloc _).trans E3)
      clear E3
      go_wp2_with (refine wpList_store_blk rfl 69 _ _ rfl rfl (w.heap.size) rfl _ _ #[.int .i64 ((t.n : Int)), .int .i64 (t.kind), .int .i64 (t.r), .bool t.p] rfl (unhide HB3) infoT rfl (by simp [Value.oneCell']) ?_; intro Z hy hf9; have HY := hide hy; have FY := hide hf9; clear hy hf9)
      have v0 : Z.cell? ⟨w.heap.size, 0, none⟩ = some (.int .i64 ((t.n : Int))) := cells_of (unhide HY) 0 _ rfl
      have v1 : Z.cell? ⟨w.heap.size, 1, none⟩ = some (.int .i64 (t.kind)) := cells_of (unhide HY) 1 _ rfl
      have v2 : Z.cell? ⟨w.heap.size, 2, none⟩ = some (.int .i64 (t.r)) := cells_of (unhide HY) 2 _ rfl
      have v3 : Z.cell? ⟨w.heap.size, 3, none⟩ = some (.bool t.p) := cells_of (unhide HY) 3 _ rfl
      exact bodyPost_ret (v := .agg #[.int .i64 ((t.n : Int)), .int .i64 (t.kind), .int .i64 (t.r), .bool t.p]) (by simp [results, Tryd.results67, go_sem, v0, v1, v2, v3]) rfl ⟨by rw [unhide HT]; rfl, (unhide FY).ext (unhide HE3) (fun q hq => by omega)⟩
    have n91 : (x == 91) = false := by simpa using h91
    by_cases h79 : x = 79
    · subst h79
      by_cases h2 : i + 2 < bs.length
      · have h2J : ¬ (bs.length : Int) ≤ (i : Int) + 2 := by omega
        have h2I : (i : Int) + 2 < (bs.length : Int) := by omega
        obtain ⟨y, hy⟩ : ∃ y, y = at0 bs (i + 2) := ⟨_, rfl⟩
        have gB : ∀ o, (w.alloc o).cell? ⟨b, off + (i + 2), none⟩ = some (.int .u8 y) := fun o => by rw [hy]; exact ((Ext.refl w).alloc o).cell ((unhide HC) _ h2)
        have HT := hide (show escF (bs.drop i) = ⟨3, letF y, 0, false⟩ by unfold escF; rw [if_neg (unhide hS0), unhide HX, (unhide HD), ← hy]; rw [if_neg (by decide), if_neg (by decide), if_pos rfl, if_neg (by rw [unhide HDL]; omega)])
        clear hy
        have hL := hide (fun W => l3Letter_any y W)
        go_enter Tryd.func67, Tryd.ntmps67
        go_wp2_with fail
        refine ((unhide hL) _).mono ?_
        rintro e w3 ⟨rfl, E3⟩
        have HB3 := hide (E3.kept (new_block w _))
        have z3 := E3.size
        have HE3 := hide (((Ext.refl w).alloc _).trans E3)
        clear E3
        go_wp2_with (refine wpList_store_blk rfl 69 _ _ rfl rfl (w.heap.size) rfl _ _ #[.int .i64 (3), .int .i64 (letF y), .int .i64 (0), .bool false] rfl (unhide HB3) infoT rfl (by simp [Value.oneCell']) ?_; intro Z hy hf9; have HY := hide hy; have FY := hide hf9; clear hy hf9)
        have v0 : Z.cell? ⟨w.heap.size, 0, none⟩ = some (.int .i64 (3)) := cells_of (unhide HY) 0 _ rfl
        have v1 : Z.cell? ⟨w.heap.size, 1, none⟩ = some (.int .i64 (letF y)) := cells_of (unhide HY) 1 _ rfl
        have v2 : Z.cell? ⟨w.heap.size, 2, none⟩ = some (.int .i64 (0)) := cells_of (unhide HY) 2 _ rfl
        have v3 : Z.cell? ⟨w.heap.size, 3, none⟩ = some (.bool false) := cells_of (unhide HY) 3 _ rfl
        exact bodyPost_ret (v := .agg #[.int .i64 (3), .int .i64 (letF y), .int .i64 (0), .bool false]) (by simp [results, Tryd.results67, go_sem, v0, v1, v2, v3]) rfl ⟨by rw [unhide HT]; rfl, (unhide FY).ext (unhide HE3) (fun q hq => by omega)⟩
      · have h2J : (bs.length : Int) ≤ (i : Int) + 2 := by omega
        have HT := hide (show escF (bs.drop i) = tk0 by unfold escF; rw [if_neg (unhide hS0), unhide HX]; rw [if_neg (by decide), if_neg (by decide), if_pos rfl, if_pos (by rw [unhide HDL]; omega)])
        go_enter Tryd.func67, Tryd.ntmps67
        go_wp2_with (refine wpList_store_blk rfl 69 _ _ rfl rfl (w.heap.size) rfl _ _ #[.int .i64 (0), .int .i64 (0), .int .i64 (0), .bool false] rfl (new_block w _) infoT rfl (by simp [Value.oneCell']) ?_; intro Z hy hf9; have HY := hide hy; have FY := hide hf9; clear hy hf9)
        have v0 : Z.cell? ⟨w.heap.size, 0, none⟩ = some (.int .i64 (0)) := cells_of (unhide HY) 0 _ rfl
        have v1 : Z.cell? ⟨w.heap.size, 1, none⟩ = some (.int .i64 (0)) := cells_of (unhide HY) 1 _ rfl
        have v2 : Z.cell? ⟨w.heap.size, 2, none⟩ = some (.int .i64 (0)) := cells_of (unhide HY) 2 _ rfl
        have v3 : Z.cell? ⟨w.heap.size, 3, none⟩ = some (.bool false) := cells_of (unhide HY) 3 _ rfl
        exact bodyPost_ret (v := .agg #[.int .i64 (0), .int .i64 (0), .int .i64 (0), .bool false]) (by simp [results, Tryd.results67, go_sem, v0, v1, v2, v3]) rfl ⟨by rw [unhide HT]; rfl, (unhide FY).ext ((Ext.refl w).alloc _) (fun q hq => by omega)⟩
    have n79 : (x == 79) = false := by simpa using h79
    by_cases h98 : x = 98
    · subst h98
      have HT := hide (show escF (bs.drop i) = ⟨2, 18, 0, false⟩ by unfold escF; rw [if_neg (unhide hS0), unhide HX]; rfl)
      go_enter Tryd.func67, Tryd.ntmps67
      go_wp2_with (refine wpList_store_blk rfl 69 _ _ rfl rfl (w.heap.size) rfl _ _ #[.int .i64 (2), .int .i64 (18), .int .i64 (0), .bool false] rfl (new_block w _) infoT rfl (by simp [Value.oneCell']) ?_; intro Z hy hf9; have HY := hide hy; have FY := hide hf9; clear hy hf9)
      have v0 : Z.cell? ⟨w.heap.size, 0, none⟩ = some (.int .i64 (2)) := cells_of (unhide HY) 0 _ rfl
      have v1 : Z.cell? ⟨w.heap.size, 1, none⟩ = some (.int .i64 (18)) := cells_of (unhide HY) 1 _ rfl
      have v2 : Z.cell? ⟨w.heap.size, 2, none⟩ = some (.int .i64 (0)) := cells_of (unhide HY) 2 _ rfl
      have v3 : Z.cell? ⟨w.heap.size, 3, none⟩ = some (.bool false) := cells_of (unhide HY) 3 _ rfl
      exact bodyPost_ret (v := .agg #[.int .i64 (2), .int .i64 (18), .int .i64 (0), .bool false]) (by simp [results, Tryd.results67, go_sem, v0, v1, v2, v3]) rfl ⟨by rw [unhide HT]; rfl, (unhide FY).ext ((Ext.refl w).alloc _) (fun q hq => by omega)⟩
    have n98 : (x == 98) = false := by simpa using h98
    by_cases h102 : x = 102
    · subst h102
      have HT := hide (show escF (bs.drop i) = ⟨2, 19, 0, false⟩ by unfold escF; rw [if_neg (unhide hS0), unhide HX]; rfl)
      go_enter Tryd.func67, Tryd.ntmps67
      go_wp2_with (refine wpList_store_blk rfl 69 _ _ rfl rfl (w.heap.size) rfl _ _ #[.int .i64 (2), .int .i64 (19), .int .i64 (0), .bool false] rfl (new_block w _) infoT rfl (by simp [Value.oneCell']) ?_; intro Z hy hf9; have HY := hide hy; have FY := hide hf9; clear hy hf9)
      have v0 : Z.cell? ⟨w.heap.size, 0, none⟩ = some (.int .i64 (2)) := cells_of (unhide HY) 0 _ rfl
      have v1 : Z.cell? ⟨w.heap.size, 1, none⟩ = some (.int .i64 (19)) := cells_of (unhide HY) 1 _ rfl
      have v2 : Z.cell? ⟨w.heap.size, 2, none⟩ = some (.int .i64 (0)) := cells_of (unhide HY) 2 _ rfl
      have v3 : Z.cell? ⟨w.heap.size, 3, none⟩ = some (.bool false) := cells_of (unhide HY) 3 _ rfl
      exact bodyPost_ret (v := .agg #[.int .i64 (2), .int .i64 (19), .int .i64 (0), .bool false]) (by simp [results, Tryd.results67, go_sem, v0, v1, v2, v3]) rfl ⟨by rw [unhide HT]; rfl, (unhide FY).ext ((Ext.refl w).alloc _) (fun q hq => by omega)⟩
    have n102 : (x == 102) = false := by simpa using h102
    have HT := hide (show escF (bs.drop i) = ⟨2, 23, 0, false⟩ by unfold escF; rw [if_neg (unhide hS0), unhide HX]; simp [h27, h91, h79, h98, h102])
    clear h27 h91 h79 h98 h102
    go_enter Tryd.func67, Tryd.ntmps67
    go_wp2_with (refine wpList_store_blk rfl 69 _ _ rfl rfl (w.heap.size) rfl _ _ #[.int .i64 (2), .int .i64 (23), .int .i64 (0), .bool false] rfl (new_block w _) infoT rfl (by simp [Value.oneCell']) ?_; intro Z hy hf9; have HY := hide hy; have FY := hide hf9; clear hy hf9)
    have v0 : Z.cell? ⟨w.heap.size, 0, none⟩ = some (.int .i64 (2)) := cells_of (unhide HY) 0 _ rfl
    have v1 : Z.cell? ⟨w.heap.size, 1, none⟩ = some (.int .i64 (23)) := cells_of (unhide HY) 1 _ rfl
    have v2 : Z.cell? ⟨w.heap.size, 2, none⟩ = some (.int .i64 (0)) := cells_of (unhide HY) 2 _ rfl
    have v3 : Z.cell? ⟨w.heap.size, 3, none⟩ = some (.bool false) := cells_of (unhide HY) 3 _ rfl
    exact bodyPost_ret (v := .agg #[.int .i64 (2), .int .i64 (23), .int .i64 (0), .bool false]) (by simp [results, Tryd.results67, go_sem, v0, v1, v2, v3]) rfl ⟨by rw [unhide HT]; rfl, (unhide FY).ext ((Ext.refl w).alloc _) (fun q hq => by omega)⟩
  · have h1J : (bs.length : Int) ≤ (i : Int) + 1 := by omega
    have HT := hide (show escF (bs.drop i) = tk0 by unfold escF; rw [if_pos (by rw [unhide HDL]; omega)])
    go_enter Tryd.func67, Tryd.ntmps67
    go_wp2_with (refine wpList_store_blk rfl 69 _ _ rfl rfl (w.heap.size) rfl _ _ #[.int .i64 (0), .int .i64 (0), .int .i64 (0), .bool false] rfl (new_block w _) infoT rfl (by simp [Value.oneCell']) ?_; intro Z hy hf9; have HY := hide hy; have FY := hide hf9; clear hy hf9)
    have v0 : Z.cell? ⟨w.heap.size, 0, none⟩ = some (.int .i64 (0)) := cells_of (unhide HY) 0 _ rfl
    have v1 : Z.cell? ⟨w.heap.size, 1, none⟩ = some (.int .i64 (0)) := cells_of (unhide HY) 1 _ rfl
    have v2 : Z.cell? ⟨w.heap.size, 2, none⟩ = some (.int .i64 (0)) := cells_of (unhide HY) 2 _ rfl
    have v3 : Z.cell? ⟨w.heap.size, 3, none⟩ = some (.bool false) := cells_of (unhide HY) 3 _ rfl
    exact bodyPost_ret (v := .agg #[.int .i64 (0), .int .i64 (0), .int .i64 (0), .bool false]) (by simp [results, Tryd.results67, go_sem, v0, v1, v2, v3]) rfl ⟨by rw [unhide HT]; rfl, (unhide FY).ext ((Ext.refl w).alloc _) (fun q hq => by omega)⟩
end Go.Proofs.YtbieoijeilhadaaDoor

namespace Go.Proofs.YtbieoijeilhadaaDoor
open Go.RowKit
def oneF (s : List Int) : Tk :=
  if at0 s 0 = 27 then escF s else if at0 s 0 = 9 then ⟨1, 1, 32, false⟩ else if 0 < ctrlF (at0 s 0) then ⟨1, ctrlF (at0 s 0), 0, false⟩
  else if begB s = true then tk0 else ⟨(decL s).2, 1, shownI (decL s).1, false⟩
set_option maxRecDepth 10000 in
set_option maxHeartbeats 4000000 in
theorem l3One_any (bs : List Int) (hb : Bytes bs) (v : Value) (i : Nat) (w : World) (hv : IntsAt w .u8 v bs) (hi : i < bs.length) (hl : bs.length ≤ 4398046511104) :
    Calls Tryd.prog 35 #[v, .int .i64 i] w fun e w' => e = .returned (tkV (oneF (bs.drop i))) ∧ Ext w w' := by
  have hE := hide (fun W (hW : Ext w W) => l3Escape_any bs hb v i W (hv.ext hW) hi hl)
  have hBg := hide (fun W (hW : Ext w W) => l1Begun_any bs hb v i W (hv.ext hW) hi hl)
  have hRn := hide (fun W (hW : Ext w W) => l1Rune_any bs hb v i W (hv.ext hW) hi hl)
  obtain ⟨ao, cap, rfl, hcap, hr⟩ := hv
  obtain ⟨b, off, rfl, hc⟩ := hr (by omega)
  have HC := hide hc
  have hat : at0 (bs.drop i) 0 = at0 bs i := by rw [at0_drop]; rfl
  have infoT : (Tryd.prog.info? 69).map (·.size) = some 4 := by kernel_rfl
  have hiI : (i : Int) < (bs.length : Int) := by omega
  obtain ⟨x, hx⟩ : ∃ x, x = at0 bs i := ⟨_, rfl⟩
  have hx0 : 0 ≤ x ∧ x ≤ 255 := by rw [hx]; exact hb.at0 _
  have HX : Hid (at0 (bs.drop i) 0 = x) := hide (by rw [hat, hx])
  have gA : ∀ o, (w.alloc o).cell? ⟨b, off + i, none⟩ = some (.int .u8 x) := fun o => by rw [hx]; exact ((Ext.refl w).alloc o).cell (hc i hi)
  obtain ⟨s, hs⟩ : ∃ s, s = bs.drop i := ⟨_, rfl⟩
  rw [← hs] at HX hE hBg hRn ⊢
  clear hr hc hat hx hs hb
  by_cases h27 : x = 27
  · subst h27
    have HT := hide (show oneF s = escF s by unfold oneF; rw [unhide HX, if_pos rfl])
    obtain ⟨t, ht⟩ : ∃ t, t = escF s := ⟨_, rfl⟩
    rw [← ht] at hE HT
    clear ht hBg hRn
    go_enter Tryd.func35, Tryd.ntmps35
    go_wp2_with fail
    refine ((unhide hE) _ ((Ext.refl w).alloc _)).mono ?_
    rintro e w3 ⟨he, E3⟩
    simp only [tkV] at he
    subst he
    have HB3 := hide (E3.kept (new_block w _))
    have z3 := E3.size
    have HE3 := hide (((Ext.refl w).alloc _).trans E3)
    clear E3
    go_wp2_with (refine wpList_store_blk rfl 69 _ _ rfl rfl (w.heap.size) rfl _ _ #[.int .i64 ((t.n : Int)), .int .i64 (t.kind), .int .i64 (t.r), .bool t.p] rfl (unhide HB3) infoT rfl (by simp [Value.oneCell']) ?_; intro Z hy hf9; have HY := hide hy; have FY := hide hf9; clear hy hf9)
    have v0 : Z.cell? ⟨w.heap.size, 0, none⟩ = some (.int .i64 ((t.n : Int))) := cells_of (unhide HY) 0 _ rfl
    have v1 : Z.cell? ⟨w.heap.size, 1, none⟩ = some (.int .i64 (t.kind)) := cells_of (unhide HY) 1 _ rfl
    have v2 : Z.cell? ⟨w.heap.size, 2, none⟩ = some (.int .i64 (t.r)) := cells_of (unhide HY) 2 _ rfl
    have v3 : Z.cell? ⟨w.heap.size, 3, none⟩ = some (.bool t.p) := cells_of (unhide HY) 3 _ rfl
    exact bodyPost_ret (v := .agg #[.int .i64 ((t.n : Int)), .int .i64 (t.kind), .int .i64 (t.r), .bool t.p]) (by simp [results, Tryd.results35, go_sem, v0, v1, v2, v3]) rfl ⟨by rw [unhide HT]; rfl, (unhide FY).ext (unhide HE3) (fun q hq => by omega)⟩
  have n27 : (x == 27) = false := by simpa using h27
  clear hE
  by_cases h9 : x = 9
  · subst h9
    have HT := hide (show oneF s = ⟨1, 1, 32, false⟩ by unfold oneF; rw [unhide HX]; rfl)
    go_enter Tryd.func35, Tryd.ntmps35
    go_wp2_with (refine wpList_store_blk rfl 69 _ _ rfl rfl (w.heap.size) rfl _ _ #[.int .i64 (1), .int .i64 (1), .int .i64 (32), .bool false] rfl (new_block w _) infoT rfl (by simp [Value.oneCell']) ?_; intro Z hy hf9; have HY := hide hy; have FY := hide hf9; clear hy hf9)
    have v0 : Z.cell? ⟨w.heap.size, 0, none⟩ = some (.int .i64 (1)) := cells_of (unhide HY) 0 _ rfl
    have v1 : Z.cell? ⟨w.heap.size, 1, none⟩ = some (.int .i64 (1)) := cells_of (unhide HY) 1 _ rfl
    have v2 : Z.cell? ⟨w.heap.size, 2, none⟩ = some (.int .i64 (32)) := cells_of (unhide HY) 2 _ rfl
    have v3 : Z.cell? ⟨w.heap.size, 3, none⟩ = some (.bool false) := cells_of (unhide HY) 3 _ rfl
    exact bodyPost_ret (v := .agg #[.int .i64 (1), .int .i64 (1), .int .i64 (32), .bool false]) (by simp [results, Tryd.results35, go_sem, v0, v1, v2, v3]) rfl ⟨by rw [unhide HT]; rfl, (unhide FY).ext ((Ext.refl w).alloc _) (fun q hq => by omega)⟩
  have n9 : (x == 9) = false := by simpa using h9
  have hCt := hide (fun W => l3Control_any x W)
  obtain ⟨c, hc⟩ : ∃ c, c = ctrlF x := ⟨_, rfl⟩
  rw [← hc] at hCt
  by_cases h0 : 0 < c
  · have HT := hide (show oneF s = ⟨1, c, 0, false⟩ by unfold oneF; rw [unhide HX, if_neg h27, if_neg h9, ← hc, if_pos h0])
    clear hc hBg hRn h27 h9
    go_enter Tryd.func35, Tryd.ntmps35
    go_wp2_with fail
    refine ((unhide hCt) _).mono ?_
    rintro e w3 ⟨rfl, E3⟩
    have HB3 := hide (E3.kept (new_block w _))
    have z3 := E3.size
    have HE3 := hide (((Ext.refl w).alloc _).trans E3)
    have g3 : w3.cell? ⟨b, off + i, none⟩ = some (.int .u8 x) := E3.cell (gA _)
    clear E3
    go_wp2_with fail
    refine ((unhide hCt) _).mono ?_
    rintro e w4 ⟨rfl, E4⟩
    have HB4 := hide (E4.kept (unhide HB3))
    have z4 := E4.size
    have HE4 := hide ((unhide HE3).trans E4)
    clear E4
    go_wp2_with (refine wpList_store_blk rfl 69 _ _ rfl rfl (w.heap.size) rfl _ _ #[.int .i64 (1), .int .i64 (c), .int .i64 (0), .bool false] rfl (unhide HB4) infoT rfl (by simp [Value.oneCell']) ?_; intro Z hy hf9; have HY := hide hy; have FY := hide hf9; clear hy hf9)
    have v0 : Z.cell? ⟨w.heap.size, 0, none⟩ = some (.int .i64 (1)) := cells_of (unhide HY) 0 _ rfl
    have v1 : Z.cell? ⟨w.heap.size, 1, none⟩ = some (.int .i64 (c)) := cells_of (unhide HY) 1 _ rfl
    have v2 : Z.cell? ⟨w.heap.size, 2, none⟩ = some (.int .i64 (0)) := cells_of (unhide HY) 2 _ rfl
    have v3 : Z.cell? ⟨w.heap.size, 3, none⟩ = some (.bool false) := cells_of (unhide HY) 3 _ rfl
    exact bodyPost_ret (v := .agg #[.int .i64 (1), .int .i64 (c), .int .i64 (0), .bool false]) (by simp [results, Tryd.results35, go_sem, v0, v1, v2, v3]) rfl ⟨by rw [unhide HT]; rfl, (unhide FY).ext (unhide HE4) (fun q hq => by omega)⟩
  obtain ⟨bg, hbg⟩ : ∃ g, g = begB s := ⟨_, rfl⟩
  rw [← hbg] at hBg
  cases bg
  · have HT := hide (show oneF s = ⟨(decL s).2, 1, shownI (decL s).1, false⟩ by unfold oneF; rw [unhide HX, if_neg h27, if_neg h9, ← hc, if_neg h0, ← hbg]; rfl)
    clear hc hbg h27 h9
    obtain ⟨D, hD⟩ : ∃ D, D = decL s := ⟨_, rfl⟩
    rw [← hD] at HT hRn
    clear hD
    go_enter Tryd.func35, Tryd.ntmps35
    go_wp2_with fail
    refine ((unhide hCt) _).mono ?_
    rintro e w3 ⟨rfl, E3⟩
    have HB3 := hide (E3.kept (new_block w _))
    have z3 := E3.size
    have HE3 := hide (((Ext.refl w).alloc _).trans E3)
    clear E3 hCt
    go_wp2_with fail
    refine ((unhide hBg) _ (unhide HE3)).mono ?_
    rintro e w4 ⟨rfl, E4⟩
    have HB4 := hide (E4.kept (unhide HB3))
    have z4 := E4.size
    have HE4 := hide ((unhide HE3).trans E4)
    clear E4 hBg
    go_wp2_with fail
    refine ((unhide hRn) _ (unhide HE4)).mono ?_
    rintro e w5 ⟨rfl, E5⟩
    have HB5 := hide (E5.kept (unhide HB4))
    have z5 := E5.size
    have HE5 := hide ((unhide HE4).trans E5)
    clear E5 hRn
    go_wp2_with fail
    refine (l1Shown_any _ _).mono ?_
    rintro e w6 ⟨rfl, rfl⟩
    go_wp2_with (refine wpList_store_blk rfl 69 _ _ rfl rfl (w.heap.size) rfl _ _ #[.int .i64 ((D.2 : Int)), .int .i64 (1), .int .i64 (shownI D.1), .bool false] rfl (unhide HB5) infoT rfl (by simp [Value.oneCell']) ?_; intro Z hy hf9; have HY := hide hy; have FY := hide hf9; clear hy hf9)
    have v0 : Z.cell? ⟨w.heap.size, 0, none⟩ = some (.int .i64 ((D.2 : Int))) := cells_of (unhide HY) 0 _ rfl
    have v1 : Z.cell? ⟨w.heap.size, 1, none⟩ = some (.int .i64 (1)) := cells_of (unhide HY) 1 _ rfl
    have v2 : Z.cell? ⟨w.heap.size, 2, none⟩ = some (.int .i64 (shownI D.1)) := cells_of (unhide HY) 2 _ rfl
    have v3 : Z.cell? ⟨w.heap.size, 3, none⟩ = some (.bool false) := cells_of (unhide HY) 3 _ rfl
    exact bodyPost_ret (v := .agg #[.int .i64 ((D.2 : Int)), .int .i64 (1), .int .i64 (shownI D.1), .bool false]) (by simp [results, Tryd.results35, go_sem, v0, v1, v2, v3]) rfl ⟨by rw [unhide HT]; rfl, (unhide FY).ext (unhide HE5) (fun q hq => by omega)⟩
  · have HT := hide (show oneF s = tk0 by unfold oneF; rw [unhide HX, if_neg h27, if_neg h9, ← hc, if_neg h0, ← hbg]; rfl)
    clear hc hbg h27 h9 hRn
    go_enter Tryd.func35, Tryd.ntmps35
    go_wp2_with fail
    refine ((unhide hCt) _).mono ?_
    rintro e w3 ⟨rfl, E3⟩
    have HB3 := hide (E3.kept (new_block w _))
    have z3 := E3.size
    have HE3 := hide (((Ext.refl w).alloc _).trans E3)
    clear E3 hCt
    go_wp2_with fail
    refine ((unhide hBg) _ (unhide HE3)).mono ?_
    rintro e w4 ⟨rfl, E4⟩
    have HB4 := hide (E4.kept (unhide HB3))
    have z4 := E4.size
    have HE4 := hide ((unhide HE3).trans E4)
    clear E4 hBg
    go_wp2_with (refine wpList_store_blk rfl 69 _ _ rfl rfl (w.heap.size) rfl _ _ #[.int .i64 (0), .int .i64 (0), .int .i64 (0), .bool false] rfl (unhide HB4) infoT rfl (by simp [Value.oneCell']) ?_; intro Z hy hf9; have HY := hide hy; have FY := hide hf9; clear hy hf9)
    have v0 : Z.cell? ⟨w.heap.size, 0, none⟩ = some (.int .i64 (0)) := cells_of (unhide HY) 0 _ rfl
    have v1 : Z.cell? ⟨w.heap.size, 1, none⟩ = some (.int .i64 (0)) := cells_of (unhide HY) 1 _ rfl
    have v2 : Z.cell? ⟨w.heap.size, 2, none⟩ = some (.int .i64 (0)) := cells_of (unhide HY) 2 _ rfl
    have v3 : Z.cell? ⟨w.heap.size, 3, none⟩ = some (.bool false) := cells_of (unhide HY) 3 _ rfl
    exact bodyPost_ret (v := .agg #[.int .i64 (0), .int .i64 (0), .int .i64 (0), .bool false]) (by simp [results, Tryd.results35, go_sem, v0, v1, v2, v3]) rfl ⟨by rw [unhide HT]; rfl, (unhide FY).ext (unhide HE4) (fun q hq => by omega)⟩
end Go.Proofs.YtbieoijeilhadaaDoor
