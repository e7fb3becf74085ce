import Derived.Test.YtinfdhbnljnifaaGreatDoorSzCls
import Derived.Test.YtinfdhbnljnifaaGreatDoorKmU
import Derived.Test.YtinfdhbnljnifaaGreatDoorRd
namespace Go.Proofs.YtinfdhbnljnifaaGreatDoor
open Go.RowKit
theorem baListK (s : ByteArray) : s.toList = s.data.toList := by
 have aux : ∀ (n i : Nat) (r : List UInt8), s.size - i = n → ByteArray.toList.loop s i r = r.reverse ++ s.data.toList.drop i := by
  intro n
  induction n with
  | zero =>
   intro i r h
   rw [ByteArray.toList.loop, if_neg (by omega), List.drop_eq_nil_of_le (by simp; exact Nat.sub_eq_zero_iff_le.1 h)]
   simp
  | succ n ih =>
   intro i r h
   rw [ByteArray.toList.loop, if_pos (by omega), ih (i + 1) _ (by omega)]
   have hi : i < s.data.toList.length := by simp; show i < s.size; omega
   rw [List.drop_eq_getElem_cons hi]
   have e : s.get! i = s.data.toList[i] := by
    have hs : i < s.data.size := by simpa using hi
    cases s with
    | mk d => show d[i]! = d.toList[i]; simp only [getElem!_pos d i hs, Array.getElem_toList]
   rw [e]
   simp
 have := aux s.size 0 [] (by omega)
 simpa [ByteArray.toList] using this
theorem zcT (xs : List Int) : (zo xs).toList = xs.map (fun n => UInt8.ofNat n.toNat) := by rw [baListK, za9]
theorem zls {k : IntKind} {w : World} {p : Nat} {T : TypeId} {xs : List Int} (h : w.heap[p]? = some (.cells (xs.map (Value.int k)).toArray T (0, 0))) : ∀ j, j < xs.length → w.cell? ⟨p, j, none⟩ = some (.int k (at0 xs j)) := fun j hj => zg h j _ (by simp [at0, hj])
set_option maxRecDepth 10000 in
set_option maxHeartbeats 4000000 in
theorem zhK (c : Int) (w : World) :
  Calls Tryz.prog 191 #[.int .u8 c] w fun e w' => e = .returned (.int .i64 (zf2 c)) ∧ Ext w w' := by
 obtain ⟨V, hV⟩ : ∃ V, V = (w.alloc (.cells (zfR.map (Value.int .u8)).toArray 5)).alloc (.cells (ziM.map (Value.int .i64)).toArray 3) := ⟨_, rfl⟩
 have E0 : Ext w V := by rw [hV]; exact ((Ext.refl w).alloc _).alloc _
 have hb : ∀ j, j < 19 → V.cell? ⟨w.heap.size, j, none⟩ = some (.int .u8 (at0 zfR j)) := zls (xs := zfR) (by rw [hV]; exact ((Ext.refl _).alloc _).kept (zk w _))
 have hk : ∀ j, j < 19 → V.cell? ⟨w.heap.size + 1, j, none⟩ = some (.int .i64 (at0 ziM j)) := zls (xs := ziM) (by rw [hV]; have h := zk (w.alloc (.cells (zfR.map (Value.int .u8)).toArray 5)) (.cells (ziM.map (Value.int .i64)).toArray 3); rw [show (w.alloc (.cells (zfR.map (Value.int .u8)).toArray 5)).heap.size = w.heap.size + 1 by simp] at h; exact h)
 have HB := zh hb
 have HK := zh hk
 have HE := zh E0
 have HV := zh (show V = (w.alloc (.cells #[.int .u8 13, .int .u8 10, .int .u8 8, .int .u8 127, .int .u8 4, .int .u8 2, .int .u8 6, .int .u8 1, .int .u8 5, .int .u8 16, .int .u8 14, .int .u8 11, .int .u8 21, .int .u8 23, .int .u8 25, .int .u8 20, .int .u8 31, .int .u8 18, .int .u8 3] 5)).alloc (.cells #[.int .i64 3, .int .i64 3, .int .i64 4, .int .i64 4, .int .i64 5, .int .i64 6, .int .i64 7, .int .i64 8, .int .i64 9, .int .i64 10, .int .i64 11, .int .i64 12, .int .i64 13, .int .i64 14, .int .i64 15, .int .i64 16, .int .i64 17, .int .i64 20, .int .i64 21] 3) from hV)
 clear hb hk hV E0
 go_enter Tryz.func191, Tryz.ntmps191
 go_wp2
 rw [← zu HV]
 clear HV
 go_loopw [5] (fun i wr => ∃ j : Nat, j ≤ 19 ∧ i = .int .i64 j ∧ Hid (wr = V) ∧ Hid (∀ m, m < j → at0 zfR m ≠ c)) (fun i _ => 19 - (intOf i).toNat)
 case atStart => exact ⟨0, Nat.zero_le _, rfl, zh rfl, zh (fun m hm => by omega)⟩
 case round =>
  obtain ⟨j, hj, rfl, HV2, HN⟩ := hrel
  have hV2 := zu HV2
  subst hV2
  clear HV2
  by_cases hlt : j < 19
  ·have hjI : (j : Int) < 19 := by omega
   have g1 := (zu HB) j hlt
   have g2 := (zu HK) j hlt
   by_cases hk : at0 zfR j = c
   ·have HF := zh (show zf2 c = at0 ziM j from zh9 zfR ziM c _ j hlt rfl (zu HN) hk)
    have hk2 : (at0 zfR j == c) = true := by simpa using hk
    clear HN hk
    go_wp2
    exact bodyPost_ret (v := .int .i64 (at0 ziM j)) (by simp [results, Tryz.results191, go_sem]) rfl ⟨by rw [zu HF], zu HE⟩
   ·have HN2 : Hid (∀ m, m < j + 1 → at0 zfR m ≠ c) := zh (fun m hm => by
     by_cases e : m = j
     ·subst e; exact hk
     ·exact (zu HN) m (by omega))
    have hk2 : (at0 zfR j == c) = false := by simpa using hk
    clear HN
    go_wp2
    go_roundw
    case rel => exact ⟨j + 1, by omega, by go_num, (by first | exact zh rfl | exact zh trivial), HN2⟩
    case measure => simp [intOf]; omega
  ·obtain rfl : j = 19 := by omega
   have HF := zh (show zf2 c = (if c < 32 ∧ c ≠ 9 ∧ c ≠ 27 then 23 else 0) from zg5 zfR ziM c _ (zu HN))
   clear HN
   by_cases h1 : c < 32
   ·by_cases h2 : c = 9
    ·subst h2
     go_wp2
     exact bodyPost_ret (v := .int .i64 0) (by simp [results, Tryz.results191, go_sem]) rfl ⟨by rw [zu HF]; rfl, zu HE⟩
    by_cases h3 : c = 27
    ·subst h3
     go_wp2
     exact bodyPost_ret (v := .int .i64 0) (by simp [results, Tryz.results191, go_sem]) rfl ⟨by rw [zu HF]; rfl, zu HE⟩
    have h4 : (c != 9) = true := by simpa using h2
    have h5 : (c != 27) = true := by simpa using h3
    have HF2 := zh (show zf2 c = 23 by rw [zu HF, if_pos ⟨h1, h2, h3⟩])
    clear HF
    go_wp2
    exact bodyPost_ret (v := .int .i64 23) (by simp [results, Tryz.results191, go_sem]) rfl ⟨by rw [zu HF2], zu HE⟩
   ·have HF2 := zh (show zf2 c = 0 by rw [zu HF, if_neg (fun h => h1 h.1)])
    clear HF
    go_wp2
    exact bodyPost_ret (v := .int .i64 0) (by simp [results, Tryz.results191, go_sem]) rfl ⟨by rw [zu HF2], zu HE⟩
set_option maxRecDepth 10000 in
set_option maxHeartbeats 4000000 in
theorem zkq (xs : List Int) (hb : zv xs) (w : World) :
  Calls Tryz.prog 209 #[.string (zo xs)] w fun e w' => e = .returned (.int .i64 (zdY xs)) ∧ Ext w w' := by
 have key : ∀ (ys : List Int) (us : List UInt8), zv ys → us = ys.map (fun n => UInt8.ofNat n.toNat) → ((zo xs).toList == us) = decide (xs = ys) := by
  intro ys us hy e
  by_cases h : xs = ys
  ·rw [h, e, zcT]; simp
  ·have h9 := ziC hb hy h
   rw [zcT ys, ← e] at h9
   rw [h9]; simp [h]
 have t0 := key [51] [51] (by intro n hn; simp at hn; omega) rfl
 have t1 := key [49] [49] (by intro n hn; simp at hn; omega) rfl
 have t2 := key [55] [55] (by intro n hn; simp at hn; omega) rfl
 have t3 := key [52] [52] (by intro n hn; simp at hn; omega) rfl
 have t4 := key [56] [56] (by intro n hn; simp at hn; omega) rfl
 have t5 := key [50, 48, 48] [50, 48, 48] (by intro n hn; simp at hn; omega) rfl
 obtain ⟨S, hS⟩ : ∃ S, S = zo xs := ⟨_, rfl⟩
 rw [← hS] at t0 t1 t2 t3 t4 t5 ⊢
 clear key hS
 by_cases h0 : xs = [51]
 ·have d0 : (S.toList == [51]) = true := by rw [t0]; simpa using h0
  clear t0 t1 t2 t3 t4 t5
  have HF := zh (show zdY xs = 5 by rw [h0]; rfl)
  clear h0
  go_enter Tryz.func209, Tryz.ntmps209
  go_wp2
  exact bodyPost_ret (v := .int .i64 5) (by simp [results, Tryz.results209, go_sem]) rfl ⟨by rw [zu HF], Ext.refl _⟩
 have d0 : (S.toList == [51]) = false := by rw [t0]; simpa using h0
 by_cases h1 : xs = [49]
 ·have d1 : (S.toList == [49]) = true := by rw [t1]; simpa using h1
  clear t0 t1 t2 t3 t4 t5
  have HF := zh (show zdY xs = 8 by rw [h1]; rfl)
  clear h1
  go_enter Tryz.func209, Tryz.ntmps209
  go_wp2
  exact bodyPost_ret (v := .int .i64 8) (by simp [results, Tryz.results209, go_sem]) rfl ⟨by rw [zu HF], Ext.refl _⟩
 have d1 : (S.toList == [49]) = false := by rw [t1]; simpa using h1
 by_cases h2 : xs = [55]
 ·have d2 : (S.toList == [55]) = true := by rw [t2]; simpa using h2
  clear t0 t1 t2 t3 t4 t5
  have HF := zh (show zdY xs = 8 by rw [h2]; rfl)
  clear h2
  go_enter Tryz.func209, Tryz.ntmps209
  go_wp2
  exact bodyPost_ret (v := .int .i64 8) (by simp [results, Tryz.results209, go_sem]) rfl ⟨by rw [zu HF], Ext.refl _⟩
 have d2 : (S.toList == [55]) = false := by rw [t2]; simpa using h2
 by_cases h3 : xs = [52]
 ·have d3 : (S.toList == [52]) = true := by rw [t3]; simpa using h3
  clear t0 t1 t2 t3 t4 t5
  have HF := zh (show zdY xs = 9 by rw [h3]; rfl)
  clear h3
  go_enter Tryz.func209, Tryz.ntmps209
  go_wp2
  exact bodyPost_ret (v := .int .i64 9) (by simp [results, Tryz.results209, go_sem]) rfl ⟨by rw [zu HF], Ext.refl _⟩
 have d3 : (S.toList == [52]) = false := by rw [t3]; simpa using h3
 by_cases h4 : xs = [56]
 ·have d4 : (S.toList == [56]) = true := by rw [t4]; simpa using h4
  clear t0 t1 t2 t3 t4 t5
  have HF := zh (show zdY xs = 9 by rw [h4]; rfl)
  clear h4
  go_enter Tryz.func209, Tryz.ntmps209
  go_wp2
  exact bodyPost_ret (v := .int .i64 9) (by simp [results, Tryz.results209, go_sem]) rfl ⟨by rw [zu HF], Ext.refl _⟩
 have d4 : (S.toList == [56]) = false := by rw [t4]; simpa using h4
 by_cases h5 : xs = [50, 48, 48]
 ·have d5 : (S.toList == [50, 48, 48]) = true := by rw [t5]; simpa using h5
  clear t0 t1 t2 t3 t4 t5
  have HF := zh (show zdY xs = (-1) by rw [h5]; rfl)
  clear h5
  go_enter Tryz.func209, Tryz.ntmps209
  go_wp2
  exact bodyPost_ret (v := .int .i64 (-1)) (by simp [results, Tryz.results209, go_sem]) rfl ⟨by rw [zu HF], Ext.refl _⟩
 have d5 : (S.toList == [50, 48, 48]) = false := by rw [t5]; simpa using h5
 clear t0 t1 t2 t3 t4 t5
 have HF := zh (show zdY xs = 23 by simp [zdY, h0, h1, h2, h3, h4, h5])
 clear h0 h1 h2 h3 h4 h5
 go_enter Tryz.func209, Tryz.ntmps209
 go_wp2
 exact bodyPost_ret (v := .int .i64 23) (by simp [results, Tryz.results209, go_sem]) rfl ⟨by rw [zu HF], Ext.refl _⟩
set_option maxRecDepth 10000 in
set_option maxHeartbeats 4000000 in
theorem ze2 (c : Int) (w : World) :
  Calls Tryz.prog 200 #[.int .u8 c] w fun e w' => e = .returned (.int .i64 (zdX c)) ∧ Ext w w' := by
 obtain ⟨V, hV⟩ : ∃ V, V = w.alloc (.cells (ziu.map (Value.int .i64)).toArray 3) := ⟨_, rfl⟩
 have E0 : Ext w V := by rw [hV]; exact (Ext.refl w).alloc _
 have hk : ∀ j, j < 6 → V.cell? ⟨w.heap.size, j, none⟩ = some (.int .i64 (at0 ziu j)) := zls (xs := ziu) (by rw [hV]; exact zk w _)
 have HK := zh hk
 have HE := zh E0
 have HV := zh (show V = w.alloc (.cells #[.int .i64 10, .int .i64 11, .int .i64 7, .int .i64 6, .int .i64 8, .int .i64 9] 3) from hV)
 clear hk hV E0
 go_enter Tryz.func200, Tryz.ntmps200
 go_wp2
 rw [← zu HV]
 clear HV
 go_loopw [5] (fun i wr => ∃ j : Nat, j ≤ 6 ∧ i = .int .i64 j ∧ Hid (wr = V) ∧ Hid (∀ m, m < j → at0 zhG m ≠ c)) (fun i _ => 6 - (intOf i).toNat)
 case atStart => exact ⟨0, Nat.zero_le _, rfl, zh rfl, zh (fun m hm => by omega)⟩
 case round =>
  obtain ⟨j, hj, rfl, HV2, HN⟩ := hrel
  have hV2 := zu HV2
  subst hV2
  clear HV2
  have hcs : j = 0 ∨ j = 1 ∨ j = 2 ∨ j = 3 ∨ j = 4 ∨ j = 5 ∨ j = 6 := by omega
  rcases hcs with rfl | rfl | rfl | rfl | rfl | rfl | rfl
  ·have g2 : wr.cell? ⟨w.heap.size, 0, none⟩ = some (.int .i64 10) := (zu HK) 0 (by omega)
   by_cases hk : c = 65
   ·subst hk
    have hk2 : (((({ data := #[65, 66, 67, 68, 72, 70] } : ByteArray)[0].toNat : Nat) : Int) == 65) = true := rfl
    go_wp2
    exact bodyPost_ret (v := .int .i64 10) (by simp [results, Tryz.results200, go_sem]) rfl ⟨rfl, zu HE⟩
   ·have HN2 : Hid (∀ m, m < 0 + 1 → at0 zhG m ≠ c) := zh (fun m hm => by
     by_cases e : m = 0
     ·subst e; exact fun e2 => hk e2.symm
     ·exact (zu HN) m (by omega))
    have hk2 : (((({ data := #[65, 66, 67, 68, 72, 70] } : ByteArray)[0].toNat : Nat) : Int) == c) = false := by
     show ((65 : Int) == c) = false
     simpa using (fun e : (65 : Int) = c => hk e.symm)
    clear HN hk
    go_wp2
    go_roundw
    case rel => exact ⟨1, by omega, by go_num, (by first | exact zh rfl | exact zh trivial), HN2⟩
    case measure => simp [intOf]
  ·have g2 : wr.cell? ⟨w.heap.size, 1, none⟩ = some (.int .i64 11) := (zu HK) 1 (by omega)
   by_cases hk : c = 66
   ·subst hk
    have hk2 : (((({ data := #[65, 66, 67, 68, 72, 70] } : ByteArray)[1].toNat : Nat) : Int) == 66) = true := rfl
    go_wp2
    exact bodyPost_ret (v := .int .i64 11) (by simp [results, Tryz.results200, go_sem]) rfl ⟨rfl, zu HE⟩
   ·have HN2 : Hid (∀ m, m < 1 + 1 → at0 zhG m ≠ c) := zh (fun m hm => by
     by_cases e : m = 1
     ·subst e; exact fun e2 => hk e2.symm
     ·exact (zu HN) m (by omega))
    have hk2 : (((({ data := #[65, 66, 67, 68, 72, 70] } : ByteArray)[1].toNat : Nat) : Int) == c) = false := by
     show ((66 : Int) == c) = false
     simpa using (fun e : (66 : Int) = c => hk e.symm)
    clear HN hk
    go_wp2
    go_roundw
    case rel => exact ⟨2, by omega, by go_num, (by first | exact zh rfl | exact zh trivial), HN2⟩
    case measure => simp [intOf]
  ·have g2 : wr.cell? ⟨w.heap.size, 2, none⟩ = some (.int .i64 7) := (zu HK) 2 (by omega)
   by_cases hk : c = 67
   ·subst hk
    have hk2 : (((({ data := #[65, 66, 67, 68, 72, 70] } : ByteArray)[2].toNat : Nat) : Int) == 67) = true := rfl
    go_wp2
    exact bodyPost_ret (v := .int .i64 7) (by simp [results, Tryz.results200, go_sem]) rfl ⟨rfl, zu HE⟩
   ·have HN2 : Hid (∀ m, m < 2 + 1 → at0 zhG m ≠ c) := zh (fun m hm => by
     by_cases e : m = 2
     ·subst e; exact fun e2 => hk e2.symm
     ·exact (zu HN) m (by omega))
    have hk2 : (((({ data := #[65, 66, 67, 68, 72, 70] } : ByteArray)[2].toNat : Nat) : Int) == c) = false := by
     show ((67 : Int) == c) = false
     simpa using (fun e : (67 : Int) = c => hk e.symm)
    clear HN hk
    go_wp2
    go_roundw
    case rel => exact ⟨3, by omega, by go_num, (by first | exact zh rfl | exact zh trivial), HN2⟩
    case measure => simp [intOf]
  ·have g2 : wr.cell? ⟨w.heap.size, 3, none⟩ = some (.int .i64 6) := (zu HK) 3 (by omega)
   by_cases hk : c = 68
   ·subst hk
    have hk2 : (((({ data := #[65, 66, 67, 68, 72, 70] } : ByteArray)[3].toNat : Nat) : Int) == 68) = true := rfl
    go_wp2
    exact bodyPost_ret (v := .int .i64 6) (by simp [results, Tryz.results200, go_sem]) rfl ⟨rfl, zu HE⟩
   ·have HN2 : Hid (∀ m, m < 3 + 1 → at0 zhG m ≠ c) := zh (fun m hm => by
     by_cases e : m = 3
     ·subst e; exact fun e2 => hk e2.symm
     ·exact (zu HN) m (by omega))
    have hk2 : (((({ data := #[65, 66, 67, 68, 72, 70] } : ByteArray)[3].toNat : Nat) : Int) == c) = false := by
     show ((68 : Int) == c) = false
     simpa using (fun e : (68 : Int) = c => hk e.symm)
    clear HN hk
    go_wp2
    go_roundw
    case rel => exact ⟨4, by omega, by go_num, (by first | exact zh rfl | exact zh trivial), HN2⟩
    case measure => simp [intOf]
  ·have g2 : wr.cell? ⟨w.heap.size, 4, none⟩ = some (.int .i64 8) := (zu HK) 4 (by omega)
   by_cases hk : c = 72
   ·subst hk
    have hk2 : (((({ data := #[65, 66, 67, 68, 72, 70] } : ByteArray)[4].toNat : Nat) : Int) == 72) = true := rfl
    go_wp2
    exact bodyPost_ret (v := .int .i64 8) (by simp [results, Tryz.results200, go_sem]) rfl ⟨rfl, zu HE⟩
   ·have HN2 : Hid (∀ m, m < 4 + 1 → at0 zhG m ≠ c) := zh (fun m hm => by
     by_cases e : m = 4
     ·subst e; exact fun e2 => hk e2.symm
     ·exact (zu HN) m (by omega))
    have hk2 : (((({ data := #[65, 66, 67, 68, 72, 70] } : ByteArray)[4].toNat : Nat) : Int) == c) = false := by
     show ((72 : Int) == c) = false
     simpa using (fun e : (72 : Int) = c => hk e.symm)
    clear HN hk
    go_wp2
    go_roundw
    case rel => exact ⟨5, by omega, by go_num, (by first | exact zh rfl | exact zh trivial), HN2⟩
    case measure => simp [intOf]
  ·have g2 : wr.cell? ⟨w.heap.size, 5, none⟩ = some (.int .i64 9) := (zu HK) 5 (by omega)
   by_cases hk : c = 70
   ·subst hk
    have hk2 : (((({ data := #[65, 66, 67, 68, 72, 70] } : ByteArray)[5].toNat : Nat) : Int) == 70) = true := rfl
    go_wp2
    exact bodyPost_ret (v := .int .i64 9) (by simp [results, Tryz.results200, go_sem]) rfl ⟨rfl, zu HE⟩
   ·have HN2 : Hid (∀ m, m < 5 + 1 → at0 zhG m ≠ c) := zh (fun m hm => by
     by_cases e : m = 5
     ·subst e; exact fun e2 => hk e2.symm
     ·exact (zu HN) m (by omega))
    have hk2 : (((({ data := #[65, 66, 67, 68, 72, 70] } : ByteArray)[5].toNat : Nat) : Int) == c) = false := by
     show ((70 : Int) == c) = false
     simpa using (fun e : (70 : Int) = c => hk e.symm)
    clear HN hk
    go_wp2
    go_roundw
    case rel => exact ⟨6, by omega, by go_num, (by first | exact zh rfl | exact zh trivial), HN2⟩
    case measure => simp [intOf]
  ·have HF := zh (show zdX c = 23 from zg5 zhG ziu c _ (zu HN))
   clear HN
   go_wp2
   exact bodyPost_ret (v := .int .i64 23) (by simp [results, Tryz.results200, go_sem]) rfl ⟨by rw [zu HF], zu HE⟩
theorem zl1 : ∀ (m : Nat) (s : List Int), (∀ k, k < m → k < s.length ∧ 48 ≤ at0 s k ∧ at0 s k ≤ 63) → (s.length ≤ m ∨ at0 s m < 48 ∨ 63 < at0 s m) → zaI s = m
 | 0, [], _, _ => rfl
 | 0, x :: xs, _, h => by
  rw [zaI, if_neg]
  intro h2
  simp [at0] at h
  omega
 | m + 1, [], h, _ => by have := (h 0 (by omega)).1; simp at this
 | m + 1, x :: xs, h, h2 => by
  rw [zaI, if_pos (by have := (h 0 (by omega)).2; simpa [at0] using this), zl1 m xs (fun k hk => by have := h (k + 1) (by omega); simpa [at0] using this) (by simpa [at0] using h2)]
theorem zke : ∀ (bs ks : List Int) (c d : Int), (∀ k ∈ ks, (0 : Int) ≤ k) → 0 ≤ d → 0 ≤ zeE bs ks c d
 | [], ks, c, d, _, hd => by cases ks <;> exact hd
 | b :: bs, [], c, d, _, hd => hd
 | b :: bs, k :: ks, c, d, h, hd => by
  rw [zeE]
  split
  ·exact h k (by simp)
  ·exact zke bs ks c d (fun x hx => h x (by simp [hx])) hd
theorem letF_nn (c : Int) : ¬ zdX c < 0 := by
 have := zke zhG ziu c 23 (by decide) (by decide)
 unfold zdX
 omega
set_option maxRecDepth 10000 in
set_option maxHeartbeats 4000000 in
theorem zhO (bs : List Int) (hb : zv bs) (v : Value) (i : Nat) (w : World) (hv : zx w .u8 v bs) (hi : i + 2 ≤ bs.length) (hl : bs.length ≤ 4398046511104) :
  Calls Tryz.prog 199 #[v, .int .i64 i] w fun e w' => e = .returned (tkV (zcS (bs.drop i))) ∧ Ext w w' := by
 obtain ⟨ao, cap, rfl, hcap, hr⟩ := hv
 obtain ⟨b, off, rfl, hc⟩ := hr (by omega)
 have HC := zh hc
 have HBy := zh hb
 have hd : ∀ j, at0 (bs.drop i) j = at0 bs (i + j) := fun j => by rw [zaQ]
 have hd2 : ∀ j, at0 ((bs.drop i).drop 2) j = at0 bs (i + 2 + j) := fun j => by rw [List.drop_drop, zaQ]
 have HD := zh hd
 have HD2 := zh hd2
 have hdl : (bs.drop i).length = bs.length - i := by simp
 have HDL := zh hdl
 clear hr hc hd hd2 hdl hb
 obtain ⟨V, hV⟩ : ∃ V, V = w.alloc (.cells #[.int .i64 0, .int .i64 0, .int .i64 0, .bool false] 197) := ⟨_, rfl⟩
 have E0 : Ext w V := by rw [hV]; exact (Ext.refl w).alloc _
 have HB0 : Hid (V.heap[w.heap.size]? = some (.cells #[.int .i64 0, .int .i64 0, .int .i64 0, .bool false] 197 (0, 0))) := zh (by rw [hV]; exact zk w _)
 have zV : w.heap.size < V.heap.size := zq (zu HB0)
 have HE := zh E0
 have HV := zh hV
 clear hV E0
 have infoT : (Tryz.prog.info? 197).map (·.size) = some 4 := by kernel_rfl
 go_enter Tryz.func199, Tryz.ntmps199
 go_wp2
 rw [← zu HV]
 clear HV
 go_loopw [5] (fun i9 wr => ∃ m : Nat, i + 2 + m ≤ bs.length ∧ i9 = .int .i64 m ∧ Hid (wr = V) ∧ Hid (∀ k, k < m → 48 ≤ at0 bs (i + 2 + k) ∧ at0 bs (i + 2 + k) ≤ 63)) (fun i9 _ => bs.length - (intOf i9).toNat)
 case atStart => exact ⟨0, by omega, rfl, zh rfl, zh (fun m hm => by omega)⟩
 case round =>
  obtain ⟨m, hm, rfl, HV2, HN⟩ := hrel
  have hV2 := zu HV2
  subst hV2
  clear HV2
  have hw1 : IntKind.i64.wrap ((i : Int) + 2) = (i : Int) + 2 := by rw [IntKind.wrap_i64]; omega
  have hw2 : IntKind.i64.wrap ((i : Int) + 2 + (m : Int)) = (i : Int) + 2 + (m : Int) := by rw [IntKind.wrap_i64]; omega
  have fin : i + 2 + m = bs.length ∨ (at0 bs (i + 2 + m) < 48 ∨ 63 < at0 bs (i + 2 + m)) → zaI ((bs.drop i).drop 2) = m := fun h9 =>
   zl1 m _ (fun k hk => ⟨by rw [List.length_drop, zu HDL]; omega, by rw [(zu HD2)]; exact (zu HN) k hk⟩) (by rw [List.length_drop, zu HDL, (zu HD2)]; omega)
  have HF := zh fin
  clear fin
  by_cases hlt : i + 2 + m < bs.length
  ·have hltI : (i : Int) + 2 + (m : Int) < (bs.length : Int) := by omega
   have g1 : wr.cell? ⟨b, off + (i + 2 + m), none⟩ = some (.int .u8 (at0 bs (i + 2 + m))) := (zu HE).cell ((zu HC) _ hlt)
   obtain ⟨x, hx⟩ : ∃ x, x = at0 bs (i + 2 + m) := ⟨_, rfl⟩
   have hx0 : 0 ≤ x ∧ x ≤ 255 := by rw [hx]; exact (zu HBy).at0 _
   have HX := zh hx
   rw [← hx] at g1
   rw [← hx] at HF
   clear hx
   by_cases h1 : 48 ≤ x
   ·by_cases h2 : x ≤ 63
    ·have HN2 : Hid (∀ k, k < m + 1 → 48 ≤ at0 bs (i + 2 + k) ∧ at0 bs (i + 2 + k) ≤ 63) := zh (fun k hk => by
      by_cases e : k = m
      ·subst e; rw [← zu HX]; exact ⟨h1, h2⟩
      ·exact (zu HN) k (by omega))
     clear HN HF
     go_wp2
     go_roundw
     case rel => exact ⟨m + 1, by omega, by go_num, (by first | exact zh rfl | exact zh trivial), HN2⟩
     case measure => simp [intOf]; omega
    ·have HNm := zh ((zu HF) (.inr (.inr (by omega))))
     clear HF HN
     by_cases h3 : 126 < x
     ·have HT := zh (show zcS (bs.drop i) = ⟨m + 2, 23, 0, false⟩ by unfold zcS; rw [zu HNm, if_neg (by rw [zu HDL]; omega), (zu HD), show i + (2 + m) = i + 2 + m by omega, ← zu HX, if_pos (by omega)])
      have hw3 : IntKind.i64.wrap ((m : Int) + 2) = ((m + 2 : Nat) : Int) := by rw [IntKind.wrap_i64]; omega
      clear HNm HX
      go_wp2_with (refine zi rfl 197 _ _ rfl rfl (w.heap.size) rfl _ _ #[.int .i64 (((m + 2 : Nat) : Int)), .int .i64 23, .int .i64 0, .bool false] rfl (zu HB0) infoT rfl (by simp [Value.oneCell']) ?_; intro Z hy hf9; have HY := zh hy; have FY := zh hf9; clear hy hf9)
      have v0 := zg (zu HY) 0 _ rfl
      have v1 := zg (zu HY) 1 _ rfl
      have v2 := zg (zu HY) 2 _ rfl
      have v3 := zg (zu HY) 3 _ rfl
      exact bodyPost_ret (v := .agg #[.int .i64 (((m + 2 : Nat) : Int)), .int .i64 23, .int .i64 0, .bool false]) (by simp [results, Tryz.results199, go_sem, v0, v1, v2, v3]) rfl ⟨by rw [zu HT]; rfl, (zu FY).ext (zu HE) (fun q hq => by omega)⟩
     ·have h4 : ¬ x < 64 := by omega
      have h5 : x ≤ 126 := by omega
      have HT0 := zh (show ∀ K, (if x = 126 then zdY (((bs.drop i).drop 2).take m) else if m = 0 then zdX x else 23) = K → zcS (bs.drop i) = if K < 0 then ⟨m + 3, 0, 0, true⟩ else ⟨m + 3, K, 0, false⟩ by intro K hK; unfold zcS; rw [zu HNm, if_neg (by rw [zu HDL]; omega), (zu HD), show i + (2 + m) = i + 2 + m by omega, ← zu HX, if_neg (by omega), hK])
      have hw4 : IntKind.i64.wrap ((m : Int) + 3) = ((m + 3 : Nat) : Int) := by rw [IntKind.wrap_i64]; omega
      have hL := zh (fun W => ze2 x W)
      have hcm : ¬ cap = i + 2 := by omega
      have hcI : (i : Int) + 2 ≤ (i : Int) + 2 + (m : Int) := by omega
      have hcJ : (i : Int) + 2 + (m : Int) ≤ (cap : Int) := by omega
      have hTl := zh (fun W => zkq (((bs.drop i).drop 2).take m) (fun n hn => (zu HBy) n (List.mem_of_mem_drop (List.mem_of_mem_drop (List.mem_of_mem_take hn)))) W)
      have HCUT : Hid (∀ (W : World), Ext w W → (convert 22 9 (.slice (some ⟨b, off + (i + 2), none⟩) m (cap - (i + 2)))).run Tryz.prog W = .ok (.string (zo (((bs.drop i).drop 2).take m))) W) := zh (fun W he => by have h9 := zeq (P := Tryz.prog) W _ _ _ Tryz.underlying22 Tryz.underlying5 Tryz.underlying9 _ _ (ze9 (cap := cap - (i + 2)) (i + 2) m (fun j hj => he.cell ((zu HC) j hj)) (by omega) (by omega)); rw [List.drop_drop]; exact h9)
      obtain ⟨S, hS⟩ : ∃ S, S = zo (((bs.drop i).drop 2).take m) := ⟨_, rfl⟩
      rw [← hS] at HCUT hTl
      clear hS HNm HX
      have hCw := (zu HCUT) _ (zu HE)
      by_cases hm0 : m = 0
      ·subst hm0
       go_wp2_with fail
       refine ((zu hL) _).mono ?_
       rintro e w3 ⟨rfl, E3⟩
       replace HB0 := E3.hk HB0
       have HE3 := Hid.ht HE E3
       have z3 := E3.size
       clear E3 hL
       by_cases h6 : x = 126
       ·subst h6
        have hCw := (zu HCUT) _ (zu HE3)
        go_wp2_with fail
        refine ((zu hTl) _).mono ?_
        rintro e w4 ⟨rfl, E4⟩
        have HB4 := E4.hk HB0
        have HE4 := Hid.ht HE3 E4
        have z4 := E4.size
        clear E4
        have HT1 := zh ((zu HT0) (zdY (((bs.drop i).drop 2).take 0)) (by simp))
        clear HT0
        obtain ⟨Kd9, hK9⟩ : ∃ k, k = zdY (((bs.drop i).drop 2).take 0) := ⟨_, rfl⟩
        rw [← hK9] at HT1 ⊢
        clear hK9
        by_cases hneg : Kd9 < 0
        ·have HT := zh (show zcS (bs.drop i) = ⟨0 + 3, 0, 0, true⟩ by rw [zu HT1, if_pos hneg])
         clear HT1
         go_wp2_with (refine zi rfl 197 _ _ rfl rfl (w.heap.size) rfl _ _ #[.int .i64 (((0 + 3 : Nat) : Int)), .int .i64 0, .int .i64 0, .bool true] rfl (zu HB4) infoT rfl (by simp [Value.oneCell']) ?_; intro Z hy hf9; have HY := zh hy; have FY := zh hf9; clear hy hf9)
         have v0 := zg (zu HY) 0 _ rfl
         have v1 := zg (zu HY) 1 _ rfl
         have v2 := zg (zu HY) 2 _ rfl
         have v3 := zg (zu HY) 3 _ rfl
         exact bodyPost_ret (v := .agg #[.int .i64 (((0 + 3 : Nat) : Int)), .int .i64 0, .int .i64 0, .bool true]) (by simp [results, Tryz.results199, go_sem, v0, v1, v2, v3]) rfl ⟨by rw [zu HT]; rfl, (zu FY).ext (zu HE4) (fun q hq => by omega)⟩
        ·have HT := zh (show zcS (bs.drop i) = ⟨0 + 3, Kd9, 0, false⟩ by rw [zu HT1, if_neg hneg])
         clear HT1
         go_wp2_with (refine zi rfl 197 _ _ rfl rfl (w.heap.size) rfl _ _ #[.int .i64 (((0 + 3 : Nat) : Int)), .int .i64 Kd9, .int .i64 0, .bool false] rfl (zu HB4) infoT rfl (by simp [Value.oneCell']) ?_; intro Z hy hf9; have HY := zh hy; have FY := zh hf9; clear hy hf9)
         have v0 := zg (zu HY) 0 _ rfl
         have v1 := zg (zu HY) 1 _ rfl
         have v2 := zg (zu HY) 2 _ rfl
         have v3 := zg (zu HY) 3 _ rfl
         exact bodyPost_ret (v := .agg #[.int .i64 (((0 + 3 : Nat) : Int)), .int .i64 Kd9, .int .i64 0, .bool false]) (by simp [results, Tryz.results199, go_sem, v0, v1, v2, v3]) rfl ⟨by rw [zu HT]; rfl, (zu FY).ext (zu HE4) (fun q hq => by omega)⟩
       ·have h7 : (x == 126) = false := by simpa using h6
        have HT1 := zh ((zu HT0) (zdX x) (by simp [h6]))
        clear HT0 hTl HCUT hCw
        have hnn : ¬ (zdX x : Int) < 0 := letF_nn x
        have HT := zh (show zcS (bs.drop i) = ⟨0 + 3, zdX x, 0, false⟩ by rw [zu HT1, if_neg hnn])
        clear HT1
        go_wp2_with (refine zi rfl 197 _ _ rfl rfl (w.heap.size) rfl _ _ #[.int .i64 (((0 + 3 : Nat) : Int)), .int .i64 (zdX x), .int .i64 0, .bool false] rfl (zu HB0) infoT rfl (by simp [Value.oneCell']) ?_; intro Z hy hf9; have HY := zh hy; have FY := zh hf9; clear hy hf9)
        have v0 := zg (zu HY) 0 _ rfl
        have v1 := zg (zu HY) 1 _ rfl
        have v2 := zg (zu HY) 2 _ rfl
        have v3 := zg (zu HY) 3 _ rfl
        exact bodyPost_ret (v := .agg #[.int .i64 (((0 + 3 : Nat) : Int)), .int .i64 (zdX x), .int .i64 0, .bool false]) (by simp [results, Tryz.results199, go_sem, v0, v1, v2, v3]) rfl ⟨by rw [zu HT]; rfl, (zu FY).ext (zu HE3) (fun q hq => by omega)⟩
      ·have hm1 : ((m : Int) == 0) = false := by simp; omega
       clear hL
       by_cases h6 : x = 126
       ·subst h6
        have hCw := (zu HCUT) _ (zu HE)
        go_wp2_with fail
        refine ((zu hTl) _).mono ?_
        rintro e w4 ⟨rfl, E4⟩
        have HB4 := E4.hk HB0
        have HE4 := Hid.ht HE E4
        have z4 := E4.size
        clear E4
        have HT1 := zh ((zu HT0) (zdY (((bs.drop i).drop 2).take m)) (by simp))
        clear HT0
        obtain ⟨Kd9, hK9⟩ : ∃ k, k = zdY (((bs.drop i).drop 2).take m) := ⟨_, rfl⟩
        rw [← hK9] at HT1 ⊢
        clear hK9
        by_cases hneg : Kd9 < 0
        ·have HT := zh (show zcS (bs.drop i) = ⟨m + 3, 0, 0, true⟩ by rw [zu HT1, if_pos hneg])
         clear HT1
         go_wp2_with (refine zi rfl 197 _ _ rfl rfl (w.heap.size) rfl _ _ #[.int .i64 (((m + 3 : Nat) : Int)), .int .i64 0, .int .i64 0, .bool true] rfl (zu HB4) infoT rfl (by simp [Value.oneCell']) ?_; intro Z hy hf9; have HY := zh hy; have FY := zh hf9; clear hy hf9)
         have v0 := zg (zu HY) 0 _ rfl
         have v1 := zg (zu HY) 1 _ rfl
         have v2 := zg (zu HY) 2 _ rfl
         have v3 := zg (zu HY) 3 _ rfl
         exact bodyPost_ret (v := .agg #[.int .i64 (((m + 3 : Nat) : Int)), .int .i64 0, .int .i64 0, .bool true]) (by simp [results, Tryz.results199, go_sem, v0, v1, v2, v3]) rfl ⟨by rw [zu HT]; rfl, (zu FY).ext (zu HE4) (fun q hq => by omega)⟩
        ·have HT := zh (show zcS (bs.drop i) = ⟨m + 3, Kd9, 0, false⟩ by rw [zu HT1, if_neg hneg])
         clear HT1
         go_wp2_with (refine zi rfl 197 _ _ rfl rfl (w.heap.size) rfl _ _ #[.int .i64 (((m + 3 : Nat) : Int)), .int .i64 Kd9, .int .i64 0, .bool false] rfl (zu HB4) infoT rfl (by simp [Value.oneCell']) ?_; intro Z hy hf9; have HY := zh hy; have FY := zh hf9; clear hy hf9)
         have v0 := zg (zu HY) 0 _ rfl
         have v1 := zg (zu HY) 1 _ rfl
         have v2 := zg (zu HY) 2 _ rfl
         have v3 := zg (zu HY) 3 _ rfl
         exact bodyPost_ret (v := .agg #[.int .i64 (((m + 3 : Nat) : Int)), .int .i64 Kd9, .int .i64 0, .bool false]) (by simp [results, Tryz.results199, go_sem, v0, v1, v2, v3]) rfl ⟨by rw [zu HT]; rfl, (zu FY).ext (zu HE4) (fun q hq => by omega)⟩
       ·have h7 : (x == 126) = false := by simpa using h6
        have HT1 := zh ((zu HT0) (23) (by simp [h6, hm0]))
        clear HT0 hTl HCUT hCw
        have hnn : ¬ (23 : Int) < 0 := by decide
        have HT := zh (show zcS (bs.drop i) = ⟨m + 3, 23, 0, false⟩ by rw [zu HT1, if_neg hnn])
        clear HT1
        go_wp2_with (refine zi rfl 197 _ _ rfl rfl (w.heap.size) rfl _ _ #[.int .i64 (((m + 3 : Nat) : Int)), .int .i64 (23), .int .i64 0, .bool false] rfl (zu HB0) infoT rfl (by simp [Value.oneCell']) ?_; intro Z hy hf9; have HY := zh hy; have FY := zh hf9; clear hy hf9)
        have v0 := zg (zu HY) 0 _ rfl
        have v1 := zg (zu HY) 1 _ rfl
        have v2 := zg (zu HY) 2 _ rfl
        have v3 := zg (zu HY) 3 _ rfl
        exact bodyPost_ret (v := .agg #[.int .i64 (((m + 3 : Nat) : Int)), .int .i64 (23), .int .i64 0, .bool false]) (by simp [results, Tryz.results199, go_sem, v0, v1, v2, v3]) rfl ⟨by rw [zu HT]; rfl, (zu FY).ext (zu HE) (fun q hq => by omega)⟩
   ·have HNm := zh ((zu HF) (.inr (.inl (by omega))))
    clear HF HN
    have h4 : x < 64 := by omega
    have HT := zh (show zcS (bs.drop i) = ⟨m + 2, 23, 0, false⟩ by unfold zcS; rw [zu HNm, if_neg (by rw [zu HDL]; omega), (zu HD), show i + (2 + m) = i + 2 + m by omega, ← zu HX, if_pos (by omega)])
    have hw3 : IntKind.i64.wrap ((m : Int) + 2) = ((m + 2 : Nat) : Int) := by rw [IntKind.wrap_i64]; omega
    clear HNm HX
    go_wp2_with (refine zi rfl 197 _ _ rfl rfl (w.heap.size) rfl _ _ #[.int .i64 (((m + 2 : Nat) : Int)), .int .i64 23, .int .i64 0, .bool false] rfl (zu HB0) infoT rfl (by simp [Value.oneCell']) ?_; intro Z hy hf9; have HY := zh hy; have FY := zh hf9; clear hy hf9)
    have v0 := zg (zu HY) 0 _ rfl
    have v1 := zg (zu HY) 1 _ rfl
    have v2 := zg (zu HY) 2 _ rfl
    have v3 := zg (zu HY) 3 _ rfl
    exact bodyPost_ret (v := .agg #[.int .i64 (((m + 2 : Nat) : Int)), .int .i64 23, .int .i64 0, .bool false]) (by simp [results, Tryz.results199, go_sem, v0, v1, v2, v3]) rfl ⟨by rw [zu HT]; rfl, (zu FY).ext (zu HE) (fun q hq => by omega)⟩
  ·have hE2 : i + 2 + m = bs.length := by omega
   have HNm := zh ((zu HF) (.inl hE2))
   clear HF HN
   have hge : (bs.length : Int) ≤ (i : Int) + 2 + (m : Int) := by omega
   have hnl : ¬ (i : Int) + 2 + (m : Int) < (bs.length : Int) := by omega
   have HT := zh (show zcS (bs.drop i) = tk0 by unfold zcS; rw [zu HNm, if_pos (by rw [zu HDL]; omega)])
   clear HNm hE2
   go_wp2_with (refine zi rfl 197 _ _ rfl rfl (w.heap.size) rfl _ _ #[.int .i64 (0), .int .i64 0, .int .i64 0, .bool false] rfl (zu HB0) infoT rfl (by simp [Value.oneCell']) ?_; intro Z hy hf9; have HY := zh hy; have FY := zh hf9; clear hy hf9)
   have v0 := zg (zu HY) 0 _ rfl
   have v1 := zg (zu HY) 1 _ rfl
   have v2 := zg (zu HY) 2 _ rfl
   have v3 := zg (zu HY) 3 _ rfl
   exact bodyPost_ret (v := .agg #[.int .i64 (0), .int .i64 0, .int .i64 0, .bool false]) (by simp [results, Tryz.results199, go_sem, v0, v1, v2, v3]) rfl ⟨by rw [zu HT]; rfl, (zu FY).ext (zu HE) (fun q hq => by omega)⟩
end Go.Proofs.YtinfdhbnljnifaaGreatDoor
