import Derived.Test.YtinfdhbnljnifaaGreatDoorRsz
import Derived.Test.YtinfdhbnljnifaaGreatDoorTrimB
import Derived.Test.YtinfdhbnljnifaaGreatDoorSnapMark
import Derived.Test.YtinfdhbnljnifaaGreatDoorBlocks
import Derived.Test.YtinfdhbnljnifaaGreatDoorBld
import Derived.Shelf.Strings.Trim
namespace Go.Proofs.YtinfdhbnljnifaaGreatDoor
open Go.RowKit
def cellI (t : ByteArray) (h : Bool) : List Int := if h = true then [] else if t.toList = [] then [32] else baL t
def cellS (t : ByteArray) (h : Bool) : List Int := if t.toList = [] then (if h = true then [] else [32]) else baL t
def rowI (tx : Nat → ByteArray) (hf : Nat → Bool) : Nat → List Int
  | 0 => []
  | k + 1 => rowI tx hf k ++ cellI (tx k) (hf k)
def rowS (tx : Nat → ByteArray) (hf : Nat → Bool) : Nat → List Int
  | 0 => []
  | k + 1 => rowS tx hf k ++ cellS (tx k) (hf k)
theorem cellI_bytes (t : ByteArray) (h : Bool) : Bytes (cellI t h) := by
  unfold cellI
  split
  · intro n hn; cases hn
  · split
    · intro n hn; simp at hn; omega
    · exact baL_bytes t
theorem rowI_bytes (tx : Nat → ByteArray) (hf : Nat → Bool) : ∀ k, Bytes (rowI tx hf k)
  | 0 => by intro n hn; cases hn
  | k + 1 => (rowI_bytes tx hf k).app (cellI_bytes _ _)
theorem cell_same (t : ByteArray) (h : Bool) (e : h = true → t.toList = []) : cellI t h = cellS t h := by
  unfold cellI cellS
  cases h with
  | false => simp
  | true => simp [e rfl]
theorem row_same (tx : Nat → ByteArray) (hf : Nat → Bool) (n : Nat) (e : ∀ k, k < n → hf k = true → (tx k).toList = []) : ∀ k, k ≤ n → rowI tx hf k = rowS tx hf k
  | 0, _ => rfl
  | k + 1, h => by rw [rowI, rowS, row_same tx hf n e k (by omega), cell_same _ _ (e k (by omega))]
theorem cellS_len (t : ByteArray) (h : Bool) : (cellS t h).length ≤ t.size + 1 := by
  unfold cellS
  split
  · split <;> simp
  · rw [baL_len]; omega
theorem cellI_len (t : ByteArray) (h : Bool) : (cellI t h).length ≤ t.size + 1 := by
  unfold cellI
  split
  · simp
  · split
    · simp
    · rw [baL_len]; omega
theorem rowI_len (tx : Nat → ByteArray) (hf : Nat → Bool) : ∀ k, (rowI tx hf k).length ≤ rsz tx k
  | 0 => Nat.le_refl _
  | k + 1 => by
    have h1 := rowI_len tx hf k
    have h2 := cellI_len (tx k) (hf k)
    rw [rowI, List.length_append, rsz]
    omega
theorem rowS_len (tx : Nat → ByteArray) (hf : Nat → Bool) : ∀ k, (rowS tx hf k).length ≤ rsz tx k
  | 0 => Nat.le_refl _
  | k + 1 => by
    have h1 := rowS_len tx hf k
    have h2 := cellS_len (tx k) (hf k)
    rw [rowS, List.length_append, rsz]
    omega
def rowT (tx : Nat → ByteArray) (hf : Nat → Bool) (n : Nat) : ByteArray := trimS (toBA (rowI tx hf n))
def rowU (tx : Nat → ByteArray) (hf : Nat → Bool) (n : Nat) : ByteArray := trimS (toBA (rowS tx hf n))
theorem strCells_baL (s : ByteArray) : Lib.strCells s = (baL s).map (Value.int .u8) := by
  simp [Lib.strCells, baL]
theorem byteCells_toBA {L : List Int} (h : Bytes L) : Lib.byteCells (toBA L).data.toList = L.map (Value.int .u8) := by
  rw [← congrArg (List.map (Value.int .u8)) (baL_toBA h)]
  simp [Lib.byteCells, baL]
set_option maxRecDepth 10000 in
set_option maxHeartbeats 2000000 in
theorem rowText_any (v : Value) (n : Nat) (tx : Nat → ByteArray) (hf : Nat → Bool) (w : World) (hv : Row2At w v n (fun j => .string (tx j)) (fun j => .bool (hf j))) (hn : n ≤ 1048576) (hs : rsz tx n ≤ 1099511627776) :
    Calls Tryz.prog 79 #[v] w fun e w' => e = .returned (.string (rowT tx hf n)) ∧ Ext w w' := by
  obtain ⟨ao, ca, rfl, hca, hxa⟩ := hv
  have HX := hide hxa
  clear hxa
  have HB0 : Hid (IsBld w.heap.size w.heap.size [] (w.alloc (.cells #[.pointer none, .slice none 0 0] 169))) :=
    hide (.inl ⟨Nat.le_refl _, _, new_block w _, ⟨rfl, .inl ⟨rfl, rfl⟩⟩, by simp [Value.ownBlock]⟩)
  go_enter Tryz.func79, Tryz.ntmps79
  go_wp2
  go_loopw [8] (fun i wr => ∃ k : Nat, k ≤ n ∧ i = .int .i64 k ∧ Hid (IsBld w.heap.size w.heap.size ((rowI tx hf k).map (Value.int .u8)) wr) ∧ Ext w wr) (fun i _ => n - (intOf i).toNat)
  case atStart => exact ⟨0, Nat.zero_le _, rfl, HB0, (Ext.refl w).alloc _⟩
  case round =>
    clear HB0
    obtain ⟨k, hk, rfl, HB, hext⟩ := hrel
    have hsz := hext.size
    by_cases hlt : k < n
    · obtain ⟨b, off, hao, hc⟩ := (unhide HX) (by omega)
      subst hao
      have g1 := hext.cell (hc k hlt).1
      have g2 := hext.cell (hc k hlt).2
      clear hc
      have bk : (k : Int) < (n : Int) := by omega
      have hl1 := rowI_len tx hf k
      have hl2 := rsz_le tx n (k + 1) (by omega)
      rw [rsz] at hl2
      have hstep : Hid (rowI tx hf (k + 1) = rowI tx hf k ++ cellI (tx k) (hf k)) := rfl
      obtain ⟨t, ht⟩ : ∃ t, t = tx k := ⟨_, rfl⟩
      obtain ⟨h, hh⟩ : ∃ h, h = hf k := ⟨_, rfl⟩
      rw [← ht] at g1 hstep hl2
      rw [← hh] at g2 hstep
      clear ht hh
      have E1 : ∀ o, Ext wr (wr.alloc o) := fun o => (Ext.refl wr).alloc o
      cases h with
      | true =>
        have hst : Hid (rowI tx hf (k + 1) = rowI tx hf k) := hide ((unhide hstep).trans (by simp [cellI]))
        go_wp2
        go_roundw
        case rel => exact ⟨k + 1, by omega, by go_num, by rw [unhide hst]; exact hide (isBld_ext (unhide HB) (E1 _)), hext.trans (E1 _)⟩
        case measure => simp [intOf]; omega
      | false =>
        by_cases he : t.toList = []
        · have hst : Hid (rowI tx hf (k + 1) = rowI tx hf k ++ [32]) := hide ((unhide hstep).trans (by simp [cellI, he]))
          have hcon := hide (fun U (hU : Ext wr U) => writeByte_any w.heap.size w.heap.size _ 32 U (isBld_ext (unhide HB) hU) (by rw [List.length_map]; omega) (by have := hU.size; omega))
          go_wp2_with fail
          refine ((unhide hcon) _ (E1 _)).mono ?_
          rintro e w2 ⟨rfl, hb2, hB2⟩
          have E2 : Ext w w2 := Ext.of_below ((hext.trans (E1 _)).below.trans hB2)
          have HB2 : Hid (IsBld w.heap.size w.heap.size ((rowI tx hf (k + 1)).map (Value.int .u8)) w2) := hide (by rw [unhide hst, List.map_append]; exact .inr hb2)
          clear hb2 hB2
          go_wp2
          go_roundw
          case rel => exact ⟨k + 1, by omega, by go_num, HB2, E2⟩
          case measure => simp [intOf]; omega
        · have hst : Hid (rowI tx hf (k + 1) = rowI tx hf k ++ baL t) := hide ((unhide hstep).trans (by simp [cellI, he]))
          have hcon := hide (fun U (hU : Ext wr U) => writeString_any w.heap.size w.heap.size _ t U (isBld_ext (unhide HB) hU) (by rw [List.length_map]; omega) (by have := hU.size; omega))
          have he' : t.toList.isEmpty = false := by simpa using he
          go_wp2_with fail
          refine ((unhide hcon) _ (E1 _)).mono ?_
          rintro e w2 ⟨rfl, hb2, hB2⟩
          have E2 : Ext w w2 := Ext.of_below ((hext.trans (E1 _)).below.trans hB2)
          have HB2 : Hid (IsBld w.heap.size w.heap.size ((rowI tx hf (k + 1)).map (Value.int .u8)) w2) := hide (by rw [unhide hst, List.map_append, ← strCells_baL]; exact .inr hb2)
          clear hb2 hB2
          go_wp2
          go_roundw
          case rel => exact ⟨k + 1, by omega, by go_num, HB2, E2⟩
          case measure => simp [intOf]; omega
    · obtain rfl : k = n := by omega
      have hb9 : ¬ (k : Int) < (k : Int) := by omega
      have hl1 := rowI_len tx hf k
      have hcon := hide (Any.Builder_String_any Tryz.lays169 Tryz.Builder_Extra_169 w.heap.size w.heap.size (toBA (rowI tx hf k)).data.toList wr (by rw [byteCells_toBA (rowI_bytes _ _ _)]; exact unhide HB) hsz)
      go_wp2_with fail
      refine (unhide hcon).mono ?_
      rintro e w2 ⟨rfl, hB2⟩
      have E2 : Ext w w2 := Ext.of_below (hext.below.trans hB2)
      have hcon2 := hide (Any.strings_TrimRight_one Tryz.lays162 (toBA (rowI tx hf k)) 32 (by decide) w2 (by rw [toBA_size]; omega))
      clear hB2 hcon
      go_wp2_with fail
      refine (unhide hcon2).mono ?_
      rintro e w3 ⟨rfl, rfl⟩
      go_wp2
      go_ret
      exact ⟨ret_str (trimS_right _), E2⟩
end Go.Proofs.YtinfdhbnljnifaaGreatDoor

namespace Go.Proofs.YtinfdhbnljnifaaGreatDoor
open Go.RowKit
set_option maxRecDepth 10000 in
set_option maxHeartbeats 2000000 in
theorem l2Text_big (v : Value) (n : Nat) (tx : Nat → ByteArray) (hf : Nat → Bool) (w : World) (hv : Row2At w v n (fun j => .string (tx j)) (fun j => .bool (hf j))) (hn : n ≤ 1048576) (hs : rsz tx n ≤ 1099511627776) :
    Calls Tryz.prog 93 #[v] w fun e w' => e = .returned (.string (rowU tx hf n)) ∧ Ext w w' := by
  obtain ⟨i0, hi, hz0, hz1, hz2⟩ := info_parts infoU8
  obtain ⟨ao, ca, rfl, hca, hxa⟩ := hv
  have HX := hide hxa
  clear hxa
  have HO0 : Hid ((w.alloc (.cells #[] 5)).ownsRow w.heap.size 5 1 (.slice (some ⟨w.heap.size, 0, none⟩) 0 0) 0 []) := hide ⟨by simp, .inr ⟨w.heap.size, 0, #[], rfl, Nat.le_refl _, new_block w _, Nat.le_refl _, by unfold maxLen; omega, by simp, by simp⟩⟩
  go_enter Tryz.func93, Tryz.ntmps93
  go_wp2
  go_loopw [3, 4] (fun o i wr => ∃ k : Nat, k ≤ n ∧ i = .int .i64 k ∧ Hid (wr.ownsRow w.heap.size 5 1 o (rowS tx hf k).length ((rowS tx hf k).map (Value.int .u8))) ∧ Ext w wr) (fun _ i _ => n - (intOf i).toNat)
  case atStart => exact ⟨0, Nat.zero_le _, rfl, HO0, (Ext.refl w).alloc _⟩
  case round =>
    clear HO0
    obtain ⟨k, hk, rfl, HO, hext⟩ := hrel
    have hsz := hext.size
    by_cases hlt : k < n
    · obtain ⟨b, off, hao, hc⟩ := (unhide HX) (by omega)
      subst hao
      have g1 := hext.cell (hc k hlt).1
      have g2 := hext.cell (hc k hlt).2
      clear hc
      have bk : (k : Int) < (n : Int) := by omega
      have hl1 := rowS_len tx hf k
      have hl2 := rsz_le tx n (k + 1) (by omega)
      rw [rsz] at hl2
      have hstep : Hid (rowS tx hf (k + 1) = rowS tx hf k ++ cellS (tx k) (hf k)) := rfl
      obtain ⟨t, ht⟩ : ∃ t, t = tx k := ⟨_, rfl⟩
      obtain ⟨h, hh⟩ : ∃ h, h = hf k := ⟨_, rfl⟩
      obtain ⟨L, hL⟩ : ∃ L, L = rowS tx hf k := ⟨_, rfl⟩
      rw [← ht] at g1 hstep hl2
      rw [← hh] at g2 hstep
      rw [← hL] at HO hstep hl1
      clear ht hh hL
      by_cases he : t.toList = []
      · cases h with
        | true =>
          have hst : Hid (rowS tx hf (k + 1) = L) := hide ((unhide hstep).trans (by simp [cellS, he]))
          go_wp2
          go_roundw
          case rel => exact ⟨k + 1, by omega, by go_num, by rw [unhide hst]; exact HO, hext⟩
          case measure => simp [intOf]; omega
        | false =>
          have hst : Hid (rowS tx hf (k + 1) = L ++ [32]) := hide ((unhide hstep).trans (by simp [cellS, he]))
          go_wp2_with (at_builtin; go_must (refine wpList_append_own _ rfl _ _ 22 rfl w.heap.size 5 i0 (.int .u8 0) 1 1 Tryz.underlying22 hi hz0 hz1 hz2 rfl (by decide) _ _ _ rfl ((unhide HO).alloc _) ⟨wr.heap.size, 0, none⟩ 1 1 (([32] : List Int).map (Value.int .u8)) rfl rfl (news_cells _ _) (ints_oneCell _ _) (by unfold maxLen; omega) (by omega) (by simp; omega) ?_); intro v3 w3 ho3 hg3 hq3; rw [← List.map_append, show L.length + 1 = (L ++ [32]).length by simp, ← unhide hst] at ho3; have HO3 := hide ho3; have HG3 := hide ((hext.alloc _).grown hg3 (fun k hk => ((unhide HO).lt k hk).1)); clear ho3 hg3 hq3)
          go_roundw
          case rel => exact ⟨k + 1, by omega, by go_num, HO3, unhide HG3⟩
          case measure => simp [intOf]; omega
      · have he' : t.toList.isEmpty = false := by simpa using he
        have hst : Hid (rowS tx hf (k + 1) = L ++ baL t) := hide ((unhide hstep).trans (by simp [cellS, he]))
        obtain ⟨cap0, w2, hrun, hcells, E2⟩ := s2i wr t
        have HC := hide hcells
        have hsz2 := E2.size
        have hO2 := hide (E2.owns (unhide HO))
        clear hcells
        go_wp2_with (at_builtin; go_must (refine wpList_append_own _ rfl _ _ 22 rfl w.heap.size 5 i0 (.int .u8 0) 1 1 Tryz.underlying22 hi hz0 hz1 hz2 rfl (by decide) _ _ _ rfl (unhide hO2) ⟨wr.heap.size, 0, none⟩ t.size cap0 ((baL t).map (Value.int .u8)) rfl (by simp [baL_len]) (unhide HC) (ints_oneCell _ _) (by unfold maxLen; omega) (by omega) (by omega) ?_); intro v3 w3 ho3 hg3 hq3; rw [← List.map_append, ← baL_len, ← List.length_append, ← unhide hst] at ho3; have HO3 := hide ho3; have HG3 := hide ((hext.trans E2).grown hg3 (fun k hk => ((unhide hO2).lt k hk).1)); clear ho3 hg3 hq3)
        go_roundw
        case rel => exact ⟨k + 1, by omega, by go_num, HO3, unhide HG3⟩
        case measure => simp [intOf]; omega
    · obtain rfl : k = n := by omega
      have hb9 : ¬ (k : Int) < (k : Int) := by omega
      have hl1 := rowS_len tx hf k
      have hcv := run_b2s (P := Tryz.prog) wr _ _ _ Tryz.underlying22 Tryz.underlying5 Tryz.underlying9 _ _ (ints_of_owns (unhide HO))
      have hcon := hide (l2Trim_big (toBA (rowS tx hf k)) wr (by rw [toBA_size]; omega))
      go_wp2_with fail
      refine (unhide hcon).mono ?_
      rintro e w3 ⟨rfl, rfl⟩
      go_wp2
      go_ret
      exact ⟨rfl, hext⟩
end Go.Proofs.YtinfdhbnljnifaaGreatDoor
