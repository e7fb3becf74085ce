import Derived.Test.YtinfdhbnljnifaaGreatDoorSnapMark
import Derived.Lib.TrimByte
namespace Go.Proofs.YtinfdhbnljnifaaGreatDoor
open Go.RowKit
theorem s2i (w : World) (s : ByteArray) : ∃ cap W', (convert 9 22 (.string s)).run Tryz.prog w = .ok (.slice (some ⟨w.heap.size, 0, none⟩) s.size cap) W' ∧ (∀ j u, ((baL s).map (Value.int .u8))[j]? = some u → W'.cell? ((⟨w.heap.size, 0, none⟩ : Addr).add j) = some u) ∧ Ext w W' := by
  have hr := run_bytes_of_string (P := Tryz.prog) w 9 22 5 s Tryz.underlying9 Tryz.underlying22 Tryz.underlying5
  refine ⟨_, _, hr, fun j u hj => ?_, (Ext.refl w).drew.alloc _⟩
  have hjl : j < s.data.size := by
    have := (List.getElem?_eq_some_iff.1 hj).1
    simp [baL] at this
    exact this
  rw [Addr.add_lit, Nat.zero_add]
  have hc := World.cell?_alloc_mark w.drew (bytesRow s (grownCap w s.size 0 5)) 5 ((bytesRow s (grownCap w s.size 0 5)).size, (bytesRow s (grownCap w s.size 0 5)).size + 1) j
  rw [bytesRow_at _ _ _ hjl] at hc
  refine Eq.trans hc ?_
  rw [← hj]
  simp only [baL, List.map_map, List.getElem?_map, Array.getElem?_toList]
  rw [Array.getElem?_eq_getElem hjl]
  rfl
def trimK (s : ByteArray) : Nat → Nat
  | 0 => 0
  | k + 1 => if s.data.toList[k]? = some 32 then trimK s k else k + 1
def trimS (s : ByteArray) : ByteArray := s.extract 0 (trimK s s.size)
def tkL (l : List UInt8) : Nat → Nat
  | 0 => 0
  | k + 1 => if l[k]? = some 32 then tkL l k else k + 1
theorem trimK_tkL (s : ByteArray) : ∀ k, trimK s k = tkL s.data.toList k
  | 0 => rfl
  | k + 1 => by rw [trimK, tkL, trimK_tkL s k]
theorem tkL_app (l r : List UInt8) : ∀ k, k ≤ l.length → tkL (l ++ r) k = tkL l k
  | 0, _ => rfl
  | k + 1, h => by rw [tkL, tkL, tkL_app l r k (by omega), List.getElem?_append_left (by omega)]
theorem tkL_le (l : List UInt8) : ∀ k, tkL l k ≤ k
  | 0 => Nat.le_refl _
  | k + 1 => by
    rw [tkL]
    split
    · have := tkL_le l k
      omega
    · exact Nat.le_refl _
theorem take_tkL (l : List UInt8) : l.take (tkL l l.length) = Lib.trimRightB l 32 := by
  obtain ⟨m, rfl⟩ : ∃ m : List UInt8, l = m.reverse := ⟨l.reverse, by simp⟩
  induction m with
  | nil => rfl
  | cons a m ih =>
    unfold Lib.trimRightB at ih ⊢
    rw [List.reverse_reverse] at ih ⊢
    rw [List.reverse_cons, List.length_append]
    show List.take (tkL (m.reverse ++ [a]) (m.reverse.length + 1)) _ = _
    rw [tkL, List.getElem?_append_right (Nat.le_refl _), Nat.sub_self, List.dropWhile_cons]
    by_cases h : a = 32
    · subst h
      rw [if_pos (by rfl), if_pos (by rfl), tkL_app _ _ _ (Nat.le_refl _), ← ih, List.take_append_of_le_length (tkL_le _ _)]
    · rw [if_neg (by simpa using h), if_neg (by simpa using h), List.take_of_length_le (by simp)]
      simp
theorem trimS_right (s : ByteArray) : (⟨(Lib.trimRightB s.data.toList 32).toArray⟩ : ByteArray) = trimS s := by
  apply WideShapes.bytes_inj
  have hl : s.data.toList.length = s.size := by simp
  rw [trimS, trimK_tkL, ← take_tkL, hl, ByteArray.data_extract]
  simp
end Go.Proofs.YtinfdhbnljnifaaGreatDoor

namespace Go.Proofs.YtinfdhbnljnifaaGreatDoor
open Go.RowKit
set_option maxRecDepth 10000 in
set_option maxHeartbeats 1000000 in
theorem l2Trim_big (s : ByteArray) (w : World) (hs : s.size ≤ 4398046511104) :
    Calls Tryz.prog 83 #[.string s] w fun e w' => e = .returned (.string (s.extract 0 (trimK s s.size))) ∧ w' = w := by
  go_enter Tryz.func83, Tryz.ntmps83
  go_wp2
  go_loop [3] (fun i => ∃ k : Nat, k ≤ s.size ∧ i = .int .i64 k ∧ Hid (trimK s s.size = trimK s k)) (fun i => (intOf i).toNat)
  case atStart => exact ⟨s.size, Nat.le_refl _, rfl, hide rfl⟩
  case round =>
    obtain ⟨k, hk, rfl, HJ⟩ := hrel
    by_cases h0 : k = 0
    · subst h0
      have hfin : Hid (trimK s s.size = 0) := hide ((unhide HJ).trans rfl)
      go_wp2
      go_ret
      exact ⟨by rw [unhide hfin]; simp, rfl⟩
    · obtain ⟨j, rfl⟩ : ∃ j, k = j + 1 := ⟨k - 1, by omega⟩
      have hw1 : IntKind.i64.wrap (((j + 1 : Nat) : Int) - 1) = (j : Int) := by rw [IntKind.wrap_i64]; omega
      have bj : (j : Int) < (s.size : Int) := by omega
      have hj : j < s.size := by omega
      have hat : s.data.toList[j]? = some (s[j]'hj) := by
        rw [List.getElem?_eq_getElem (by simpa using hj)]
        simp [ByteArray.getElem_eq_getElem_data]
      by_cases he : (s[j]'hj).toNat = 32
      · have HJ2 : Hid (trimK s s.size = trimK s j) := hide ((unhide HJ).trans (by
          rw [trimK, if_pos]
          rw [hat]
          exact congrArg some (UInt8.toNat_inj.1 he)))
        clear hat
        go_wp2
        go_round
        case rel => exact ⟨j, by omega, rfl, HJ2⟩
        case measure => simp [intOf]
      · have hfin : Hid (trimK s s.size = j + 1) := hide ((unhide HJ).trans (by
          rw [trimK, if_neg]
          rw [hat]
          exact fun e => he (by rw [Option.some.inj e]; rfl)))
        clear hat
        go_wp2
        go_ret
        exact ⟨by rw [unhide hfin]; rfl, rfl⟩
end Go.Proofs.YtinfdhbnljnifaaGreatDoor
