import Derived.Test.YtgdadidppelgdaaGreatDoorL7Rows
import Derived.Test.YtgdadidppelgdaaGreatDoorRuneCount
import Derived.Lib.Bytealg
import Derived.Lib.Strings
import Derived.Test.YtgdadidppelgdaaGreatDoorWhole
import Derived.RangeFuncKeeps
import Derived.RangeFuncCalls
import Derived.RangeFuncLeaves
import Derived.Test.YtgdadidppelgdaaGreatDoorProg
import Derived.Test.YtgdadidppelgdaaGreatDoorSesTo
import Derived.Test.YtgdadidppelgdaaGreatDoorShelfI
import Derived.Shelf.Small.Strs
import Derived.Shelf.Abstract
import Derived.Shelf.RegionOpen
import Derived.WalkKit
import Derived.OwnWalkIn
import Derived.TacticsInMore
import Derived.LoopNIn
import Derived.LoopIn
import Derived.Shelf.Strings.Prefix
namespace Go.Proofs.YtgdadidppelgdaaGreatDoor
open Go.RowKit

/-- The closed pieces of bytes up to a place, and where the next begins. -/
def lnS (bs : List Int) : Nat → List (List Int) × Nat
  | 0 => ([], 0)
  | i + 1 => if at0 bs i = 10 then ((lnS bs i).1 ++ [(bs.take i).drop (lnS bs i).2], i + 1) else lnS bs i
/-- The lines of bytes. -/
def pcs (bs : List Int) : List (List Int) := if (lnS bs bs.length).2 = bs.length then (lnS bs bs.length).1 else (lnS bs bs.length).1 ++ [bs.drop (lnS bs bs.length).2]
def setT (p : List Int) : ByteArray := toBA (settleL p)
def linesB (bs : List Int) : List ByteArray := (pcs bs).map setT
theorem lnS_le (bs : List Int) : ∀ i, (lnS bs i).2 ≤ i ∧ (lnS bs i).1.length ≤ i
  | 0 => by simp [lnS]
  | i + 1 => by
    have h := lnS_le bs i
    rw [lnS]
    split
    · simp; omega
    · omega
/-- A piece that goes on. -/
theorem lnS_on (bs : List Int) (f : Nat) : ∀ i, (∀ j, j < i → at0 bs (f + j) ≠ 10) → lnS bs (f + i) = lnS bs f
  | 0, _ => rfl
  | i + 1, h => by
    rw [← Nat.add_assoc, lnS, if_neg (h i (by omega)), lnS_on bs f i (fun j hj => h j (by omega))]
/-- No piece holds a line's end. -/
theorem lnS_free (bs : List Int) : ∀ i j, (lnS bs i).2 ≤ j → j < i → at0 bs j ≠ 10
  | 0, j, _, h => by omega
  | i + 1, j, h1, h2 => by
    rw [lnS] at h1
    split at h1
    · simp at h1; omega
    · by_cases e : j = i
      · subst e; assumption
      · exact lnS_free bs i j h1 (by omega)
theorem lnS_sum (bs : List Int) : ∀ i, i ≤ bs.length → (lnS bs i).1.length + ((lnS bs i).1.map List.length).sum ≤ (lnS bs i).2
  | 0, _ => by simp [lnS]
  | i + 1, h => by
    have h1 := lnS_sum bs i (by omega)
    have h2 := lnS_le bs i
    rw [lnS]
    split
    · simp; omega
    · exact h1
theorem pcs_len (bs : List Int) : (pcs bs).length ≤ bs.length := by
  have h := lnS_le bs bs.length
  have h2 := lnS_sum bs bs.length (Nat.le_refl _)
  unfold pcs
  split
  · omega
  · simp; omega
/-- What the lines weigh. -/
theorem pcs_sum (bs : List Int) : (pcs bs).length + ((pcs bs).map List.length).sum ≤ bs.length + 1 := by
  have h := lnS_le bs bs.length
  have h2 := lnS_sum bs bs.length (Nat.le_refl _)
  unfold pcs
  split
  · omega
  · simp; omega
theorem lsz_set : ∀ l : List (List Int), lsz (l.map setT) ≤ 4 * (l.map List.length).sum + 4 * l.length
  | [] => by simp [lsz]
  | x :: l => by
    have h := lsz_set l
    have h2 := settleL_len x
    simp only [List.map_cons, lsz, List.sum_cons, List.length_cons, setT, toBA_size] at h ⊢
    omega
theorem linesB_bd (bs : List Int) : (linesB bs).length ≤ bs.length + 1 ∧ lsz (linesB bs) ≤ 4 * bs.length + 4 := by
  have h := pcs_sum bs
  have h2 := lsz_set (pcs bs)
  unfold linesB
  rw [List.length_map]
  omega
end Go.Proofs.YtgdadidppelgdaaGreatDoor

namespace Go.Proofs.YtgdadidppelgdaaGreatDoor
open Go.RowKit

/-- The lines as strings.Lines gives them: each with its end. -/
def rawL (bs : List Int) : List (List Int) := (lnS bs bs.length).1.map (· ++ [10]) ++ (if (lnS bs bs.length).2 = bs.length then [] else [bs.drop (lnS bs bs.length).2])
theorem toBA_extract (xs : List Int) (a b : Nat) : (toBA xs).extract a b = toBA ((xs.take b).drop a) := by
  apply ByteArray.ext
  apply Array.ext'
  have h := Lib.extract_toList (toBA xs) a b
  rw [toBA_list] at h
  rw [toBA_list]
  have h2 : ((toBA xs).extract a b).toList = ((toBA xs).extract a b).data.toList := by
    obtain ⟨⟨l⟩⟩ := (toBA xs).extract a b
    simp [ByteArray.toList_eq]
  rw [← h2, h, List.map_drop, List.map_take, List.drop_take]
theorem index_spec : ∀ xs : List Int, Bytes xs → (∃ i : Nat, Lib.indexByte (toBA xs).data.toList 10 = (i : Int) ∧ i < xs.length ∧ at0 xs i = 10 ∧ ∀ j, j < i → at0 xs j ≠ 10) ∨ (Lib.indexByte (toBA xs).data.toList 10 = -1 ∧ ∀ j, j < xs.length → at0 xs j ≠ 10) := by
  intro xs
  rw [toBA_list]
  induction xs with
  | nil => intro _; exact .inr ⟨rfl, fun j hj => by simp at hj⟩
  | cons x xs ih =>
    intro hb
    have hx := hb x (by simp)
    have ih := ih (fun y hy => hb y (by simp [hy]))
    rw [List.map_cons, Lib.indexByte]
    by_cases e : x = 10
    · subst e
      exact .inl ⟨0, by simp, by simp, by simp [at0], fun j hj => by omega⟩
    · have hne : (UInt8.ofNat x.toNat == 10) = false := by
        simp only [beq_eq_false_iff_ne, ne_eq]
        intro h
        have h2 := congrArg UInt8.toNat h
        simp at h2
        omega
      rw [hne]
      simp only [Bool.false_eq_true, if_false]
      rcases ih with ⟨i, h1, h2, h3, h4⟩ | ⟨h1, h2⟩
      · refine .inl ⟨i + 1, ?_, by simp; omega, by simpa [at0] using h3, fun j hj => ?_⟩
        · rw [h1, if_neg (by simp)]
          omega
        · cases j with
          | zero => simpa [at0] using e
          | succ j => simpa [at0] using h4 j (by omega)
      · refine .inr ⟨by rw [h1]; simp, fun j hj => ?_⟩
        cases j with
        | zero => simpa [at0] using e
        | succ j => simpa [at0] using h2 j (by simp at hj; omega)
/-- A line that ends. -/
theorem lnS_hit (bs : List Int) (f i : Nat) (hf : (lnS bs f).2 = f) (hi : i < (bs.drop f).length) (h10 : at0 (bs.drop f) i = 10) (hn : ∀ j, j < i → at0 (bs.drop f) j ≠ 10) :
    lnS bs (f + (i + 1)) = ((lnS bs f).1 ++ [((bs.drop f).take i)], f + (i + 1)) ∧ ((bs.drop f).take (i + 1)) = (bs.drop f).take i ++ [10] := by
  have h1 := lnS_on bs f i (fun j hj => by rw [← at0_drop]; exact hn j hj)
  constructor
  · rw [← Nat.add_assoc, lnS, if_pos (by rw [← at0_drop]; exact h10), h1, hf]
    rw [List.drop_take, Nat.add_sub_cancel_left]
  · rw [List.take_add_one]
    congr 1
    unfold at0 at h10
    rw [List.getElem?_eq_getElem hi] at h10 ⊢
    simp at h10 ⊢
    exact h10
/-- The last line, without an end. -/
theorem lnS_rest (bs : List Int) (f : Nat) (hl : f ≤ bs.length) (hn : ∀ j, j < (bs.drop f).length → at0 (bs.drop f) j ≠ 10) : lnS bs bs.length = lnS bs f := by
  have h1 := lnS_on bs f (bs.length - f) (fun j hj => by rw [← at0_drop]; exact hn j (by simp; omega))
  rwa [show f + (bs.length - f) = bs.length by omega] at h1
/-- A line without its end. -/
def trim10 (x : List Int) : List Int := if x.getLast? = some 10 then x.dropLast else x
theorem trim10_end (p : List Int) : trim10 (p ++ [10]) = p := by simp [trim10]
theorem trim10_rest (bs : List Int) (f : Nat) (hn : ∀ j, f ≤ j → j < bs.length → at0 bs j ≠ 10) : trim10 (bs.drop f) = bs.drop f := by
  unfold trim10
  rw [if_neg]
  intro h
  rw [List.getLast?_eq_getElem?, List.getElem?_drop, List.length_drop] at h
  by_cases e : f < bs.length
  · have := hn (f + (bs.length - f - 1)) (by omega) (by omega)
    unfold at0 at this
    rw [h] at this
    simp at this
  · rw [List.getElem?_eq_none (by omega)] at h
    cases h
theorem raw_lines (bs : List Int) : (rawL bs).map (fun x => setT (trim10 x)) = linesB bs := by
  unfold rawL linesB pcs
  have e : ((lnS bs bs.length).1.map (· ++ [10])).map (fun x => setT (trim10 x)) = (lnS bs bs.length).1.map setT := by
    rw [List.map_map]
    apply List.map_congr_left
    intro x _
    simp [trim10_end]
  split
  · rw [List.append_nil, e]
  · rw [List.map_append, List.map_append, e]
    simp only [List.map_cons, List.map_nil]
    rw [trim10_rest bs _ (fun j h1 h2 => lnS_free bs bs.length j h1 h2)]
theorem raw_len (bs : List Int) : (rawL bs).length = (linesB bs).length := by rw [← raw_lines, List.length_map]
/-- What strings.TrimSuffix makes of a line. -/
theorem trim10_lib (x : List Int) (hb : Bytes x) : (⟨(Lib.trimSuffix (toBA x).data.toList [10]).toArray⟩ : ByteArray) = toBA (trim10 x) := by
  apply ByteArray.ext
  apply Array.ext'
  rw [toBA_list, toBA_list]
  rcases List.eq_nil_or_concat x with rfl | ⟨p, y, rfl⟩
  · rfl
  · rw [List.concat_eq_append] at hb ⊢
    have hy := hb y (by simp)
    unfold Lib.trimSuffix trim10
    by_cases e : y = 10
    · subst e
      have h1 : Lib.hasSuffix ((p ++ [10]).map (fun n : Int => UInt8.ofNat n.toNat)) [10] = true := by
        unfold Lib.hasSuffix List.isSuffixOf
        simp [List.isPrefixOf]
      rw [if_pos h1]
      simp
    · have h1 : Lib.hasSuffix ((p ++ [y]).map (fun n : Int => UInt8.ofNat n.toNat)) [10] = false := by
        have hne : (10 == UInt8.ofNat y.toNat) = false := by
          simp only [beq_eq_false_iff_ne, ne_eq]
          intro h
          have h2 := congrArg UInt8.toNat h
          simp at h2
          omega
        unfold Lib.hasSuffix List.isSuffixOf
        simp [List.isPrefixOf, hne]
      rw [h1]
      simp [e]
end Go.Proofs.YtgdadidppelgdaaGreatDoor

namespace Go.Proofs.YtgdadidppelgdaaGreatDoor
open Go.RowKit

theorem ints_sub {w : World} {b off n cap : Nat} {bs : List Int} (h : IntsAt w .u8 (.slice (some ⟨b, off, none⟩) n cap) bs) (f k : Nat) (hfk : f ≤ k) (hk : k ≤ n) (v : Value) (c : Nat) (hv : v = .slice (some ⟨b, off + f, none⟩) (k - f) c ∨ (v = .slice (some ⟨b, off, none⟩) (k - f) c ∧ k = f)) (hc : k - f ≤ c) : IntsAt w .u8 v ((bs.take k).drop f) := by
  obtain ⟨ao, ca, e, hca, hx⟩ := h
  obtain ⟨rfl, rfl, rfl⟩ := Value.slice.inj e
  have hl : ((bs.take k).drop f).length = k - f := by simp; omega
  rcases hv with rfl | ⟨rfl, rfl⟩
  · refine ⟨_, c, by rw [hl], by omega, fun h0 => ⟨b, off + f, rfl, fun j hj => ?_⟩⟩
    rw [hl] at hj
    obtain ⟨b', o', e', h9⟩ := hx (by omega)
    cases e'
    have := h9 (f + j) (by omega)
    rw [show off + f + j = off + (f + j) by omega, this]
    congr 2
    unfold at0
    rw [List.getElem?_drop, List.getElem?_take, if_pos (by omega)]
  · refine ⟨_, c, by rw [hl], by omega, fun h0 => ?_⟩
    rw [hl] at h0
    omega
theorem bytes_sub {bs : List Int} (h : Bytes bs) (f k : Nat) : Bytes ((bs.take k).drop f) := fun x hx => h x (List.mem_of_mem_take (List.mem_of_mem_drop hx))
set_option maxRecDepth 10000 in
set_option maxHeartbeats 4000000 in
theorem l7Lines_any (v : Value) (bs : List Int) (hb : Bytes bs) (w : World) (hv : IntsAt w .u8 v bs) (hn : bs.length ≤ 1048576) :
    Calls Tryz.prog 48 #[v] w fun e w' => ∃ u, e = .returned u ∧ Own1 w' w.heap.size 9 u (linesB bs).length (fun j => .string (atR (linesB bs) j)) ∧ Ext w w' := by
  obtain ⟨ic, hic, hc0, hc1, hc2⟩ := info_parts infoStrs
  obtain ⟨ao, cap, rfl, hcap, hxa⟩ := id hv
  have HV := hide hv
  have HX := hide hxa
  have HB := hide hb
  have HO0 := hide (owns_empty w 9 1)
  obtain ⟨n, hnn⟩ : ∃ n, n = bs.length := ⟨_, rfl⟩
  have HNN := hide hnn
  rw [← hnn] at hcap HV HX hn ⊢
  clear hv hxa hb hnn
  go_enter Tryz.func48, Tryz.ntmps48
  go_wp2
  go_loopw [3, 4, 5] (fun o f i wr => ∃ k : Nat, ((k ≤ n ∧ i = .int .i64 k ∧ f = .int .i64 ((lnS bs k).2 : Int) ∧ Hid (wr.ownsRow w.heap.size 9 1 o ((lnS bs k).1.map setT).length (((lnS bs k).1.map setT).map Value.string))) ∨ (k = n + 1 ∧ i = .int .i64 k ∧ (∃ f0, f = .int .i64 f0) ∧ Hid (wr.ownsRow w.heap.size 9 1 o (linesB bs).length ((linesB bs).map Value.string)))) ∧ Ext w wr) (fun _ _ i _ => n + 1 - (intOf i).toNat)
  case atStart => exact ⟨0, .inl ⟨Nat.zero_le _, rfl, rfl, HO0⟩, (Ext.refl w).alloc _⟩
  case round =>
    obtain ⟨k, hcase, hext⟩ := hrel
    have hsz := hext.size
    rcases hcase with ⟨hk, rfl, rfl, HO⟩ | ⟨rfl, rfl, ⟨f0, rfl⟩, HO⟩
    · obtain ⟨f, hf⟩ : ∃ f, f = (lnS bs k).2 := ⟨_, rfl⟩
      have hle := lnS_le bs k
      rw [← hf] at hle ⊢
      have hlm : ((lnS bs k).1.map setT).length ≤ k := by rw [List.length_map]; exact hle.2
      have b1 : (k : Int) ≤ (n : Int) := by omega
      obtain ⟨L, hL⟩ : ∃ L, L = (lnS bs k).1.map setT := ⟨_, rfl⟩
      rw [← hL] at HO hlm
      have HF := hide hf
      have HL := hide hL
      clear hf hL
      by_cases hkn : k = n
      · subst hkn
        by_cases hfk : f = k
        · have HE : Hid (linesB bs = L) := hide (by
            unfold linesB pcs
            rw [← unhide HNN, ← unhide HF, if_pos hfk, ← unhide HL])
          have b2 : (f : Int) = (k : Int) := by omega
          go_wp2
          go_ret
          exact ⟨_, rfl, own_list (by rw [unhide HE]; exact unhide HO), hext⟩
        · obtain ⟨b, off, hao, _⟩ := (unhide HX) (by omega)
          subst hao
          have b2 : ¬ (f : Int) = (k : Int) := by omega
          have b3 : (f : Int) ≤ (k : Int) := by omega
          have b4 : (k : Int) ≤ (cap : Int) := by omega
          have hne : ¬ cap = f := by omega
          have HP : Hid ((bs.take k).drop f = bs.drop f) := hide (by rw [unhide HNN, List.take_length])
          have hrun := run_b2s (P := Tryz.prog) wr _ _ _ Tryz.underlying25 Tryz.underlying5 Tryz.underlying9 (.slice (some ⟨b, off + f, none⟩) (k - f) (cap - f)) ((bs.take k).drop f) (ints_sub ((unhide HV).ext hext) f k (by omega) (by omega) _ _ (.inl rfl) (by omega))
          have hcS := hide (specSettle_any ((bs.take k).drop f) (bytes_sub (unhide HB) f k) wr (by rw [List.length_drop, List.length_take]; omega))
          have HE : Hid (linesB bs = L ++ [toBA (settleL ((bs.take k).drop f))]) := hide (by
            unfold linesB pcs
            rw [← unhide HNN, ← unhide HF, if_neg hfk, unhide HP, List.map_append, ← unhide HL]
            rfl)
          obtain ⟨q, hq⟩ : ∃ q, q = (bs.take k).drop f := ⟨_, rfl⟩
          rw [← hq] at hrun hcS HE
          clear hq
          go_wp2_with (first
            | (go_at_call 58; refine (unhide hcS).mono ?_; rintro e w4 ⟨rfl, F4⟩; have HO4 := hide (F4.owns (unhide HO)); have E4 := hext.trans F4; have hs4 := E4.size; clear F4)
            | (at_builtin; go_must (refine wpList_app rfl _ _ 28 rfl w.heap.size 9 ic (.string { data := #[] }) 1 16 Tryz.underlying28 hic hc0 hc1 hc2 rfl (by decide) _ _ _ rfl ((unhide HO4).alloc _) _ 1 [.string (toBA (settleL q))] rfl (Src.made _ _ _ rfl (by simp [Value.oneCell'])) (by unfold maxLen; omega) (by omega) (by simp; omega) ?_); intro v5 w5 o5 G5 _; rw [show L.map Value.string ++ [Value.string (toBA (settleL q))] = (L ++ [toBA (settleL q)]).map Value.string by simp, show L.length + 1 = (L ++ [toBA (settleL q)]).length by simp, ← unhide HE] at o5; have HO5 := hide o5; have E5 := hide ((E4.alloc _).grown G5 (fun p hp => ((unhide HO4).lt p hp).1)); clear o5 G5))
          go_roundw
          case rel => exact ⟨k + 1, .inr ⟨rfl, by go_num, ⟨_, rfl⟩, HO5⟩, unhide E5⟩
          case measure => simp [intOf]
      · obtain ⟨b, off, hao, hc⟩ := (unhide HX) (by omega)
        subst hao
        have g1 := hext.cell (hc k (by have := unhide HNN; omega))
        clear hc
        have b2 : ¬ (k : Int) = (n : Int) := by omega
        have b3 : (f : Int) ≤ (k : Int) := by omega
        have b4 : (k : Int) ≤ (cap : Int) := by omega
        have hne : ¬ cap = f := by omega
        have b5 : (k : Int) < (n : Int) := by omega
        by_cases h10 : at0 bs k = 10
        · rw [h10] at g1
          have hrun := run_b2s (P := Tryz.prog) wr _ _ _ Tryz.underlying25 Tryz.underlying5 Tryz.underlying9 (.slice (some ⟨b, off + f, none⟩) (k - f) (cap - f)) ((bs.take k).drop f) (ints_sub ((unhide HV).ext hext) f k (by omega) (by omega) _ _ (.inl rfl) (by omega))
          have hcS := hide (specSettle_any ((bs.take k).drop f) (bytes_sub (unhide HB) f k) wr (by rw [List.length_drop, List.length_take]; omega))
          have HE : Hid ((lnS bs (k + 1)).1.map setT = L ++ [toBA (settleL ((bs.take k).drop f))] ∧ (lnS bs (k + 1)).2 = k + 1) := hide (by
            rw [lnS, if_pos h10]
            dsimp only
            rw [← unhide HF, List.map_append, ← unhide HL]
            exact ⟨rfl, rfl⟩)
          obtain ⟨q, hq⟩ : ∃ q, q = (bs.take k).drop f := ⟨_, rfl⟩
          rw [← hq] at hrun hcS HE
          clear hq h10
          go_wp2_with (first
            | (go_at_call 58; refine (unhide hcS).mono ?_; rintro e w4 ⟨rfl, F4⟩; have HO4 := hide (F4.owns (unhide HO)); have E4 := hext.trans F4; have hs4 := E4.size; clear F4)
            | (at_builtin; go_must (refine wpList_app rfl _ _ 28 rfl w.heap.size 9 ic (.string { data := #[] }) 1 16 Tryz.underlying28 hic hc0 hc1 hc2 rfl (by decide) _ _ _ rfl ((unhide HO4).alloc _) _ 1 [.string (toBA (settleL q))] rfl (Src.made _ _ _ rfl (by simp [Value.oneCell'])) (by unfold maxLen; omega) (by omega) (by simp; omega) ?_); intro v5 w5 o5 G5 _; rw [show L.map Value.string ++ [Value.string (toBA (settleL q))] = (L ++ [toBA (settleL q)]).map Value.string by simp, show L.length + 1 = (L ++ [toBA (settleL q)]).length by simp, ← (unhide HE).1] at o5; have HO5 := hide o5; have E5 := hide ((E4.alloc _).grown G5 (fun p hp => ((unhide HO4).lt p hp).1)); clear o5 G5))
          go_roundw
          case rel => exact ⟨k + 1, .inl ⟨by omega, by go_num, by rw [(unhide HE).2]; go_num, HO5⟩, unhide E5⟩
          case measure => simp [intOf]; omega
        · have HE : Hid (lnS bs (k + 1) = lnS bs k) := hide (by rw [lnS, if_neg h10])
          have bb : (((k : Int) == (n : Int)) || (at0 bs k == 10)) = false := by simp [b2, h10]
          go_wp2
          go_roundw
          case rel => exact ⟨k + 1, .inl ⟨by omega, by go_num, by rw [unhide HE, ← unhide HF], by rw [unhide HE, ← unhide HL]; exact HO⟩, hext⟩
          case measure => simp [intOf]; omega
    · have b1 : ¬ ((n : Int) + 1 ≤ (n : Int)) := by omega
      go_wp2
      go_ret
      exact ⟨_, rfl, own_list (unhide HO), hext⟩
end Go.Proofs.YtgdadidppelgdaaGreatDoor

namespace Go.Proofs.YtgdadidppelgdaaGreatDoor
open Go.RowKit

/-- What a loop's invariant over cells bears: whatever grows, and turns of blocks from B on that are no cells. -/
def Bears {β : Type} (B : Nat) (I : β → World → Prop) : Prop := ∀ s A C row, I s A → A.grownBy C row → (∀ r, row = some r → B ≤ r ∧ ∃ o : Obj, A.heap[r]? = some o ∧ o.isCells = false) → I s C
theorem Bears.put {β : Type} {B : Nat} {I : β → World → Prop} (h : Bears B I) {s : β} {W : World} {l : Nat} {o : Obj} (o' : Obj) (hs : I s W) (hB : B ≤ l) (hl : W.heap[l]? = some o) (ho : o.isCells = false) : I s (W.putObj l o') :=
  h s W _ (some l) hs (grownBy_putObj' W l o') (fun r e => by cases e; exact ⟨hB, o, hl, ho⟩)
set_option maxHeartbeats 400000 in
/-- A range over an iterator that keeps its state in a cell of its own, by a body that always goes on. -/
theorem wpIn_range_cell {F : Fence} {n : Nat} {P : Program} {α : Type} {g : Operand} {ps : Array Tmp} {assign body : Code} {Q : Exit → Act → World → Prop} {a : Act} {w : World}
    (hro : F.round = none) (h1 : 1 ≤ n) {gf : Nat} {lb : Array Value} (hg : a.eval g = .func (.func gf) #[] lb) (hFg : F.fn gf) (eg : ∀ args w, (callFunc gf args).run P w = .ok (.enter gf args) w)
    {encs : α → Array Value} (hps : ∀ x, (encs x).size = ps.size) (Bn N : Nat) (hBn : Bn < w.heap.size) (Ok : α → Prop) (xs : List α)
    (hseq : ∀ (l : Nat) (J : List α → World → Prop) (W : World), W.heap[Bn]? = w.heap[Bn]? → (∀ pre W v, J pre W → J pre (W.setCell ⟨Bn, 0, none⟩ v)) → (∀ pre W, J pre W → J pre W.drew) →
      (∀ pre x W1, J pre W1 → pre.length < N → Ok x → YieldAt F (n - 1 - 1) P l (encs x) W1 fun e W' => e = .returned (.bool true) ∧ J (pre ++ [x]) W' ∧ W'.heap[Bn]? = W1.heap[Bn]?) → J [] W →
      CallsIn F (n - 1) P gf (#[.func (.yield l) #[] #[]] ++ lb) W fun e W' => (∃ v, e = .returned v) ∧ J xs W')
    (I : List α → World → Prop) (hI : Bears w.heap.size I) (hIs : ∀ pre W v, I pre W → I pre (W.setCell ⟨Bn, 0, none⟩ v)) (h0 : I [] w) (a₁ : α → Act)
    (hassign : ∀ (l : Nat) (x : α) (W : World) (K : Act → World → Prop), K (a₁ x) W →
      assign.wpIn (F.inRound l) (n - 1 - 1) P (Exit.then K (fun _ _ _ => False)) { tmps := (ps.zip (encs x)).foldl (fun t (p, v) => t.setIfInBounds p v) a.tmps, defers := [] } W)
    (hbody : ∀ (l : Nat) (pre : List α) (x : α) (W : World), I pre W → pre.length < N → Ok x → body.wpIn (F.inRound l) (n - 1 - 1) P (fun e _ W' => e = .normal ∧ KeepsOthers W W' ∧ W'.heap[Bn]? = W.heap[Bn]? ∧ I (pre ++ [x]) W') (a₁ x) W)
    (hdone : ∀ (D : Nat) (W : World), w.heap.size ≤ D → I xs W → W.heap[D]? = some (.deferred (some [])) → Q .normal { a with defers := { target := .collected D, args := #[] } :: a.defers } W) :
    (Code.rangeFunc g ps assign body).wpIn F n P Q a w := by
  refine wpIn_rangeFunc (fun fn hfn => ?_)
  rw [hro]
  -- the record of the loop, ready, busy or over
  obtain ⟨C, hC⟩ : ∃ C : LoopState → Loop, C = fun st => { state := st, pending := none, fn, tmps := a.tmps, params := ps, assign, body, defers := w.heap.size } := ⟨_, rfl⟩
  have hA : ((w.alloc (.deferred (some []))).alloc (.loop (C .ready))).heap[w.heap.size + 1]? = some (.loop (C .ready)) := by
    have h := World.alloc_heap_new (w.alloc (.deferred (some []))) (.loop (C .ready))
    rwa [World.size_alloc] at h
  have hD : ((w.alloc (.deferred (some []))).alloc (.loop (C .ready))).heap[w.heap.size]? = some (.deferred (some [])) :=
    (Below.heap_alloc _ _ _ (by simp)).trans (World.alloc_heap_new w _)
  have hN : ((w.alloc (.deferred (some []))).alloc (.loop (C .ready))).heap[Bn]? = w.heap[Bn]? :=
    (Below.heap_alloc _ _ _ (by simp; omega)).trans (Below.heap_alloc _ _ _ hBn)
  have hS : I [] ((w.alloc (.deferred (some []))).alloc (.loop (C .ready))) :=
    hI _ _ _ none (hI _ _ _ none h0 (World.grownBy_alloc w _ none) (fun r e => by cases e)) (World.grownBy_alloc _ _ none) (fun r e => by cases e)
  obtain ⟨J, hJ⟩ : ∃ J : List α → World → Prop, J = fun pre W => I pre W ∧ W.heap[w.heap.size + 1]? = some (.loop (C .ready)) ∧ W.heap[w.heap.size]? = some (.deferred (some [])) := ⟨_, rfl⟩
  have hJs : ∀ pre W v, J pre W → J pre (W.setCell ⟨Bn, 0, none⟩ v) := fun pre W v h => by
    rw [hJ] at h ⊢
    exact ⟨hIs pre W v h.1, (Below.heap_setCell W ⟨Bn, 0, none⟩ v _ (by show _ ≠ Bn; omega)).trans h.2.1, (Below.heap_setCell W ⟨Bn, 0, none⟩ v _ (by show _ ≠ Bn; omega)).trans h.2.2⟩
  have hJd : ∀ pre W, J pre W → J pre W.drew := fun pre W h => by
    rw [hJ] at h ⊢
    exact ⟨hI _ W _ none h.1 ⟨rfl, rfl, rfl, Nat.le_refl _, fun _ _ _ => rfl⟩ (fun r e => by cases e), h.2.1, h.2.2⟩
  have hY : ∀ pre x W1, J pre W1 → pre.length < N → Ok x → YieldAt F (n - 1 - 1) P (w.heap.size + 1) (encs x) W1 fun e W' => e = .returned (.bool true) ∧ J (pre ++ [x]) W' ∧ W'.heap[Bn]? = W1.heap[Bn]? := by
    intro pre x W1 hj hlen hok
    rw [hJ] at hj
    obtain ⟨hi, hl, hd⟩ := hj
    have hlt := (Array.getElem?_eq_some_iff.1 hl).1
    have hy := run_yield (P := P) (args := encs x) hl (by rw [hC]; exact hps x)
    rw [hC] at hy
    have hbr := run_beginRound (P := P) hl (by rw [hC])
    have hbz : { C .ready with state := LoopState.busy } = C .busy := by rw [hC]
    rw [hbz] at hbr
    refine ⟨fn, _, assign, body, hy, roundIn_of_wpIn hfn (hassign _ x W1 _ ⟨_, hbr, ?_⟩)⟩
    have hb : (W1.putObj (w.heap.size + 1) (.loop (C .busy))).heap[w.heap.size + 1]? = some (.loop (C .busy)) := World.putObj_heap_same hlt
    refine wpIn_mono (hbody _ pre x _ (hI.put (.loop (C .busy)) hi (by omega) hl rfl) hlen hok) ?_
    rintro e a3 W3 ⟨rfl, hk, hc, hi3⟩
    have hl3 := hk.same _ _ hb rfl
    have hd3 := hk.same _ _ ((World.putObj_heap_other (o := .loop (C .busy)) (show w.heap.size ≠ w.heap.size + 1 by omega)).trans hd) rfl
    have her := run_endRound (P := P) none hl3
    have hrz : { C .busy with state := if (none : Option Code).isNone then LoopState.ready else .done, pending := none } = C .ready := by rw [hC]; rfl
    rw [hrz] at her
    refine ⟨_, _, her, rfl, ?_, ?_⟩
    · rw [hJ]
      exact ⟨hI.put (.loop (C .ready)) hi3 (by omega) hl3 rfl, World.putObj_heap_same (Array.getElem?_eq_some_iff.1 hl3).1, (World.putObj_heap_other (by omega)).trans hd3⟩
    · exact (World.putObj_heap_other (by omega)).trans (hc.trans (World.putObj_heap_other (by omega)))
  have hent := run_enterLoop_outer (P := P) (w := w) fn a.tmps ps assign body
  have hcz : ({ state := .ready, pending := none, fn, tmps := a.tmps, params := ps, assign, body, defers := w.heap.size } : Loop) = C .ready := by rw [hC]
  rw [hcz] at hent
  obtain ⟨W1, hW1⟩ : ∃ W1, W1 = (w.alloc (.deferred (some []))).alloc (.loop (C .ready)) := ⟨_, rfl⟩
  rw [← hW1] at hN hS hA hD hent
  have hcall := hseq (w.heap.size + 1) J _ hN hJs hJd hY (by rw [hJ]; exact ⟨hS, hA, hD⟩)
  refine ⟨w.heap.size + 1, [{ target := .collected w.heap.size, args := #[] }], W1, { target := .fn (.func gf) lb, args := #[.func (.yield (w.heap.size + 1)) #[] #[]] }, W1, gf, #[.func (.yield (w.heap.size + 1)) #[] #[]] ++ lb, W1, ?_, ?_, ?_, ?_, fun _ => h1, ?_⟩
  · exact hent
  · simp only [resolve, hg]
    simp [go_sem]
  · intro f' hf'
    simp [Target.leads] at hf'
    subst hf'
    exact hFg
  · simp [invoke, go_sem, eg]
  · refine hcall.mono ?_
    rintro e W2 ⟨⟨v, rfl⟩, hj⟩
    rw [hJ] at hj
    obtain ⟨hi, hl, hd⟩ := hj
    have hel := run_endLoop (P := P) hl (by rw [hC]; simp)
    have hpz : (C .ready).pending = none := by rw [hC]
    rw [hpz] at hel
    exact ⟨none, _, hel, hdone _ _ (Nat.le_refl _) (hI.put _ hi (by omega) hl rfl) ((World.putObj_heap_other (by omega)).trans hd)⟩
end Go.Proofs.YtgdadidppelgdaaGreatDoor

namespace Go.Proofs.YtgdadidppelgdaaGreatDoor
open Go.RowKit Go.Shelf
attribute [local go_sem] Oper.semAt_some

/-- What is left, read off the iterator's cell. -/
def remOf (Bn : Nat) (W : World) : Nat := match W.cell? ⟨Bn, 0, none⟩ with | some (.string s) => s.size | _ => 0
theorem remOf_at {Bn : Nat} {W : World} {s : ByteArray} (h : W.heap[Bn]? = some (.cells #[.string s] 9 (0, 0))) : remOf Bn W = s.size := by
  unfold remOf
  rw [cells_of h 0 (.string s) rfl]
def SmallB (x : List Int) : Prop := Bytes x ∧ x.length ≤ 1048576
set_option maxRecDepth 100000 in
set_option maxHeartbeats 2000000 in
theorem lines1_in (n : Nat) (hn : 1 ≤ n) (l Bn : Nat) (bs : List Int) (hb : Bytes bs) (hl : bs.length ≤ 1048576) (J : List (List Int) → World → Prop) (W : World) (hBn : W.heap[Bn]? = some (.cells #[.string (toBA bs)] 9 (0, 0)))
    (hJs : ∀ pre W v, J pre W → J pre (W.setCell ⟨Bn, 0, none⟩ v)) (hJd : ∀ pre W, J pre W → J pre W.drew)
    (hY : ∀ pre x W1, J pre W1 → pre.length < bs.length → SmallB x → YieldAt Fence.wide (n - 1) Tryz.prog l #[.string (toBA x)] W1 fun e W' => e = .returned (.bool true) ∧ J (pre ++ [x]) W' ∧ W'.heap[Bn]? = W1.heap[Bn]?) (h0 : J [] W) :
    CallsIn Fence.wide n Tryz.prog 144 #[.func (.yield l) #[] #[], .pointer (some ⟨Bn, 0, none⟩)] W fun e W' => (∃ v, e = .returned v) ∧ J (rawL bs) W' := by
  have HJ := hide hJs
  have HD := hide hJd
  have HY := hide hY
  have HB := hide hb
  clear hJs hJd hY hb
  refine callsIn_of_wp Tryz.func144 rfl trivial ?_ rfl
  simp only [Tryz.ntmps144, List.size_toArray, List.length_cons, List.length_nil, Nat.reduceAdd, Nat.reduceSub, Array.replicate_succ, Array.replicate_zero, List.push_toArray, List.append_toArray, List.nil_append, List.cons_append]
  gi_wp2
  gi_loopw [4] (fun u wr => ((∃ f : Nat, f ≤ bs.length ∧ Hid ((lnS bs f).2 = f) ∧ Hid (wr.heap[Bn]? = some (.cells #[.string (toBA (bs.drop f))] 9 (0, 0))) ∧ Hid (J ((lnS bs f).1.map (· ++ [10])) wr)) ∨ (Hid (wr.heap[Bn]? = some (.cells #[.string (toBA [])] 9 (0, 0))) ∧ Hid (J (rawL bs) wr)))) (fun _ wr => remOf Bn wr)
  case atStart => exact .inl ⟨0, Nat.zero_le _, rfl, hBn, h0⟩
  case round =>
    rcases hrel with ⟨f, hf, HF, HC, HS⟩ | ⟨HC, HS⟩
    · by_cases hlt : f < bs.length
      · obtain ⟨xs, hxs⟩ : ∃ xs, xs = bs.drop f := ⟨_, rfl⟩
        have hxl : xs.length = bs.length - f := by rw [hxs]; simp
        have hxb : Bytes xs := fun y hy => (unhide HB) y (by rw [hxs] at hy; exact List.mem_of_mem_drop hy)
        have hix := index_spec xs hxb
        rw [← hxs] at HC
        obtain ⟨x, hx⟩ : ∃ x, x = toBA xs := ⟨_, rfl⟩
        have hxz : x.size = xs.length := by rw [hx]; exact toBA_size xs
        rw [← hx] at HC hix
        have k0 : wr.cell? ⟨Bn, 0, none⟩ = some (.string x) := cells_of (unhide HC) 0 _ rfl
        have f0 : wr.frozen? ⟨Bn, 0, none⟩ = false := Lib.frozen_of_heap (unhide HC) 0
        have b0 : 0 < x.size := by omega
        have HXX := hide hx
        have HXS := hide hxs
        have HXB := hide hxb
        clear hx hxs hxb
        have hcI := hide (Any.strings_IndexByte Tryz.lays137 x 10 wr)
        have hle := (lnS_le bs f).2
        have hpl : ((lnS bs f).1.map (· ++ [10])).length < bs.length := by rw [List.length_map]; omega
        rcases hix with ⟨i, hi, hi1, hi2, hi3⟩ | ⟨hi, hi2⟩
        · have hid : Hid (Lib.indexByte x.data.toList (10 : Int).toNat.toUInt8 = (i : Int)) := hide hi
          rw [unhide hid] at hcI
          have bw : IntKind.i64.wrap ((i : Int) + 1) = (i : Int) + 1 := by rw [IntKind.wrap_i64]; omega
          have b1 : (0 : Int) ≤ (i : Int) := by omega
          have b2 : (i : Int) + 1 ≤ (x.size : Int) := by omega
          have hhit := lnS_hit bs f i (unhide HF) (by rw [← unhide HXS]; exact hi1) (by rw [← unhide HXS]; exact hi2) (fun j hj => by rw [← unhide HXS]; exact hi3 j hj)
          rw [← unhide HXS] at hhit
          have HHIT := hide hhit
          have hline : x.extract 0 (i + 1) = toBA (xs.take (i + 1)) := by rw [unhide HXX, toBA_extract, List.drop_zero]
          have hrest : Hid (x.extract (i + 1) (bs.length - f) = toBA (bs.drop (f + (i + 1)))) := hide (by rw [unhide HXX, toBA_extract, ← hxl, List.take_length, unhide HXS, List.drop_drop])
          obtain ⟨V, hV⟩ : ∃ V, V = (wr.setCell ⟨Bn, 0, none⟩ (.string (x.extract (i + 1) (bs.length - f)))).drew := ⟨_, rfl⟩
          have hVc : V.heap[Bn]? = some (.cells #[.string (toBA (bs.drop (f + (i + 1))))] 9 (0, 0)) := by rw [hV, ← unhide hrest]; exact set_blk2 (unhide HC) rfl
          obtain ⟨fn, tmps, assign, body, hy, hR⟩ := (unhide HY) ((lnS bs f).1.map (· ++ [10])) (xs.take (i + 1)) V (by rw [hV]; exact (unhide HD) _ _ ((unhide HJ) _ _ _ (unhide HS))) hpl ⟨fun y hy => (unhide HXB) y (List.mem_of_mem_take hy), by rw [List.length_take]; omega⟩
          rw [← hline, hV] at hy
          have HRR := hide hR
          have HVC := hide hVc
          have HV := hide hV
          clear hhit hR hi2 hi3 hi hid hline hVc hV
          gi_wp2_with (refine ⟨trivial, ?_⟩; gi_at_call 145; refine (callsIn_wide.2 (unhide hcI)).mono ?_; rintro e w' ⟨rfl, hw⟩; rw [hw]; clear hw)
          gi_region
          gi_wp2
          rw [← unhide HV]
          refine (unhide HRR).mono ?_
          rintro e W3 ⟨rfl, hJ3, hk3⟩
          have HJ3 := hide hJ3
          have HC3 := hide (hk3.trans (unhide HVC))
          clear hJ3 hk3 hy
          gi_wp2
          go_roundw
          case rel =>
            refine .inl ⟨f + (i + 1), by omega, hide (by rw [(unhide HHIT).1]), HC3, hide ?_⟩
            rw [(unhide HHIT).1]
            dsimp only
            rw [List.map_append, List.map_cons, List.map_nil, ← (unhide HHIT).2]
            exact unhide HJ3
          case measure =>
            rw [remOf_at (unhide HC3), remOf_at (unhide HC), toBA_size, List.length_drop]
            omega
        · have hid : Hid (Lib.indexByte x.data.toList (10 : Int).toNat.toUInt8 = -1) := hide hi
          rw [unhide hid] at hcI
          have HREST := hide (lnS_rest bs f hf (fun j hj => by rw [← unhide HXS] at hj ⊢; exact hi2 j hj))
          obtain ⟨V, hV⟩ : ∃ V, V = wr.setCell ⟨Bn, 0, none⟩ (.string { data := #[] }) := ⟨_, rfl⟩
          have hVc : V.heap[Bn]? = some (.cells #[.string (toBA [])] 9 (0, 0)) := by rw [hV]; exact set_blk2 (unhide HC) rfl
          obtain ⟨fn, tmps, assign, body, hy, hR⟩ := (unhide HY) ((lnS bs f).1.map (· ++ [10])) xs V (by rw [hV]; exact (unhide HJ) _ _ _ (unhide HS)) hpl ⟨unhide HXB, by omega⟩
          rw [← unhide HXX, hV] at hy
          have HRR := hide hR
          have HVC := hide hVc
          have HV := hide hV
          clear hR hi2 hi hid hVc hV
          gi_wp2_with (refine ⟨trivial, ?_⟩; gi_at_call 145; refine (callsIn_wide.2 (unhide hcI)).mono ?_; rintro e w' ⟨rfl, hw⟩; rw [hw]; clear hw)
          rw [← unhide HV]
          refine (unhide HRR).mono ?_
          rintro e W3 ⟨rfl, hJ3, hk3⟩
          have HJ3 := hide hJ3
          have HC3 := hide (hk3.trans (unhide HVC))
          clear hJ3 hk3 hy
          gi_wp2
          go_roundw
          case rel =>
            refine .inr ⟨HC3, hide ?_⟩
            have e : rawL bs = (lnS bs f).1.map (· ++ [10]) ++ [xs] := by
              unfold rawL
              rw [unhide HREST, if_neg (by rw [unhide HF]; omega), unhide HF, unhide HXS]
            rw [e]
            exact unhide HJ3
          case measure =>
            rw [remOf_at (unhide HC3), remOf_at (unhide HC), toBA_size]
            simp
            omega
      · obtain rfl : f = bs.length := by omega
        have k0 : wr.cell? ⟨Bn, 0, none⟩ = some (.string { data := #[] }) := by have h := cells_of (unhide HC) 0 _ rfl; rw [List.drop_length] at h; exact h
        gi_wp2
        go_end0
        refine ⟨⟨_, rfl⟩, ?_⟩
        have e : rawL bs = (lnS bs bs.length).1.map (· ++ [10]) := by
          unfold rawL
          rw [if_pos (unhide HF), List.append_nil]
        rw [e]
        exact unhide HS
    · have k0 : wr.cell? ⟨Bn, 0, none⟩ = some (.string { data := #[] }) := cells_of (unhide HC) 0 _ rfl
      gi_wp2
      go_end0
      exact ⟨⟨_, rfl⟩, unhide HS⟩
end Go.Proofs.YtgdadidppelgdaaGreatDoor

namespace Go.Proofs.YtgdadidppelgdaaGreatDoor
open Go.RowKit Go.Shelf
attribute [local go_sem] Oper.semAt_some

theorem trim10_len (x : List Int) : (trim10 x).length ≤ x.length := by
  unfold trim10
  split
  · rw [List.length_dropLast]; omega
  · exact Nat.le_refl _
theorem trim10_bytes {x : List Int} (h : Bytes x) : Bytes (trim10 x) := by
  unfold trim10
  split
  · exact fun y hy => h y (List.dropLast_subset _ hy)
  · exact h
theorem step_append_in {F : Fence} {d : Nat} {P : Program} {w : World} {ops : Array Oper} {o : Oper} {a : Act} {K : Act → World → Prop} {Q : Exit → Act → World → Prop} {E : Prop} (hgd : o.guard = none) (s x : Operand) (t : TypeId)
    (ho : o.op = .call { callee := .builtin .append, args := #[s, x], argTypes := #[t, t] })
    (base : Nat) (e : TypeId) (i : TypeInfo) (z : Value) (size bytes : Nat) (ht : P.underlying t = some (.slice e)) (hi : P.info? e = some i) (hz : i.zero = some z)
    (hsize : i.size = size) (hby : i.bytes = bytes) (hzs : z.cells.size = size) (hsz : 0 < size)
    (v : Value) (n : Nat) (xs : List Value) (hs : a.eval s = v) (hown : w.ownsRow base e size v n xs)
    (ad : Addr) (m c : Nat) (news : List Value) (hx : a.eval x = .slice (some ad) m c) (hl : news.length = m * size) (hnews : ∀ j u, news[j]? = some u → w.cell? (ad.add j) = some u) (h1 : ∀ u ∈ news, u.oneCell' = true)
    (hm : 0 < m) (h63 : n + m ≤ maxLen) (hbytes : (n + m) * bytes ≤ 140737488355328) (hbase : base ≤ w.heap.size) (H : Nat) (hH : w.heap.size = H)
    (h : ∀ g cap w', w'.ownsRow base e size (.slice (some ⟨g, 0, none⟩) (n + m) cap) (n + m) (xs ++ news) → w.grownBy w' v.ownBlock → (v.ownBlock = some g ∨ g = H) → g < w'.heap.size → K (a.put o.dst (.slice (some ⟨g, 0, none⟩) (n + m) cap)) w') :
    if Region.wanted o (yielded ops a.tmps) = true then Oper.wpIn F d P o a w K Q else E := by
  rw [if_pos (by simp [Region.wanted, hgd])]
  obtain ⟨g, cap, w', hrun, r1, r2, r3, r4⟩ := run_append_lies (P := P) w t o.type base e i z size bytes ht hi hz hsize hby hzs hsz v n xs hown ad m c news hl hnews h1 hm h63 hbytes hbase H hH
  unfold Oper.wpIn
  refine ⟨?_, ?_⟩
  · simp [Oper.about, ho, resolve, Target.leads, Sem.run_pure]
  · rw [Oper.semAt_plain F _ _ (by rw [ho]; intro c hc'; cases hc')]
    simp [execOp, ho, resolve, invoke, builtin, hs, hx, hrun, Result.andThen]
    exact h g cap w' r1 r2 r3 r4
set_option maxRecDepth 10000 in
set_option maxHeartbeats 1000000 in
theorem strLines_any (x : ByteArray) (w : World) : Calls Tryz.prog 111 #[.string x] w fun e w' => e = .returned (.func (.func 144) #[] #[.pointer (some ⟨w.heap.size, 0, none⟩)]) ∧ w' = w.alloc (.cells #[.string x] 9) := by
  have hmf : ∀ (fn : Fn) (first cap : Array Value) (w : World), (Instr.makeFunc fn first cap).run Tryz.prog w = .ok (.func fn first cap) w := fun _ _ _ _ => rfl
  go_enter Tryz.func111, Tryz.ntmps111
  go_wp2
  go_ret
  exact ⟨rfl, rfl⟩
theorem owns_turn {base : Nat} {T : TypeId} {sz : Nat} {v : Value} {n : Nat} {xs : List Value} {A C : World} {row : Option Nat} (h : A.ownsRow base T sz v n xs) (G : A.grownBy C row) (hr : ∀ r, row = some r → ∃ o : Obj, A.heap[r]? = some o ∧ o.isCells = false) : C.ownsRow base T sz v n xs := by
  refine (Fr.grown (S := fun q => row = some q) (Fr.refl _ A) G (fun q hq => hq)).owns h (fun g hg e => ?_)
  obtain ⟨c9, k9⟩ := owns_kind h hg
  obtain ⟨o, h1, h2⟩ := hr g e
  rw [k9] at h1
  cases h1
  cases h2
set_option maxRecDepth 100000 in
set_option maxHeartbeats 4000000 in
theorem settledLines_any (v : Value) (bs : List Int) (hb : Bytes bs) (w : World) (hv : IntsAt w .u8 v bs) (hl : bs.length ≤ 1048576) (hT : Laid w) :
    Calls Tryz.prog 83 #[v] w fun e w' => ∃ u, e = .returned u ∧ Own1 w' w.heap.size 9 u (linesB bs).length (fun j => .string (atR (linesB bs) j)) ∧ Ext w w' := by
  obtain ⟨ic, hic, hc0, hc1, hc2⟩ := info_parts infoStrs
  have hmx : Tryz.prog.follows .mixedOrders = true := by kernel_rfl
  have hrun := run_b2s (P := Tryz.prog) (w.alloc (.cells #[.slice none 0 0] 28)) _ _ _ Tryz.underlying25 Tryz.underlying5 Tryz.underlying9 v bs (hv.ext ((Ext.refl w).alloc _))
  have hb0 : ((w.alloc (.cells #[.slice none 0 0] 28)).alloc (.cells #[.string (toBA bs)] 9)).heap[w.heap.size]? = some (.cells #[.slice none 0 0] 28 (0, 0)) := ((Ext.refl _).alloc _).kept (new_block w _)
  have hb1 : ((w.alloc (.cells #[.slice none 0 0] 28)).alloc (.cells #[.string (toBA bs)] 9)).heap[w.heap.size + 1]? = some (.cells #[.string (toBA bs)] 9 (0, 0)) := by
    have h := new_block (w.alloc (.cells #[.slice none 0 0] 28)) (.cells #[.string (toBA bs)] 9)
    rw [show (w.alloc (.cells #[.slice none 0 0] 28)).heap.size = w.heap.size + 1 by simp] at h
    exact h
  have hE0 : Ext w ((w.alloc (.cells #[.slice none 0 0] 28)).alloc (.cells #[.string (toBA bs)] 9)) := ((Ext.refl w).alloc _).alloc _
  have hz0 : ((w.alloc (.cells #[.slice none 0 0] 28)).alloc (.cells #[.string (toBA bs)] 9)).heap.size = w.heap.size + 2 := by simp
  have hrl : (rawL bs).length ≤ bs.length + 1 := by have := (linesB_bd bs).1; rw [raw_len]; omega
  have HT := hide hT
  have HV := hide hv
  clear hv hT
  refine (callsIn_wide (n := 5)).1 ?_
  refine callsIn_of_wp_marks Tryz.func83 rfl trivial ?_ rfl
  simp only [Tryz.ntmps83, List.size_toArray, List.length_cons, List.length_nil, Nat.reduceAdd, Nat.reduceSub, Array.replicate_succ, Array.replicate_zero, List.push_toArray, List.append_toArray, List.nil_append, List.cons_append]
  gi_wp2_with (refine ⟨trivial, ?_⟩; gi_at_call 111; refine (callsIn_wide.2 (strLines_any _ _)).mono ?_; rintro e w' ⟨rfl, rfl⟩)
  refine wpIn_range_cell rfl (by omega) (gf := 144) (lb := #[.pointer (some ⟨w.heap.size + 1, 0, none⟩)]) (by simp [go_sem]) trivial (enters_of Tryz.func144 (by kernel_rfl) rfl) (encs := fun x : List Int => #[.string (toBA x)]) (fun _ => rfl) (w.heap.size + 1) bs.length (by rw [hz0]; omega) SmallB (rawL bs)
    (fun l J W hW hJs hJd hY h0 => lines1_in _ (by omega) l (w.heap.size + 1) bs hb hl J W (hW.trans hb1) hJs hJd hY h0)
    (fun pre W => (∃ v, W.heap[w.heap.size]? = some (.cells #[v] 28 (0, 0)) ∧ W.ownsRow w.heap.size 9 1 v pre.length ((pre.map (fun x => setT (trim10 x))).map Value.string) ∧ (∀ g, v.ownBlock = some g → w.heap.size + 1 < g)) ∧ Ext w W ∧ w.heap.size + 2 ≤ W.heap.size) ?bears ?abides
    ⟨⟨_, hb0, owns_nil _ _ _ _, fun g hg => by simp [Value.ownBlock] at hg⟩, hE0, by rw [hz0]; exact Nat.le_refl _⟩
    (fun x => { tmps := #[v, undef, .slice none 0 0, .pointer (some ⟨w.heap.size, 0, none⟩), .string (toBA x), v, .string (toBA bs), .func (.func 144) #[] #[.pointer (some ⟨w.heap.size + 1, 0, none⟩)], .string (toBA x), undef, undef, undef, undef, undef, undef, undef], defers := [] }) ?assign ?body ?done
  case bears =>
    rintro pre A C row ⟨⟨v, h1, h2, h3⟩, h4, h5⟩ G hr
    rw [hz0] at hr
    refine ⟨⟨v, (G.block _ (lt_of_block h1) (fun e => by have := (hr _ e.symm).1; omega)).trans h1, owns_turn h2 G (fun r e => (hr r e).2), h3⟩, h4.grown G (fun k e => by have := (hr k e).1; omega), Nat.le_trans h5 G.size⟩
  case abides =>
    rintro pre W u ⟨⟨v, h1, h2, h3⟩, h4, h5⟩
    exact ⟨⟨v, set_else h1 (by omega), owns_setCell h2 (fun e => by have := h3 _ e; simp at this) _, h3⟩, h4.setCell (by show _ ≤ w.heap.size + 1; omega) _, by rw [World.size_setCell]; exact h5⟩
  case assign =>
    intro l x W K hK
    gi_wp2
    exact hK
  case body =>
    rintro l pre x W ⟨⟨v, hbx, hown, hg⟩, hext, hsz2⟩ hlen ⟨hxb, hxl⟩
    have k0 : W.cell? ⟨w.heap.size, 0, none⟩ = some v := cells_of hbx 0 _ rfl
    have hlw : w.heap.size + 1 < W.heap.size := by omega
    have hcT : Hid (∀ U, Calls Tryz.prog 113 #[.string (toBA x), .string { data := #[10] }] U fun e w' => e = .returned (.string (toBA (trim10 x))) ∧ w' = U) := hide (fun U => by
      have h := Any.strings_TrimSuffix Tryz.lays102 (toBA x) { data := #[10] } U (by rw [toBA_size]; omega)
      have e := trim10_lib x hxb
      refine h.mono ?_
      rintro e' w' ⟨h1, h2⟩
      exact ⟨by rw [h1, ← e], h2⟩)
    have hcS : Hid (∀ U, Ext W U → Calls Tryz.prog 112 #[.string (toBA (trim10 x))] U fun e w' => e = .returned (.string (setT (trim10 x))) ∧ Ext U w') := hide (fun U hU => implSettle_any (trim10 x) (trim10_bytes hxb) U (by have := trim10_len x; omega) ((unhide HT).below (hext.trans hU).below))
    have HB := hide hbx
    have HO := hide hown
    have HG := hide hg
    clear hbx hown hg
    gi_wp2
    refine wpIn_region_any hmx ?_
    change wpAnyIn _ _ _ _ _ _ _ _ _ (World.drew _)
    refine wpAnyIn_ready (rs := [0, 1]) (by kernel_rfl) (by simp) ?_
    refine (AllReadyIn.cons rfl (fun K hK => ?_) (AllReadyIn.cons rfl (fun K hK => ?_) AllReadyIn.nil))
    · skip
      go_simp
      refine hK _ _ ?_
      clear hK K
      refine wpAnyIn_ready (rs := [1]) (by kernel_rfl) (by simp) ?_
      refine (AllReadyIn.cons rfl (fun K hK => ?_) AllReadyIn.nil)
      · skip
        go_simp
        refine hK _ _ ?_
        clear hK K
        refine wpAnyIn_ready (rs := [2]) (by kernel_rfl) (by simp) ?_
        refine (AllReadyIn.cons rfl (fun K hK => ?_) AllReadyIn.nil)
        · skip
          go_simp
          gi_wp2_with (refine ⟨trivial, ?_⟩; gi_at_call 113; refine (CallsIn.inRound l (callsIn_wide.2 ((unhide hcT) _))).mono ?_; rintro e w3 ⟨rfl, hw⟩; rw [hw]; clear hw)
          try (refine hK _ _ ?_; clear hK K)
          refine wpAnyIn_ready (rs := [3]) (by kernel_rfl) (by simp) ?_
          refine (AllReadyIn.cons rfl (fun K hK => ?_) AllReadyIn.nil)
          · skip
            go_simp
            gi_wp2_with (refine ⟨trivial, ?_⟩; gi_at_call 112; refine (CallsIn.inRound l (callsIn_wide.2 ((unhide hcS) _ (Ext.refl W).drew))).mono ?_; rintro e w4 ⟨rfl, F4⟩; have E4 : Ext W w4 := (Ext.refl W).drew.trans F4; have z4 := E4.size; have x4 := E4.cell k0; have x4n : ∀ o, (w4.alloc o).cell? ⟨w.heap.size, 0, none⟩ = some v := (fun o => ((Ext.refl w4).alloc o).cell x4); clear F4)
            try (refine hK _ _ ?_; clear hK K)
            refine wpAnyIn_ready (rs := [4]) (by kernel_rfl) (by simp) ?_
            refine (AllReadyIn.cons rfl (fun K hK => ?_) AllReadyIn.nil)
            · skip
              go_simp
              refine hK _ _ ?_
              clear hK K
              refine wpAnyIn_ready (rs := [5]) (by kernel_rfl) (by simp) ?_
              refine (AllReadyIn.cons rfl (fun K hK => ?_) AllReadyIn.nil)
              · skip
                refine step_append_in rfl _ _ _ rfl w.heap.size 9 ic _ 1 16 Tryz.underlying28 hic hc0 hc1 hc2 rfl (by decide) v pre.length _ rfl ((E4.owns (unhide HO)).alloc _) ⟨w4.heap.size, 0, none⟩ 1 1 [.string (setT (trim10 x))] rfl rfl (World.news_of_block (cs := #[.string (setT (trim10 x))]) (t := 9) (fr := (0, 0)) (World.alloc_heap_new w4 _)) (by simp [Value.oneCell']) (by decide) (by unfold maxLen; omega) (by omega) (by simp; omega) (w4.heap.size + 1) (by simp) ?_
                intro g8 c8 w8 o8 G8 hat _
                have X8 := Fr.grown (S := fun q => v.ownBlock = some q) (w := W) (Fr.of_ext (E4.alloc _)) G8 (fun q hq => hq)
                have hb8 := X8.kept (unhide HB) (fun hq => by have := (unhide HG) _ hq; omega)
                have y8 : w8.cell? ⟨w.heap.size, 0, none⟩ = some v := cells_of hb8 0 _ rfl
                have f8 : w8.frozen? ⟨w.heap.size, 0, none⟩ = false := Lib.frozen_of_heap hb8 0
                have HB8 := hide hb8
                have HO8 : Hid (w8.ownsRow w.heap.size 9 1 (.slice (some ⟨g8, 0, none⟩) (pre.length + 1) c8) (pre ++ [x]).length (((pre ++ [x]).map (fun x => setT (trim10 x))).map Value.string)) := hide (by rw [List.length_append, List.map_append, List.map_append]; exact o8)
                have HG8 : Hid (∀ g, (Value.slice (some ⟨g8, 0, none⟩) (pre.length + 1) c8).ownBlock = some g → w.heap.size + 1 < g) := hide (fun g hg => by
                  have e9 : g = g8 := by simpa [Value.ownBlock] using hg.symm
                  subst e9
                  rcases hat with h9 | h9
                  · exact (unhide HG) g h9
                  · omega)
                have HN8 : Hid (w8.heap[w.heap.size + 1]? = W.heap[w.heap.size + 1]?) := hide (X8.block _ hlw (fun hq => by have := (unhide HG) _ hq; omega))
                have HE8 : Hid (Ext w w8) := hide (X8.ext hext (fun q hq => by have := (unhide HG) q hq; omega))
                have HK8 : Hid (KeepsOthers W w8) := hide (KeepsOthers.trans ⟨E4.size, fun j o hj ho => E4.kept hj⟩ (KeepsOthers.trans (KeepsOthers.alloc _ _) (KeepsOthers.of_grownBy G8 (fun j o hj ho => by
                  obtain ⟨c9, k9⟩ := owns_kind ((E4.owns (unhide HO)).alloc (.cells #[.string (setT (trim10 x))] 9)) hj
                  rw [k9] at ho
                  cases ho
                  rfl))))
                have HZ8 := hide X8.size
                clear X8 o8 G8 hb8 hat
                refine hK _ _ ?_
                clear hK K
                refine wpAnyIn_ready (rs := [6]) (by kernel_rfl) (by simp) ?_
                refine (AllReadyIn.cons rfl (fun K hK => ?_) AllReadyIn.nil)
                · skip
                  go_simp
                  refine hK _ _ ?_
                  clear hK K
                  refine wpAnyIn_done (by kernel_rfl) ?_ _
                  refine ⟨rfl, (unhide HK8).trans (KeepsOthers.setCell _ _ _), ?_, ⟨_, set_blk2 (unhide HB8) rfl, owns_setCell (unhide HO8) ?_ _, ?_⟩, (unhide HE8).setCell (Nat.le_refl _) _, by rw [World.size_setCell]; have := unhide HZ8; omega⟩
                  · exact (Below.heap_setCell _ ⟨w.heap.size, 0, none⟩ _ _ (by show _ ≠ w.heap.size; omega)).trans (unhide HN8)
                  · intro e9; exact absurd ((unhide HG8) _ e9) (by show ¬ (w.heap.size + 1 < w.heap.size); omega)
                  · exact unhide HG8
    · skip
      go_simp
      refine hK _ _ ?_
      clear hK K
      refine wpAnyIn_ready (rs := [0, 2]) (by kernel_rfl) (by simp) ?_
      refine (AllReadyIn.cons rfl (fun K hK => ?_) (AllReadyIn.cons rfl (fun K hK => ?_) AllReadyIn.nil))
      · skip
        go_simp
        refine hK _ _ ?_
        clear hK K
        refine wpAnyIn_ready (rs := [2]) (by kernel_rfl) (by simp) ?_
        refine (AllReadyIn.cons rfl (fun K hK => ?_) AllReadyIn.nil)
        · skip
          go_simp
          gi_wp2_with (refine ⟨trivial, ?_⟩; gi_at_call 113; refine (CallsIn.inRound l (callsIn_wide.2 ((unhide hcT) _))).mono ?_; rintro e w3 ⟨rfl, hw⟩; rw [hw]; clear hw)
          try (refine hK _ _ ?_; clear hK K)
          refine wpAnyIn_ready (rs := [3]) (by kernel_rfl) (by simp) ?_
          refine (AllReadyIn.cons rfl (fun K hK => ?_) AllReadyIn.nil)
          · skip
            go_simp
            gi_wp2_with (refine ⟨trivial, ?_⟩; gi_at_call 112; refine (CallsIn.inRound l (callsIn_wide.2 ((unhide hcS) _ (Ext.refl W).drew))).mono ?_; rintro e w4 ⟨rfl, F4⟩; have E4 : Ext W w4 := (Ext.refl W).drew.trans F4; have z4 := E4.size; have x4 := E4.cell k0; have x4n : ∀ o, (w4.alloc o).cell? ⟨w.heap.size, 0, none⟩ = some v := (fun o => ((Ext.refl w4).alloc o).cell x4); clear F4)
            try (refine hK _ _ ?_; clear hK K)
            refine wpAnyIn_ready (rs := [4]) (by kernel_rfl) (by simp) ?_
            refine (AllReadyIn.cons rfl (fun K hK => ?_) AllReadyIn.nil)
            · skip
              go_simp
              refine hK _ _ ?_
              clear hK K
              refine wpAnyIn_ready (rs := [5]) (by kernel_rfl) (by simp) ?_
              refine (AllReadyIn.cons rfl (fun K hK => ?_) AllReadyIn.nil)
              · skip
                refine step_append_in rfl _ _ _ rfl w.heap.size 9 ic _ 1 16 Tryz.underlying28 hic hc0 hc1 hc2 rfl (by decide) v pre.length _ rfl ((E4.owns (unhide HO)).alloc _) ⟨w4.heap.size, 0, none⟩ 1 1 [.string (setT (trim10 x))] rfl rfl (World.news_of_block (cs := #[.string (setT (trim10 x))]) (t := 9) (fr := (0, 0)) (World.alloc_heap_new w4 _)) (by simp [Value.oneCell']) (by decide) (by unfold maxLen; omega) (by omega) (by simp; omega) (w4.heap.size + 1) (by simp) ?_
                intro g8 c8 w8 o8 G8 hat _
                have X8 := Fr.grown (S := fun q => v.ownBlock = some q) (w := W) (Fr.of_ext (E4.alloc _)) G8 (fun q hq => hq)
                have hb8 := X8.kept (unhide HB) (fun hq => by have := (unhide HG) _ hq; omega)
                have y8 : w8.cell? ⟨w.heap.size, 0, none⟩ = some v := cells_of hb8 0 _ rfl
                have f8 : w8.frozen? ⟨w.heap.size, 0, none⟩ = false := Lib.frozen_of_heap hb8 0
                have HB8 := hide hb8
                have HO8 : Hid (w8.ownsRow w.heap.size 9 1 (.slice (some ⟨g8, 0, none⟩) (pre.length + 1) c8) (pre ++ [x]).length (((pre ++ [x]).map (fun x => setT (trim10 x))).map Value.string)) := hide (by rw [List.length_append, List.map_append, List.map_append]; exact o8)
                have HG8 : Hid (∀ g, (Value.slice (some ⟨g8, 0, none⟩) (pre.length + 1) c8).ownBlock = some g → w.heap.size + 1 < g) := hide (fun g hg => by
                  have e9 : g = g8 := by simpa [Value.ownBlock] using hg.symm
                  subst e9
                  rcases hat with h9 | h9
                  · exact (unhide HG) g h9
                  · omega)
                have HN8 : Hid (w8.heap[w.heap.size + 1]? = W.heap[w.heap.size + 1]?) := hide (X8.block _ hlw (fun hq => by have := (unhide HG) _ hq; omega))
                have HE8 : Hid (Ext w w8) := hide (X8.ext hext (fun q hq => by have := (unhide HG) q hq; omega))
                have HK8 : Hid (KeepsOthers W w8) := hide (KeepsOthers.trans ⟨E4.size, fun j o hj ho => E4.kept hj⟩ (KeepsOthers.trans (KeepsOthers.alloc _ _) (KeepsOthers.of_grownBy G8 (fun j o hj ho => by
                  obtain ⟨c9, k9⟩ := owns_kind ((E4.owns (unhide HO)).alloc (.cells #[.string (setT (trim10 x))] 9)) hj
                  rw [k9] at ho
                  cases ho
                  rfl))))
                have HZ8 := hide X8.size
                clear X8 o8 G8 hb8 hat
                refine hK _ _ ?_
                clear hK K
                refine wpAnyIn_ready (rs := [6]) (by kernel_rfl) (by simp) ?_
                refine (AllReadyIn.cons rfl (fun K hK => ?_) AllReadyIn.nil)
                · skip
                  go_simp
                  refine hK _ _ ?_
                  clear hK K
                  refine wpAnyIn_done (by kernel_rfl) ?_ _
                  refine ⟨rfl, (unhide HK8).trans (KeepsOthers.setCell _ _ _), ?_, ⟨_, set_blk2 (unhide HB8) rfl, owns_setCell (unhide HO8) ?_ _, ?_⟩, (unhide HE8).setCell (Nat.le_refl _) _, by rw [World.size_setCell]; have := unhide HZ8; omega⟩
                  · exact (Below.heap_setCell _ ⟨w.heap.size, 0, none⟩ _ _ (by show _ ≠ w.heap.size; omega)).trans (unhide HN8)
                  · intro e9; exact absurd ((unhide HG8) _ e9) (by show ¬ (w.heap.size + 1 < w.heap.size); omega)
                  · exact unhide HG8
      · skip
        go_simp
        gi_wp2_with (refine ⟨trivial, ?_⟩; gi_at_call 113; refine (CallsIn.inRound l (callsIn_wide.2 ((unhide hcT) _))).mono ?_; rintro e w3 ⟨rfl, hw⟩; rw [hw]; clear hw)
        try (refine hK _ _ ?_; clear hK K)
        refine wpAnyIn_ready (rs := [0, 3]) (by kernel_rfl) (by simp) ?_
        refine (AllReadyIn.cons rfl (fun K hK => ?_) (AllReadyIn.cons rfl (fun K hK => ?_) AllReadyIn.nil))
        · skip
          go_simp
          refine hK _ _ ?_
          clear hK K
          refine wpAnyIn_ready (rs := [3]) (by kernel_rfl) (by simp) ?_
          refine (AllReadyIn.cons rfl (fun K hK => ?_) AllReadyIn.nil)
          · skip
            go_simp
            gi_wp2_with (refine ⟨trivial, ?_⟩; gi_at_call 112; refine (CallsIn.inRound l (callsIn_wide.2 ((unhide hcS) _ (Ext.refl W).drew))).mono ?_; rintro e w4 ⟨rfl, F4⟩; have E4 : Ext W w4 := (Ext.refl W).drew.trans F4; have z4 := E4.size; have x4 := E4.cell k0; have x4n : ∀ o, (w4.alloc o).cell? ⟨w.heap.size, 0, none⟩ = some v := (fun o => ((Ext.refl w4).alloc o).cell x4); clear F4)
            try (refine hK _ _ ?_; clear hK K)
            refine wpAnyIn_ready (rs := [4]) (by kernel_rfl) (by simp) ?_
            refine (AllReadyIn.cons rfl (fun K hK => ?_) AllReadyIn.nil)
            · skip
              go_simp
              refine hK _ _ ?_
              clear hK K
              refine wpAnyIn_ready (rs := [5]) (by kernel_rfl) (by simp) ?_
              refine (AllReadyIn.cons rfl (fun K hK => ?_) AllReadyIn.nil)
              · skip
                refine step_append_in rfl _ _ _ rfl w.heap.size 9 ic _ 1 16 Tryz.underlying28 hic hc0 hc1 hc2 rfl (by decide) v pre.length _ rfl ((E4.owns (unhide HO)).alloc _) ⟨w4.heap.size, 0, none⟩ 1 1 [.string (setT (trim10 x))] rfl rfl (World.news_of_block (cs := #[.string (setT (trim10 x))]) (t := 9) (fr := (0, 0)) (World.alloc_heap_new w4 _)) (by simp [Value.oneCell']) (by decide) (by unfold maxLen; omega) (by omega) (by simp; omega) (w4.heap.size + 1) (by simp) ?_
                intro g8 c8 w8 o8 G8 hat _
                have X8 := Fr.grown (S := fun q => v.ownBlock = some q) (w := W) (Fr.of_ext (E4.alloc _)) G8 (fun q hq => hq)
                have hb8 := X8.kept (unhide HB) (fun hq => by have := (unhide HG) _ hq; omega)
                have y8 : w8.cell? ⟨w.heap.size, 0, none⟩ = some v := cells_of hb8 0 _ rfl
                have f8 : w8.frozen? ⟨w.heap.size, 0, none⟩ = false := Lib.frozen_of_heap hb8 0
                have HB8 := hide hb8
                have HO8 : Hid (w8.ownsRow w.heap.size 9 1 (.slice (some ⟨g8, 0, none⟩) (pre.length + 1) c8) (pre ++ [x]).length (((pre ++ [x]).map (fun x => setT (trim10 x))).map Value.string)) := hide (by rw [List.length_append, List.map_append, List.map_append]; exact o8)
                have HG8 : Hid (∀ g, (Value.slice (some ⟨g8, 0, none⟩) (pre.length + 1) c8).ownBlock = some g → w.heap.size + 1 < g) := hide (fun g hg => by
                  have e9 : g = g8 := by simpa [Value.ownBlock] using hg.symm
                  subst e9
                  rcases hat with h9 | h9
                  · exact (unhide HG) g h9
                  · omega)
                have HN8 : Hid (w8.heap[w.heap.size + 1]? = W.heap[w.heap.size + 1]?) := hide (X8.block _ hlw (fun hq => by have := (unhide HG) _ hq; omega))
                have HE8 : Hid (Ext w w8) := hide (X8.ext hext (fun q hq => by have := (unhide HG) q hq; omega))
                have HK8 : Hid (KeepsOthers W w8) := hide (KeepsOthers.trans ⟨E4.size, fun j o hj ho => E4.kept hj⟩ (KeepsOthers.trans (KeepsOthers.alloc _ _) (KeepsOthers.of_grownBy G8 (fun j o hj ho => by
                  obtain ⟨c9, k9⟩ := owns_kind ((E4.owns (unhide HO)).alloc (.cells #[.string (setT (trim10 x))] 9)) hj
                  rw [k9] at ho
                  cases ho
                  rfl))))
                have HZ8 := hide X8.size
                clear X8 o8 G8 hb8 hat
                refine hK _ _ ?_
                clear hK K
                refine wpAnyIn_ready (rs := [6]) (by kernel_rfl) (by simp) ?_
                refine (AllReadyIn.cons rfl (fun K hK => ?_) AllReadyIn.nil)
                · skip
                  go_simp
                  refine hK _ _ ?_
                  clear hK K
                  refine wpAnyIn_done (by kernel_rfl) ?_ _
                  refine ⟨rfl, (unhide HK8).trans (KeepsOthers.setCell _ _ _), ?_, ⟨_, set_blk2 (unhide HB8) rfl, owns_setCell (unhide HO8) ?_ _, ?_⟩, (unhide HE8).setCell (Nat.le_refl _) _, by rw [World.size_setCell]; have := unhide HZ8; omega⟩
                  · exact (Below.heap_setCell _ ⟨w.heap.size, 0, none⟩ _ _ (by show _ ≠ w.heap.size; omega)).trans (unhide HN8)
                  · intro e9; exact absurd ((unhide HG8) _ e9) (by show ¬ (w.heap.size + 1 < w.heap.size); omega)
                  · exact unhide HG8
        · skip
          go_simp
          gi_wp2_with (refine ⟨trivial, ?_⟩; gi_at_call 112; refine (CallsIn.inRound l (callsIn_wide.2 ((unhide hcS) _ (Ext.refl W).drew))).mono ?_; rintro e w4 ⟨rfl, F4⟩; have E4 : Ext W w4 := (Ext.refl W).drew.trans F4; have z4 := E4.size; have x4 := E4.cell k0; have x4n : ∀ o, (w4.alloc o).cell? ⟨w.heap.size, 0, none⟩ = some v := (fun o => ((Ext.refl w4).alloc o).cell x4); clear F4)
          try (refine hK _ _ ?_; clear hK K)
          refine wpAnyIn_ready (rs := [0, 4]) (by kernel_rfl) (by simp) ?_
          refine (AllReadyIn.cons rfl (fun K hK => ?_) (AllReadyIn.cons rfl (fun K hK => ?_) AllReadyIn.nil))
          · skip
            go_simp
            refine hK _ _ ?_
            clear hK K
            refine wpAnyIn_ready (rs := [4]) (by kernel_rfl) (by simp) ?_
            refine (AllReadyIn.cons rfl (fun K hK => ?_) AllReadyIn.nil)
            · skip
              go_simp
              refine hK _ _ ?_
              clear hK K
              refine wpAnyIn_ready (rs := [5]) (by kernel_rfl) (by simp) ?_
              refine (AllReadyIn.cons rfl (fun K hK => ?_) AllReadyIn.nil)
              · skip
                refine step_append_in rfl _ _ _ rfl w.heap.size 9 ic _ 1 16 Tryz.underlying28 hic hc0 hc1 hc2 rfl (by decide) v pre.length _ rfl ((E4.owns (unhide HO)).alloc _) ⟨w4.heap.size, 0, none⟩ 1 1 [.string (setT (trim10 x))] rfl rfl (World.news_of_block (cs := #[.string (setT (trim10 x))]) (t := 9) (fr := (0, 0)) (World.alloc_heap_new w4 _)) (by simp [Value.oneCell']) (by decide) (by unfold maxLen; omega) (by omega) (by simp; omega) (w4.heap.size + 1) (by simp) ?_
                intro g8 c8 w8 o8 G8 hat _
                have X8 := Fr.grown (S := fun q => v.ownBlock = some q) (w := W) (Fr.of_ext (E4.alloc _)) G8 (fun q hq => hq)
                have hb8 := X8.kept (unhide HB) (fun hq => by have := (unhide HG) _ hq; omega)
                have y8 : w8.cell? ⟨w.heap.size, 0, none⟩ = some v := cells_of hb8 0 _ rfl
                have f8 : w8.frozen? ⟨w.heap.size, 0, none⟩ = false := Lib.frozen_of_heap hb8 0
                have HB8 := hide hb8
                have HO8 : Hid (w8.ownsRow w.heap.size 9 1 (.slice (some ⟨g8, 0, none⟩) (pre.length + 1) c8) (pre ++ [x]).length (((pre ++ [x]).map (fun x => setT (trim10 x))).map Value.string)) := hide (by rw [List.length_append, List.map_append, List.map_append]; exact o8)
                have HG8 : Hid (∀ g, (Value.slice (some ⟨g8, 0, none⟩) (pre.length + 1) c8).ownBlock = some g → w.heap.size + 1 < g) := hide (fun g hg => by
                  have e9 : g = g8 := by simpa [Value.ownBlock] using hg.symm
                  subst e9
                  rcases hat with h9 | h9
                  · exact (unhide HG) g h9
                  · omega)
                have HN8 : Hid (w8.heap[w.heap.size + 1]? = W.heap[w.heap.size + 1]?) := hide (X8.block _ hlw (fun hq => by have := (unhide HG) _ hq; omega))
                have HE8 : Hid (Ext w w8) := hide (X8.ext hext (fun q hq => by have := (unhide HG) q hq; omega))
                have HK8 : Hid (KeepsOthers W w8) := hide (KeepsOthers.trans ⟨E4.size, fun j o hj ho => E4.kept hj⟩ (KeepsOthers.trans (KeepsOthers.alloc _ _) (KeepsOthers.of_grownBy G8 (fun j o hj ho => by
                  obtain ⟨c9, k9⟩ := owns_kind ((E4.owns (unhide HO)).alloc (.cells #[.string (setT (trim10 x))] 9)) hj
                  rw [k9] at ho
                  cases ho
                  rfl))))
                have HZ8 := hide X8.size
                clear X8 o8 G8 hb8 hat
                refine hK _ _ ?_
                clear hK K
                refine wpAnyIn_ready (rs := [6]) (by kernel_rfl) (by simp) ?_
                refine (AllReadyIn.cons rfl (fun K hK => ?_) AllReadyIn.nil)
                · skip
                  go_simp
                  refine hK _ _ ?_
                  clear hK K
                  refine wpAnyIn_done (by kernel_rfl) ?_ _
                  refine ⟨rfl, (unhide HK8).trans (KeepsOthers.setCell _ _ _), ?_, ⟨_, set_blk2 (unhide HB8) rfl, owns_setCell (unhide HO8) ?_ _, ?_⟩, (unhide HE8).setCell (Nat.le_refl _) _, by rw [World.size_setCell]; have := unhide HZ8; omega⟩
                  · exact (Below.heap_setCell _ ⟨w.heap.size, 0, none⟩ _ _ (by show _ ≠ w.heap.size; omega)).trans (unhide HN8)
                  · intro e9; exact absurd ((unhide HG8) _ e9) (by show ¬ (w.heap.size + 1 < w.heap.size); omega)
                  · exact unhide HG8
          · skip
            go_simp
            refine hK _ _ ?_
            clear hK K
            refine wpAnyIn_ready (rs := [0]) (by kernel_rfl) (by simp) ?_
            refine (AllReadyIn.cons rfl (fun K hK => ?_) AllReadyIn.nil)
            · skip
              go_simp
              refine hK _ _ ?_
              clear hK K
              refine wpAnyIn_ready (rs := [5]) (by kernel_rfl) (by simp) ?_
              refine (AllReadyIn.cons rfl (fun K hK => ?_) AllReadyIn.nil)
              · skip
                refine step_append_in rfl _ _ _ rfl w.heap.size 9 ic _ 1 16 Tryz.underlying28 hic hc0 hc1 hc2 rfl (by decide) v pre.length _ rfl ((E4.owns (unhide HO)).alloc _) ⟨w4.heap.size, 0, none⟩ 1 1 [.string (setT (trim10 x))] rfl rfl (World.news_of_block (cs := #[.string (setT (trim10 x))]) (t := 9) (fr := (0, 0)) (World.alloc_heap_new w4 _)) (by simp [Value.oneCell']) (by decide) (by unfold maxLen; omega) (by omega) (by simp; omega) (w4.heap.size + 1) (by simp) ?_
                intro g8 c8 w8 o8 G8 hat _
                have X8 := Fr.grown (S := fun q => v.ownBlock = some q) (w := W) (Fr.of_ext (E4.alloc _)) G8 (fun q hq => hq)
                have hb8 := X8.kept (unhide HB) (fun hq => by have := (unhide HG) _ hq; omega)
                have y8 : w8.cell? ⟨w.heap.size, 0, none⟩ = some v := cells_of hb8 0 _ rfl
                have f8 : w8.frozen? ⟨w.heap.size, 0, none⟩ = false := Lib.frozen_of_heap hb8 0
                have HB8 := hide hb8
                have HO8 : Hid (w8.ownsRow w.heap.size 9 1 (.slice (some ⟨g8, 0, none⟩) (pre.length + 1) c8) (pre ++ [x]).length (((pre ++ [x]).map (fun x => setT (trim10 x))).map Value.string)) := hide (by rw [List.length_append, List.map_append, List.map_append]; exact o8)
                have HG8 : Hid (∀ g, (Value.slice (some ⟨g8, 0, none⟩) (pre.length + 1) c8).ownBlock = some g → w.heap.size + 1 < g) := hide (fun g hg => by
                  have e9 : g = g8 := by simpa [Value.ownBlock] using hg.symm
                  subst e9
                  rcases hat with h9 | h9
                  · exact (unhide HG) g h9
                  · omega)
                have HN8 : Hid (w8.heap[w.heap.size + 1]? = W.heap[w.heap.size + 1]?) := hide (X8.block _ hlw (fun hq => by have := (unhide HG) _ hq; omega))
                have HE8 : Hid (Ext w w8) := hide (X8.ext hext (fun q hq => by have := (unhide HG) q hq; omega))
                have HK8 : Hid (KeepsOthers W w8) := hide (KeepsOthers.trans ⟨E4.size, fun j o hj ho => E4.kept hj⟩ (KeepsOthers.trans (KeepsOthers.alloc _ _) (KeepsOthers.of_grownBy G8 (fun j o hj ho => by
                  obtain ⟨c9, k9⟩ := owns_kind ((E4.owns (unhide HO)).alloc (.cells #[.string (setT (trim10 x))] 9)) hj
                  rw [k9] at ho
                  cases ho
                  rfl))))
                have HZ8 := hide X8.size
                clear X8 o8 G8 hb8 hat
                refine hK _ _ ?_
                clear hK K
                refine wpAnyIn_ready (rs := [6]) (by kernel_rfl) (by simp) ?_
                refine (AllReadyIn.cons rfl (fun K hK => ?_) AllReadyIn.nil)
                · skip
                  go_simp
                  refine hK _ _ ?_
                  clear hK K
                  refine wpAnyIn_done (by kernel_rfl) ?_ _
                  refine ⟨rfl, (unhide HK8).trans (KeepsOthers.setCell _ _ _), ?_, ⟨_, set_blk2 (unhide HB8) rfl, owns_setCell (unhide HO8) ?_ _, ?_⟩, (unhide HE8).setCell (Nat.le_refl _) _, by rw [World.size_setCell]; have := unhide HZ8; omega⟩
                  · exact (Below.heap_setCell _ ⟨w.heap.size, 0, none⟩ _ _ (by show _ ≠ w.heap.size; omega)).trans (unhide HN8)
                  · intro e9; exact absurd ((unhide HG8) _ e9) (by show ¬ (w.heap.size + 1 < w.heap.size); omega)
                  · exact unhide HG8
  case done =>
    rintro D W hD ⟨⟨v, h1, h2, h3⟩, h4, _⟩ hK
    have hc := cells_of h1 0 _ rfl
    rw [hz0] at hD
    gi_wp2
    refine ⟨by simp, .inl ⟨_, _, rfl, run_takeDeferred hK, ?_⟩⟩
    have G := grownBy_putObj' W D (.deferred none)
    refine ⟨_, results_tmp rfl _ _ _, v, rfl, ?_, h4.grown G (fun k e => by cases e; omega)⟩
    rw [raw_lines, raw_len] at h2
    exact own_list (owns_turn h2 G (fun r e => by cases e; exact ⟨_, hK, rfl⟩))
end Go.Proofs.YtgdadidppelgdaaGreatDoor
