import Derived.Test.YtdmkcpkmeokjiaaDoorPiece
import Derived.Test.YtdmkcpkmeokjiaaDoorRd
import Derived.Lib.ValidLaws
import Derived.Test.YtdmkcpkmeokjiaaDoorImplClean
import Derived.Test.YtdmkcpkmeokjiaaDoorRwImpl
import Derived.Test.YtdmkcpkmeokjiaaDoorSpecRune
import Derived.ProofKit
import Derived.OpenShut
import Derived.OpenVars
import Derived.Carry
import Derived.ChangeOld
import Derived.Lib.LaidU8
namespace Go.Proofs.YtdmkcpkmeokjiaaDoor
open Go.RowKit

theorem cell_heap {w w' : World} {D o : Nat} (h : w'.heap[D]? = w.heap[D]?) : w'.cell? ⟨D, o, none⟩ = w.cell? ⟨D, o, none⟩ := by
  unfold World.cell?
  simp only [h]
theorem frozen_heap {w w' : World} {D o : Nat} (h : w'.heap[D]? = w.heap[D]?) : w'.frozen? ⟨D, o, none⟩ = w.frozen? ⟨D, o, none⟩ := by
  unfold World.frozen?
  simp only [h]
/-- A reader goes with its block, where the bytes that it came with stand. -/
theorem RdAt.keep {w w1 w' : World} {D : Nat} {v : Value} {bs : List Int} {p p' : Nat} (h : RdAt w D v bs p) (h1 : RdAt w1 D v bs p') (hf : Fr (fun k => k = D) w w') (hD : w'.heap[D]? = w1.heap[D]?) : RdAt w' D v bs p' := by
  refine ⟨by rw [cell_heap hD]; exact h1.1, by rw [cell_heap hD]; exact h1.2.1, by rw [frozen_heap hD]; exact h1.2.2.1, ?_, h1.2.2.2.2.1, h.2.2.2.2.2⟩
  obtain ⟨ao, cap, e, hc, hx⟩ := h.2.2.2.1
  refine ⟨ao, cap, e, hc, fun hp => ?_⟩
  obtain ⟨b, off, e2, hcell⟩ := hx hp
  obtain ⟨b', off', n', c', e3, hne⟩ := h.2.2.2.2.2 hp
  rw [e, e2] at e3
  injection e3 with e4
  injection e4 with e5
  injection e5 with e6
  subst e6
  exact ⟨b, off, e2, fun j hj => by rw [cell_heap (hf.block b (lt_of_cell (hcell j hj)) hne)]; exact hcell j hj⟩
set_option maxRecDepth 10000 in
set_option maxHeartbeats 1000000 in
theorem l1Bytes_rd (D : Nat) (v : Value) (bs : List Int) (p0 n : Nat) (w : World) (h : RdAt w D v bs p0) (hB : Bytes bs) (hl : bs.length ≤ 16777216) (hn : n ≤ 1048576) :
    Calls Tryd.prog 27 #[.pointer (some ⟨D, 0, none⟩), .int .i64 (n : Int)] w fun e w' => ∃ v' zs, e = .returned v' ∧ (w'.ownsRow w.heap.size 5 1 v' zs.length (zs.map (Value.int .u8)) ∧ Bytes zs ∧ zs.length ≤ 4 * n) ∧ (∃ p, RdAt w' D v bs p) ∧ Fr (fun k => k = D) w w' := by
  obtain ⟨i0, hi, hz0, hz1, hz2⟩ := info_parts infoByteA
  have HR := hide h
  have hDw : D < w.heap.size := lt_of_cell h.1
  clear h
  go_enter Tryd.func27, Tryd.ntmps27
  go_wp2
  go_loopw [5, 6] (fun o i wr => ∃ (k p : Nat) (zs : List Int), k ≤ n ∧ i = .int .i64 k ∧ Hid (wr.ownsRow w.heap.size 5 1 o zs.length (zs.map (Value.int .u8))) ∧ Hid (Bytes zs) ∧ zs.length ≤ 4 * k ∧ Hid (RdAt wr D v bs p) ∧ Hid (Fr (fun q => q = D) w wr)) (fun _ i _ => n - (intOf i).toNat)
  case atStart => exact ⟨0, p0, [], Nat.zero_le _, rfl, hide (World.ownsRow_made w #[] 0 (Nat.le_refl _) (by unfold maxLen; omega) (by simp)), hide (fun x hx => by simp at hx), by simp, hide ((unhide HR).ext ((Ext.refl _).alloc _)), hide (Fr.of_ext ((Ext.refl _).alloc _))⟩
  case round =>
    obtain ⟨k, p, zs, hk, rfl, HO, HB, hlz, HRD, HF⟩ := hrel
    by_cases hlt : k < n
    · have bk : (k : Int) < (n : Int) := by omega
      have hb := hB.at0 p
      obtain ⟨x, hx⟩ : ∃ x : Nat, at0 bs p = (x : Int) := ⟨(at0 bs p).toNat, by omega⟩
      have hnx := hide (next_any D v bs p wr (unhide HRD) hB hl)
      rw [hx] at hnx
      clear hx hb
      go_wp2_with fail
      refine (unhide hnx).mono ?_
      rintro e w1 ⟨rfl, hr1, fr1⟩
      have HR1 := hide hr1
      have HO1 := hide (fr1.owns (unhide HO) (fun g hg e => by have := ((unhide HO).lt g hg).1; omega))
      have HF1 : Hid (Fr (fun q => q = D) w w1) := by
        have h1 := unhide HF
        exact hide ⟨fr1.os.trans h1.os, fr1.tape.trans h1.tape, fr1.output.trans h1.output, Nat.le_trans h1.size fr1.size, fun q hq hn => (fr1.block q (Nat.lt_of_lt_of_le hq h1.size) hn).trans (h1.block q hq hn)⟩
      clear hr1 fr1
      go_wp2_with fail
      refine (l1Piece_any x w1).mono ?_
      rintro e w2 ⟨⟨ps, rfl, hpb, hp0, hp4⟩, F2⟩
      obtain ⟨capb, w3, hrun, he3, hsz3, hcells⟩ := run_s2b (P := Tryd.prog) w2 _ _ _ Tryd.underlying9 Tryd.underlying22 Tryd.underlying5 ps hpb
      have E3 := F2.trans he3
      have HO3 := hide (E3.owns (unhide HO1))
      have HCE := hide hcells
      have z1 := (unhide HF1).size
      have z3 := E3.size
      clear hcells
      go_wp2_with (at_builtin; go_must (refine wpList_append_own _ rfl _ _ 22 rfl w.heap.size 5 i0 (.int .u8 0) 1 1 Tryd.underlying22 hi hz0 hz1 hz2 rfl (by decide) _ _ _ rfl (unhide HO3) ⟨w2.heap.size, 0, none⟩ ps.length capb (ps.map (Value.int .u8)) rfl (by simp) (unhide HCE) (ints_oneCell _ _) ?_ ?_ ?_ ?_))
      · unfold maxLen; omega
      · omega
      · omega
      · intro v' w4 hown' hgrow _
        have hO4 : Hid (w4.ownsRow w.heap.size 5 1 v' (zs ++ ps).length ((zs ++ ps).map (Value.int .u8))) := by
          refine hide ?_
          rw [List.length_append, List.map_append]
          exact hown'
        have hB4 : Hid (Bytes (zs ++ ps)) := hide (fun y hy => by
          rcases List.mem_append.1 hy with h | h
          · exact (unhide HB) y h
          · exact hpb y h)
        have hrow : ∀ q, u5.ownBlock = some q → w.heap.size ≤ q := fun q hq => ((unhide HO).lt q hq).1
        have E14 : ∀ q, q < w1.heap.size → q < w.heap.size → w4.heap[q]? = w1.heap[q]? := fun q hq hq2 => (hgrow.block q (by omega) (fun e => by have := hrow q e.symm; omega)).trans (E3.heap hq)
        have HF4 : Hid (Fr (fun q => q = D) w w4) := by
          have h1 := unhide HF1
          refine hide ⟨hgrow.os.trans (E3.os.trans h1.os), hgrow.tape.trans (E3.tape.trans h1.tape), hgrow.output.trans (E3.output.trans h1.output), by have := hgrow.size; omega, fun q hq hn => (E14 q (by omega) hq).trans (h1.block q hq hn)⟩
        have HR4 : Hid (RdAt w4 D v bs (if p < bs.length then p + 1 else p)) := by
          exact hide ((unhide HR).keep (unhide HR1) (unhide HF4) (E14 D (by omega) hDw))
        clear hown' hgrow hrun
        go_wp2
        go_roundw
        case rel => exact ⟨k + 1, _, zs ++ ps, by omega, by go_num, hO4, hB4, by simp; omega, HR4, HF4⟩
        case measure => simp [intOf]; omega
    · obtain rfl : k = n := by omega
      go_wp2
      go_ret
      exact ⟨_, zs, rfl, ⟨unhide HO, unhide HB, hlz⟩, ⟨_, unhide HRD⟩, unhide HF⟩
theorem l1Bytes_any (D : Nat) (v : Value) (bs : List Int) (p0 n : Nat) (w : World) (h : RdAt w D v bs p0) (hB : Bytes bs) (hl : bs.length ≤ 16777216) (hn : n ≤ 1048576) :
    Calls Tryd.prog 27 #[.pointer (some ⟨D, 0, none⟩), .int .i64 (n : Int)] w fun e w' => ∃ v' zs, e = .returned v' ∧ (w'.ownsRow w.heap.size 5 1 v' zs.length (zs.map (Value.int .u8)) ∧ Bytes zs ∧ zs.length ≤ 4 * n) ∧ Fr (fun k => k = D) w w' := by
  refine (l1Bytes_rd D v bs p0 n w h hB hl hn).mono ?_
  rintro e w' ⟨v', zs, rfl, h1, _, h2⟩
  exact ⟨v', zs, rfl, h1, h2⟩
end Go.Proofs.YtdmkcpkmeokjiaaDoor

namespace Go.Proofs.YtdmkcpkmeokjiaaDoor
open Go.RowKit

theorem valid_or {r : Int} (h : Utf8.valid r = true) : (0 ≤ r ∧ r ≤ 127) ∨ (128 ≤ r ∧ r ≤ 2047) ∨ ((2048 ≤ r ∧ r < 55296) ∨ (57343 < r ∧ r ≤ 65535)) ∨ (65536 ≤ r ∧ r ≤ 1114111) := by
  have hb := valid_bd h
  by_cases hs : 55296 ≤ r ∧ r ≤ 57343
  · exfalso
    unfold Utf8.valid at h
    simp at h
    omega
  · omega
theorem dec_enc (r : Int) (h : Utf8.valid r = true) (rest : List Int) : decL (encR r ++ rest) = (r, (encR r).length) := by
  rcases valid_or h with h1 | h1 | h1 | h1
  · rw [encR_one h1.1 h1.2]
    have a0 : at0 ([r] ++ rest) 0 = r := by simp [at0]
    unfold decL
    simp only [a0]
    rw [if_pos (by omega)]
    rfl
  · rw [encR_two h1.1 h1.2]
    obtain ⟨l, hl⟩ : ∃ l, l = [192 + r / 64, 128 + r % 64] ++ rest := ⟨_, rfl⟩
    have a0 : at0 l 0 = 192 + r / 64 := by rw [hl]; simp [at0]
    have a1 : at0 l 1 = 128 + r % 64 := by rw [hl]; simp [at0]
    have c1 : cont l 1 = true := by unfold cont; rw [a1, hl]; simp; omega
    have hv : v2 l = r := by unfold v2; rw [a0, a1]; omega
    rw [← hl]
    unfold decL
    rw [if_neg (by omega), if_pos ⟨by omega, c1⟩, hv, if_pos (by omega)]
    rfl
  · rw [encR_three h1]
    obtain ⟨l, hl⟩ : ∃ l, l = [224 + r / 4096, 128 + r / 64 % 64, 128 + r % 64] ++ rest := ⟨_, rfl⟩
    have a0 : at0 l 0 = 224 + r / 4096 := by rw [hl]; simp [at0]
    have a1 : at0 l 1 = 128 + r / 64 % 64 := by rw [hl]; simp [at0]
    have a2 : at0 l 2 = 128 + r % 64 := by rw [hl]; simp [at0]
    have c1 : cont l 1 = true := by unfold cont; rw [a1, hl]; simp; omega
    have c2 : cont l 2 = true := by unfold cont; rw [a2, hl]; simp; omega
    have hv : v3 l = r := by unfold v3; rw [a0, a1, a2]; omega
    rw [← hl]
    unfold decL
    rw [if_neg (by omega), if_neg (by omega), if_pos ⟨by omega, c1, c2⟩, hv, if_pos ⟨by omega, h⟩]
    rfl
  · rw [encR_four h1.1 h1.2]
    obtain ⟨l, hl⟩ : ∃ l, l = [240 + r / 262144, 128 + r / 4096 % 64, 128 + r / 64 % 64, 128 + r % 64] ++ rest := ⟨_, rfl⟩
    have a0 : at0 l 0 = 240 + r / 262144 := by rw [hl]; simp [at0]
    have a1 : at0 l 1 = 128 + r / 4096 % 64 := by rw [hl]; simp [at0]
    have a2 : at0 l 2 = 128 + r / 64 % 64 := by rw [hl]; simp [at0]
    have a3 : at0 l 3 = 128 + r % 64 := by rw [hl]; simp [at0]
    have c1 : cont l 1 = true := by unfold cont; rw [a1, hl]; simp; omega
    have c2 : cont l 2 = true := by unfold cont; rw [a2, hl]; simp; omega
    have c3 : cont l 3 = true := by unfold cont; rw [a3, hl]; simp; omega
    have hv : v4 l = r := by unfold v4; rw [a0, a1, a2, a3]; omega
    rw [← hl]
    unfold decL
    rw [if_neg (by omega), if_neg (by omega), if_neg (by omega), if_pos ⟨by omega, c1, c2, c3⟩, hv, if_pos ⟨by omega, h⟩]
    rfl
/-- A rune that Clean may give. -/
def CleanR (r : Int) : Prop := Utf8.valid r = true ∧ 32 ≤ r ∧ ¬ (127 ≤ r ∧ r ≤ 159)
theorem CleanR.shown {r : Int} (h : CleanR r) : shownI r = r := by
  unfold shownI
  rw [if_neg]
  rintro (h1 | h1 | h1)
  · rw [h.1] at h1; cases h1
  · have := h.2.1; omega
  · exact h.2.2 h1
theorem CleanR.clean {r : Int} (h : CleanR r) : cleanR r = r := by
  unfold cleanR
  rw [if_neg (by have := h.2.1; omega), h.shown]
theorem cleanR_shown (r : Int) : CleanR (shownI r) := by
  unfold shownI
  split
  · exact ⟨by decide, by omega, by omega⟩
  · rename_i h
    refine ⟨?_, by omega, by omega⟩
    cases hv : Utf8.valid r
    · exact absurd (.inl hv) h
    · rfl
theorem cleanR_clean (r : Int) : CleanR (cleanR r) := by
  unfold cleanR
  split
  · exact ⟨by decide, by omega, by omega⟩
  · exact cleanR_shown r
theorem cleanF_mem : ∀ (f : Nat) (l : List Int), ∀ x ∈ cleanF f l, CleanR x
  | 0, l => by simp [cleanF]
  | f + 1, l => by
    intro x hx
    rw [cleanF] at hx
    split at hx
    · simp at hx
    · rcases List.mem_cons.1 hx with rfl | h
      · exact cleanR_clean _
      · exact cleanF_mem f _ x h
theorem cleanL_mem (l : List Int) : ∀ x ∈ cleanL l, CleanR x := cleanF_mem _ _
/-- The bytes of runes. -/
def encA : List Int → List Int
  | [] => []
  | x :: xs => encR x ++ encA xs
theorem encA_app (xs ys : List Int) : encA (xs ++ ys) = encA xs ++ encA ys := by
  induction xs with
  | nil => rfl
  | cons x xs ih => simp [encA, ih]
theorem encR_pos (r : Int) : 0 < (encR r).length := by
  unfold encR encL
  split
  · repeat' split
    all_goals simp
  · simp
theorem clean_enc : ∀ (xs : List Int), (∀ x ∈ xs, CleanR x) → cleanL (encA xs) = xs
  | [], _ => cleanL_nil _ rfl
  | x :: xs, h => by
    have hx := h x (by simp)
    have hp := encR_pos x
    rw [encA, cleanL_step _ (by simp; omega), dec_enc x hx.1]
    simp only
    rw [hx.clean, List.drop_left, clean_enc xs (fun y hy => h y (by simp [hy]))]
/-- All runes of clusters. -/
def flat : List (List Int × Int) → List Int
  | [] => []
  | c :: cs => c.1 ++ flat cs
theorem flat_app (xs ys : List (List Int × Int)) : flat (xs ++ ys) = flat xs ++ flat ys := by
  induction xs with
  | nil => rfl
  | cons x xs ih => simp [flat, ih]
theorem txR_all (xs : List Int) : ∀ k, k ≤ xs.length → txR xs k = encA (xs.take k)
  | 0, _ => by simp [txR, encA]
  | k + 1, h => by
    rw [txR, txR_all xs k (by omega), List.take_succ_eq_append_getElem (by omega), encA_app]
    simp [encA, at0, show k < xs.length by omega]
theorem txT_all (cs : List (List Int × Int)) : ∀ k, k ≤ cs.length → txT cs k = encA (flat (cs.take k))
  | 0, _ => by simp [txT, flat, encA]
  | k + 1, h => by
    rw [txT, txT_all cs k (by omega), List.take_succ_eq_append_getElem (by omega), flat_app, encA_app, txR_all _ _ (Nat.le_refl _), List.take_length]
    simp [flat, cR, show k < cs.length by omega]
theorem textC_flat (cs : List (List Int × Int)) : textC cs = encA (flat cs) := by
  rw [textC, txT_all cs cs.length (Nat.le_refl _), List.take_length]
theorem flat_set (cs : List (List Int × Int)) (x d : Int) (h : 0 < cs.length) : flat (cs.set (cs.length - 1) (cR cs (cs.length - 1) ++ [x], d)) = flat cs ++ [x] := by
  obtain ⟨ys, y, rfl⟩ : ∃ ys y, cs = ys ++ [y] := ⟨cs.dropLast, cs.getLast (by intro e; simp [e] at h), (List.dropLast_concat_getLast _).symm⟩
  have : (ys ++ [y]).length - 1 = ys.length := by simp
  rw [this, List.set_append_right _ _ (Nat.le_refl _), Nat.sub_self]
  simp [flat_app, flat, cR]
/-- With U+25CC in front where the first has no width. -/
def fl (xs : List Int) : List Int := if xs = [] then [] else if 0 < wid (at0 xs 0) then xs else 9676 :: xs
theorem clF_flat (xs : List Int) : ∀ k, k ≤ xs.length → (clF xs k).length = 0 ∧ k = 0 ∨ 0 < (clF xs k).length ∧ 0 < k ∧ flat (clF xs k) = fl ((xs.take k).map shownI)
  | 0, _ => .inl ⟨rfl, rfl⟩
  | k + 1, h => by
    right
    have hk : k < xs.length := by omega
    have ht : (xs.take (k + 1)).map shownI = (xs.take k).map shownI ++ [shownI (at0 xs k)] := by
      rw [List.take_succ_eq_append_getElem hk, List.map_append]
      simp [at0, hk]
    rcases clF_flat xs k (by omega) with ⟨h1, h2⟩ | ⟨h1, h2, h3⟩
    · subst h2
      rw [clF, clStep]
      have e0 : clF xs 0 = [] := rfl
      rw [ht, e0]
      by_cases hw : 0 < wid (shownI (at0 xs 0))
      · rw [if_pos hw]
        simp [flat, fl, at0] at hw ⊢
        exact hw
      · rw [if_neg hw]
        simp [flat, fl, at0] at hw ⊢
        exact hw
    · have hf : ∀ y, fl ((xs.take k).map shownI ++ [y]) = fl ((xs.take k).map shownI) ++ [y] := by
        intro y
        have hne : (xs.take k).map shownI ≠ [] := by
          intro e
          have h9 := congrArg List.length e
          rw [List.length_map, List.length_take, List.length_nil] at h9
          omega
        have ha : at0 ((xs.take k).map shownI ++ [y]) 0 = at0 ((xs.take k).map shownI) 0 := by
          unfold at0
          rw [List.getElem?_append_left (by simp; omega)]
        unfold fl
        rw [if_neg (by simp), if_neg hne, ha]
        split <;> simp
      rw [clF, clStep, ht, hf]
      by_cases hw : 0 < wid (shownI (at0 xs k))
      · rw [if_pos hw]
        refine ⟨by simp, by omega, ?_⟩
        rw [flat_app, h3]
        simp [flat]
      · rw [if_neg hw, if_neg (by omega)]
        refine ⟨by simpa using h1, by omega, ?_⟩
        rw [flat_set _ _ _ h1, h3]
theorem clus_flat (xs : List Int) (h : ∀ x ∈ xs, CleanR x) : flat (clusC xs) = fl xs := by
  have hm : xs.map shownI = xs := by
    conv => rhs; rw [← List.map_id xs]
    exact List.map_congr_left fun x hx => (h x hx).shown
  unfold clusC
  rcases clF_flat xs xs.length (Nat.le_refl _) with ⟨h1, h2⟩ | ⟨_, _, h3⟩
  · have e : xs = [] := List.eq_nil_of_length_eq_zero h2
    subst e
    rfl
  · rw [h3, List.take_length, hm]
theorem fl_clean (xs : List Int) (h : ∀ x ∈ xs, CleanR x) : ∀ x ∈ fl xs, CleanR x := by
  unfold fl
  split
  · simp
  · split
    · exact h
    · intro x hx
      rcases List.mem_cons.1 hx with rfl | hx
      · exact ⟨by decide, by omega, by omega⟩
      · exact h x hx
theorem fl_fl (xs : List Int) : fl (fl xs) = fl xs := by
  by_cases h : xs = []
  · subst h; rfl
  · by_cases hw : 0 < wid (at0 xs 0)
    · have : fl xs = xs := by unfold fl; rw [if_neg h, if_pos hw]
      rw [this, this]
    · have : fl xs = 9676 :: xs := by unfold fl; rw [if_neg h, if_neg hw]
      rw [this]
      conv => lhs; unfold fl
      rw [if_neg (by simp), if_pos (by show 0 < wid 9676; decide)]
theorem settleL_enc (bs : List Int) : settleL bs = encA (fl (cleanL bs)) := by
  rw [settleL, textC_flat, clus_flat _ (cleanL_mem bs)]
theorem settle_twice (bs : List Int) : settleL (settleL bs) = settleL bs := by
  rw [settleL_enc (settleL bs), settleL_enc bs, clean_enc _ (fl_clean _ (cleanL_mem bs)), fl_fl]
end Go.Proofs.YtdmkcpkmeokjiaaDoor

namespace Go.Proofs.YtdmkcpkmeokjiaaDoor
open Go.RowKit

/-- The runes of bytes as 'range' gives them. -/
def runesF : Nat → List Int → List Int
  | 0, _ => []
  | f + 1, l => if l.length = 0 then [] else (decL l).1 :: runesF f (l.drop (decL l).2)
def runesL (l : List Int) : List Int := runesF l.length l
theorem runesF_fuel : ∀ (f g : Nat) (l : List Int), l.length ≤ f → l.length ≤ g → runesF f l = runesF g l
  | 0, 0, _, _, _ => rfl
  | 0, g + 1, l, h, _ => by simp [runesF]; exact List.eq_nil_of_length_eq_zero (by omega)
  | f + 1, 0, l, _, h => by simp [runesF]; exact List.eq_nil_of_length_eq_zero (by omega)
  | f + 1, g + 1, l, h1, h2 => by
    simp only [runesF]
    split
    · rfl
    · have hp := decL_pos l
      rw [runesF_fuel f g _ (by simp; omega) (by simp; omega)]
theorem runesL_step (l : List Int) (h : 0 < l.length) : runesL l = (decL l).1 :: runesL (l.drop (decL l).2) := by
  unfold runesL
  obtain ⟨m, hm⟩ : ∃ m, l.length = m + 1 := ⟨l.length - 1, by omega⟩
  have hp := decL_pos l
  rw [hm]
  simp only [runesF]
  rw [if_neg (by omega), runesF_fuel m _ _ (by simp; omega) (Nat.le_refl _)]
theorem clean_runes (l : List Int) : cleanL l = (runesL l).map cleanR := by
  have : ∀ f (l : List Int), cleanF f l = (runesF f l).map cleanR := by
    intro f
    induction f with
    | zero => intro l; rfl
    | succ f ih =>
      intro l
      simp only [cleanF, runesF]
      split
      · rfl
      · rw [ih]; rfl
  exact this _ _
theorem runes_enc : ∀ (xs : List Int), (∀ x ∈ xs, Utf8.valid x = true) → runesL (encA xs) = xs
  | [], _ => rfl
  | x :: xs, h => by
    have hp := encR_pos x
    rw [encA, runesL_step _ (by simp; omega), dec_enc x (h x (by simp))]
    simp only
    rw [List.drop_left, runes_enc xs (fun y hy => h y (by simp [hy]))]
/-- Bytes that are their runes' UTF-8. -/
def ValidL (l : List Int) : Prop := encA (runesL l) = l
/-- What 'settled' looks for. -/
theorem settled_iff (l : List Int) : settleL l = l ↔ (∀ r ∈ runesL l, shownI r = r) ∧ (runesL l ≠ [] → 0 < wid (at0 (runesL l) 0)) ∧ ValidL l := by
  constructor
  · intro h
    have hc := fl_clean _ (cleanL_mem l)
    have he : runesL l = fl (cleanL l) := by
      have := runes_enc (fl (cleanL l)) (fun x hx => (hc x hx).1)
      rw [← settleL_enc, h] at this
      exact this
    refine ⟨fun r hr => ?_, fun hne => ?_, ?_⟩
    · rw [he] at hr
      exact (hc r hr).shown
    · rw [he] at hne ⊢
      unfold fl at hne ⊢
      split
      · rename_i e; rw [if_pos e] at hne; exact absurd rfl hne
      · split
        · assumption
        · show 0 < wid 9676
          decide
    · unfold ValidL
      rw [he, ← settleL_enc, h]
  · rintro ⟨h1, h2, h3⟩
    have hm : cleanL l = runesL l := by
      rw [clean_runes]
      conv => rhs; rw [← List.map_id (runesL l)]
      refine List.map_congr_left fun r hr => ?_
      have := h1 r hr
      unfold cleanR
      split
      · rename_i e
        subst e
        exact absurd this (by decide)
      · exact this
    rw [settleL_enc, hm]
    have hf : fl (runesL l) = runesL l := by
      unfold fl
      split
      · rename_i e; exact e.symm
      · rename_i e
        rw [if_pos (h2 e)]
    rw [hf]
    exact h3
end Go.Proofs.YtdmkcpkmeokjiaaDoor

namespace Go.Proofs.YtdmkcpkmeokjiaaDoor
open Go.RowKit

theorem split2 {bs : List Int} (h : 1 < bs.length) : bs = at0 bs 0 :: at0 bs 1 :: bs.drop 2 := by
  match bs, h with
  | a :: b :: r, _ => rfl
theorem split3 {bs : List Int} (h : 2 < bs.length) : bs = at0 bs 0 :: at0 bs 1 :: at0 bs 2 :: bs.drop 3 := by
  match bs, h with
  | a :: b :: c :: r, _ => rfl
theorem split4 {bs : List Int} (h : 3 < bs.length) : bs = at0 bs 0 :: at0 bs 1 :: at0 bs 2 :: at0 bs 3 :: bs.drop 4 := by
  match bs, h with
  | a :: b :: c :: d :: r, _ => rfl
theorem cont_bd {l : List Int} {k : Nat} (h : cont l k = true) : k < l.length ∧ 128 ≤ at0 l k ∧ at0 l k ≤ 191 := by
  unfold cont at h
  simp at h
  exact ⟨h.1.1, h.1.2, h.2⟩
/-- What was decoded, and is no mark of an error, encodes to the bytes that it was decoded from. -/
theorem enc_dec (bs : List Int) (hb : Bytes bs) (h0 : 0 < bs.length) (hv : ¬ ((decL bs).1 = 65533 ∧ (decL bs).2 = 1)) : encR (decL bs).1 ++ bs.drop (decL bs).2 = bs := by
  have b0 := hb.at0 0
  unfold decL at hv ⊢
  by_cases h1 : at0 bs 0 < 128
  · rw [if_pos h1]
    have hval : Utf8.valid (at0 bs 0) = true := by unfold Utf8.valid; simp; omega
    show encR (at0 bs 0) ++ bs.drop 1 = bs
    rw [encR, if_pos hval, encL, if_pos (by omega)]
    match bs, h0 with
    | a :: r, _ => rfl
  rw [if_neg h1] at hv ⊢
  by_cases h2 : (192 ≤ at0 bs 0 ∧ at0 bs 0 < 224) ∧ cont bs 1 = true
  · rw [if_pos h2] at hv ⊢
    obtain ⟨hl, k1, k2⟩ := cont_bd h2.2
    by_cases h3 : 128 ≤ v2 bs
    · rw [if_pos h3]
      show encR (v2 bs) ++ bs.drop 2 = bs
      have hval : Utf8.valid (v2 bs) = true := by unfold v2 at h3 ⊢; unfold Utf8.valid; simp; omega
      rw [encR, if_pos hval]
      conv => rhs; rw [split2 hl]
      have e : encL (v2 bs) = [at0 bs 0, at0 bs 1] := by
        unfold encL v2 at *
        rw [if_neg (by omega), if_pos (by omega)]
        have : (at0 bs 0 % 32 * 64 + at0 bs 1 - 128) / 64 = at0 bs 0 - 192 := by omega
        have : (at0 bs 0 % 32 * 64 + at0 bs 1 - 128) % 64 = at0 bs 1 - 128 := by omega
        simp
        omega
      rw [e]; rfl
    · rw [if_neg h3] at hv
      exact absurd ⟨rfl, rfl⟩ hv
  rw [if_neg h2] at hv ⊢
  by_cases h4 : (224 ≤ at0 bs 0 ∧ at0 bs 0 < 240) ∧ cont bs 1 = true ∧ cont bs 2 = true
  · rw [if_pos h4] at hv ⊢
    obtain ⟨_, k1, k2⟩ := cont_bd h4.2.1
    obtain ⟨hl, k3, k4⟩ := cont_bd h4.2.2
    by_cases h3 : 2048 ≤ v3 bs ∧ Utf8.valid (v3 bs) = true
    · rw [if_pos h3]
      show encR (v3 bs) ++ bs.drop 3 = bs
      rw [encR, if_pos h3.2]
      conv => rhs; rw [split3 hl]
      have e : encL (v3 bs) = [at0 bs 0, at0 bs 1, at0 bs 2] := by
        have h3' := h3.1
        unfold encL v3 at *
        rw [if_neg (by omega), if_neg (by omega), if_pos (by omega)]
        simp
        omega
      rw [e]; rfl
    · rw [if_neg h3] at hv
      exact absurd ⟨rfl, rfl⟩ hv
  rw [if_neg h4] at hv ⊢
  by_cases h5 : (240 ≤ at0 bs 0 ∧ at0 bs 0 < 248) ∧ cont bs 1 = true ∧ cont bs 2 = true ∧ cont bs 3 = true
  · rw [if_pos h5] at hv ⊢
    obtain ⟨_, k1, k2⟩ := cont_bd h5.2.1
    obtain ⟨_, k3, k4⟩ := cont_bd h5.2.2.1
    obtain ⟨hl, k5, k6⟩ := cont_bd h5.2.2.2
    by_cases h3 : 65536 ≤ v4 bs ∧ Utf8.valid (v4 bs) = true
    · rw [if_pos h3]
      show encR (v4 bs) ++ bs.drop 4 = bs
      rw [encR, if_pos h3.2]
      conv => rhs; rw [split4 hl]
      have e : encL (v4 bs) = [at0 bs 0, at0 bs 1, at0 bs 2, at0 bs 3] := by
        have h3' := h3.1
        unfold encL v4 at *
        rw [if_neg (by omega), if_neg (by omega), if_neg (by omega)]
        simp
        omega
      rw [e]; rfl
    · rw [if_neg h3] at hv
      exact absurd ⟨rfl, rfl⟩ hv
  · rw [if_neg h5] at hv
    exact absurd ⟨rfl, rfl⟩ hv
theorem toBA_drop (bs : List Int) (m : Nat) : (toBA bs).data.toList.drop m = (toBA (bs.drop m)).data.toList := by
  rw [toBA_list, toBA_list, List.map_drop]
theorem decodeL_is (bs : List Int) (hb : Bytes bs) : (((Lib.decodeL (toBA bs).data.toList).1 : Int), (Lib.decodeL (toBA bs).data.toList).2) = decL bs := by
  have h := decode_is bs hb 0
  rw [List.drop_zero] at h
  exact h
theorem valid_iff : ∀ (f : Nat) (bs : List Int), bs.length ≤ f → Bytes bs → (Lib.validD (toBA bs).data.toList = true ↔ ValidL bs) := by
  intro f
  induction f with
  | zero =>
    intro bs h hb
    have : bs = [] := List.eq_nil_of_length_eq_zero (by omega)
    subst this
    exact ⟨fun _ => rfl, fun _ => rfl⟩
  | succ f ih =>
    intro bs h hb
    by_cases h0 : bs.length = 0
    · have : bs = [] := List.eq_nil_of_length_eq_zero h0
      subst this
      exact ⟨fun _ => rfl, fun _ => rfl⟩
    have hne : (toBA bs).data.toList ≠ [] := by
      intro e
      have := congrArg List.length e
      rw [toBA_list, List.length_map] at this
      exact h0 this
    have hd := decodeL_is bs hb
    have hp := decL_pos bs
    have e1 : ((Lib.decodeL (toBA bs).data.toList).1 : Int) = (decL bs).1 := congrArg Prod.fst hd
    have e2 : (Lib.decodeL (toBA bs).data.toList).2 = (decL bs).2 := congrArg Prod.snd hd
    rw [Lib.validD_step _ hne, e2, toBA_drop]
    have hiff : ((Lib.decodeL (toBA bs).data.toList).1 = 65533 ∧ (decL bs).2 = 1) ↔ ((decL bs).1 = 65533 ∧ (decL bs).2 = 1) := by rw [← e1]; omega
    unfold ValidL
    rw [runesL_step bs (by omega), encA]
    by_cases hv : (decL bs).1 = 65533 ∧ (decL bs).2 = 1
    · rw [if_pos (hiff.2 hv)]
      refine ⟨fun e => (by cases e), fun e => ?_⟩
      rw [hv.1] at e
      have h3 := dec_enc 65533 (by decide) (encA (runesL (bs.drop (decL bs).2)))
      rw [e] at h3
      have h5 : (decL bs).2 = (encR 65533).length := congrArg Prod.snd h3
      have h4 : (encR 65533).length = 3 := by decide
      omega
    · rw [if_neg (fun e => hv (hiff.1 e)), ih (bs.drop (decL bs).2) (by simp; omega) (hb.drop _)]
      have hed := enc_dec bs hb (by omega) hv
      unfold ValidL
      constructor
      · intro e; rw [e]; exact hed
      · intro e
        have := e.trans hed.symm
        exact List.append_cancel_left this
end Go.Proofs.YtdmkcpkmeokjiaaDoor

namespace Go.Proofs.YtdmkcpkmeokjiaaDoor
open Go.RowKit

set_option maxRecDepth 10000 in
set_option maxHeartbeats 1000000 in
theorem runeCount_any (bs : List Int) (hb : Bytes bs) (w : World) (hl : bs.length ≤ 16777216) :
    Calls Tryd.prog 47 #[.string (toBA bs)] w fun e w' => e = .returned (.int .i64 ((cleanL bs).length : Int)) ∧ Ext w w' := by
  obtain ⟨S, hS⟩ : ∃ S, S = toBA bs := ⟨_, rfl⟩
  have hss : S.size = bs.length := by rw [hS, toBA_size]
  have HS := hide hS
  have HSS := hide hss
  rw [← hS]
  clear hS hss
  go_enter Tryd.func47, Tryd.ntmps47
  go_wp2
  go_loopw [2] (fun o wr => ∃ (k : Nat) (acc : List Int), k ≤ bs.length ∧ Hid (Mid bs k acc) ∧ wr.heap[w.heap.size]? = some (.stringIter S k) ∧ o = .int .i64 (acc.length : Int) ∧ Ext w wr) (fun _ wr => bs.length - wr.iterPos w.heap.size)
  case atStart => exact ⟨0, [], Nat.zero_le _, ⟨by simp, by simp⟩, World.iter_heap w S 0, rfl, (Ext.refl _).alloc _⟩
  case round =>
    obtain ⟨k, acc, hk, HM, hit, rfl, hext⟩ := hrel
    have hszr : w.heap.size < wr.heap.size := (Array.getElem?_eq_some_iff.1 hit).1
    by_cases hlt : k < bs.length
    · obtain ⟨r, m, hd⟩ : ∃ r m, decL (bs.drop k) = (r, m) := ⟨_, _, rfl⟩
      have hp := decL_pos (bs.drop k)
      have hq := decL_len (bs.drop k) (by simp; omega)
      have HM2 : Hid (Mid bs (k + m) (acc ++ [cleanR r])) := by
        have := HM.out.step hlt
        rw [hd] at this
        exact this
      have hdec := decode_is bs hb k
      rw [hd] at hp hq hdec
      rw [← HS.out] at hdec
      simp only [Prod.mk.injEq] at hdec
      have hnx := fun ty => Lib.run_next_any_at (P := Tryd.prog) wr w.heap.size S k ty hit (by rw [HSS.out]; exact hlt)
      rw [hdec.1, hdec.2] at hnx
      simp only [List.length_drop] at hp hq
      have hal := HM.out.2
      have hm2 : k + m ≤ bs.length := by omega
      have hit1 := Lib.iterAt_heap wr w.heap.size S k (k + m) hit
      have hext1 : Ext w (wr.iterAt w.heap.size S (k + m)) := hext.grown (grown_iterAt _ _ _ _) (fun k hk => by simp at hk; omega)
      have hP : bs.length - (wr.iterAt w.heap.size S (k + m)).iterPos w.heap.size < bs.length - wr.iterPos w.heap.size := by
        simp only [World.iterPos, hit1, hit]; omega
      have HP := hide hP
      have HI := hide hit1
      have hw : IntKind.i64.wrap ((acc.length : Int) + 1) = (acc.length : Int) + 1 := by rw [IntKind.wrap_i64]; omega
      have hlen : Hid (((acc ++ [cleanR r]).length : Int) = (acc.length : Int) + 1) := by show _ = _; simp
      clear hdec hd hP hit1
      go_wp2
      go_roundw
      case rel => exact ⟨k + m, _, hm2, HM2, unhide HI, by rw [hlen.out], hext1⟩
      case measure => exact unhide HP
    · have HE : Hid (acc = cleanL bs) := HM.out.done (by omega)
      have hnx := fun ty => Lib.run_next_end_at (P := Tryd.prog) wr w.heap.size S k ty hit (by rw [HSS.out]; omega)
      go_wp2
      go_ret
      rw [← HE.out]
      exact ⟨rfl, hext⟩
end Go.Proofs.YtdmkcpkmeokjiaaDoor

namespace Go.Proofs.YtdmkcpkmeokjiaaDoor
open Go.RowKit

theorem decL_bd (l : List Int) (hb : Bytes l) : 0 ≤ (decL l).1 ∧ (decL l).1 ≤ 1114111 := by
  have h0 := hb.at0 0
  unfold decL
  split
  · dsimp only; omega
  · split
    · rename_i h1 h2
      have c1 := cont_len h2.2
      split
      · dsimp only; unfold v2; omega
      · dsimp only; omega
    · split
      · split
        · rename_i h5; exact valid_bd h5.2
        · dsimp only; omega
      · split
        · split
          · rename_i h5; exact valid_bd h5.2
          · dsimp only; omega
        · dsimp only; omega
theorem wid_bd' (r : Int) : 0 ≤ wid r ∧ wid r ≤ 2 := by
  unfold wid
  repeat' split
  all_goals omega
set_option maxRecDepth 10000 in
set_option maxHeartbeats 1000000 in
theorem settled_any (bs : List Int) (hb : Bytes bs) (w : World) (hl : bs.length ≤ 16777216) (hT : Laid w) (vb : Bool) (hvb : vb = true ↔ ValidL bs)
    (hval : ∀ W, Ext w W → Calls Tryd.prog 57 #[.string (toBA bs)] W fun e w' => e = .returned (.bool vb) ∧ Ext W w')
    (ok : Bool) (hok : ok = true ↔ settleL bs = bs) :
    Calls Tryd.prog 46 #[.string (toBA bs)] w fun e w' => e = .returned (.bool ok) ∧ Ext w w' := by
  rw [settled_iff] at hok
  obtain ⟨S, hS⟩ : ∃ S, S = toBA bs := ⟨_, rfl⟩
  have hss : S.size = bs.length := by rw [hS, toBA_size]
  have HS := hide hS
  have HSS := hide hss
  rw [← hS] at hval ⊢
  have HVAL := hide hval
  have HT := hide hT
  have HOK := hide hok
  have HVB := hide hvb
  clear hS hss hval hT hok hvb
  go_enter Tryd.func46, Tryd.ntmps46
  go_wp2
  go_loopw [] (fun wr => ∃ (k : Nat) (acc : List Int), k ≤ bs.length ∧ Hid (runesL bs = acc ++ runesL (bs.drop k) ∧ (∀ r ∈ acc, shownI r = r) ∧ (0 < k → acc ≠ [] ∧ 0 < wid (at0 acc 0)) ∧ (k = 0 → acc = [])) ∧ wr.heap[w.heap.size]? = some (.stringIter S k) ∧ Ext w wr) (fun wr => bs.length - wr.iterPos w.heap.size)
  case atStart => exact ⟨0, [], Nat.zero_le _, hide ⟨by simp, by simp, by simp, by simp⟩, World.iter_heap w S 0, (Ext.refl _).alloc _⟩
  case round =>
    obtain ⟨k, acc, hk, HM, hit, hext⟩ := hrel
    have hszr : w.heap.size < wr.heap.size := (Array.getElem?_eq_some_iff.1 hit).1
    by_cases hlt : k < bs.length
    · obtain ⟨r, m, hd⟩ : ∃ r m, decL (bs.drop k) = (r, m) := ⟨_, _, rfl⟩
      have hp := decL_pos (bs.drop k)
      have hq := decL_len (bs.drop k) (by simp; omega)
      have hrb := decL_bd (bs.drop k) (hb.drop k)
      have hstep := runesL_step (bs.drop k) (by simp; omega)
      have hdec := decode_is bs hb k
      rw [hd] at hp hq hdec hrb hstep
      rw [← HS.out] at hdec
      simp only [Prod.mk.injEq] at hdec
      simp only [List.drop_drop] at hstep
      have hnx := fun ty => Lib.run_next_any_at (P := Tryd.prog) wr w.heap.size S k ty hit (by rw [HSS.out]; exact hlt)
      rw [hdec.1, hdec.2] at hnx
      simp only [List.length_drop] at hp hq
      have hm2 : k + m ≤ bs.length := by omega
      have hit1 := Lib.iterAt_heap wr w.heap.size S k (k + m) hit
      have hext1 : Ext w (wr.iterAt w.heap.size S (k + m)) := hext.grown (grown_iterAt _ _ _ _) (fun k hk => by simp at hk; omega)
      have hP : bs.length - (wr.iterAt w.heap.size S (k + m)).iterPos w.heap.size < bs.length - wr.iterPos w.heap.size := by
        simp only [World.iterPos, hit1, hit]; omega
      have HP := hide hP
      have HI := hide hit1
      have hrun : Hid (runesL bs = (acc ++ [r]) ++ runesL (bs.drop (k + m))) := by
        refine hide ?_
        rw [(unhide HM).1, hstep]
        simp
      have HX1 := hide hext1
      clear hdec hd hP hit1 hstep hext1
      by_cases hsr : shownI r = r
      · by_cases hk0 : k = 0
        · subst hk0
          have hacc : acc = [] := (unhide HM).2.2.2 rfl
          subst hacc
          simp only [Nat.zero_add] at HX1 HI hrun hm2 HP hnx
          have T1 := hide ((unhide HT).below (unhide HX1).below)
          have hwb := wid_bd' r
          go_wp2_with fail
          refine (showable_any _ _).mono ?_
          rintro e w2 ⟨rfl, rfl⟩
          rw [hsr]
          go_wp2_with fail
          refine (implRW_any r _ (by omega) (by omega) (unhide T1)).mono ?_
          rintro e w3 ⟨rfl, hb3⟩
          have F3 := Ext.of_below hb3
          have X3 := (unhide HX1).trans F3
          have hI3 : w3.heap[w.heap.size]? = some (.stringIter S m) := by
            rw [F3.heap (by rw [Lib.iterAt_size]; exact hszr)]
            exact unhide HI
          have HI3 := hide hI3
          have HP3 : Hid (bs.length - w3.iterPos w.heap.size < bs.length - wr.iterPos w.heap.size) := by
            refine hide ?_
            simp only [World.iterPos, hI3, hit]; omega
          clear hb3 hI3
          by_cases hw0 : wid r = 0
          · have hno : Hid (ok = false) := by
              refine hide ?_
              cases ok
              · rfl
              · exfalso
                have h1 := ((unhide HOK).1 rfl).2.1 (by rw [unhide hrun]; simp)
                rw [unhide hrun] at h1
                simp [at0] at h1
                omega
            go_wp2
            go_ret
            exact ⟨by rw [hno.out]; rfl, X3⟩
          · have hwp : 0 < wid r := by omega
            have HM' : Hid (runesL bs = ([] ++ [r]) ++ runesL (bs.drop m) ∧ (∀ x ∈ [] ++ [r], shownI x = x) ∧ (0 < m → [] ++ [r] ≠ [] ∧ 0 < wid (at0 ([] ++ [r]) 0)) ∧ (m = 0 → ([] : List Int) ++ [r] = [])) :=
              hide ⟨unhide hrun, by simpa using hsr, fun _ => ⟨by simp, by simpa [at0] using hwp⟩, fun h => by omega⟩
            go_wp2
            go_roundw
            case rel => exact ⟨m, [] ++ [r], hm2, HM', unhide HI3, X3⟩
            case measure => exact unhide HP3
        · have HM' : Hid (runesL bs = (acc ++ [r]) ++ runesL (bs.drop (k + m)) ∧ (∀ x ∈ acc ++ [r], shownI x = x) ∧ (0 < k + m → acc ++ [r] ≠ [] ∧ 0 < wid (at0 (acc ++ [r]) 0)) ∧ (k + m = 0 → acc ++ [r] = [])) := by
            have h1 := unhide HM
            have h2 := h1.2.2.1 (by omega)
            have hal : 0 < acc.length := List.length_pos_iff.2 h2.1
            refine hide ⟨unhide hrun, fun x hx => ?_, fun _ => ⟨by simp, ?_⟩, fun h => by omega⟩
            · rcases List.mem_append.1 hx with h | h
              · exact h1.2.1 x h
              · simp at h; rw [h]; exact hsr
            · have : at0 (acc ++ [r]) 0 = at0 acc 0 := by unfold at0; rw [List.getElem?_append_left hal]
              rw [this]; exact h2.2
          have hkI : ((k : Int) == 0) = false := by rw [beq_eq_false_iff_ne]; omega
          have hkI2 : ¬ ((k : Int) = 0) := by omega
          go_wp2_with fail
          refine (showable_any _ _).mono ?_
          rintro e w2 ⟨rfl, rfl⟩
          rw [hsr]
          go_wp2
          go_roundw
          case rel => exact ⟨k + m, acc ++ [r], hm2, HM', unhide HI, unhide HX1⟩
          case measure => exact unhide HP
      · have hno : Hid (ok = false) := by
          refine hide ?_
          cases ok
          · rfl
          · exact absurd (((unhide HOK).1 rfl).1 r (by rw [unhide hrun]; simp)) hsr
        go_wp2_with fail
        refine (showable_any _ _).mono ?_
        rintro e w2 ⟨rfl, rfl⟩
        go_wp2
        go_ret
        exact ⟨by rw [hno.out]; rfl, unhide HX1⟩
    · obtain rfl : k = bs.length := by omega
      have hre : runesL bs = acc := by
        have h1 := (unhide HM).1
        rw [List.drop_length] at h1
        rw [h1, show runesL ([] : List Int) = [] from rfl, List.append_nil]
      have hov : Hid (ok = vb) := by
        refine hide ?_
        have h1 := (unhide HM).2.1
        have h2 := (unhide HM).2.2.1
        have h3 := (unhide HM).2.2.2
        have e : ok = true ↔ vb = true := by
          rw [(unhide HOK), (unhide HVB), hre]
          refine ⟨fun h => h.2.2, fun h => ⟨h1, fun hne => ?_, h⟩⟩
          rcases Nat.eq_zero_or_pos bs.length with e0 | e0
          · exact absurd (h3 e0) hne
          · exact (h2 e0).2
        cases ok <;> cases vb <;> simp_all
      have hnx := fun ty => Lib.run_next_end_at (P := Tryd.prog) wr w.heap.size S bs.length ty hit (by rw [HSS.out]; omega)
      clear hre
      go_wp2_with fail
      refine ((unhide HVAL) _ hext).mono ?_
      rintro e w2 ⟨rfl, F2⟩
      go_wp2
      go_ret
      exact ⟨by rw [hov.out]; rfl, hext.trans F2⟩
end Go.Proofs.YtdmkcpkmeokjiaaDoor

namespace Go.Proofs.YtdmkcpkmeokjiaaDoor
open Go.RowKit

theorem toBA_ne {xs ys : List Int} (hx : Bytes xs) (hy : Bytes ys) (h : xs ≠ ys) : ((toBA xs).toList == (toBA ys).toList) = false := by
  rw [beq_eq_false_iff_ne, toList_data, toList_data]
  intro e
  exact h (toBA_inj hx hy (WideShapes.bytes_inj e))
set_option maxRecDepth 10000 in
set_option maxHeartbeats 400000 in
theorem l4Count_any (bs : List Int) (hb : Bytes bs) (w : World) (hl : bs.length ≤ 8000000) :
    Calls Tryd.prog 38 #[.string (toBA bs)] w fun e w' => e = .returned (.int .i64 ((cleanL bs).length : Int)) ∧ Ext w w' := by
  obtain ⟨v0, w0, hrun, h0, E0⟩ := run_s2i (P := Tryd.prog) w _ _ _ Tryd.underlying9 Tryd.underlying22 Tryd.underlying5 bs hb
  have H0 := hide h0
  clear h0
  go_enter Tryd.func38, Tryd.ntmps38
  go_wp2_with fail
  refine (specClean_any bs hb v0 w0 (unhide H0) (by omega)).mono ?_
  rintro e w1 ⟨v1, rfl, o1, F1⟩
  obtain ⟨ao, cap, hv1, _, _⟩ := ints_of_owns o1
  subst hv1
  clear o1
  go_wp2
  go_ret
  exact ⟨rfl, E0.trans F1⟩
set_option maxRecDepth 10000 in
set_option maxHeartbeats 1000000 in
theorem l4TextOk_any (bs : List Int) (hb : Bytes bs) (w : World) (hl : bs.length ≤ 4194304) (ok : Bool) (hok : ok = true ↔ (bs.length ≤ 1200 ∧ (cleanL bs).length ≤ 300 ∧ settleL bs = bs)) :
    Calls Tryd.prog 30 #[.string (toBA bs), .int .i64 300] w fun e w' => e = .returned (.bool ok) ∧ Ext w w' := by
  have hsz := toBA_size bs
  have HOK := hide hok
  clear hok
  by_cases h1 : bs.length ≤ 1200
  · have h1I : (bs.length : Int) ≤ 1200 := by omega
    go_enter Tryd.func30, Tryd.ntmps30
    go_wp2_with fail
    refine (l4Count_any bs hb w (by omega)).mono ?_
    rintro e w1 ⟨rfl, F1⟩
    by_cases h2 : (cleanL bs).length ≤ 300
    · have h2I : ((cleanL bs).length : Int) ≤ 300 := by omega
      go_wp2_with fail
      refine (specSettle_any bs hb w1 (by omega)).mono ?_
      rintro e w2 ⟨rfl, F2⟩
      by_cases h3 : settleL bs = bs
      · have ht : ok = true := (unhide HOK).2 ⟨h1, h2, h3⟩
        subst ht
        rw [h3]
        go_wp2
        go_ret
        exact ⟨rfl, F1.trans F2⟩
      · have hf : ok = false := by
          cases ok
          · rfl
          · exact absurd ((unhide HOK).1 rfl).2.2 h3
        subst hf
        have hneb := toBA_ne (settleL_bytes bs) hb h3
        go_wp2
        go_ret
        exact ⟨rfl, F1.trans F2⟩
    · have h2I : ¬ ((cleanL bs).length : Int) ≤ 300 := by omega
      have hf : ok = false := by
        cases ok
        · rfl
        · exact absurd ((unhide HOK).1 rfl).2.1 h2
      subst hf
      go_wp2
      go_ret
      exact ⟨rfl, F1⟩
  · have h1I : ¬ (bs.length : Int) ≤ 1200 := by omega
    have hf : ok = false := by
      cases ok
      · rfl
      · exact absurd ((unhide HOK).1 rfl).1 h1
    subst hf
    go_enter Tryd.func30, Tryd.ntmps30
    go_wp2
    go_ret
    exact ⟨rfl, Ext.refl _⟩
end Go.Proofs.YtdmkcpkmeokjiaaDoor

namespace Go.Proofs.YtdmkcpkmeokjiaaDoor
open Go.ChangeShapes Go.WideShapes Go.ChangeAt Go.RowKit

/-- One closed fact: each parameter's type can be read and is a row of the table. -/
def rowed (P : Program) (ts : List TypeId) : Bool := ts.all fun t => P.readableRec t && decide (t < P.types.size)

theorem trodAll_below {H : Type} {enc : TypeId × Value → H} {P : Program} (hl : laidOutB P = true) {W W' : World} (hb : Below W.heap.size W W') :
    ∀ {ts : List TypeId} {vs : List Value} {ds : List (DataW H)} {ps : List MemPlace}, rowed P ts = true → DataW.TrodAll enc P W 0 (fun _ => true) true ts vs ds ps → DataW.TrodAll enc P W' 0 (fun b => decide (b < W.heap.size)) true ts vs ds ps
  | [], [], [], _, _, h => h
  | [], _ :: _, _, _, _, h => h.elim
  | [], [], _ :: _, _, _, h => h.elim
  | _ :: _, [], _, _, _, h => h.elim
  | _ :: _, _ :: _, [], _, _, h => h.elim
  | t :: ts, v :: vs, d :: ds, ps, hr, h => by
    have hlt := h.lt
    obtain ⟨p, q, h1, h2, e⟩ := h
    simp only [rowed, List.all_cons, Bool.and_eq_true, decide_eq_true_eq] at hr
    exact ⟨p, q, Below.trod hl hr.1.1 hr.1.2 h1 hb (fun x hx => hlt x (by rw [e]; simp [hx])), trodAll_below hl hb (by simpa [rowed] using hr.2) h2, e⟩

/-- THE END OF A LAW: it returned true, below the old heap nothing has turned. -/
theorem post_law {H : Type} {enc : TypeId × Value → H} {P : Program} {f : Func} {s : ChangeSpec} {apart fresh handsOn : Bool} {bt : TypeId} {W W' : World} {args : Array Value} {ds gs : List (DataW H)} {before : List MemPlace}
    (hl : laidOutB P = true) (hr : rowed P f.params.toList = true) (hv : varsRowed P s.vars = true) (hres : f.resultTypes = #[bt]) (hbt : P.underlying bt = some .bool)
    (hW : DataW.Whole enc P f.params.toList s.vars apart W args.toList ds gs before)
    (hs : s.fn H (ds ++ gs) = { results := [.lit (.bool true)], args := ds, vars := gs }) (hb : Below W.heap.size W W') :
    s.post enc P f apart fresh handsOn false W args (.bool true) W' := by
  have hW' := hW
  obtain ⟨p, q, hA, hV, rfl, hfz, hnd⟩ := hW
  refine ⟨ds, gs, p ++ q, [], p, q, hW', ?_, ?_, ?_, hb.frame _, fun h => by cases h⟩
  · rw [hs, hres]
    exact trodAll_mk1 (shut_bool hbt true)
  · rw [hs]; exact trodAll_below hl hb hr hA
  · rw [hs]; exact Below.trodVars hl hb hv hV

/-- A slice of numbers that came in, opened. -/
theorem ints_came {H : Type} {enc : TypeId × Value → H} {P : Program} {W : World} {r : Reach} {base : Nat} {t e : TypeId} {k : IntKind} {v : Value} {d : DataW H} {p : List MemPlace} (ht : P.underlying t = some (.slice e)) (he : P.underlying e = some (.int k)) (hc : P.cellsOf e = 1)
    (hv : Value.okWide P W r base t v) (h : DataW.Trod enc P W 0 (fun _ => true) true t v d p) : ∃ zs, IntsAt W k v zs ∧ (∀ n ∈ zs, (Lit.int k n).wf = true) ∧ ∃ ao cap, v = .slice ao zs.length cap := by
  obtain ⟨a0, len, cap, rfl⟩ := okWide_slice ht hv
  obtain ⟨fuel, hf⟩ := h
  rcases open_ints ht he hc hf with ⟨hcs, _⟩ | ⟨a, len', cap', zs, hcs, _, hl, hm, hz, hx, hcell, hwz⟩
  · simp [Value.cells] at hcs
    obtain ⟨rfl, rfl, rfl⟩ := hcs
    exact ⟨[], ⟨none, 0, rfl, Nat.le_refl _, fun h => by simp at h⟩, fun n hn => by simp at hn, none, 0, rfl⟩
  · simp [Value.cells] at hcs
    obtain ⟨rfl, rfl, rfl⟩ := hcs
    simp at hz
    have hlen : (zs.take len).length = len := by simp; omega
    refine ⟨zs.take len, ⟨some a, cap, by rw [hlen], by omega, fun hp => ?_⟩, fun n hn => hwz n (List.mem_of_mem_take hn), some a, cap, by rw [hlen]⟩
    obtain ⟨b, off, rfl, hc2⟩ := ints_at hcell (by omega)
    refine ⟨b, off, rfl, fun j hj => ?_⟩
    rw [hlen] at hj
    rw [hc2 j (by omega)]
    simp [at0, hj, List.getD]
end Go.Proofs.YtdmkcpkmeokjiaaDoor

namespace Go.Proofs.YtdmkcpkmeokjiaaDoor
open Go.RowKit

/-- The three tables lie in memory. -/
def Tabs3 (w : World) : Prop := Laid w ∧ Lib.Utf8Tabs 2 3 w
theorem Tabs3.ext {w w' : World} (h : Tabs3 w) (he : Ext w w') : Tabs3 w' :=
  ⟨h.1.below he.below, fun c hc => he.cell (h.2.1 c hc), fun i hi => ⟨he.cell (h.2.2 i hi).1, he.cell (h.2.2 i hi).2⟩⟩
end Go.Proofs.YtdmkcpkmeokjiaaDoor
