import Derived.Test.YtbieoijeilhadaaDoorKys
import Derived.Test.YtbieoijeilhadaaDoorCells
import Derived.Lib.OthersKept
import Derived.Test.YtbieoijeilhadaaDoorProg
import Derived.Test.YtbieoijeilhadaaDoorBlocks
namespace Go.Proofs.YtbieoijeilhadaaDoor
open Go.RowKit
theorem infoRune : (Tryd.prog.info? 21).map (fun i => (i.zero, i.size, i.bytes)) = some (some (.int .i32 0), 1, 4) := by kernel_rfl
theorem cleanR_of (r : Int) : cleanR r = shownI (if r = 9 then 32 else r) := by
  unfold cleanR
  split
  · decide
  · rfl
def Mid (bs : List Int) (i : Nat) (acc : List Int) : Prop := acc ++ cleanL (bs.drop i) = cleanL bs ∧ acc.length ≤ i
theorem Mid.step {bs : List Int} {i : Nat} {acc : List Int} (h : Mid bs i acc) (hi : i < bs.length) : Mid bs (i + (decL (bs.drop i)).2) (acc ++ [cleanR (decL (bs.drop i)).1]) := by
  have hp := decL_pos (bs.drop i)
  refine ⟨?_, by have := h.2; simp; omega⟩
  rw [← h.1, cleanL_step (bs.drop i) (by simp; omega), List.drop_drop]
  simp
theorem Mid.done {bs : List Int} {i : Nat} {acc : List Int} (h : Mid bs i acc) (hi : bs.length ≤ i) : acc = cleanL bs := by
  have := h.1
  rw [List.drop_of_length_le hi, cleanL_nil [] rfl] at this
  simpa using this
set_option maxRecDepth 10000 in
set_option maxHeartbeats 1000000 in
theorem specClean_any (bs : List Int) (hb : Bytes bs) (v : Value) (w : World) (hv : IntsAt w .u8 v bs) (hl : bs.length ≤ 16777216) :
    Calls Tryd.prog 28 #[v] w fun e w' => ∃ v', e = .returned v' ∧ w'.ownsRow w.heap.size 21 1 v' (cleanL bs).length ((cleanL bs).map (Value.int .i32)) ∧ Ext w w' := by
  obtain ⟨i0, hi, hz0, hz1, hz2⟩ := info_parts infoRune
  have hv0 := hv
  obtain ⟨ao, cap, rfl, hcap, hr⟩ := hv
  clear hr
  go_enter Tryd.func28, Tryd.ntmps28
  go_wp2
  go_loopw [3, 4] (fun o i wr => ∃ (k : Nat) (acc : List Int), k ≤ bs.length ∧ i = .int .i64 k ∧ Hid (Mid bs k acc) ∧ wr.ownsRow w.heap.size 21 1 o acc.length (acc.map (Value.int .i32)) ∧ Ext w wr) (fun _ i _ => bs.length - (intOf i).toNat)
  case atStart => exact ⟨0, [], Nat.zero_le _, rfl, ⟨by simp, by simp⟩, World.ownsRow_made w #[] 0 (Nat.le_refl _) (by unfold maxLen; omega) (by simp), (Ext.refl _).alloc _⟩
  case round =>
    obtain ⟨k, acc, hk, rfl, HM, hown, hext⟩ := hrel
    by_cases hlt : k < bs.length
    · obtain ⟨r, m, hd⟩ : ∃ r m, decL (bs.drop k) = (r, m) := ⟨_, _, rfl⟩
      have hp := decL_pos (bs.drop k)
      have hq := decL_len (bs.drop k) (by simp; omega)
      have HM2 : Hid (Mid bs (k + m) (acc ++ [cleanR r])) := by
        have := HM.out.step hlt
        rw [hd] at this
        exact this
      have hcr : Hid (cleanR r = shownI (if r = 9 then 32 else r)) := cleanR_of r
      have hrune := l1Rune_any bs hb _ k _ (hv0.ext hext) hlt (by omega)
      rw [hd] at hp hq hrune
      simp only [List.length_drop] at hp hq
      have HR := hide hrune
      have hal := HM.out.2
      clear hrune hd
      have hm2 : k + m ≤ bs.length := by omega
      obtain ⟨r9, hr9⟩ : ∃ r9, r9 = if r = 9 then (32 : Int) else r := ⟨_, rfl⟩
      have hsb := shownI_bd r9
      have HC : Hid (cleanR r = shownI r9) := by rw [hr9]; exact hcr
      have h9 : (r = 9 ∧ r9 = 32) ∨ ((r == 9) = false ∧ r9 = r) := by
        by_cases h : r = 9
        · exact .inl ⟨h, by rw [hr9, if_pos h]⟩
        · exact .inr ⟨by simp [h], by rw [hr9, if_neg h]⟩
      clear hcr hr9
      rcases h9 with ⟨rfl, rfl⟩ | ⟨hr9, rfl⟩
      · go_wp2_with fail
        refine (unhide HR).mono ?_
        rintro e w1 ⟨rfl, he1⟩
        go_wp2_with fail
        refine (l1Shown_any _ _).mono ?_
        rintro e w2 ⟨rfl, rfl⟩
        have hown1 := he1.owns hown
        have hsz := he1.size
        have hsz2 := hext.size
        go_wp2_with (at_builtin; go_must (refine wpList_append_own _ rfl _ _ 55 rfl w.heap.size 21 i0 (.int .i32 0) 1 4 Tryd.underlying55 hi hz0 hz1 hz2 rfl (by decide) _ _ _ rfl (hown1.alloc _) ⟨w2.heap.size, 0, none⟩ 1 1 [.int .i32 (shownI 32)] rfl rfl ?_ ?_ ?_ ?_ ?_ ?_))
        · intro j u hj
          match j, hj with
          | 0, hj => simp at hj; subst hj; simp [Addr.add]
        · intro u hu; simp at hu; subst hu; rfl
        · unfold maxLen; omega
        · omega
        · simp; omega
        · intro v' w3 hown' hgrow _
          have hE : Ext w w3 := ((hext.trans he1).alloc _).grown hgrow (fun k hk => (hown1.lt k hk).1)
          have hO : w3.ownsRow w.heap.size 21 1 v' (acc ++ [shownI 32]).length ((acc ++ [shownI 32]).map (Value.int .i32)) := by simpa using hown'
          rw [← HC.out] at hO
          clear hown' hgrow hown1 hown
          go_wp2
          go_roundw
          case rel => exact ⟨k + m, _, hm2, by go_num, HM2, hO, hE⟩
          case measure => simp [intOf]; omega
      · go_wp2_with fail
        refine (unhide HR).mono ?_
        rintro e w1 ⟨rfl, he1⟩
        go_wp2_with fail
        refine (l1Shown_any _ _).mono ?_
        rintro e w2 ⟨rfl, rfl⟩
        have hown1 := he1.owns hown
        have hsz := he1.size
        have hsz2 := hext.size
        go_wp2_with (at_builtin; go_must (refine wpList_append_own _ rfl _ _ 55 rfl w.heap.size 21 i0 (.int .i32 0) 1 4 Tryd.underlying55 hi hz0 hz1 hz2 rfl (by decide) _ _ _ rfl (hown1.alloc _) ⟨w2.heap.size, 0, none⟩ 1 1 [.int .i32 (shownI r9)] rfl rfl ?_ ?_ ?_ ?_ ?_ ?_))
        · intro j u hj
          match j, hj with
          | 0, hj => simp at hj; subst hj; simp [Addr.add]
        · intro u hu; simp at hu; subst hu; rfl
        · unfold maxLen; omega
        · omega
        · simp; omega
        · intro v' w3 hown' hgrow _
          have hE : Ext w w3 := ((hext.trans he1).alloc _).grown hgrow (fun k hk => (hown1.lt k hk).1)
          have hO : w3.ownsRow w.heap.size 21 1 v' (acc ++ [shownI r9]).length ((acc ++ [shownI r9]).map (Value.int .i32)) := by simpa using hown'
          rw [← HC.out] at hO
          clear hown' hgrow hown1 hown
          go_wp2
          go_roundw
          case rel => exact ⟨k + m, _, hm2, by go_num, HM2, hO, hE⟩
          case measure => simp [intOf]; omega
    · have HE : Hid (acc = cleanL bs) := HM.out.done (by omega)
      go_wp2
      go_ret
      rw [← HE.out]
      exact ⟨_, rfl, hown, hext⟩
end Go.Proofs.YtbieoijeilhadaaDoor

namespace Go.Proofs.YtbieoijeilhadaaDoor
open Go.RowKit
def isCtl (r : Int) : Bool := decide (r < 32) || (decide (127 ≤ r) && decide (r ≤ 159))
theorem isControl_any (r : Int) (w : World) : Calls Tryd.prog 108 #[.int .i32 r] w fun e w' => e = .returned (.bool (isCtl r)) ∧ w' = w := by
  go_enter Tryd.func108, Tryd.ntmps108
  go_wp2
  all_goals
    go_ret
    refine ⟨ret_bool ?_, rfl⟩
    unfold isCtl
    rw [Bool.eq_iff_iff]
    simp
    omega
theorem ValidRune_any (r : Int) (w : World) : Calls Tryd.prog 109 #[.int .i32 r] w fun e w' => e = .returned (.bool (Utf8.valid r)) ∧ w' = w := by
  go_enter Tryd.func109, Tryd.ntmps109
  go_wp2
  all_goals
    go_ret
    refine ⟨ret_bool ?_, rfl⟩
    rw [Bool.eq_iff_iff]
    simp [Utf8.valid]
    omega
theorem shown_ctl (r : Int) (h : isCtl r = true) : shownI r = 65533 := by
  unfold shownI
  rw [if_pos (.inr (by simpa [isCtl] using h))]
theorem shown_bad (r : Int) (h : Utf8.valid r = false) : shownI r = 65533 := by
  unfold shownI
  rw [if_pos (.inl h)]
theorem shown_ok (r : Int) (h : isCtl r = false) (h2 : Utf8.valid r = true) : shownI r = r := by
  unfold shownI
  rw [if_neg]
  rintro (h3 | h3)
  · rw [h2] at h3; cases h3
  · have : isCtl r = true := by simpa [isCtl] using h3
    rw [h] at this; cases this
set_option maxHeartbeats 400000 in
theorem showable_any (r : Int) (w : World) : Calls Tryd.prog 78 #[.int .i32 r] w fun e w' => e = .returned (.int .i32 (shownI r)) ∧ w' = w := by
  cases h1 : isCtl r
  · cases h2 : Utf8.valid r
    · have H := hide (shown_bad r h2)
      go_enter Tryd.func78, Tryd.ntmps78
      go_wp2_with (first | (go_at_call 108; refine (isControl_any _ _).mono ?_; rintro e w' ⟨rfl, rfl⟩) | (go_at_call 109; refine (ValidRune_any _ _).mono ?_; rintro e w' ⟨rfl, rfl⟩))
      go_ret
      exact ⟨ret_int (unhide H).symm, rfl⟩
    · have H := hide (shown_ok r h1 h2)
      go_enter Tryd.func78, Tryd.ntmps78
      go_wp2_with (first | (go_at_call 108; refine (isControl_any _ _).mono ?_; rintro e w' ⟨rfl, rfl⟩) | (go_at_call 109; refine (ValidRune_any _ _).mono ?_; rintro e w' ⟨rfl, rfl⟩))
      go_ret
      exact ⟨ret_int (unhide H).symm, rfl⟩
  · have H := hide (shown_ctl r h1)
    go_enter Tryd.func78, Tryd.ntmps78
    go_wp2_with (first | (go_at_call 108; refine (isControl_any _ _).mono ?_; rintro e w' ⟨rfl, rfl⟩) | (go_at_call 109; refine (ValidRune_any _ _).mono ?_; rintro e w' ⟨rfl, rfl⟩))
    go_ret
    exact ⟨ret_int (unhide H).symm, rfl⟩
end Go.Proofs.YtbieoijeilhadaaDoor

namespace Go.Proofs.YtbieoijeilhadaaDoor
open Go.RowKit
theorem grown_iterAt (w : World) (k : Nat) (s : ByteArray) (p : Nat) : w.grownBy (w.iterAt k s p) (some k) :=
  ⟨rfl, rfl, rfl, by rw [Lib.iterAt_size]; exact Nat.le_refl _, fun i _ hn => Lib.iterAt_other w k i s p (fun e => hn (by rw [e]))⟩
set_option maxRecDepth 10000 in
set_option maxHeartbeats 1000000 in
theorem implClean_any (bs : List Int) (hb : Bytes bs) (v : Value) (w : World) (hv : IntsAt w .u8 v bs) (hl : bs.length ≤ 16777216) :
    Calls Tryd.prog 87 #[v] w fun e w' => ∃ v', e = .returned v' ∧ w'.ownsRow w.heap.size 21 1 v' (cleanL bs).length ((cleanL bs).map (Value.int .i32)) ∧ Ext w w' := by
  obtain ⟨i0, hi, hz0, hz1, hz2⟩ := info_parts infoRune
  have hcv := run_b2s (P := Tryd.prog) w _ _ _ Tryd.underlying22 Tryd.underlying5 Tryd.underlying9 _ _ hv
  obtain ⟨S, hS⟩ : ∃ S, S = toBA bs := ⟨_, rfl⟩
  have hss : S.size = bs.length := by rw [hS, toBA_size]
  have hsl : S.size ≤ 16777216 := by omega
  have HS := hide hS
  have HSS := hide hss
  rw [← hS] at hcv
  clear hS hss
  go_enter Tryd.func87, Tryd.ntmps87
  go_wp2
  go_loopw [3] (fun o wr => ∃ (k : Nat) (acc : List Int), k ≤ bs.length ∧ Hid (Mid bs k acc) ∧ wr.heap[w.heap.size]? = some (.stringIter S k) ∧ wr.ownsRow (w.heap.size + 1) 21 1 o acc.length (acc.map (Value.int .i32)) ∧ Ext w wr) (fun _ wr => bs.length - wr.iterPos w.heap.size)
  case atStart => exact ⟨0, [], Nat.zero_le _, ⟨by simp, by simp⟩, World.iter_heap w S 0, World.ownsRow_nil _ _ _ _, (Ext.refl _).alloc _⟩
  case round =>
    obtain ⟨k, acc, hk, HM, hit, hown, hext⟩ := hrel
    have hszr : w.heap.size < wr.heap.size := (Array.getElem?_eq_some_iff.1 hit).1
    by_cases hlt : k < bs.length
    · obtain ⟨r, m, hd⟩ : ∃ r m, decL (bs.drop k) = (r, m) := ⟨_, _, rfl⟩
      have hp := decL_pos (bs.drop k)
      have hq := decL_len (bs.drop k) (by simp; omega)
      have HM2 : Hid (Mid bs (k + m) (acc ++ [cleanR r])) := by
        have := HM.out.step hlt
        rw [hd] at this
        exact this
      have hcr : Hid (cleanR r = shownI (if r = 9 then 32 else r)) := cleanR_of r
      have hdec := decode_is bs hb k
      rw [hd] at hp hq hdec
      rw [← HS.out] at hdec
      simp only [Prod.mk.injEq] at hdec
      have hnx := fun ty => Lib.run_next_any_at (P := Tryd.prog) wr w.heap.size S k ty hit (by rw [HSS.out]; exact hlt)
      rw [hdec.1, hdec.2] at hnx
      simp only [List.length_drop] at hp hq
      have hal := HM.out.2
      have hm2 : k + m ≤ bs.length := by omega
      have hit1 := Lib.iterAt_heap wr w.heap.size S k (k + m) hit
      have hown1 : (wr.iterAt w.heap.size S (k + m)).ownsRow (w.heap.size + 1) 21 1 u3 acc.length (acc.map (Value.int .i32)) := hown.kept (grown_iterAt _ _ _ _) (by
        cases hob : u3.ownBlock with
        | none => exact .inl rfl
        | some g => right; have := (hown.lt g hob).1; simp; omega)
      have hext1 : Ext w (wr.iterAt w.heap.size S (k + m)) := hext.grown (grown_iterAt _ _ _ _) (fun k hk => by simp at hk; omega)
      have hszs := Lib.iterAt_size wr w.heap.size S (k + m)
      obtain ⟨r9, hr9⟩ : ∃ r9, r9 = if r = 9 then (32 : Int) else r := ⟨_, rfl⟩
      have hsb := shownI_bd r9
      have HC : Hid (cleanR r = shownI r9) := by rw [hr9]; exact hcr
      have h9 : (r = 9 ∧ r9 = 32) ∨ ((r == 9) = false ∧ r9 = r) := by
        by_cases h : r = 9
        · exact .inl ⟨h, by rw [hr9, if_pos h]⟩
        · exact .inr ⟨by simp [h], by rw [hr9, if_neg h]⟩
      clear hcr hr9 hdec hd
      rcases h9 with ⟨rfl, rfl⟩ | ⟨hr9, rfl⟩
      · go_wp2_with fail
        refine (showable_any _ _).mono ?_
        rintro e w2 ⟨rfl, rfl⟩
        have hsz2 := hext1.size
        go_wp2_with (at_builtin; go_must (refine wpList_append_own _ rfl _ _ 55 rfl (w.heap.size + 1) 21 i0 (.int .i32 0) 1 4 Tryd.underlying55 hi hz0 hz1 hz2 rfl (by decide) _ _ _ rfl (hown1.alloc _) ⟨wr.heap.size, 0, none⟩ 1 1 [.int .i32 (shownI 32)] rfl rfl ?_ ?_ ?_ ?_ ?_ ?_))
        · intro j u hj
          match j, hj with
          | 0, hj => simp at hj; subst hj; rw [Addr.add_lit, World.cell?_alloc_at _ _ _ _ (by rw [hszs])]; rfl
        · intro u hu; simp at hu; subst hu; rfl
        · unfold maxLen; omega
        · omega
        · simp; omega
        · intro v' w3 hown' hgrow _
          have hE : Ext w w3 := (hext1.alloc _).grown hgrow (fun k hk => by have := (hown1.lt k hk).1; omega)
          have hO : w3.ownsRow (w.heap.size + 1) 21 1 v' (acc ++ [shownI 32]).length ((acc ++ [shownI 32]).map (Value.int .i32)) := by simpa using hown'
          have hI : w3.heap[w.heap.size]? = some (.stringIter S (k + m)) := by
            rw [hgrow.block w.heap.size (by simp; omega) (fun e => by have := (hown1.lt _ e.symm).1; omega)]
            exact (Below.heap_alloc _ _ _ (by rw [hszs]; exact hszr)).trans hit1
          have hP : bs.length - w3.iterPos w.heap.size < bs.length - wr.iterPos w.heap.size := by
            simp only [World.iterPos, hI, hit]; omega
          have HP := hide hP
          rw [← HC.out] at hO
          clear hown' hgrow hown1 hown hP
          go_wp2
          go_roundw
          case rel => exact ⟨k + m, _, hm2, HM2, hI, hO, hE⟩
          case measure => exact unhide HP
      · go_wp2_with fail
        refine (showable_any _ _).mono ?_
        rintro e w2 ⟨rfl, rfl⟩
        have hsz2 := hext1.size
        go_wp2_with (at_builtin; go_must (refine wpList_append_own _ rfl _ _ 55 rfl (w.heap.size + 1) 21 i0 (.int .i32 0) 1 4 Tryd.underlying55 hi hz0 hz1 hz2 rfl (by decide) _ _ _ rfl (hown1.alloc _) ⟨wr.heap.size, 0, none⟩ 1 1 [.int .i32 (shownI r9)] rfl rfl ?_ ?_ ?_ ?_ ?_ ?_))
        · intro j u hj
          match j, hj with
          | 0, hj => simp at hj; subst hj; rw [Addr.add_lit, World.cell?_alloc_at _ _ _ _ (by rw [hszs])]; rfl
        · intro u hu; simp at hu; subst hu; rfl
        · unfold maxLen; omega
        · omega
        · simp; omega
        · intro v' w3 hown' hgrow _
          have hE : Ext w w3 := (hext1.alloc _).grown hgrow (fun k hk => by have := (hown1.lt k hk).1; omega)
          have hO : w3.ownsRow (w.heap.size + 1) 21 1 v' (acc ++ [shownI r9]).length ((acc ++ [shownI r9]).map (Value.int .i32)) := by simpa using hown'
          have hI : w3.heap[w.heap.size]? = some (.stringIter S (k + m)) := by
            rw [hgrow.block w.heap.size (by simp; omega) (fun e => by have := (hown1.lt _ e.symm).1; omega)]
            exact (Below.heap_alloc _ _ _ (by rw [hszs]; exact hszr)).trans hit1
          have hP : bs.length - w3.iterPos w.heap.size < bs.length - wr.iterPos w.heap.size := by
            simp only [World.iterPos, hI, hit]; omega
          have HP := hide hP
          rw [← HC.out] at hO
          clear hown' hgrow hown1 hown hP
          go_wp2
          go_roundw
          case rel => exact ⟨k + m, _, hm2, HM2, hI, hO, hE⟩
          case measure => exact unhide HP
    · have HE : Hid (acc = cleanL bs) := HM.out.done (by omega)
      have hnx := fun ty => Lib.run_next_end_at (P := Tryd.prog) wr w.heap.size S k ty hit (by rw [HSS.out]; omega)
      go_wp2
      go_ret
      rw [← HE.out]
      exact ⟨_, rfl, owns_mono hown (by omega), hext⟩
end Go.Proofs.YtbieoijeilhadaaDoor

namespace Go.Proofs.YtbieoijeilhadaaDoor
open Go.RowKit
def inR (r : Int) : List Int → Bool
  | a :: b :: t => (decide (a ≤ r) && decide (r ≤ b)) || inR r t
  | _ => false
theorem inR_drop (r : Int) (xs : List Int) (k : Nat) (h : k + 1 < xs.length) :
    inR r (xs.drop k) = ((decide (at0 xs k ≤ r) && decide (r ≤ at0 xs (k + 1))) || inR r (xs.drop (k + 2))) := by
  rw [List.drop_eq_getElem_cons (by omega), List.drop_eq_getElem_cons (by omega), inR]
  simp [at0, List.getElem?_eq_getElem (show k < xs.length by omega), List.getElem?_eq_getElem h]
theorem inR_short (r : Int) (xs : List Int) (k : Nat) (h : xs.length ≤ k + 1) : inR r (xs.drop k) = false := by
  have : (xs.drop k).length ≤ 1 := by simp; omega
  match hx : xs.drop k, this with
  | [], _ => rfl
  | [a], _ => rfl
set_option maxHeartbeats 400000 in
theorem l1In_any (r : Int) (b : Nat) (xs : List Int) (c : Nat) (w : World) (hl : xs.length < 1000)
    (hc : ∀ i : Nat, i < xs.length → w.cell? ⟨b, i, none⟩ = some (.int .i64 (at0 xs i))) :
    Calls Tryd.prog 92 #[.int .i64 r, .slice (some ⟨b, 0, none⟩) xs.length c] w fun e w' => e = .returned (.bool (inR r xs)) ∧ w' = w := by
  go_enter Tryd.func92, Tryd.ntmps92
  go_wp2
  go_loop [5] (fun i => ∃ k : Nat, k ≤ xs.length + 1 ∧ i = .int .i64 k ∧ inR r (xs.drop k) = inR r xs) (fun i => xs.length + 1 - (intOf i).toNat)
  case atStart => exact ⟨0, Nat.zero_le _, rfl, rfl⟩
  case round =>
    obtain ⟨k, hk, rfl, hin0⟩ := hrel
    have hin : Hid (inR r (xs.drop k) = inR r xs) := hin0
    by_cases hlt : k + 1 < xs.length
    · have h1 := hc k (by omega)
      have h2 := hc (k+1) (by omega)
      have hd : Hid (inR r (xs.drop k) = ((decide (at0 xs k ≤ r) && decide (r ≤ at0 xs (k + 1))) || inR r (xs.drop (k + 2)))) := inR_drop r xs k hlt
      clear hin0
      go_wp2
      · go_ret
        exact ⟨ret_bool (by rw [← hin.out, hd.out]; simp [*]), rfl⟩
      all_goals
        go_round
        case rel => exact ⟨k + 2, by omega, by go_num, by rw [← hin.out, hd.out]; simp only [Bool.eq_or_self]; intro hh; simp at hh; omega⟩
        case measure => simp [intOf]; omega
    · clear hin0
      have hs : Hid (inR r (xs.drop k) = false) := inR_short r xs k (by omega)
      go_wp2
      go_ret
      exact ⟨ret_bool (by rw [← hin.out, hs.out]), rfl⟩
def zeros : List Int := [768, 879, 1155, 1161, 1425, 1469, 8203, 8207, 8400, 8432, 65024, 65039, 65056, 65071]
def twos : List Int := [4352, 4447, 11904, 12350, 12353, 19903, 19968, 42191, 44032, 55203, 63744, 64255, 65072, 65135, 65280, 65376, 65504, 65510, 127744, 128591, 129280, 129535, 131072, 262141]
def wid (r : Int) : Int := if inR r zeros then 0 else if inR r twos then 2 else 1
def cellsOf (l : List Int) : Array Value := (l.map (Value.int .i64)).toArray
theorem cellsOf_at (l : List Int) (i : Nat) (h : i < l.length) : (cellsOf l)[i]? = some (.int .i64 (at0 l i)) := by
  simp [cellsOf, at0, h]
theorem l1In_zeros (r : Int) (w : World) (t : Nat) (o : Obj) : Calls Tryd.prog 92 #[.int .i64 r, .slice (some ⟨w.heap.size, 0, none⟩) 14 14] ((w.alloc (.cells (cellsOf zeros) t)).alloc o) fun e w' => e = .returned (.bool (inR r zeros)) ∧ w' = ((w.alloc (.cells (cellsOf zeros) t)).alloc o) := by
  refine l1In_any r w.heap.size zeros 14 _ (by decide) ?_
  intro i hi
  rw [World.cell?_alloc_past _ _ _ (by simp), World.cell?_alloc_at _ _ _ _ rfl]
  exact cellsOf_at _ i hi
theorem l1In_twos (r : Int) (w : World) (t : Nat) : Calls Tryd.prog 92 #[.int .i64 r, .slice (some ⟨w.heap.size, 0, none⟩) 24 24] (w.alloc (.cells (cellsOf twos) t)) fun e w' => e = .returned (.bool (inR r twos)) ∧ w' = (w.alloc (.cells (cellsOf twos) t)) := by
  refine l1In_any r w.heap.size twos 24 _ (by decide) ?_
  intro i hi
  rw [World.cell?_alloc_at _ _ _ _ rfl]
  exact cellsOf_at _ i hi
theorem l1In_twos' (r : Int) (w : World) (o : Obj) (t : Nat) : Calls Tryd.prog 92 #[.int .i64 r, .slice (some ⟨w.heap.size + 1, 0, none⟩) 24 24] ((w.alloc o).alloc (.cells (cellsOf twos) t)) fun e w' => e = .returned (.bool (inR r twos)) ∧ w' = ((w.alloc o).alloc (.cells (cellsOf twos) t)) := by
  have h := l1In_twos r (w.alloc o) t
  simpa using h
set_option maxHeartbeats 400000 in
theorem specRW_any (r : Int) (w : World) (h0 : -2147483648 ≤ r) (h1 : r ≤ 2147483647) :
    Calls Tryd.prog 63 #[.int .i32 r] w fun e w' => e = .returned (.int .i64 (wid r)) ∧ Below w.heap.size w w' := by
  cases hz : inR r zeros
  · cases ht : inR r twos
    all_goals
      have hw : Hid (wid r = if inR r zeros then 0 else if inR r twos then 2 else 1) := rfl
      go_enter Tryd.func63, Tryd.ntmps63
      go_wp2_with fail
      refine (l1In_zeros r w 3 _).mono ?_
      rintro e w' ⟨rfl, rfl⟩
      go_wp2_with fail
      refine (l1In_twos' r w _ 3).mono ?_
      rintro e w' ⟨rfl, rfl⟩
      go_wp2
      go_ret
      refine ⟨?_, by go_grown⟩
      rw [hw.out]; simp [hz, ht]
  · have hw : Hid (wid r = if inR r zeros then 0 else if inR r twos then 2 else 1) := rfl
    go_enter Tryd.func63, Tryd.ntmps63
    go_wp2_with fail
    refine (l1In_zeros r w 3 _).mono ?_
    rintro e w' ⟨rfl, rfl⟩
    go_wp2
    go_ret
    refine ⟨?_, by go_grown⟩
    rw [hw.out]; simp [hz]
end Go.Proofs.YtbieoijeilhadaaDoor

namespace Go.Proofs.YtbieoijeilhadaaDoor
open Go.RowKit
def firsts : List Int := [768, 1155, 1425, 4352, 8203, 8400, 11904, 12353, 19968, 44032, 63744, 65024, 65056, 65072, 65280, 65504, 127744, 129280, 131072]
def lasts : List Int := [879, 1161, 1469, 4447, 8207, 8432, 12350, 19903, 42191, 55203, 64255, 65039, 65071, 65135, 65376, 65510, 128591, 129535, 262141]
def widths : List Int := [0, 0, 0, 2, 0, 0, 2, 2, 2, 2, 2, 0, 0, 2, 2, 2, 2, 2, 2]
theorem firsts_up : ∀ j : Fin 19, ∀ i : Fin 19, i.val ≤ j.val → at0 firsts i.val ≤ at0 firsts j.val := by decide +kernel
theorem lasts_up : ∀ j : Fin 19, ∀ i : Fin 19, i.val ≤ j.val → at0 lasts i.val ≤ at0 lasts j.val := by decide +kernel
theorem wid_open (r : Int) : wid r = if ((768 ≤ r ∧ r ≤ 879) ∨ (1155 ≤ r ∧ r ≤ 1161) ∨ (1425 ≤ r ∧ r ≤ 1469) ∨ (8203 ≤ r ∧ r ≤ 8207) ∨ (8400 ≤ r ∧ r ≤ 8432) ∨ (65024 ≤ r ∧ r ≤ 65039) ∨ (65056 ≤ r ∧ r ≤ 65071)) then 0
    else if ((4352 ≤ r ∧ r ≤ 4447) ∨ (11904 ≤ r ∧ r ≤ 12350) ∨ (12353 ≤ r ∧ r ≤ 19903) ∨ (19968 ≤ r ∧ r ≤ 42191) ∨ (44032 ≤ r ∧ r ≤ 55203) ∨ (63744 ≤ r ∧ r ≤ 64255) ∨ (65072 ≤ r ∧ r ≤ 65135) ∨ (65280 ≤ r ∧ r ≤ 65376) ∨ (65504 ≤ r ∧ r ≤ 65510) ∨ (127744 ≤ r ∧ r ≤ 128591) ∨ (129280 ≤ r ∧ r ≤ 129535) ∨ (131072 ≤ r ∧ r ≤ 262141)) then 2 else 1 := by
  unfold wid
  have e1 : (inR r zeros = true) = ((768 ≤ r ∧ r ≤ 879) ∨ (1155 ≤ r ∧ r ≤ 1161) ∨ (1425 ≤ r ∧ r ≤ 1469) ∨ (8203 ≤ r ∧ r ≤ 8207) ∨ (8400 ≤ r ∧ r ≤ 8432) ∨ (65024 ≤ r ∧ r ≤ 65039) ∨ (65056 ≤ r ∧ r ≤ 65071)) := by
    simp [inR, zeros]
  have e2 : (inR r twos = true) = ((4352 ≤ r ∧ r ≤ 4447) ∨ (11904 ≤ r ∧ r ≤ 12350) ∨ (12353 ≤ r ∧ r ≤ 19903) ∨ (19968 ≤ r ∧ r ≤ 42191) ∨ (44032 ≤ r ∧ r ≤ 55203) ∨ (63744 ≤ r ∧ r ≤ 64255) ∨ (65072 ≤ r ∧ r ≤ 65135) ∨ (65280 ≤ r ∧ r ≤ 65376) ∨ (65504 ≤ r ∧ r ≤ 65510) ∨ (127744 ≤ r ∧ r ≤ 128591) ∨ (129280 ≤ r ∧ r ≤ 129535) ∨ (131072 ≤ r ∧ r ≤ 262141)) := by
    simp [inR, twos]
  simp only [e1, e2]
theorem wid_hit (r : Int) (m : Nat) (hm : m < 19) (h1 : at0 firsts m ≤ r) (h2 : r ≤ at0 lasts m) : wid r = at0 widths m := by
  rw [wid_open]
  match m, hm with
  | 0, _ | 1, _ | 2, _ | 3, _ | 4, _ | 5, _ | 6, _ | 7, _ | 8, _ | 9, _ | 10, _ | 11, _ | 12, _ | 13, _ | 14, _ | 15, _ | 16, _ | 17, _ | 18, _ =>
    simp [at0, firsts, lasts] at h1 h2
    first
      | (rw [if_pos (by omega)]; rfl)
      | (rw [if_neg (by omega), if_pos (by omega)]; rfl)
  | n + 19, h => omega
theorem wid_miss (r : Int) (l : Nat) (hl : l ≤ 19) (h1 : ∀ i, i < l → at0 lasts i < r) (h2 : ∀ i, l ≤ i → i < 19 → r < at0 firsts i) : wid r = 1 := by
  rw [wid_open]
  have a := h1 (l - 1)
  have b := h2 l (Nat.le_refl _)
  clear h1 h2
  match l, hl with
  | 0, _ | 1, _ | 2, _ | 3, _ | 4, _ | 5, _ | 6, _ | 7, _ | 8, _ | 9, _ | 10, _ | 11, _ | 12, _ | 13, _ | 14, _ | 15, _ | 16, _ | 17, _ | 18, _ | 19, _ =>
    simp [at0, firsts, lasts] at a b
    rw [if_neg (by omega), if_neg (by omega)]
  | n + 20, h => omega
theorem lo_step (r : Int) (m : Nat) (hm : m < 19) (h : at0 lasts m < r) : ∀ i, i < m + 1 → at0 lasts i < r := by
  intro i hi
  have := lasts_up ⟨m, hm⟩ ⟨i, by omega⟩ (by simp; omega)
  simp at this
  omega
theorem hi_step (r : Int) (m : Nat) (hm : m < 19) (h : r < at0 firsts m) : ∀ i, m ≤ i → i < 19 → r < at0 firsts i := by
  intro i hi hi2
  have := firsts_up ⟨i, hi2⟩ ⟨m, hm⟩ (by simp; omega)
  simp at this
  omega
def Laid (w : World) : Prop := ∀ m : Nat, m < 19 → w.cell? ⟨2, m * 3, none⟩ = some (.int .i32 (at0 firsts m)) ∧ w.cell? ⟨2, m * 3 + 1, none⟩ = some (.int .i32 (at0 lasts m)) ∧ w.cell? ⟨2, m * 3 + 2, none⟩ = some (.int .i64 (at0 widths m))
theorem Laid.pos {w : World} (h : Laid w) : 2 < w.heap.size := lt_of_cell (h 0 (by omega)).1
theorem Laid.below {w w' : World} (h : Laid w) (hb : Below w.heap.size w w') : Laid w' := fun m hm => by
  have p := h.pos
  obtain ⟨a, b, c⟩ := h m hm
  exact ⟨(hb.cell (p := ⟨2, m * 3, none⟩) p).trans a, (hb.cell (p := ⟨2, m * 3 + 1, none⟩) p).trans b, (hb.cell (p := ⟨2, m * 3 + 2, none⟩) p).trans c⟩
set_option maxHeartbeats 400000 in
theorem implRW_any (r : Int) (w : World) (_h0 : -2147483648 ≤ r) (_h1 : r ≤ 2147483647) (hT : Laid w) :
    Calls Tryd.prog 113 #[.int .i32 r] w fun e w' => e = .returned (.int .i64 (wid r)) ∧ Below w.heap.size w w' := by
  go_enter Tryd.func113, Tryd.ntmps113
  go_wp2
  go_loopw [3, 4] (fun a b w' => ∃ l h : Nat, l ≤ h ∧ h ≤ 19 ∧ a = .int .i64 l ∧ b = .int .i64 h ∧ Hid ((∀ i, i < l → at0 lasts i < r) ∧ (∀ i, h ≤ i → i < 19 → r < at0 firsts i)) ∧ Below w.heap.size w w') (fun a b _ => (intOf b).toNat - (intOf a).toNat)
  case atStart => exact ⟨0, 19, by omega, by omega, rfl, rfl, ⟨by intros; omega, by intros; omega⟩, Below.refl _ _⟩
  case round =>
    obtain ⟨l, h, hlh, hh, rfl, rfl, HI, hb⟩ := hrel
    by_cases hlt : l < h
    · have hm0 : (l + h) / 2 < 19 := by omega
      have hm1 : l ≤ (l + h) / 2 := by omega
      have hm2 : (l + h) / 2 < h := by omega
      obtain ⟨c0, c1, c2⟩ := (hT.below hb) ((l + h)/2) hm0
      have hsz := hb.size
      go_wp2
      · go_roundw
        case rel => exact ⟨l, (l + h) / 2, by omega, by omega, by go_num, by go_num, ⟨HI.out.1, hi_step r _ hm0 (by assumption)⟩, by go_grown⟩
        case measure => simp [intOf]; omega
      · go_roundw
        case rel => exact ⟨(l + h) / 2 + 1, h, by omega, by omega, by go_num, by go_num, ⟨lo_step r _ hm0 (by assumption), HI.out.2⟩, by go_grown⟩
        case measure => simp [intOf]; omega
      · go_ret
        exact ⟨ret_int (wid_hit r _ hm0 (by omega) (by omega)).symm, by go_grown⟩
    · have e : l = h := by omega
      have hw : Hid (wid r = 1) := wid_miss r l (by omega) HI.out.1 (by rw [e]; exact HI.out.2)
      clear e
      go_wp2
      go_ret
      exact ⟨ret_int hw.out.symm, hb⟩
end Go.Proofs.YtbieoijeilhadaaDoor
