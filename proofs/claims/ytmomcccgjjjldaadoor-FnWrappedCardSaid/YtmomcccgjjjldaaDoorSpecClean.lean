import Derived.Test.YtmomcccgjjjldaaDoorSpecRune2
namespace Go.Proofs.YtmomcccgjjjldaaDoor
open Go.RowKit
theorem infoRune : (Tryd.prog.info? 21).map (fun i => (i.zero, i.size, i.bytes)) = some (some (.int .i32 0), 1, 4) := by kernel_rfl
theorem cleanR_of (r : Int) : cleanR r = shownI (if r = 9 then 32 else r) := by
  unfold cleanR
  split
  · decide
  · rfl
def Mid (bs : List Int) (i : Nat) (acc : List Int) : Prop := acc ++ cleanL (bs.drop i) = cleanL bs ∧ acc.length ≤ i
theorem Mid.step {bs : List Int} {i : Nat} {acc : List Int} (h : Mid bs i acc) (hi : i < bs.length) : Mid bs (i + (decL (bs.drop i)).2) (acc ++ [cleanR (decL (bs.drop i)).1]) := by
  have hp := decL_pos (bs.drop i)
  refine ⟨?_, by have := h.2; simp; omega⟩
  rw [← h.1, cleanL_step (bs.drop i) (by simp; omega), List.drop_drop]
  simp
theorem Mid.done {bs : List Int} {i : Nat} {acc : List Int} (h : Mid bs i acc) (hi : bs.length ≤ i) : acc = cleanL bs := by
  have := h.1
  rw [List.drop_of_length_le hi, cleanL_nil [] rfl] at this
  simpa using this
set_option maxRecDepth 10000 in
set_option maxHeartbeats 1000000 in
theorem specClean_any (bs : List Int) (hb : Bytes bs) (v : Value) (w : World) (hv : IntsAt w .u8 v bs) (hl : bs.length ≤ 16777216) :
    Calls Tryd.prog 12 #[v] w fun e w' => ∃ v', e = .returned v' ∧ w'.ownsRow w.heap.size 21 1 v' (cleanL bs).length ((cleanL bs).map (Value.int .i32)) ∧ Ext w w' := by
  obtain ⟨i0, hi, hz0, hz1, hz2⟩ := info_parts infoRune
  have hv0 := hv
  obtain ⟨ao, cap, rfl, hcap, hr⟩ := hv
  clear hr
  go_enter Tryd.func12, Tryd.ntmps12
  go_wp2
  go_loopw [3, 4] (fun o i wr => ∃ (k : Nat) (acc : List Int), k ≤ bs.length ∧ i = .int .i64 k ∧ Hid (Mid bs k acc) ∧ wr.ownsRow w.heap.size 21 1 o acc.length (acc.map (Value.int .i32)) ∧ Ext w wr) (fun _ i _ => bs.length - (intOf i).toNat)
  case atStart => exact ⟨0, [], Nat.zero_le _, rfl, ⟨by simp, by simp⟩, World.ownsRow_made w #[] 0 (Nat.le_refl _) (by unfold maxLen; omega) (by simp), (Ext.refl _).alloc _⟩
  case round =>
    obtain ⟨k, acc, hk, rfl, HM, hown, hext⟩ := hrel
    by_cases hlt : k < bs.length
    · obtain ⟨r, m, hd⟩ : ∃ r m, decL (bs.drop k) = (r, m) := ⟨_, _, rfl⟩
      have hp := decL_pos (bs.drop k)
      have hq := decL_len (bs.drop k) (by simp; omega)
      have HM2 : Hid (Mid bs (k + m) (acc ++ [cleanR r])) := by
        have := HM.out.step hlt
        rw [hd] at this
        exact this
      have hcr : Hid (cleanR r = shownI (if r = 9 then 32 else r)) := cleanR_of r
      have hrune := l1Rune_any bs hb _ k _ (hv0.ext hext) hlt (by omega)
      rw [hd] at hp hq hrune
      simp only [List.length_drop] at hp hq
      have HR := hide hrune
      have hal := HM.out.2
      clear hrune hd
      have hm2 : k + m ≤ bs.length := by omega
      obtain ⟨r9, hr9⟩ : ∃ r9, r9 = if r = 9 then (32 : Int) else r := ⟨_, rfl⟩
      have hsb := shownI_bd r9
      have HC : Hid (cleanR r = shownI r9) := by rw [hr9]; exact hcr
      have h9 : (r = 9 ∧ r9 = 32) ∨ ((r == 9) = false ∧ r9 = r) := by
        by_cases h : r = 9
        · exact .inl ⟨h, by rw [hr9, if_pos h]⟩
        · exact .inr ⟨by simp [h], by rw [hr9, if_neg h]⟩
      clear hcr hr9
      rcases h9 with ⟨rfl, rfl⟩ | ⟨hr9, rfl⟩
      · go_wp2_with fail
        refine (unhide HR).mono ?_
        rintro e w1 ⟨rfl, he1⟩
        go_wp2_with fail
        refine (l1Shown_any _ _).mono ?_
        rintro e w2 ⟨rfl, rfl⟩
        have hown1 := he1.owns hown
        have hsz := he1.size
        have hsz2 := hext.size
        go_wp2_with (at_builtin; go_must (refine wpList_append_own _ rfl _ _ 25 rfl w.heap.size 21 i0 (.int .i32 0) 1 4 Tryd.underlying25 hi hz0 hz1 hz2 rfl (by decide) _ _ _ rfl (hown1.alloc _) ⟨w2.heap.size, 0, none⟩ 1 1 [.int .i32 (shownI 32)] rfl rfl ?_ ?_ ?_ ?_ ?_ ?_))
        · intro j u hj
          match j, hj with
          | 0, hj => simp at hj; subst hj; simp [Addr.add]
        · intro u hu; simp at hu; subst hu; rfl
        · unfold maxLen; omega
        · omega
        · simp; omega
        · intro v' w3 hown' hgrow _
          have hE : Ext w w3 := ((hext.trans he1).alloc _).grown hgrow (fun k hk => (hown1.lt k hk).1)
          have hO : w3.ownsRow w.heap.size 21 1 v' (acc ++ [shownI 32]).length ((acc ++ [shownI 32]).map (Value.int .i32)) := by simpa using hown'
          rw [← HC.out] at hO
          clear hown' hgrow hown1 hown
          go_wp2
          go_roundw
          case rel => exact ⟨k + m, _, hm2, by go_num, HM2, hO, hE⟩
          case measure => simp [intOf]; omega
      · go_wp2_with fail
        refine (unhide HR).mono ?_
        rintro e w1 ⟨rfl, he1⟩
        go_wp2_with fail
        refine (l1Shown_any _ _).mono ?_
        rintro e w2 ⟨rfl, rfl⟩
        have hown1 := he1.owns hown
        have hsz := he1.size
        have hsz2 := hext.size
        go_wp2_with (at_builtin; go_must (refine wpList_append_own _ rfl _ _ 25 rfl w.heap.size 21 i0 (.int .i32 0) 1 4 Tryd.underlying25 hi hz0 hz1 hz2 rfl (by decide) _ _ _ rfl (hown1.alloc _) ⟨w2.heap.size, 0, none⟩ 1 1 [.int .i32 (shownI r9)] rfl rfl ?_ ?_ ?_ ?_ ?_ ?_))
        · intro j u hj
          match j, hj with
          | 0, hj => simp at hj; subst hj; simp [Addr.add]
        · intro u hu; simp at hu; subst hu; rfl
        · unfold maxLen; omega
        · omega
        · simp; omega
        · intro v' w3 hown' hgrow _
          have hE : Ext w w3 := ((hext.trans he1).alloc _).grown hgrow (fun k hk => (hown1.lt k hk).1)
          have hO : w3.ownsRow w.heap.size 21 1 v' (acc ++ [shownI r9]).length ((acc ++ [shownI r9]).map (Value.int .i32)) := by simpa using hown'
          rw [← HC.out] at hO
          clear hown' hgrow hown1 hown
          go_wp2
          go_roundw
          case rel => exact ⟨k + m, _, hm2, by go_num, HM2, hO, hE⟩
          case measure => simp [intOf]; omega
    · have HE : Hid (acc = cleanL bs) := HM.out.done (by omega)
      go_wp2
      go_ret
      rw [← HE.out]
      exact ⟨_, rfl, hown, hext⟩
end Go.Proofs.YtmomcccgjjjldaaDoor
