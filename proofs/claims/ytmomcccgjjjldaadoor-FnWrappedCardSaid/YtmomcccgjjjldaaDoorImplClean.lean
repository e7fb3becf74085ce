import Derived.Test.YtmomcccgjjjldaaDoorSpecClean
import Derived.Test.YtmomcccgjjjldaaDoorShowable
import Derived.Lib.OthersKept
namespace Go.Proofs.YtmomcccgjjjldaaDoor
open Go.RowKit
theorem grown_iterAt (w : World) (k : Nat) (s : ByteArray) (p : Nat) : w.grownBy (w.iterAt k s p) (some k) :=
  ⟨rfl, rfl, rfl, by rw [Lib.iterAt_size]; exact Nat.le_refl _, fun i _ hn => Lib.iterAt_other w k i s p (fun e => hn (by rw [e]))⟩
set_option maxRecDepth 10000 in
set_option maxHeartbeats 1000000 in
theorem implClean_any (bs : List Int) (hb : Bytes bs) (v : Value) (w : World) (hv : IntsAt w .u8 v bs) (hl : bs.length ≤ 16777216) :
    Calls Tryd.prog 7 #[v] w fun e w' => ∃ v', e = .returned v' ∧ w'.ownsRow w.heap.size 21 1 v' (cleanL bs).length ((cleanL bs).map (Value.int .i32)) ∧ Ext w w' := by
  obtain ⟨i0, hi, hz0, hz1, hz2⟩ := info_parts infoRune
  have hcv := run_b2s (P := Tryd.prog) w _ _ _ Tryd.underlying22 Tryd.underlying5 Tryd.underlying9 _ _ hv
  obtain ⟨S, hS⟩ : ∃ S, S = toBA bs := ⟨_, rfl⟩
  have hss : S.size = bs.length := by rw [hS, toBA_size]
  have hsl : S.size ≤ 16777216 := by omega
  have HS := hide hS
  have HSS := hide hss
  rw [← hS] at hcv
  clear hS hss
  go_enter Tryd.func7, Tryd.ntmps7
  go_wp2
  go_loopw [3] (fun o wr => ∃ (k : Nat) (acc : List Int), k ≤ bs.length ∧ Hid (Mid bs k acc) ∧ wr.heap[w.heap.size]? = some (.stringIter S k) ∧ wr.ownsRow (w.heap.size + 1) 21 1 o acc.length (acc.map (Value.int .i32)) ∧ Ext w wr) (fun _ wr => bs.length - wr.iterPos w.heap.size)
  case atStart => exact ⟨0, [], Nat.zero_le _, ⟨by simp, by simp⟩, World.iter_heap w S 0, World.ownsRow_nil _ _ _ _, (Ext.refl _).alloc _⟩
  case round =>
    obtain ⟨k, acc, hk, HM, hit, hown, hext⟩ := hrel
    have hszr : w.heap.size < wr.heap.size := (Array.getElem?_eq_some_iff.1 hit).1
    by_cases hlt : k < bs.length
    · obtain ⟨r, m, hd⟩ : ∃ r m, decL (bs.drop k) = (r, m) := ⟨_, _, rfl⟩
      have hp := decL_pos (bs.drop k)
      have hq := decL_len (bs.drop k) (by simp; omega)
      have HM2 : Hid (Mid bs (k + m) (acc ++ [cleanR r])) := by
        have := HM.out.step hlt
        rw [hd] at this
        exact this
      have hcr : Hid (cleanR r = shownI (if r = 9 then 32 else r)) := cleanR_of r
      have hdec := decode_is bs hb k
      rw [hd] at hp hq hdec
      rw [← HS.out] at hdec
      simp only [Prod.mk.injEq] at hdec
      have hnx := fun ty => Lib.run_next_any_at (P := Tryd.prog) wr w.heap.size S k ty hit (by rw [HSS.out]; exact hlt)
      rw [hdec.1, hdec.2] at hnx
      simp only [List.length_drop] at hp hq
      have hal := HM.out.2
      have hm2 : k + m ≤ bs.length := by omega
      have hit1 := Lib.iterAt_heap wr w.heap.size S k (k + m) hit
      have hown1 : (wr.iterAt w.heap.size S (k + m)).ownsRow (w.heap.size + 1) 21 1 u3 acc.length (acc.map (Value.int .i32)) := hown.kept (grown_iterAt _ _ _ _) (by
        cases hob : u3.ownBlock with
        | none => exact .inl rfl
        | some g => right; have := (hown.lt g hob).1; simp; omega)
      have hext1 : Ext w (wr.iterAt w.heap.size S (k + m)) := hext.grown (grown_iterAt _ _ _ _) (fun k hk => by simp at hk; omega)
      have hszs := Lib.iterAt_size wr w.heap.size S (k + m)
      obtain ⟨r9, hr9⟩ : ∃ r9, r9 = if r = 9 then (32 : Int) else r := ⟨_, rfl⟩
      have hsb := shownI_bd r9
      have HC : Hid (cleanR r = shownI r9) := by rw [hr9]; exact hcr
      have h9 : (r = 9 ∧ r9 = 32) ∨ ((r == 9) = false ∧ r9 = r) := by
        by_cases h : r = 9
        · exact .inl ⟨h, by rw [hr9, if_pos h]⟩
        · exact .inr ⟨by simp [h], by rw [hr9, if_neg h]⟩
      clear hcr hr9 hdec hd
      rcases h9 with ⟨rfl, rfl⟩ | ⟨hr9, rfl⟩
      · go_wp2_with fail
        refine (showable_any _ _).mono ?_
        rintro e w2 ⟨rfl, rfl⟩
        have hsz2 := hext1.size
        go_wp2_with (at_builtin; go_must (refine wpList_append_own _ rfl _ _ 25 rfl (w.heap.size + 1) 21 i0 (.int .i32 0) 1 4 Tryd.underlying25 hi hz0 hz1 hz2 rfl (by decide) _ _ _ rfl (hown1.alloc _) ⟨wr.heap.size, 0, none⟩ 1 1 [.int .i32 (shownI 32)] rfl rfl ?_ ?_ ?_ ?_ ?_ ?_))
        · intro j u hj
          match j, hj with
          | 0, hj => simp at hj; subst hj; rw [Addr.add_lit, World.cell?_alloc_at _ _ _ _ (by rw [hszs])]; rfl
        · intro u hu; simp at hu; subst hu; rfl
        · unfold maxLen; omega
        · omega
        · simp; omega
        · intro v' w3 hown' hgrow _
          have hE : Ext w w3 := (hext1.alloc _).grown hgrow (fun k hk => by have := (hown1.lt k hk).1; omega)
          have hO : w3.ownsRow (w.heap.size + 1) 21 1 v' (acc ++ [shownI 32]).length ((acc ++ [shownI 32]).map (Value.int .i32)) := by simpa using hown'
          have hI : w3.heap[w.heap.size]? = some (.stringIter S (k + m)) := by
            rw [hgrow.block w.heap.size (by simp; omega) (fun e => by have := (hown1.lt _ e.symm).1; omega)]
            exact (Below.heap_alloc _ _ _ (by rw [hszs]; exact hszr)).trans hit1
          have hP : bs.length - w3.iterPos w.heap.size < bs.length - wr.iterPos w.heap.size := by
            simp only [World.iterPos, hI, hit]; omega
          have HP := hide hP
          rw [← HC.out] at hO
          clear hown' hgrow hown1 hown hP
          go_wp2
          go_roundw
          case rel => exact ⟨k + m, _, hm2, HM2, hI, hO, hE⟩
          case measure => exact unhide HP
      · go_wp2_with fail
        refine (showable_any _ _).mono ?_
        rintro e w2 ⟨rfl, rfl⟩
        have hsz2 := hext1.size
        go_wp2_with (at_builtin; go_must (refine wpList_append_own _ rfl _ _ 25 rfl (w.heap.size + 1) 21 i0 (.int .i32 0) 1 4 Tryd.underlying25 hi hz0 hz1 hz2 rfl (by decide) _ _ _ rfl (hown1.alloc _) ⟨wr.heap.size, 0, none⟩ 1 1 [.int .i32 (shownI r9)] rfl rfl ?_ ?_ ?_ ?_ ?_ ?_))
        · intro j u hj
          match j, hj with
          | 0, hj => simp at hj; subst hj; rw [Addr.add_lit, World.cell?_alloc_at _ _ _ _ (by rw [hszs])]; rfl
        · intro u hu; simp at hu; subst hu; rfl
        · unfold maxLen; omega
        · omega
        · simp; omega
        · intro v' w3 hown' hgrow _
          have hE : Ext w w3 := (hext1.alloc _).grown hgrow (fun k hk => by have := (hown1.lt k hk).1; omega)
          have hO : w3.ownsRow (w.heap.size + 1) 21 1 v' (acc ++ [shownI r9]).length ((acc ++ [shownI r9]).map (Value.int .i32)) := by simpa using hown'
          have hI : w3.heap[w.heap.size]? = some (.stringIter S (k + m)) := by
            rw [hgrow.block w.heap.size (by simp; omega) (fun e => by have := (hown1.lt _ e.symm).1; omega)]
            exact (Below.heap_alloc _ _ _ (by rw [hszs]; exact hszr)).trans hit1
          have hP : bs.length - w3.iterPos w.heap.size < bs.length - wr.iterPos w.heap.size := by
            simp only [World.iterPos, hI, hit]; omega
          have HP := hide hP
          rw [← HC.out] at hO
          clear hown' hgrow hown1 hown hP
          go_wp2
          go_roundw
          case rel => exact ⟨k + m, _, hm2, HM2, hI, hO, hE⟩
          case measure => exact unhide HP
    · have HE : Hid (acc = cleanL bs) := HM.out.done (by omega)
      have hnx := fun ty => Lib.run_next_end_at (P := Tryd.prog) wr w.heap.size S k ty hit (by rw [HSS.out]; omega)
      go_wp2
      go_ret
      rw [← HE.out]
      exact ⟨_, rfl, owns_mono hown (by omega), hext⟩
end Go.Proofs.YtmomcccgjjjldaaDoor
