import Derived.Test.YtaddlkhaokdpdaaDoorSettled
import Derived.Test.YtaddlkhaokdpdaaDoorRuneCount
import Derived.Test.YtaddlkhaokdpdaaDoorRwImpl
namespace Go.Proofs.YtaddlkhaokdpdaaDoor
open Go.RowKit
theorem decL_bd (l : List Int) (hb : Bytes l) : 0 ≤ (decL l).1 ∧ (decL l).1 ≤ 1114111 := by
  have h0 := hb.at0 0
  unfold decL
  split
  · dsimp only; omega
  · split
    · rename_i h1 h2
      have c1 := cont_len h2.2
      split
      · dsimp only; unfold v2; omega
      · dsimp only; omega
    · split
      · split
        · rename_i h5; exact valid_bd h5.2
        · dsimp only; omega
      · split
        · split
          · rename_i h5; exact valid_bd h5.2
          · dsimp only; omega
        · dsimp only; omega
theorem wid_bd' (r : Int) : 0 ≤ wid r ∧ wid r ≤ 2 := by
  unfold wid
  repeat' split
  all_goals omega
set_option maxRecDepth 10000 in
set_option maxHeartbeats 1000000 in
theorem settled_any (bs : List Int) (hb : Bytes bs) (w : World) (hl : bs.length ≤ 16777216) (hT : Laid w) (vb : Bool) (hvb : vb = true ↔ ValidL bs)
    (hval : ∀ W, Ext w W → Calls Tryd.prog 62 #[.string (toBA bs)] W fun e w' => e = .returned (.bool vb) ∧ Ext W w')
    (ok : Bool) (hok : ok = true ↔ settleL bs = bs) :
    Calls Tryd.prog 50 #[.string (toBA bs)] w fun e w' => e = .returned (.bool ok) ∧ Ext w w' := by
  rw [settled_iff] at hok
  obtain ⟨S, hS⟩ : ∃ S, S = toBA bs := ⟨_, rfl⟩
  have hss : S.size = bs.length := by rw [hS, toBA_size]
  have HS := hide hS
  have HSS := hide hss
  rw [← hS] at hval ⊢
  have HVAL := hide hval
  have HT := hide hT
  have HOK := hide hok
  have HVB := hide hvb
  clear hS hss hval hT hok hvb
  go_enter Tryd.func50, Tryd.ntmps50
  go_wp2
  go_loopw [] (fun wr => ∃ (k : Nat) (acc : List Int), k ≤ bs.length ∧ Hid (runesL bs = acc ++ runesL (bs.drop k) ∧ (∀ r ∈ acc, shownI r = r) ∧ (0 < k → acc ≠ [] ∧ 0 < wid (at0 acc 0)) ∧ (k = 0 → acc = [])) ∧ wr.heap[w.heap.size]? = some (.stringIter S k) ∧ Ext w wr) (fun wr => bs.length - wr.iterPos w.heap.size)
  case atStart => exact ⟨0, [], Nat.zero_le _, hide ⟨by simp, by simp, by simp, by simp⟩, World.iter_heap w S 0, (Ext.refl _).alloc _⟩
  case round =>
    obtain ⟨k, acc, hk, HM, hit, hext⟩ := hrel
    have hszr : w.heap.size < wr.heap.size := (Array.getElem?_eq_some_iff.1 hit).1
    by_cases hlt : k < bs.length
    · obtain ⟨r, m, hd⟩ : ∃ r m, decL (bs.drop k) = (r, m) := ⟨_, _, rfl⟩
      have hp := decL_pos (bs.drop k)
      have hq := decL_len (bs.drop k) (by simp; omega)
      have hrb := decL_bd (bs.drop k) (hb.drop k)
      have hstep := runesL_step (bs.drop k) (by simp; omega)
      have hdec := decode_is bs hb k
      rw [hd] at hp hq hdec hrb hstep
      rw [← HS.out] at hdec
      simp only [Prod.mk.injEq] at hdec
      simp only [List.drop_drop] at hstep
      have hnx := fun ty => Lib.run_next_any_at (P := Tryd.prog) wr w.heap.size S k ty hit (by rw [HSS.out]; exact hlt)
      rw [hdec.1, hdec.2] at hnx
      simp only [List.length_drop] at hp hq
      have hm2 : k + m ≤ bs.length := by omega
      have hit1 := Lib.iterAt_heap wr w.heap.size S k (k + m) hit
      have hext1 : Ext w (wr.iterAt w.heap.size S (k + m)) := hext.grown (grown_iterAt _ _ _ _) (fun k hk => by simp at hk; omega)
      have hP : bs.length - (wr.iterAt w.heap.size S (k + m)).iterPos w.heap.size < bs.length - wr.iterPos w.heap.size := by
        simp only [World.iterPos, hit1, hit]; omega
      have HP := hide hP
      have HI := hide hit1
      have hrun : Hid (runesL bs = (acc ++ [r]) ++ runesL (bs.drop (k + m))) := by
        refine hide ?_
        rw [(unhide HM).1, hstep]
        simp
      have HX1 := hide hext1
      clear hdec hd hP hit1 hstep hext1
      by_cases hsr : shownI r = r
      · by_cases hk0 : k = 0
        · subst hk0
          have hacc : acc = [] := (unhide HM).2.2.2 rfl
          subst hacc
          simp only [Nat.zero_add] at HX1 HI hrun hm2 HP hnx
          have T1 := hide ((unhide HT).below (unhide HX1).below)
          have hwb := wid_bd' r
          go_wp2_with fail
          refine (showable_any _ _).mono ?_
          rintro e w2 ⟨rfl, rfl⟩
          rw [hsr]
          go_wp2_with fail
          refine (implRW_any r _ (by omega) (by omega) (unhide T1)).mono ?_
          rintro e w3 ⟨rfl, hb3⟩
          have F3 := Ext.of_below hb3
          have X3 := (unhide HX1).trans F3
          have hI3 : w3.heap[w.heap.size]? = some (.stringIter S m) := by
            rw [F3.heap (by rw [Lib.iterAt_size]; exact hszr)]
            exact unhide HI
          have HI3 := hide hI3
          have HP3 : Hid (bs.length - w3.iterPos w.heap.size < bs.length - wr.iterPos w.heap.size) := by
            refine hide ?_
            simp only [World.iterPos, hI3, hit]; omega
          clear hb3 hI3
          by_cases hw0 : wid r = 0
          · have hno : Hid (ok = false) := by
              refine hide ?_
              cases ok
              · rfl
              · exfalso
                have h1 := ((unhide HOK).1 rfl).2.1 (by rw [unhide hrun]; simp)
                rw [unhide hrun] at h1
                simp [at0] at h1
                omega
            go_wp2
            go_ret
            exact ⟨by rw [hno.out]; rfl, X3⟩
          · have hwp : 0 < wid r := by omega
            have HM' : Hid (runesL bs = ([] ++ [r]) ++ runesL (bs.drop m) ∧ (∀ x ∈ [] ++ [r], shownI x = x) ∧ (0 < m → [] ++ [r] ≠ [] ∧ 0 < wid (at0 ([] ++ [r]) 0)) ∧ (m = 0 → ([] : List Int) ++ [r] = [])) :=
              hide ⟨unhide hrun, by simpa using hsr, fun _ => ⟨by simp, by simpa [at0] using hwp⟩, fun h => by omega⟩
            go_wp2
            go_roundw
            case rel => exact ⟨m, [] ++ [r], hm2, HM', unhide HI3, X3⟩
            case measure => exact unhide HP3
        · have HM' : Hid (runesL bs = (acc ++ [r]) ++ runesL (bs.drop (k + m)) ∧ (∀ x ∈ acc ++ [r], shownI x = x) ∧ (0 < k + m → acc ++ [r] ≠ [] ∧ 0 < wid (at0 (acc ++ [r]) 0)) ∧ (k + m = 0 → acc ++ [r] = [])) := by
            have h1 := unhide HM
            have h2 := h1.2.2.1 (by omega)
            have hal : 0 < acc.length := List.length_pos_iff.2 h2.1
            refine hide ⟨unhide hrun, fun x hx => ?_, fun _ => ⟨by simp, ?_⟩, fun h => by omega⟩
            · rcases List.mem_append.1 hx with h | h
              · exact h1.2.1 x h
              · simp at h; rw [h]; exact hsr
            · have : at0 (acc ++ [r]) 0 = at0 acc 0 := by unfold at0; rw [List.getElem?_append_left hal]
              rw [this]; exact h2.2
          have hkI : ((k : Int) == 0) = false := by rw [beq_eq_false_iff_ne]; omega
          have hkI2 : ¬ ((k : Int) = 0) := by omega
          go_wp2_with fail
          refine (showable_any _ _).mono ?_
          rintro e w2 ⟨rfl, rfl⟩
          rw [hsr]
          go_wp2
          go_roundw
          case rel => exact ⟨k + m, acc ++ [r], hm2, HM', unhide HI, unhide HX1⟩
          case measure => exact unhide HP
      · have hno : Hid (ok = false) := by
          refine hide ?_
          cases ok
          · rfl
          · exact absurd (((unhide HOK).1 rfl).1 r (by rw [unhide hrun]; simp)) hsr
        go_wp2_with fail
        refine (showable_any _ _).mono ?_
        rintro e w2 ⟨rfl, rfl⟩
        go_wp2
        go_ret
        exact ⟨by rw [hno.out]; rfl, unhide HX1⟩
    · obtain rfl : k = bs.length := by omega
      have hre : runesL bs = acc := by
        have h1 := (unhide HM).1
        rw [List.drop_length] at h1
        rw [h1, show runesL ([] : List Int) = [] from rfl, List.append_nil]
      have hov : Hid (ok = vb) := by
        refine hide ?_
        have h1 := (unhide HM).2.1
        have h2 := (unhide HM).2.2.1
        have h3 := (unhide HM).2.2.2
        have e : ok = true ↔ vb = true := by
          rw [(unhide HOK), (unhide HVB), hre]
          refine ⟨fun h => h.2.2, fun h => ⟨h1, fun hne => ?_, h⟩⟩
          rcases Nat.eq_zero_or_pos bs.length with e0 | e0
          · exact absurd (h3 e0) hne
          · exact (h2 e0).2
        cases ok <;> cases vb <;> simp_all
      have hnx := fun ty => Lib.run_next_end_at (P := Tryd.prog) wr w.heap.size S bs.length ty hit (by rw [HSS.out]; omega)
      clear hre
      go_wp2_with fail
      refine ((unhide HVAL) _ hext).mono ?_
      rintro e w2 ⟨rfl, F2⟩
      go_wp2
      go_ret
      exact ⟨by rw [hov.out]; rfl, hext.trans F2⟩
end Go.Proofs.YtaddlkhaokdpdaaDoor
