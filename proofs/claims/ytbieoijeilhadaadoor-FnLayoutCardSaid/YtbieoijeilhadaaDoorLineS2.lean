import Derived.Test.YtbieoijeilhadaaDoorLineS
import Derived.Test.YtbieoijeilhadaaDoorEdW
namespace Go.Proofs.YtbieoijeilhadaaDoor
open Go.RowKit
set_option linter.unusedSimpArgs false in
set_option maxRecDepth 10000 in
set_option maxHeartbeats 8000000 in
theorem specLineOk_all (a b c : ByteArray) (ao : Option Addr) (n ca : Nat) (tx hf : Nat → ByteArray) (w : World) (hv : Row2At w (.slice ao n ca) n (fun j => .string (tx j)) (fun j => .string (hf j))) (ha : a.size ≤ 1048576) (hb : b.size ≤ 1048576) (hc : c.size ≤ 1048576) (hx : ∀ j, j < n → (tx j).size ≤ 1048576 ∧ (hf j).size ≤ 1048576) (ok : Bool) (hok : ok = true ↔ LineP a b c n tx hf) :
    Calls Tryd.prog 121 #[.agg #[.string a, .string b, .string c, .slice ao n ca]] w fun e w' => e = .returned (.bool ok) ∧ Ext w w' := by
  obtain ⟨ic, hic, hc0, hc1, hc2⟩ := info_parts infoSnap
  have HX := hide hx
  rw [lineP_iff] at hok
  by_cases hn : n ≤ 50
  · have hnI : (n : Int) ≤ 50 := by omega
    have hxa := hv
    obtain ⟨ao2, ca', hvv, hca, hxb⟩ := id hv
    have HK := hide hok
    have HV := hide hv
    clear hok hv hx hxa hxb hca
    have EW := ((Ext.refl w).alloc (.cells #[.string a, .string b, .string c, .slice ao n ca] 46)).alloc (.cells #[.string a, .string b, .string c, .string noT] 140)
    obtain ⟨U0, hU0⟩ : ∃ U0, U0 = w.alloc (.cells #[.string a, .string b, .string c, .slice ao n ca] 46) := ⟨_, rfl⟩
    have hz0 : U0.heap.size = w.heap.size + 1 := by rw [hU0]; simp
    rw [← hU0] at EW
    have OW := hide (owns_new U0 #[.string a, .string b, .string c, .string noT] 140 2 2 w.heap.size (by omega) rfl (by unfold maxLen; omega))
    rw [hz0] at OW
    obtain ⟨W1, hW1⟩ : ∃ W1, W1 = U0.alloc (.cells #[.string a, .string b, .string c, .string noT] 140) := ⟨_, rfl⟩
    have hz1 : W1.heap.size = w.heap.size + 2 := by rw [hW1]; simp [hz0]
    rw [← hW1] at EW OW
    rw [hU0] at hW1
    have HW := hide hW1
    have HN : Hid (Src W1 2 (.slice ao n ca) n (pairsL (fun j => .string (tx j)) (fun j => .string (hf j)) n)) := by
      refine hide ⟨pairsL_len _ _ _, pairsL_one, ?_⟩
      obtain ⟨ao', ca', hvv, hca, hxb⟩ := ((unhide HV).ext EW)
      simp only [Value.slice.injEq] at hvv
      obtain ⟨rfl, -, rfl⟩ := hvv
      by_cases h0 : n = 0
      · subst h0
        cases ao with
        | none => exact .inl ⟨ca, rfl, rfl⟩
        | some ad => exact .inr ⟨ad, ca, rfl, fun j u hu => by simp [pairsL] at hu⟩
      · obtain ⟨bb, off, e, hcc⟩ := hxb (by omega)
        subst e
        exact .inr ⟨_, ca, rfl, pairsL_news hcc⟩
    clear hU0 hz0 hW1 hvv
    go_enter Tryd.func121, Tryd.ntmps121
    go_wp2_with (at_builtin; rw [← unhide HW]; go_must (refine wpList_app rfl _ _ 44 rfl w.heap.size 140 ic (.agg #[.string noT, .string noT]) 2 32 Tryd.underlying44 hic hc0 hc1 hc2 rfl (by decide) _ 2 [.string a, .string b, .string c, .string noT] rfl (unhide OW) _ n (pairsL (fun j => .string (tx j)) (fun j => .string (hf j)) n) rfl (unhide HN) (by unfold maxLen; omega) (by omega) (by omega) ?_))
    intro v2 w2 o2 G2 _
    have E2 : Ext w w2 := EW.grown G2 (fun q hq => by simp [Value.ownBlock] at hq; omega)
    have o2' := sn_own o2
    obtain ⟨a2, c2, rfl, hc2', hx2⟩ := o2'.reads
    have H2 := hide hx2
    clear o2 o2' hx2 G2 HN OW HV
    go_wp2
    go_loopw [4] (fun i wr => ∃ k : Nat, k ≤ 2 + n ∧ i = .int .i64 k ∧ Hid (∀ j, j < k → SnapP (baL (snT a c tx j)) (baL (snH b hf j))) ∧ Ext w2 wr) (fun i _ => 2 + n - (intOf i).toNat)
    case atStart => exact ⟨0, Nat.zero_le _, rfl, hide (fun j hj => by omega), Ext.refl _⟩
    case round =>
      obtain ⟨k, hk, rfl, HJ, hext⟩ := hrel
      by_cases hlt : k < 2 + n
      · obtain ⟨bb, off, hao, hcc⟩ := (unhide H2) (by omega)
        subst hao
        have g1 := hext.cell (hcc k hlt).1
        have g2 := hext.cell (hcc k hlt).2
        have bk : (k : Int) < 2 + (n : Int) := by omega
        have hsT := snT_size (n := n) ha hc (fun j hj => ((unhide HX) j hj).1) k (by omega)
        have hsH := snH_size (n := n) hb (fun j hj => ((unhide HX) j hj).2) k (by omega)
        have HS2 := hide (fun (h : SnapP (baL (snT a c tx k)) (baL (snH b hf k))) j (hj : j < k + 1) => show SnapP (baL (snT a c tx j)) (baL (snH b hf j)) by
          by_cases e : j = k
          · subst e; exact h
          · exact (unhide HJ) j (by omega))
        have HF := hide (fun (h : ¬ SnapP (baL (snT a c tx k)) (baL (snH b hf k))) => not_ok (unhide HK) (fun hh => h (hh.2 k (by omega))))
        obtain ⟨T, hT⟩ : ∃ T, T = snT a c tx k := ⟨_, rfl⟩
        obtain ⟨H, hH⟩ : ∃ H, H = snH b hf k := ⟨_, rfl⟩
        rw [← hT] at g1 hsT HS2 HF
        rw [← hH] at g2 hsH HS2 HF
        clear hT hH hcc
        have hbU := new_block wr (.cells #[.string T, .string H] 140)
        have EU := hext.alloc (.cells #[.string T, .string H] 140)
        obtain ⟨U, hU⟩ : ∃ U, U = wr.alloc (.cells #[.string T, .string H] 140) := ⟨_, rfl⟩
        rw [← hU] at hbU EU
        have p0 := cells_of hbU 0 _ rfl
        have p1 := cells_of hbU 1 _ rfl
        have HU := hide hU
        clear hU hbU
        by_cases hTP : TextP (baL T)
        · have hcT := hide (fun W => l4TextOk_ba T W hsT true (by simp [hTP]))
          by_cases hHP : TextP (baL H)
          · have hcH := hide (fun W => l4TextOk_ba H W hsH true (by simp [hHP]))
            have hrT := hide (fun W => l4Count_ba T W hsT)
            have hrH := hide (fun W => l4Count_ba H W hsH)
            have hkA := cleanL_len (baL T)
            have hkB := cleanL_len (baL H)
            rw [baL_len] at hkA hkB
            have hw : IntKind.i64.wrap (((cleanL (baL T)).length : Int) + ((cleanL (baL H)).length : Int)) = ((cleanL (baL T)).length : Int) + ((cleanL (baL H)).length : Int) := by rw [IntKind.wrap_i64]; omega
            have tokA : True := trivial
            have tokB : True := trivial
            by_cases hle : ((cleanL (baL T)).length : Int) + ((cleanL (baL H)).length : Int) ≤ 300
            · have HJ2 := hide ((unhide HS2) ⟨hTP.1, hHP.1, by omega⟩)
              clear HS2 HF hTP hHP
              go_wp2
              rw [← unhide HU]
              clear HU
              first
                | (go_region_held_law (fun W => W.cell? ⟨wr.heap.size, 0, none⟩ = some (.string T) ∧ W.cell? ⟨wr.heap.size, 1, none⟩ = some (.string H)) (first | exact ⟨p0, p1⟩ | exact ⟨he'.cell p0, he'.cell p1⟩)
                    (first
                      | (go_at_call 122; have _t := tokA; refine ((unhide hcT) _).mono ?_; rintro e w5 ⟨rfl, F5⟩; have he' := (Ext.refl U).drew.trans F5; clear tokA F5)
                      | (go_at_call 122; refine ((unhide hcH) _).mono ?_; rintro e w6 ⟨rfl, F6⟩; have he' := he'.trans F6; clear F6)
                      | (go_at_call 129; have _t := tokB; refine ((unhide hrT) _).mono ?_; rintro e w7 ⟨rfl, F7⟩; have he' := he'.trans F7; clear tokB F7)
                      | (go_at_call 129; refine ((unhide hrH) _).mono ?_; rintro e w8 ⟨rfl, F8⟩; have he' := he'.trans F8; clear F8)))
                | fail
              all_goals
                have hE2 := EU.trans he'
                go_wp2
                go_roundw
                case rel => exact ⟨k + 1, by omega, by go_num, HJ2, hE2⟩
                case measure => simp [intOf]; omega
            · have hfin := hide ((unhide HF) (fun h => hle (by have := h.2.2; omega)))
              clear HS2 HF hTP hHP
              go_wp2
              rw [← unhide HU]
              clear HU
              first
                | (go_region_held_law (fun W => W.cell? ⟨wr.heap.size, 0, none⟩ = some (.string T) ∧ W.cell? ⟨wr.heap.size, 1, none⟩ = some (.string H)) (first | exact ⟨p0, p1⟩ | exact ⟨he'.cell p0, he'.cell p1⟩)
                    (first
                      | (go_at_call 122; have _t := tokA; refine ((unhide hcT) _).mono ?_; rintro e w5 ⟨rfl, F5⟩; have he' := (Ext.refl U).drew.trans F5; clear tokA F5)
                      | (go_at_call 122; refine ((unhide hcH) _).mono ?_; rintro e w6 ⟨rfl, F6⟩; have he' := he'.trans F6; clear F6)
                      | (go_at_call 129; have _t := tokB; refine ((unhide hrT) _).mono ?_; rintro e w7 ⟨rfl, F7⟩; have he' := he'.trans F7; clear tokB F7)
                      | (go_at_call 129; refine ((unhide hrH) _).mono ?_; rintro e w8 ⟨rfl, F8⟩; have he' := he'.trans F8; clear F8)))
                | fail
              all_goals
                go_wp2
                go_ret
                exact ⟨ret_bool (unhide hfin).symm, E2.trans (EU.trans he')⟩
          · have hcH := hide (fun W => l4TextOk_ba H W hsH false (by simp [hHP]))
            have hfin := hide ((unhide HF) (fun h => hHP ⟨h.2.1, by have := h.2.2; omega⟩))
            clear HS2 HF hTP hHP
            go_wp2
            rw [← unhide HU]
            clear HU
            refine wp_region_held_drew (S := fun W => W.cell? ⟨wr.heap.size, 0, none⟩ = some (.string T) ∧ W.cell? ⟨wr.heap.size, 1, none⟩ = some (.string H)) (by kernel_rfl) ⟨p0, p1⟩ (fun hHeld => ?_)
            refine wpAnyH_take (i := 0) (v := ?_) rfl (by kernel_rfl) (by kernel_rfl) (by kernel_rfl) (fun _ _ _ h => h) (Or.inl ⟨by rfl, ?_⟩) (by assumption) ?_
            rotate_left
            · intro w' hSw; go_simp <;> with_reducible rfl
            simp only [Act.put, qA, qB, qC, qD, qE, qF]
            refine wpAnyH_take (i := 1) (v := ?_) rfl (by kernel_rfl) (by kernel_rfl) (by kernel_rfl) (fun _ _ _ h => h) (Or.inl ⟨by rfl, ?_⟩) (by assumption) ?_
            rotate_left
            · intro w' hSw; go_simp <;> with_reducible rfl
            simp only [Act.put, qA, qB, qC, qD, qE, qF]
            refine wpAnyH_ready (rs := [2]) (by kernel_rfl) (by simp) ?_
            refine AllReadyH.cons rfl (fun K hK => ?_) AllReadyH.nil
            go_simp
            go_wp2_with (go_at_call 122; refine ((unhide hcT) _).mono ?_; rintro e w5 ⟨rfl, F5⟩; have he' := (Ext.refl U).drew.trans F5; clear F5)
            refine hK.out _ _ ⟨he'.cell p0, he'.cell p1⟩ (fun hHeld => ?_)
            clear hK K
            refine wpAnyH_take (i := 3) (v := ?_) rfl (by kernel_rfl) (by kernel_rfl) (by kernel_rfl) (fun _ _ _ h => h) (Or.inl ⟨by rfl, ?_⟩) (by assumption) ?_
            rotate_left
            · intro w' hSw; go_simp <;> with_reducible rfl
            simp only [Act.put, qA, qB, qC, qD, qE, qF]
            refine wpAnyH_take (i := 4) (v := ?_) rfl (by kernel_rfl) (by kernel_rfl) (by kernel_rfl) (fun _ _ _ h => h) (Or.inl ⟨by rfl, ?_⟩) (by assumption) ?_
            rotate_left
            · intro w' hSw; go_simp <;> with_reducible rfl
            simp only [Act.put, qA, qB, qC, qD, qE, qF]
            refine wpAnyH_take (i := 5) (v := ?_) rfl (by kernel_rfl) (by kernel_rfl) (by kernel_rfl) (fun _ _ _ h => h) (Or.inl ⟨by rfl, ?_⟩) (by assumption) ?_
            rotate_left
            · intro w' hSw; go_simp <;> with_reducible rfl
            simp only [Act.put, qA, qB, qC, qD, qE, qF]
            refine wpAnyH_take (i := 6) (v := ?_) rfl (by kernel_rfl) (by kernel_rfl) (by kernel_rfl) (fun _ _ _ h => h) (Or.inl ⟨by rfl, ?_⟩) (by assumption) ?_
            rotate_left
            · intro w' hSw; go_simp <;> with_reducible rfl
            simp only [Act.put, qA, qB, qC, qD, qE, qF]
            refine wpAnyH_ready (rs := [7]) (by kernel_rfl) (by simp) ?_
            refine AllReadyH.cons rfl (fun K hK => ?_) AllReadyH.nil
            go_simp
            go_wp2_with (go_at_call 122; refine ((unhide hcH) _).mono ?_; rintro e w6 ⟨rfl, F6⟩; have he' := he'.trans F6; clear F6)
            refine hK.out _ _ ⟨he'.cell p0, he'.cell p1⟩ (fun hHeld => ?_)
            clear hK K
            refine wpAnyH_take (i := 8) (v := ?_) rfl (by kernel_rfl) (by kernel_rfl) (by kernel_rfl) (fun _ _ _ h => h) (Or.inl ⟨by rfl, ?_⟩) (by assumption) ?_
            rotate_left
            · intro w' hSw; go_simp <;> with_reducible rfl
            simp only [Act.put, qA, qB, qC, qD, qE, qF]
            refine wpAnyH_take (i := 9) (v := ?_) rfl (by kernel_rfl) (by kernel_rfl) (by kernel_rfl) (fun _ _ _ h => h) (Or.inl ⟨by rfl, ?_⟩) (by assumption) ?_
            rotate_left
            · intro w' hSw; go_simp <;> with_reducible rfl
            simp only [Act.put, qA, qB, qC, qD, qE, qF]
            refine wpAnyH_take (i := 10) (v := ?_) rfl (by kernel_rfl) (by kernel_rfl) (by kernel_rfl) (fun _ _ _ h => h) (Or.inl ⟨by rfl, ?_⟩) (by assumption) ?_
            rotate_left
            · intro w' hSw; go_simp <;> with_reducible rfl
            simp only [Act.put, qA, qB, qC, qD, qE, qF]
            refine wpAnyH_take (i := 11) (v := undef) rfl (by kernel_rfl) (by kernel_rfl) (by kernel_rfl) (fun _ _ _ h => h) (Or.inr ⟨by rfl, rfl⟩) (by assumption) ?_
            simp only [Act.put, qA, qB, qC, qD, qE, qF]
            refine wpAnyH_take (i := 12) (v := undef) rfl (by kernel_rfl) (by kernel_rfl) (by kernel_rfl) (fun _ _ _ h => h) (Or.inr ⟨by rfl, rfl⟩) (by assumption) ?_
            simp only [Act.put, qA, qB, qC, qD, qE, qF]
            refine wpAnyH_take (i := 13) (v := undef) rfl (by kernel_rfl) (by kernel_rfl) (by kernel_rfl) (fun _ _ _ h => h) (Or.inr ⟨by rfl, rfl⟩) (by assumption) ?_
            simp only [Act.put, qA, qB, qC, qD, qE, qF]
            refine wpAnyH_take (i := 14) (v := undef) rfl (by kernel_rfl) (by kernel_rfl) (by kernel_rfl) (fun _ _ _ h => h) (Or.inr ⟨by rfl, rfl⟩) (by assumption) ?_
            simp only [Act.put, qA, qB, qC, qD, qE, qF]
            refine wpAnyH_take (i := 15) (v := undef) rfl (by kernel_rfl) (by kernel_rfl) (by kernel_rfl) (fun _ _ _ h => h) (Or.inr ⟨by rfl, rfl⟩) (by assumption) ?_
            simp only [Act.put, qA, qB, qC, qD, qE, qF]
            refine wpAnyH_take (i := 16) (v := undef) rfl (by kernel_rfl) (by kernel_rfl) (by kernel_rfl) (fun _ _ _ h => h) (Or.inr ⟨by rfl, rfl⟩) (by assumption) ?_
            simp only [Act.put, qA, qB, qC, qD, qE, qF]
            refine wpAnyH_take (i := 17) (v := undef) rfl (by kernel_rfl) (by kernel_rfl) (by kernel_rfl) (fun _ _ _ h => h) (Or.inr ⟨by rfl, rfl⟩) (by assumption) ?_
            simp only [Act.put, qA, qB, qC, qD, qE, qF]
            refine wpAnyH_take (i := 18) (v := undef) rfl (by kernel_rfl) (by kernel_rfl) (by kernel_rfl) (fun _ _ _ h => h) (Or.inr ⟨by rfl, rfl⟩) (by assumption) ?_
            simp only [Act.put, qA, qB, qC, qD, qE, qF]
            refine wpAnyH_take (i := 19) (v := ?_) rfl (by kernel_rfl) (by kernel_rfl) (by kernel_rfl) (fun _ _ _ h => h) (Or.inl ⟨by rfl, ?_⟩) (by assumption) ?_
            rotate_left
            · intro w' hSw; go_simp <;> with_reducible rfl
            simp only [Act.put, qA, qB, qC, qD, qE, qF]
            refine wpAnyH_done (by kernel_rfl) ?_ _
            go_wp2
            go_ret
            exact ⟨ret_bool (unhide hfin).symm, E2.trans (EU.trans he')⟩
        · have hcT := hide (fun W => l4TextOk_ba T W hsT false (by simp [hTP]))
          have hfin := hide ((unhide HF) (fun h => hTP ⟨h.1, by have := h.2.2; omega⟩))
          clear HS2 HF hTP
          go_wp2
          rw [← unhide HU]
          clear HU
          refine wp_region_held_drew (S := fun W => W.cell? ⟨wr.heap.size, 0, none⟩ = some (.string T) ∧ W.cell? ⟨wr.heap.size, 1, none⟩ = some (.string H)) (by kernel_rfl) ⟨p0, p1⟩ (fun hHeld => ?_)
          refine wpAnyH_take (i := 0) (v := ?_) rfl (by kernel_rfl) (by kernel_rfl) (by kernel_rfl) (fun _ _ _ h => h) (Or.inl ⟨by rfl, ?_⟩) (by assumption) ?_
          rotate_left
          · intro w' hSw; go_simp <;> with_reducible rfl
          simp only [Act.put, qA, qB, qC, qD, qE, qF]
          refine wpAnyH_take (i := 1) (v := ?_) rfl (by kernel_rfl) (by kernel_rfl) (by kernel_rfl) (fun _ _ _ h => h) (Or.inl ⟨by rfl, ?_⟩) (by assumption) ?_
          rotate_left
          · intro w' hSw; go_simp <;> with_reducible rfl
          simp only [Act.put, qA, qB, qC, qD, qE, qF]
          refine wpAnyH_ready (rs := [2]) (by kernel_rfl) (by simp) ?_
          refine AllReadyH.cons rfl (fun K hK => ?_) AllReadyH.nil
          go_simp
          go_wp2_with (go_at_call 122; refine ((unhide hcT) _).mono ?_; rintro e w5 ⟨rfl, F5⟩; have he' := (Ext.refl U).drew.trans F5; clear F5)
          refine hK.out _ _ ⟨he'.cell p0, he'.cell p1⟩ (fun hHeld => ?_)
          clear hK K
          refine wpAnyH_take (i := 3) (v := ?_) rfl (by kernel_rfl) (by kernel_rfl) (by kernel_rfl) (fun _ _ _ h => h) (Or.inl ⟨by rfl, ?_⟩) (by assumption) ?_
          rotate_left
          · intro w' hSw; go_simp <;> with_reducible rfl
          simp only [Act.put, qA, qB, qC, qD, qE, qF]
          refine wpAnyH_take (i := 4) (v := ?_) rfl (by kernel_rfl) (by kernel_rfl) (by kernel_rfl) (fun _ _ _ h => h) (Or.inl ⟨by rfl, ?_⟩) (by assumption) ?_
          rotate_left
          · intro w' hSw; go_simp <;> with_reducible rfl
          simp only [Act.put, qA, qB, qC, qD, qE, qF]
          refine wpAnyH_take (i := 5) (v := undef) rfl (by kernel_rfl) (by kernel_rfl) (by kernel_rfl) (fun _ _ _ h => h) (Or.inr ⟨by rfl, rfl⟩) (by assumption) ?_
          simp only [Act.put, qA, qB, qC, qD, qE, qF]
          refine wpAnyH_take (i := 6) (v := undef) rfl (by kernel_rfl) (by kernel_rfl) (by kernel_rfl) (fun _ _ _ h => h) (Or.inr ⟨by rfl, rfl⟩) (by assumption) ?_
          simp only [Act.put, qA, qB, qC, qD, qE, qF]
          refine wpAnyH_take (i := 7) (v := undef) rfl (by kernel_rfl) (by kernel_rfl) (by kernel_rfl) (fun _ _ _ h => h) (Or.inr ⟨by rfl, rfl⟩) (by assumption) ?_
          simp only [Act.put, qA, qB, qC, qD, qE, qF]
          refine wpAnyH_take (i := 8) (v := undef) rfl (by kernel_rfl) (by kernel_rfl) (by kernel_rfl) (fun _ _ _ h => h) (Or.inr ⟨by rfl, rfl⟩) (by assumption) ?_
          simp only [Act.put, qA, qB, qC, qD, qE, qF]
          refine wpAnyH_take (i := 9) (v := ?_) rfl (by kernel_rfl) (by kernel_rfl) (by kernel_rfl) (fun _ _ _ h => h) (Or.inl ⟨by rfl, ?_⟩) (by assumption) ?_
          rotate_left
          · intro w' hSw; go_simp <;> with_reducible rfl
          simp only [Act.put, qA, qB, qC, qD, qE, qF]
          refine wpAnyH_take (i := 10) (v := ?_) rfl (by kernel_rfl) (by kernel_rfl) (by kernel_rfl) (fun _ _ _ h => h) (Or.inl ⟨by rfl, ?_⟩) (by assumption) ?_
          rotate_left
          · intro w' hSw; go_simp <;> with_reducible rfl
          simp only [Act.put, qA, qB, qC, qD, qE, qF]
          refine wpAnyH_take (i := 11) (v := undef) rfl (by kernel_rfl) (by kernel_rfl) (by kernel_rfl) (fun _ _ _ h => h) (Or.inr ⟨by rfl, rfl⟩) (by assumption) ?_
          simp only [Act.put, qA, qB, qC, qD, qE, qF]
          refine wpAnyH_take (i := 12) (v := undef) rfl (by kernel_rfl) (by kernel_rfl) (by kernel_rfl) (fun _ _ _ h => h) (Or.inr ⟨by rfl, rfl⟩) (by assumption) ?_
          simp only [Act.put, qA, qB, qC, qD, qE, qF]
          refine wpAnyH_take (i := 13) (v := undef) rfl (by kernel_rfl) (by kernel_rfl) (by kernel_rfl) (fun _ _ _ h => h) (Or.inr ⟨by rfl, rfl⟩) (by assumption) ?_
          simp only [Act.put, qA, qB, qC, qD, qE, qF]
          refine wpAnyH_take (i := 14) (v := undef) rfl (by kernel_rfl) (by kernel_rfl) (by kernel_rfl) (fun _ _ _ h => h) (Or.inr ⟨by rfl, rfl⟩) (by assumption) ?_
          simp only [Act.put, qA, qB, qC, qD, qE, qF]
          refine wpAnyH_take (i := 15) (v := undef) rfl (by kernel_rfl) (by kernel_rfl) (by kernel_rfl) (fun _ _ _ h => h) (Or.inr ⟨by rfl, rfl⟩) (by assumption) ?_
          simp only [Act.put, qA, qB, qC, qD, qE, qF]
          refine wpAnyH_take (i := 16) (v := undef) rfl (by kernel_rfl) (by kernel_rfl) (by kernel_rfl) (fun _ _ _ h => h) (Or.inr ⟨by rfl, rfl⟩) (by assumption) ?_
          simp only [Act.put, qA, qB, qC, qD, qE, qF]
          refine wpAnyH_take (i := 17) (v := undef) rfl (by kernel_rfl) (by kernel_rfl) (by kernel_rfl) (fun _ _ _ h => h) (Or.inr ⟨by rfl, rfl⟩) (by assumption) ?_
          simp only [Act.put, qA, qB, qC, qD, qE, qF]
          refine wpAnyH_take (i := 18) (v := undef) rfl (by kernel_rfl) (by kernel_rfl) (by kernel_rfl) (fun _ _ _ h => h) (Or.inr ⟨by rfl, rfl⟩) (by assumption) ?_
          simp only [Act.put, qA, qB, qC, qD, qE, qF]
          refine wpAnyH_take (i := 19) (v := ?_) rfl (by kernel_rfl) (by kernel_rfl) (by kernel_rfl) (fun _ _ _ h => h) (Or.inl ⟨by rfl, ?_⟩) (by assumption) ?_
          rotate_left
          · intro w' hSw; go_simp <;> with_reducible rfl
          simp only [Act.put, qA, qB, qC, qD, qE, qF]
          refine wpAnyH_done (by kernel_rfl) ?_ _
          go_wp2
          go_ret
          exact ⟨ret_bool (unhide hfin).symm, E2.trans (EU.trans he')⟩
      · obtain rfl : k = 2 + n := by omega
        have hfin : Hid (ok = true) := hide ((unhide HK).2 ⟨hn, fun j hj => (unhide HJ) j (by omega)⟩)
        go_wp2
        go_ret
        exact ⟨ret_bool (unhide hfin).symm, E2.trans hext⟩
  · have hnI : ¬ (n : Int) ≤ 50 := by omega
    have hfin : Hid (ok = false) := hide (not_ok hok (fun h => hn h.1))
    clear hok hv hx HX
    go_enter Tryd.func121, Tryd.ntmps121
    go_wp2
    go_ret
    exact ⟨ret_bool (unhide hfin).symm, (Ext.refl _).alloc _⟩
end Go.Proofs.YtbieoijeilhadaaDoor
