import Derived.Test.YtjfnieodpdklfaaGreatDoorFrmA
import Derived.Test.YtjfnieodpdklfaaGreatDoorEraseT
namespace Go.Proofs.YtjfnieodpdklfaaGreatDoor
open Go.RowKit

/-- A session that is stopped. -/
def SS.stop (s : SS) : SS := { s with st := true }
theorem infoWrs5 : (Tryz.prog.info? 83).map (·.size) = some 5 := by kernel_rfl
set_option linter.unusedSimpArgs false in
set_option maxRecDepth 10000 in
set_option maxHeartbeats 4000000 in
/-- The work of a stop. -/
theorem stop1_any (P lb : Nat) (s : SS) (ua ha pa qa la da : Option Addr) (uc hc pc qc lc dc : Nat) (n : Nat) (tx : Nat → ByteArray) (R : Int) (C : Int) (B ob qb nb : Nat) (bva : Option Addr) (bvc : Nat) (W : World)
    (hbx : W.heap[lb]? = some (.cells #[.pointer (some ⟨P, 0, none⟩)] 66 (0, 0))) (hne : lb ≠ P ∧ lb ≠ ob ∧ lb < B ∧ P ≠ ob ∧ P < B ∧ P ≠ qb ∧ P ≠ nb ∧ P ≠ 3) (hok : bOk n R C) (hn : n ≤ 1048576)
    (hP : W.heap[P]? = some (.cells (lvC (sesC s (.slice ua s.un uc) (.slice ha s.kh.length hc) (.slice pa s.pn pc) (.slice qa s.qn qc) (.slice la s.ln lc) (.slice da s.dn dc)) (lvW ob qb nb (.slice bva n bvc) R C)) 85 (0, 0)))
    (hW : WrS W B ob qb nb []) (hb : Own1 W B 9 (.slice bva n bvc) n (fun i => .string (tx i))) :
    Calls Tryz.prog 75 #[.pointer (some ⟨lb, 0, none⟩)] W fun e w' => WorkP P B ob qb nb (.slice bva n bvc) R C (fun sc bs _ => s.st = false ∧ sc = sesC s.stop (.slice ua s.un uc) (.slice ha s.kh.length hc) (.slice pa s.pn pc) (.slice qa s.qn qc) (.slice la s.ln lc) (.slice da s.dn dc) ∧ bs = eraseL n R C) (fun c => s.st = true ∧ c = 3) W e w' := by
  have k0 : W.cell? ⟨lb, 0, none⟩ = some (.pointer (some ⟨P, 0, none⟩)) := cells_of hbx 0 _ rfl
  have k13 : W.cell? ⟨P, 13, none⟩ = some (.bool s.st) := by rw [cell_of_row W P 13 _ _ _ hP]; rfl
  have f13 : W.frozen? ⟨P, 13, none⟩ = false := Lib.frozen_of_heap hP 13
  have HP := hide hP
  have HW := hide hW
  have HB := hide hb
  have HBX := hide hbx
  have HNE := hide hne
  have HOK := hide hok
  clear hP hW hb hbx hne hok
  obtain ⟨st, hst⟩ : ∃ st, s.st = st := ⟨_, rfl⟩
  rw [hst] at k13
  have HST := hide hst
  clear hst
  cases st with
  | true =>
    go_enter Tryz.func75, Tryz.ntmps75
    go_wp2_with fail
    refine (require_no 3 W).mono ?_
    rintro e w6 ⟨rfl, rfl⟩
    refine ⟨rfl, .inr ⟨3, _, rfl, rfl, unhide HP, ⟨unhide HST, rfl⟩, Fr.refl _ _⟩⟩
  | false =>
    go_enter Tryz.func75, Tryz.ntmps75
    go_wp2_with fail
    refine (require_yes 3 W).mono ?_
    rintro e w6 ⟨rfl, rfl⟩
    obtain ⟨V, hV⟩ : ∃ V, V = w6.setCell ⟨P, 13, none⟩ (.bool true) := ⟨_, rfl⟩
    have FV : Fr (fun q => q = P) w6 V := by rw [hV]; exact Fr.setCell (S := fun q => q = P) (Fr.refl _ _) (a := ⟨P, 13, none⟩) rfl _
    have HPV : Hid (V.heap[P]? = some (.cells (lvC (sesC s.stop (.slice ua s.un uc) (.slice ha s.kh.length hc) (.slice pa s.pn pc) (.slice qa s.qn qc) (.slice la s.ln lc) (.slice da s.dn dc)) (lvW ob qb nb (.slice bva n bvc) R C)) 85 (0, 0))) := hide (by rw [hV]; exact set_blk2 (unhide HP) rfl)
    have kv0 : V.cell? ⟨lb, 0, none⟩ = some (.pointer (some ⟨P, 0, none⟩)) := cells_of (FV.kept (unhide HBX) (unhide HNE).1) 0 _ rfl
    have HWV := hide ((unhide HW).frP FV (fun g hg => by subst hg; have h := unhide HNE; exact ⟨h.2.2.2.1, h.2.2.2.2.2.1, h.2.2.2.2.2.2.1, h.2.2.2.2.2.2.2, h.2.2.2.2.1⟩))
    have HBV := hide ((unhide HB).fr FV (fun g hg e => by subst e; have h1 := ((unhide HB).lt g hg).1; have h := (unhide HNE).2.2.2.2.1; omega))
    have HV := hide hV
    have HFV := hide FV
    clear hV FV
    go_upto_region 2 with fail
    rw [← unhide HV]
    clear HV kv0 k0 k13 f13
    have hcE := hide (fun W' (hS : WrS W' B ob qb nb []) (hr : Row1At W' (.slice bva n bvc) n (fun i => .string (tx i))) => eraseM_any (.slice bva n bvc) R C n tx (unhide HOK) B ob qb nb [] W' hS hr hn (by simp))
    unfold wrV blV at hcE
    refine wp_region_held_drew (S := fun W => W.heap[lb]? = some (.cells #[.pointer (some ⟨P, 0, none⟩)] 66 (0, 0)) ∧ W.heap[P]? = some (.cells (lvC (sesC s.stop (.slice ua s.un uc) (.slice ha s.kh.length hc) (.slice pa s.pn pc) (.slice qa s.qn qc) (.slice la s.ln lc) (.slice da s.dn dc)) (lvW ob qb nb (.slice bva n bvc) R C)) 85 (0, 0))) (by kernel_rfl) ⟨(unhide HFV).kept (unhide HBX) (unhide HNE).1, unhide HPV⟩ (fun hHeld => ?_)
    refine wpAnyH_take (i := 0) (v := .pointer (some ⟨P, 0, none⟩)) rfl (by kernel_rfl) (by kernel_rfl) (by kernel_rfl) (fun _ _ _ h => h) (Or.inl ⟨by rfl, ?_⟩) (by assumption) ?_
    · intro w' hSw; have k9 := cells_of hSw.1 0 _ rfl; go_simp <;> with_reducible rfl
    simp only [Act.put, List.getElem_toArray, List.getElem_cons_succ, List.getElem_cons_zero, List.setIfInBounds_toArray, List.set_cons_zero, List.set_cons_succ]
    refine wpAnyH_take (i := 1) (v := .pointer (some ⟨P, 0, none⟩)) rfl (by kernel_rfl) (by kernel_rfl) (by kernel_rfl) (fun _ _ _ h => h) (Or.inl ⟨by rfl, ?_⟩) (by assumption) ?_
    · intro w' hSw; go_simp <;> with_reducible rfl
    simp only [Act.put, List.getElem_toArray, List.getElem_cons_succ, List.getElem_cons_zero, List.setIfInBounds_toArray, List.set_cons_zero, List.set_cons_succ]
    refine wpAnyH_take (i := 2) (v := .pointer (some ⟨P, 21, none⟩)) rfl (by kernel_rfl) (by kernel_rfl) (by kernel_rfl) (fun _ _ _ h => h) (Or.inl ⟨by rfl, ?_⟩) (by assumption) ?_
    · intro w' hSw; go_simp <;> with_reducible rfl
    simp only [Act.put, List.getElem_toArray, List.getElem_cons_succ, List.getElem_cons_zero, List.setIfInBounds_toArray, List.set_cons_zero, List.set_cons_succ]
    refine wpAnyH_take (i := 3) (v := .agg #[.func (.func 97) #[] #[.pointer (some ⟨ob, 0, none⟩)], .func (.func 98) #[] #[.pointer (some ⟨nb, 0, none⟩)], .func (.func 99) #[] #[.pointer (some ⟨nb, 0, none⟩)], .func (.func 100) #[] #[.pointer (some ⟨qb, 0, none⟩)], .func (.func 101) #[] #[.pointer (some ⟨ob, 0, none⟩)]]) rfl (by kernel_rfl) (by kernel_rfl) (by kernel_rfl) (fun _ _ _ h => h) (Or.inl ⟨by rfl, ?_⟩) (by assumption) ?_
    · intro w' hSw; exact yields_load_part 83 _ rfl P 21 rfl _ _ #[.func (.func 97) #[] #[.pointer (some ⟨ob, 0, none⟩)], .func (.func 98) #[] #[.pointer (some ⟨nb, 0, none⟩)], .func (.func 99) #[] #[.pointer (some ⟨nb, 0, none⟩)], .func (.func 100) #[] #[.pointer (some ⟨qb, 0, none⟩)], .func (.func 101) #[] #[.pointer (some ⟨ob, 0, none⟩)]] _ _ hSw.2 (fun j v hj => by have h9 := lvC_at (sc := (sesC s.stop (.slice ua s.un uc) (.slice ha s.kh.length hc) (.slice pa s.pn pc) (.slice qa s.qn qc) (.slice la s.ln lc) (.slice da s.dn dc))) (r := (lvW ob qb nb (.slice bva n bvc) R C)) rfl (4 + j); rw [show 17 + (4 + j) = 21 + j by omega] at h9; rw [h9]; match j, hj with | 0, hj => exact hj | 1, hj => exact hj | 2, hj => exact hj | 3, hj => exact hj | 4, hj => exact hj | j + 5, hj => simp at hj) Tryz.underlying83 rfl infoWrs5
    simp only [Act.put, List.getElem_toArray, List.getElem_cons_succ, List.getElem_cons_zero, List.setIfInBounds_toArray, List.set_cons_zero, List.set_cons_succ]
    refine wpAnyH_take (i := 4) (v := .pointer (some ⟨P, 0, none⟩)) rfl (by kernel_rfl) (by kernel_rfl) (by kernel_rfl) (fun _ _ _ h => h) (Or.inl ⟨by rfl, ?_⟩) (by assumption) ?_
    · intro w' hSw; have k9 := cells_of hSw.1 0 _ rfl; go_simp <;> with_reducible rfl
    simp only [Act.put, List.getElem_toArray, List.getElem_cons_succ, List.getElem_cons_zero, List.setIfInBounds_toArray, List.set_cons_zero, List.set_cons_succ]
    refine wpAnyH_take (i := 5) (v := .pointer (some ⟨P, 0, none⟩)) rfl (by kernel_rfl) (by kernel_rfl) (by kernel_rfl) (fun _ _ _ h => h) (Or.inl ⟨by rfl, ?_⟩) (by assumption) ?_
    · intro w' hSw; go_simp <;> with_reducible rfl
    simp only [Act.put, List.getElem_toArray, List.getElem_cons_succ, List.getElem_cons_zero, List.setIfInBounds_toArray, List.set_cons_zero, List.set_cons_succ]
    refine wpAnyH_take (i := 6) (v := .pointer (some ⟨P, 26, none⟩)) rfl (by kernel_rfl) (by kernel_rfl) (by kernel_rfl) (fun _ _ _ h => h) (Or.inl ⟨by rfl, ?_⟩) (by assumption) ?_
    · intro w' hSw; go_simp <;> with_reducible rfl
    simp only [Act.put, List.getElem_toArray, List.getElem_cons_succ, List.getElem_cons_zero, List.setIfInBounds_toArray, List.set_cons_zero, List.set_cons_succ]
    refine wpAnyH_take (i := 7) (v := .agg #[.slice bva n bvc, .int .i64 R, .int .i64 C]) rfl (by kernel_rfl) (by kernel_rfl) (by kernel_rfl) (fun _ _ _ h => h) (Or.inl ⟨by rfl, ?_⟩) (by assumption) ?_
    · intro w' hSw; exact yields_load_part 53 _ rfl P 26 rfl _ _ #[.slice bva n bvc, .int .i64 R, .int .i64 C] _ _ hSw.2 (fun j v hj => by have h9 := lvC_at (sc := (sesC s.stop (.slice ua s.un uc) (.slice ha s.kh.length hc) (.slice pa s.pn pc) (.slice qa s.qn qc) (.slice la s.ln lc) (.slice da s.dn dc))) (r := (lvW ob qb nb (.slice bva n bvc) R C)) rfl (9 + j); rw [show 17 + (9 + j) = 26 + j by omega] at h9; rw [h9]; match j, hj with | 0, hj => exact hj | 1, hj => exact hj | 2, hj => exact hj | j + 3, hj => simp at hj) Tryz.underlying53 rfl infoBlkF
    simp only [Act.put, List.getElem_toArray, List.getElem_cons_succ, List.getElem_cons_zero, List.setIfInBounds_toArray, List.set_cons_zero, List.set_cons_succ]
    refine wpAnyH_ready (rs := [8]) (by kernel_rfl) (by simp) ?_
    refine AllReadyH.cons rfl (fun K hK => ?_) AllReadyH.nil
    go_simp
    go_wp2_with (go_at_call 77; refine ((unhide hcE) _ ((unhide HWV).on (Ext.refl V).drew) ((unhide HBV).ext (Ext.refl V).drew).reads).mono ?_; rintro e X1 ⟨rfl, hs9, hf9⟩; have HWX := hide hs9; have HFX := hide ((WF.of_ext (Ext.refl V).drew).tr hf9); clear hs9 hf9)
    have hP1 := (unhide HFX).keep' (unhide HPV) (fun e => (unhide HNE).2.2.2.1 e.symm) (by decide)
    refine hK.out _ _ ⟨(unhide HFX).keep' ((unhide HFV).kept (unhide HBX) (unhide HNE).1) (fun e => (unhide HNE).2.1 e.symm) (by decide), hP1⟩ (fun hHeld => ?_)
    clear hK K
    refine wpAnyH_done (by kernel_rfl) ?_ _
    go_wp2
    refine bodyPost_end (v := .tuple #[]) (by simp [results, Tryz.results75, go_sem]) rfl (.inl ⟨_, _, rfl, rfl, hP1, unhide HWX, ⟨unhide HST, rfl, by rw [List.nil_append]⟩, ((unhide HFV).mono (fun q hq => .inl hq)).tr ((unhide HFX).1.mono (fun q hq => .inr hq))⟩)
theorem SS.blk_ok (s : SS) (h : sizeB s.cols s.rows = true) : bOk s.blk.n (s.blk.R : Int) s.blk.C := by
  obtain ⟨cn, rn, e1, e2, h2, h200, _, _⟩ := sizeB_open h
  have hR := (s.blk_lt h).1
  have hw : Wides s.cs := (((cuts_one (baL s.pr)).app (cuts_one (baL s.la))).app (cuts_one (baL s.lb))).wide
  have hc : s.cols.toNat = cn := by omega
  have hp : s.p0 ≤ s.cs.length := by unfold SS.p0 SS.cs; simp only [List.length_append]; omega
  have hb := layCol0_bd (p := s.p0) hw (show 2 ≤ s.cols.toNat by omega) hp
  have hf := full_iff (p := s.p0) hw (show 2 ≤ s.cols.toNat by omega) hp
  refine ⟨by omega, by omega, ?_⟩
  show 0 ≤ layCol s.cs s.cols.toNat s.p0 ∧ layCol s.cs s.cols.toNat s.p0 < 200
  unfold layCol
  split
  · omega
  · rename_i hn
    have h9 : layCol0 s.cs s.cols.toNat s.p0 ≠ s.cols.toNat := fun e => hn (hf.2 e)
    omega
end Go.Proofs.YtjfnieodpdklfaaGreatDoor
