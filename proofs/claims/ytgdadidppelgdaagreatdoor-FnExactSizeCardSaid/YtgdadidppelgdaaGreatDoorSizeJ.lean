import Derived.Test.YtgdadidppelgdaaGreatDoorFrmA
import Derived.Test.YtgdadidppelgdaaGreatDoorPaintM
import Derived.Test.YtgdadidppelgdaaGreatDoorViewG
import Derived.Test.YtgdadidppelgdaaGreatDoorEraseT
namespace Go.Proofs.YtgdadidppelgdaaGreatDoor
open Go.RowKit

/-- The rows that a session shows. -/
def SS.vN (s : SS) : Nat := if s.st then s.ln + 1 else s.ln + (lastV (fun i => trimS (s.blk.tx i)) s.blk.R s.blk.n + 1)
def SS.vT (s : SS) (i : Nat) : ByteArray := if s.st then (if i < s.ln then s.lt i else noX) else if i < s.ln then s.lt i else trimS (s.blk.tx (i - s.ln))
/-- A session of another size: what it showed stands in its log. -/
def SS.resize (s : SS) (c r : Int) : SS := { s with cols := c, rows := r, ln := s.vN, lt := s.vT }
/-- What is written for another size. -/
def SS.sizeZ (s : SS) (c r : Int) : List Int := if s.st then [] else (s.resize c r).paint
theorem infoWrsZ : (Tryz.prog.info? 83).map (·.size) = some 5 := by kernel_rfl
theorem implView_any (s : SS) (u h p q l d : Value) (w : World) (hA : SesAt w s u h p q l d) (hz : s.Sz) (hT : Tabs3 w) (hok : SesP s) :
    Calls Tryz.prog 70 #[sesV s u h p q l d] w fun e w' => ∃ v R C, e = .returned (.tuple #[v, .int .i64 R, .int .i64 C]) ∧ Own1 w' w.heap.size 9 v s.vN (fun i => .string (s.vT i)) ∧ Ext w w' := by
  cases hst : s.st with
  | true =>
    refine (implView_st s u h p q l d w hA hz hT hok hst).mono ?_
    rintro e w' ⟨v, rfl, o, F⟩
    refine ⟨v, _, _, rfl, ?_, F⟩
    unfold SS.vN SS.vT
    simp only [hst, if_true]
    exact o
  | false =>
    refine (implView_go s u h p q l d w hA hz hT hok hst).mono ?_
    rintro e w' ⟨v, rfl, o, F⟩
    refine ⟨v, _, _, rfl, ?_, F⟩
    unfold SS.vN SS.vT
    simp only [hst, Bool.false_eq_true, if_false]
    exact o
/-- What a frame of another size leaves. -/
def SizeOk (s : SS) (cols rows : Int) (base : Nat) (ua ha pa qa da : Option Addr) (uc hc pc qc dc : Nat) (sc : Array Value) (bs : List Int) (W : World) : Prop :=
  sizeB cols rows = true ∧ ∃ va vc, sc = (sesC (s.resize cols rows) (.slice ua s.un uc) (.slice ha s.kh.length hc) (.slice pa s.pn pc) (.slice qa s.qn qc) (.slice va s.vN vc) (.slice da s.dn dc)) ∧ Own1 W base 9 (.slice va s.vN vc) s.vN (fun i => .string (s.vT i)) ∧ bs = s.sizeZ cols rows
theorem own1_wf {W W' : World} {B ob base : Nat} {v : Value} {n : Nat} {A : Nat → Value} (h : Own1 W base 9 v n A) (f : WF B ob W W') (hne : ∀ g, v.ownBlock = some g → g ≠ ob) : Own1 W' base 9 v n A := by
  obtain ⟨ys, ho, hy⟩ := h
  refine ⟨ys, ?_, hy⟩
  obtain ⟨h1, h2⟩ := ho
  refine ⟨h1, ?_⟩
  rcases h2 with h2 | ⟨g, cap, cur, e, h3, h4, h5⟩
  · exact .inl h2
  · exact .inr ⟨g, cap, cur, e, h3, f.keep' h4 (fun e9 => hne g (by rw [e]; rfl) e9.symm) (by decide), h5⟩
set_option linter.unusedSimpArgs false in
set_option maxRecDepth 10000 in
set_option maxHeartbeats 8000000 in
/-- The work of another size. -/
theorem size1_any (P lb cb rb : Nat) (cols rows : Int) (s : SS) (ua ha pa qa la da : Option Addr) (uc hc pc qc lc dc : Nat) (n : Nat) (R : Int) (C : Int) (B ob qb nb base : Nat) (bva : Option Addr) (bvc : Nat) (W : World)
    (hbx : W.heap[lb]? = some (.cells #[.pointer (some ⟨P, 0, none⟩)] 66 (0, 0))) (hcb : W.heap[cb]? = some (.cells #[.int .i64 cols] 3 (0, 0))) (hrb : W.heap[rb]? = some (.cells #[.int .i64 rows] 3 (0, 0)))
    (hne : lb ≠ P ∧ cb ≠ P ∧ rb ≠ P ∧ lb ≠ ob ∧ lb < B ∧ P ≠ ob ∧ P < B ∧ P ≠ qb ∧ P ≠ nb ∧ P ≠ 4 ∧ base ≤ B)
    (hAf : ∀ W', Fr (fun q => q = P ∨ B ≤ q) W W' → SesAt W' s (.slice ua s.un uc) (.slice ha s.kh.length hc) (.slice pa s.pn pc) (.slice qa s.qn qc) (.slice la s.ln lc) (.slice da s.dn dc)) (hz : s.Sz) (hT : ∀ W', Fr (fun q => q = P ∨ B ≤ q) W W' → Tabs3 W') (hok : SesP s)
    (hP : W.heap[P]? = some (.cells (lvC (sesC s (.slice ua s.un uc) (.slice ha s.kh.length hc) (.slice pa s.pn pc) (.slice qa s.qn qc) (.slice la s.ln lc) (.slice da s.dn dc)) (lvW ob qb nb (.slice bva n bvc) R C)) 85 (0, 0))) (hW : WrS W B ob qb nb []) :
    Calls Tryz.prog 67 #[.pointer (some ⟨cb, 0, none⟩), .pointer (some ⟨rb, 0, none⟩), .pointer (some ⟨lb, 0, none⟩)] W fun e w' => WorkP P B ob qb nb (.slice bva n bvc) R C (SizeOk s cols rows base ua ha pa qa da uc hc pc qc dc) (fun c => sizeB cols rows = false ∧ c = 2) W e w' := by
  have k0 : W.cell? ⟨cb, 0, none⟩ = some (.int .i64 cols) := cells_of hcb 0 _ rfl
  have k1 : W.cell? ⟨rb, 0, none⟩ = some (.int .i64 rows) := cells_of hrb 0 _ rfl
  have hcV := hide (fun W' (hF : Fr (fun q => q = P ∨ B ≤ q) W W') => implView_any s (.slice ua s.un uc) (.slice ha s.kh.length hc) (.slice pa s.pn pc) (.slice qa s.qn qc) (.slice la s.ln lc) (.slice da s.dn dc) W' (hAf W' hF) hz (hT W' hF) hok)
  simp only [sesV_C] at hcV
  have HP := hide hP
  have HW := hide hW
  have HBX := hide hbx
  have HCB := hide hcb
  have HRB := hide hrb
  have HNE := hide hne
  have HZ := hide (And.intro hz.pr (And.intro hz.la hz.lb))
  have HT := hide hT
  have HAF := hide hAf
  clear hP hW hbx hne hcb hrb hz hT hAf hok
  obtain ⟨ok, hok⟩ : ∃ ok, sizeB cols rows = ok := ⟨_, rfl⟩
  have hcS := sizeOk_any cols rows W
  rw [hok] at hcS
  have HCS := hide hcS
  have HOK := hide hok
  clear hok hcS
  cases ok with
  | false =>
    go_enter Tryz.func67, Tryz.ntmps67
    go_wp2_with fail
    refine (unhide HCS).mono ?_
    rintro e w5 ⟨rfl, rfl⟩
    go_wp2_with fail
    refine (require_no 2 w5).mono ?_
    rintro e w6 ⟨rfl, rfl⟩
    refine ⟨rfl, .inr ⟨2, _, rfl, rfl, unhide HP, ⟨unhide HOK, rfl⟩, Fr.refl _ _⟩⟩
  | true =>
    go_enter Tryz.func67, Tryz.ntmps67
    go_wp2_with fail
    refine (unhide HCS).mono ?_
    rintro e w5 ⟨rfl, rfl⟩
    go_wp2_with fail
    refine (require_yes 2 w5).mono ?_
    rintro e w6 ⟨rfl, rfl⟩
    go_upto_region 1 with fail
    clear k0 k1 HCS
    refine wp_region_held_drew (S := fun W => W.heap[lb]? = some (.cells #[.pointer (some ⟨P, 0, none⟩)] 66 (0, 0))) (by kernel_rfl) (unhide HBX) (fun hHeld => ?_)
    have G := hide ((Ext.refl w6).drew)
    generalize w6.drew = X0 at *
    refine wpAnyH_take (i := 0) (v := .pointer (some ⟨P, 0, none⟩)) rfl (by kernel_rfl) (by kernel_rfl) (by kernel_rfl) (fun _ _ _ h => h) (Or.inl ⟨by rfl, ?_⟩) (by assumption) ?_
    · intro w' hSw; have k9 := cells_of hSw 0 _ rfl; go_simp <;> with_reducible rfl
    simp only [Act.put, List.getElem_toArray, List.getElem_cons_succ, List.getElem_cons_zero, List.setIfInBounds_toArray, List.set_cons_zero, List.set_cons_succ]
    refine wpAnyH_take (i := 1) (v := .pointer (some ⟨P, 0, none⟩)) rfl (by kernel_rfl) (by kernel_rfl) (by kernel_rfl) (fun _ _ _ h => h) (Or.inl ⟨by rfl, ?_⟩) (by assumption) ?_
    · intro w' hSw; have k9 := cells_of hSw 0 _ rfl; go_simp <;> with_reducible rfl
    simp only [Act.put, List.getElem_toArray, List.getElem_cons_succ, List.getElem_cons_zero, List.setIfInBounds_toArray, List.set_cons_zero, List.set_cons_succ]
    refine wpAnyH_take (i := 2) (v := .pointer (some ⟨P, 0, none⟩)) rfl (by kernel_rfl) (by kernel_rfl) (by kernel_rfl) (fun _ _ _ h => h) (Or.inl ⟨by rfl, ?_⟩) (by assumption) ?_
    · intro w' hSw; go_simp <;> with_reducible rfl
    simp only [Act.put, List.getElem_toArray, List.getElem_cons_succ, List.getElem_cons_zero, List.setIfInBounds_toArray, List.set_cons_zero, List.set_cons_succ]
    refine wpAnyH_take (i := 3) (v := .pointer (some ⟨P, 0, none⟩)) rfl (by kernel_rfl) (by kernel_rfl) (by kernel_rfl) (fun _ _ _ h => h) (Or.inl ⟨by rfl, ?_⟩) (by assumption) ?_
    · intro w' hSw; go_simp <;> with_reducible rfl
    simp only [Act.put, List.getElem_toArray, List.getElem_cons_succ, List.getElem_cons_zero, List.setIfInBounds_toArray, List.set_cons_zero, List.set_cons_succ]
    clear hHeld
    refine wpAnyH_ready (rs := [4]) (by kernel_rfl) (by simp) ?_
    refine AllReadyH.cons rfl (fun K hK => ?_) AllReadyH.nil
    refine wp_load_part 37 _ rfl P 0 rfl _ _ (sesC s (.slice ua s.un uc) (.slice ha s.kh.length hc) (.slice pa s.pn pc) (.slice qa s.qn qc) (.slice la s.ln lc) (.slice da s.dn dc)) _ _ ((unhide G).kept (unhide HP)) lvC_ses Tryz.underlying37 rfl infoSes ?_
    refine hK.out _ _ ((unhide G).kept (unhide HBX)) (fun hHeld => ?_)
    clear hK K hHeld
    refine wpAnyH_ready (rs := [5]) (by kernel_rfl) (by simp) ?_
    refine AllReadyH.cons rfl (fun K hK => ?_) AllReadyH.nil
    go_simp
    go_wp2_with (go_at_call 70; refine ((unhide hcV) _ (Fr.of_ext (unhide G))).mono ?_; rintro e X1 ⟨v1, R1, C1, rfl, o9, f9⟩; obtain ⟨va, vc, rfl⟩ := o9.slice; have HV1 := hide (o9.mono (base' := B) (by have h1 := (unhide HW).le; have h2 := (unhide G).size; omega)); replace G := hide ((unhide G).trans f9); clear o9 f9)
    refine hK.out _ _ ((unhide G).kept (unhide HBX)) (fun hHeld => ?_)
    clear hK K
    refine wpAnyH_take (i := 6) (v := ?_) rfl (by kernel_rfl) (by kernel_rfl) (by kernel_rfl) (fun _ _ _ h => h) (Or.inl ⟨by rfl, ?_⟩) (by assumption) ?_
    rotate_left
    · intro w' hSw; go_simp <;> with_reducible rfl
    simp only [Act.put, List.getElem_toArray, List.getElem_cons_succ, List.getElem_cons_zero, List.setIfInBounds_toArray, List.set_cons_zero, List.set_cons_succ]
    refine wpAnyH_take (i := 7) (v := ?_) rfl (by kernel_rfl) (by kernel_rfl) (by kernel_rfl) (fun _ _ _ h => h) (Or.inl ⟨by rfl, ?_⟩) (by assumption) ?_
    rotate_left
    · intro w' hSw; go_simp <;> with_reducible rfl
    simp only [Act.put, List.getElem_toArray, List.getElem_cons_succ, List.getElem_cons_zero, List.setIfInBounds_toArray, List.set_cons_zero, List.set_cons_succ]
    refine wpAnyH_take (i := 8) (v := ?_) rfl (by kernel_rfl) (by kernel_rfl) (by kernel_rfl) (fun _ _ _ h => h) (Or.inl ⟨by rfl, ?_⟩) (by assumption) ?_
    rotate_left
    · intro w' hSw; go_simp <;> with_reducible rfl
    simp only [Act.put, List.getElem_toArray, List.getElem_cons_succ, List.getElem_cons_zero, List.setIfInBounds_toArray, List.set_cons_zero, List.set_cons_succ]
    refine wpAnyH_take (i := 9) (v := ?_) rfl (by kernel_rfl) (by kernel_rfl) (by kernel_rfl) (fun _ _ _ h => h) (Or.inl ⟨by rfl, ?_⟩) (by assumption) ?_
    rotate_left
    · intro w' hSw; go_simp <;> with_reducible rfl
    simp only [Act.put, List.getElem_toArray, List.getElem_cons_succ, List.getElem_cons_zero, List.setIfInBounds_toArray, List.set_cons_zero, List.set_cons_succ]
    refine wpAnyH_take (i := 10) (v := .pointer (some ⟨P, 0, none⟩)) rfl (by kernel_rfl) (by kernel_rfl) (by kernel_rfl) (fun _ _ _ h => h) (Or.inl ⟨by rfl, ?_⟩) (by assumption) ?_
    · intro w' hSw; go_simp <;> with_reducible rfl
    simp only [Act.put, List.getElem_toArray, List.getElem_cons_succ, List.getElem_cons_zero, List.setIfInBounds_toArray, List.set_cons_zero, List.set_cons_succ]
    refine wpAnyH_take (i := 11) (v := .pointer (some ⟨P, 0, none⟩)) rfl (by kernel_rfl) (by kernel_rfl) (by kernel_rfl) (fun _ _ _ h => h) (Or.inl ⟨by rfl, ?_⟩) (by assumption) ?_
    · intro w' hSw; go_simp <;> with_reducible rfl
    simp only [Act.put, List.getElem_toArray, List.getElem_cons_succ, List.getElem_cons_zero, List.setIfInBounds_toArray, List.set_cons_zero, List.set_cons_succ]
    refine wpAnyH_take (i := 12) (v := .pointer (some ⟨P, 15, none⟩)) rfl (by kernel_rfl) (by kernel_rfl) (by kernel_rfl) (fun _ _ _ h => h) (Or.inl ⟨by rfl, ?_⟩) (by assumption) ?_
    · intro w' hSw; go_simp <;> with_reducible rfl
    simp only [Act.put, List.getElem_toArray, List.getElem_cons_succ, List.getElem_cons_zero, List.setIfInBounds_toArray, List.set_cons_zero, List.set_cons_succ]
    clear hHeld
    refine wpAnyH_ready (rs := [13]) (by kernel_rfl) (by simp) ?_
    refine AllReadyH.cons rfl (fun K hK => ?_) AllReadyH.nil
    have k15 : X1.cell? ⟨P, 15, none⟩ = some (.slice la s.ln lc) := by rw [cell_of_row X1 P 15 _ _ _ ((unhide G).kept (unhide HP))]; rfl
    have f15 : X1.frozen? ⟨P, 15, none⟩ = false := Lib.frozen_of_heap ((unhide G).kept (unhide HP)) 15
    go_simp
    have hb2 : (X1.setCell ⟨P, 15, none⟩ (.slice va s.vN vc)).heap[P]? = some (.cells (lvC (sesC { s with ln := s.vN, lt := s.vT } (.slice ua s.un uc) (.slice ha s.kh.length hc) (.slice pa s.pn pc) (.slice qa s.qn qc) (.slice va s.vN vc) (.slice da s.dn dc)) (lvW ob qb nb (.slice bva n bvc) R C)) 85 (0, 0)) := set_blk2 ((unhide G).kept (unhide HP)) rfl
    have hf2 : Fr (fun q => q = P) X1 (X1.setCell ⟨P, 15, none⟩ (.slice va s.vN vc)) := Fr.setCell (S := fun q => q = P) (Fr.refl _ _) (a := ⟨P, 15, none⟩) rfl _
    generalize X1.setCell ⟨P, 15, none⟩ (.slice va s.vN vc) = X2 at hb2 hf2 ⊢
    have HP2 := hide hb2
    have F2 := hide hf2
    refine hK.out _ _ (hf2.kept ((unhide G).kept (unhide HBX)) (unhide HNE).1) (fun hHeld => ?_)
    clear hK K hHeld hb2 hf2 k15 f15
    refine wpAnyH_done (by kernel_rfl) ?_ _
    have j0 : X2.cell? ⟨lb, 0, none⟩ = some (.pointer (some ⟨P, 0, none⟩)) := cells_of ((unhide F2).kept ((unhide G).kept (unhide HBX)) (unhide HNE).1) 0 _ rfl
    have j1 : X2.cell? ⟨cb, 0, none⟩ = some (.int .i64 cols) := cells_of ((unhide F2).kept ((unhide G).kept (unhide HCB)) (unhide HNE).2.1) 0 _ rfl
    have j2 : X2.cell? ⟨rb, 0, none⟩ = some (.int .i64 rows) := cells_of ((unhide F2).kept ((unhide G).kept (unhide HRB)) (unhide HNE).2.2.1) 0 _ rfl
    have c1 : X2.cell? ⟨P, 1, none⟩ = some (.int .i64 s.cols) := by rw [cell_of_row X2 P 1 _ _ _ (unhide HP2)]; rfl
    have c2 : ∀ v, (X2.setCell ⟨P, 1, none⟩ v).cell? ⟨P, 2, none⟩ = some (.int .i64 s.rows) := fun v => by rw [cell_of_row _ P 2 _ _ _ (set_blk (unhide HP2))]; rfl
    have g1 : ∀ i, X2.frozen? ⟨P, i, none⟩ = false := fun i => Lib.frozen_of_heap (unhide HP2) i
    obtain ⟨V, hV⟩ : ∃ V, V = (X2.setCell ⟨P, 1, none⟩ (.int .i64 cols)).setCell ⟨P, 2, none⟩ (.int .i64 rows) := ⟨_, rfl⟩
    have HPV : Hid (V.heap[P]? = some (.cells (lvC (sesC (s.resize cols rows) (.slice ua s.un uc) (.slice ha s.kh.length hc) (.slice pa s.pn pc) (.slice qa s.qn qc) (.slice va s.vN vc) (.slice da s.dn dc)) (lvW ob qb nb (.slice bva n bvc) R C)) 85 (0, 0))) := hide (by rw [hV]; exact set_blk2 (set_blk2 (cs' := lvC (sesC { s with cols := cols, ln := s.vN, lt := s.vT } (.slice ua s.un uc) (.slice ha s.kh.length hc) (.slice pa s.pn pc) (.slice qa s.qn qc) (.slice va s.vN vc) (.slice da s.dn dc)) (lvW ob qb nb (.slice bva n bvc) R C)) (unhide HP2) rfl) rfl)
    have FV : Fr (fun q => q = P) X2 V := by rw [hV]; exact Fr.setCell (S := fun q => q = P) (Fr.setCell (S := fun q => q = P) (Fr.refl _ _) (a := ⟨P, 1, none⟩) rfl _) (a := ⟨P, 2, none⟩) rfl _
    have FT := hide ((unhide F2).tr FV)
    have kv0 : V.cell? ⟨lb, 0, none⟩ = some (.pointer (some ⟨P, 0, none⟩)) := cells_of ((unhide FT).kept ((unhide G).kept (unhide HBX)) (unhide HNE).1) 0 _ rfl
    have kv13 : V.cell? ⟨P, 13, none⟩ = some (.bool s.st) := by rw [cell_of_row V P 13 _ _ _ (unhide HPV)]; rfl
    have hnp : Hid (∀ g, g = P → g ≠ ob ∧ g ≠ qb ∧ g ≠ nb ∧ g ≠ 4 ∧ g < B) := hide (fun g hg => by subst hg; have h := unhide HNE; exact ⟨h.2.2.2.2.2.1, h.2.2.2.2.2.2.2.1, h.2.2.2.2.2.2.2.2.1, h.2.2.2.2.2.2.2.2.2.1, h.2.2.2.2.2.2.1⟩)
    have HWV := hide (((unhide HW).on (unhide G)).frP (unhide FT) (unhide hnp))
    have HVV := hide ((unhide HV1).fr (unhide FT) (fun g hg e => by have h1 := ((unhide HV1).lt g hg).1; have h2 := ((unhide hnp) g e).2.2.2.2; omega))
    have FZ : Hid (Fr (fun q => q = P ∨ WS B ob q) w6 V) := hide ((Fr.of_ext (unhide G)).tr ((unhide FT).mono (fun q hq => .inl hq)))
    have FB : Hid (Fr (fun q => q = P ∨ B ≤ q) w6 V) := hide ((Fr.of_ext (unhide G)).tr ((unhide FT).mono (fun q hq => .inl hq)))
    have HV := hide hV
    clear hV FV F2
    obtain ⟨st, hst⟩ : ∃ st, s.st = st := ⟨_, rfl⟩
    rw [hst] at kv13
    have HST := hide hst
    clear hst
    go_upto_region 3 with fail
    rw [← unhide HV]
    clear HV j0 j1 j2 c1 c2 g1
    cases st with
    | true =>
      go_wp2
      refine bodyPost_end (v := .tuple #[]) (by simp [results, Tryz.results67, go_sem]) rfl (.inl ⟨_, _, rfl, rfl, unhide HPV, unhide HWV, ⟨unhide HOK, va, vc, rfl, (unhide HVV).mono (unhide HNE).2.2.2.2.2.2.2.2.2.2, by unfold SS.sizeZ; rw [unhide HST]; rfl⟩, unhide FZ⟩)
    | false =>
      have hcB := hide (fun W' (hF : Fr (fun q => q = P ∨ B ≤ q) w6 W') (hA : SesAt W' (s.resize cols rows) (.slice ua s.un uc) (.slice ha s.kh.length hc) (.slice pa s.pn pc) (.slice qa s.qn qc) (.slice va s.vN vc) (.slice da s.dn dc)) => blockOf_big (s.resize cols rows) (.slice ua s.un uc) (.slice ha s.kh.length hc) (.slice pa s.pn pc) (.slice qa s.qn qc) (.slice va s.vN vc) (.slice da s.dn dc) W' hA (unhide HZ).1 (unhide HZ).2.1 (unhide HZ).2.2 (unhide HOK) ((unhide HT) W' hF).1)
      simp only [sesV_C] at hcB
      have hcE := hide (fun (v : Value) (W' : World) (hS : WrS W' B ob qb nb []) (hr : Row1At W' v (s.resize cols rows).blk.n (fun i => .string ((s.resize cols rows).blk.tx i))) => paintM_any v ((s.resize cols rows).blk.R : Int) (s.resize cols rows).blk.C (s.resize cols rows).blk.n (s.resize cols rows).blk.tx ((s.resize cols rows).blk_ok (unhide HOK)) B ob qb nb [] W' hS hr (by have := ((s.resize cols rows).blk_lt (unhide HOK)).2; omega) (by have := (s.resize cols rows).blk_slen_big (unhide HZ).1 (unhide HZ).2.1 (unhide HZ).2.2 (unhide HOK); omega) (by simp))
      unfold wrV blV at hcE
      have HA5 : Hid (∀ W', Fr (fun q => q = P ∨ B ≤ q) w6 W' → Ext V W' → SesAt W' (s.resize cols rows) (.slice ua s.un uc) (.slice ha s.kh.length hc) (.slice pa s.pn pc) (.slice qa s.qn qc) (.slice va s.vN vc) (.slice da s.dn dc)) := hide (fun W' hF hE => by
        have a := (unhide HAF) W' hF
        exact ⟨a.un, a.kh, a.pa, a.qu, ((unhide HVV).ext hE).reads, a.dn⟩)
      go_upto_region 4 with fail
      clear kv0 kv13
      refine wp_region_held_drew (S := fun W => W.heap[lb]? = some (.cells #[.pointer (some ⟨P, 0, none⟩)] 66 (0, 0)) ∧ W.heap[P]? = some (.cells (lvC (sesC (s.resize cols rows) (.slice ua s.un uc) (.slice ha s.kh.length hc) (.slice pa s.pn pc) (.slice qa s.qn qc) (.slice va s.vN vc) (.slice da s.dn dc)) (lvW ob qb nb (.slice bva n bvc) R C)) 85 (0, 0))) (by kernel_rfl) ⟨(unhide FT).kept ((unhide G).kept (unhide HBX)) (unhide HNE).1, unhide HPV⟩ (fun hHeld => ?_)
      have GV := hide ((Ext.refl V).drew)
      have HBV := hide ((unhide FT).kept ((unhide G).kept (unhide HBX)) (unhide HNE).1)
      generalize V.drew = Y0 at *
      refine wpAnyH_take (i := 0) (v := .pointer (some ⟨P, 0, none⟩)) rfl (by kernel_rfl) (by kernel_rfl) (by kernel_rfl) (fun _ _ _ h => h) (Or.inl ⟨by rfl, ?_⟩) (by assumption) ?_
      · intro w' hSw; have k9 := cells_of hSw.1 0 _ rfl; go_simp <;> with_reducible rfl
      simp only [Act.put, List.getElem_toArray, List.getElem_cons_succ, List.getElem_cons_zero, List.setIfInBounds_toArray, List.set_cons_zero, List.set_cons_succ]
      refine wpAnyH_take (i := 1) (v := .pointer (some ⟨P, 0, none⟩)) rfl (by kernel_rfl) (by kernel_rfl) (by kernel_rfl) (fun _ _ _ h => h) (Or.inl ⟨by rfl, ?_⟩) (by assumption) ?_
      · intro w' hSw; go_simp <;> with_reducible rfl
      simp only [Act.put, List.getElem_toArray, List.getElem_cons_succ, List.getElem_cons_zero, List.setIfInBounds_toArray, List.set_cons_zero, List.set_cons_succ]
      refine wpAnyH_take (i := 2) (v := .pointer (some ⟨P, 21, none⟩)) rfl (by kernel_rfl) (by kernel_rfl) (by kernel_rfl) (fun _ _ _ h => h) (Or.inl ⟨by rfl, ?_⟩) (by assumption) ?_
      · intro w' hSw; go_simp <;> with_reducible rfl
      simp only [Act.put, List.getElem_toArray, List.getElem_cons_succ, List.getElem_cons_zero, List.setIfInBounds_toArray, List.set_cons_zero, List.set_cons_succ]
      refine wpAnyH_take (i := 3) (v := .agg #[.func (.func 129) #[] #[.pointer (some ⟨ob, 0, none⟩)], .func (.func 130) #[] #[.pointer (some ⟨nb, 0, none⟩)], .func (.func 131) #[] #[.pointer (some ⟨nb, 0, none⟩)], .func (.func 132) #[] #[.pointer (some ⟨qb, 0, none⟩)], .func (.func 133) #[] #[.pointer (some ⟨ob, 0, none⟩)]]) rfl (by kernel_rfl) (by kernel_rfl) (by kernel_rfl) (fun _ _ _ h => h) (Or.inl ⟨by rfl, ?_⟩) (by assumption) ?_
      · intro w' hSw; exact yields_load_part 83 _ rfl P 21 rfl _ _ #[.func (.func 129) #[] #[.pointer (some ⟨ob, 0, none⟩)], .func (.func 130) #[] #[.pointer (some ⟨nb, 0, none⟩)], .func (.func 131) #[] #[.pointer (some ⟨nb, 0, none⟩)], .func (.func 132) #[] #[.pointer (some ⟨qb, 0, none⟩)], .func (.func 133) #[] #[.pointer (some ⟨ob, 0, none⟩)]] _ _ hSw.2 (fun j v hj => by have h9 := lvC_at (sc := (sesC (s.resize cols rows) (.slice ua s.un uc) (.slice ha s.kh.length hc) (.slice pa s.pn pc) (.slice qa s.qn qc) (.slice va s.vN vc) (.slice da s.dn dc))) (r := (lvW ob qb nb (.slice bva n bvc) R C)) rfl (4 + j); rw [show 17 + (4 + j) = 21 + j by omega] at h9; rw [h9]; match j, hj with | 0, hj => exact hj | 1, hj => exact hj | 2, hj => exact hj | 3, hj => exact hj | 4, hj => exact hj | j + 5, hj => simp at hj) Tryz.underlying83 rfl infoWrsZ
      simp only [Act.put, List.getElem_toArray, List.getElem_cons_succ, List.getElem_cons_zero, List.setIfInBounds_toArray, List.set_cons_zero, List.set_cons_succ]
      refine wpAnyH_take (i := 4) (v := .pointer (some ⟨P, 0, none⟩)) rfl (by kernel_rfl) (by kernel_rfl) (by kernel_rfl) (fun _ _ _ h => h) (Or.inl ⟨by rfl, ?_⟩) (by assumption) ?_
      · intro w' hSw; have k9 := cells_of hSw.1 0 _ rfl; go_simp <;> with_reducible rfl
      simp only [Act.put, List.getElem_toArray, List.getElem_cons_succ, List.getElem_cons_zero, List.setIfInBounds_toArray, List.set_cons_zero, List.set_cons_succ]
      refine wpAnyH_take (i := 5) (v := .pointer (some ⟨P, 0, none⟩)) rfl (by kernel_rfl) (by kernel_rfl) (by kernel_rfl) (fun _ _ _ h => h) (Or.inl ⟨by rfl, ?_⟩) (by assumption) ?_
      · intro w' hSw; go_simp <;> with_reducible rfl
      simp only [Act.put, List.getElem_toArray, List.getElem_cons_succ, List.getElem_cons_zero, List.setIfInBounds_toArray, List.set_cons_zero, List.set_cons_succ]
      refine wpAnyH_take (i := 6) (v := .pointer (some ⟨P, 0, none⟩)) rfl (by kernel_rfl) (by kernel_rfl) (by kernel_rfl) (fun _ _ _ h => h) (Or.inl ⟨by rfl, ?_⟩) (by assumption) ?_
      · intro w' hSw; go_simp <;> with_reducible rfl
      simp only [Act.put, List.getElem_toArray, List.getElem_cons_succ, List.getElem_cons_zero, List.setIfInBounds_toArray, List.set_cons_zero, List.set_cons_succ]
      refine wpAnyH_take (i := 7) (v := .agg (sesC (s.resize cols rows) (.slice ua s.un uc) (.slice ha s.kh.length hc) (.slice pa s.pn pc) (.slice qa s.qn qc) (.slice va s.vN vc) (.slice da s.dn dc))) rfl (by kernel_rfl) (by kernel_rfl) (by kernel_rfl) (fun _ _ _ h => h) (Or.inl ⟨by rfl, ?_⟩) (by assumption) ?_
      · intro w' hSw; exact yields_load_part 37 _ rfl P 0 rfl _ _ (sesC (s.resize cols rows) (.slice ua s.un uc) (.slice ha s.kh.length hc) (.slice pa s.pn pc) (.slice qa s.qn qc) (.slice va s.vN vc) (.slice da s.dn dc)) _ _ hSw.2 lvC_ses Tryz.underlying37 rfl infoSes
      simp only [Act.put, List.getElem_toArray, List.getElem_cons_succ, List.getElem_cons_zero, List.setIfInBounds_toArray, List.set_cons_zero, List.set_cons_succ]
      clear hHeld
      refine wpAnyH_ready (rs := [8]) (by kernel_rfl) (by simp) ?_
      refine AllReadyH.cons rfl (fun K hK => ?_) AllReadyH.nil
      go_simp
      go_wp2_with (go_at_call 72; refine ((unhide hcB) _ ((unhide FB).tr (Fr.of_ext (unhide GV))) ((unhide HA5) _ ((unhide FB).tr (Fr.of_ext (unhide GV))) (unhide GV))).mono ?_; rintro e Y1 ⟨v9, rfl, o9, f9⟩; obtain ⟨a9, c9, rfl⟩ := o9.slice; have HB9 := hide o9.reads; replace GV := hide ((unhide GV).trans f9); clear o9 f9)
      refine hK.out _ _ ⟨(unhide GV).kept (unhide HBV), (unhide GV).kept (unhide HPV)⟩ (fun hHeld => ?_)
      clear hK K hHeld
      refine wpAnyH_ready (rs := [9]) (by kernel_rfl) (by simp) ?_
      refine AllReadyH.cons rfl (fun K hK => ?_) AllReadyH.nil
      go_simp
      go_wp2_with (go_at_call 71; refine ((unhide hcE) _ _ ((unhide HWV).on (unhide GV)) (unhide HB9)).mono ?_; rintro e Y2 ⟨rfl, hs9, hf9⟩; have HWX := hide hs9; have HFX := hide ((WF.of_ext (unhide GV)).tr hf9); clear hs9 hf9)
      have hP1 := (unhide HFX).keep' (unhide HPV) (fun e => (unhide HNE).2.2.2.2.2.1 e.symm) (by decide)
      refine hK.out _ _ ⟨(unhide HFX).keep' (unhide HBV) (fun e => (unhide HNE).2.2.2.1 e.symm) (by decide), hP1⟩ (fun hHeld => ?_)
      clear hK K hHeld
      refine wpAnyH_done (by kernel_rfl) ?_ _
      go_wp2
      have hvo := own1_wf (unhide HVV) (unhide HFX) (fun g hg e => by have h1 := ((unhide HVV).lt g hg).1; have h2 := (unhide HWV).ltb; omega)
      refine bodyPost_end (v := .tuple #[]) (by simp [results, Tryz.results67, go_sem]) rfl (.inl ⟨_, _, rfl, rfl, hP1, unhide HWX, ⟨unhide HOK, va, vc, rfl, hvo.mono (unhide HNE).2.2.2.2.2.2.2.2.2.2, by unfold SS.sizeZ; rw [unhide HST, List.nil_append]; rfl⟩, (unhide FZ).tr ((unhide HFX).1.mono (fun q hq => .inr hq))⟩)
end Go.Proofs.YtgdadidppelgdaaGreatDoor

namespace Go.Proofs.YtgdadidppelgdaaGreatDoor
open Go.RowKit

theorem apart_log {u h p q l d l' : Value} (H : List.Pairwise Apart [u, h, p, q, l, d]) (h1 : Apart u l') (h2 : Apart h l') (h3 : Apart p l') (h4 : Apart q l') (h5 : Apart l' d) : List.Pairwise Apart [u, h, p, q, l', d] := by
  simp only [List.pairwise_cons, List.mem_cons, List.not_mem_nil, or_false, forall_eq_or_imp, forall_eq, false_implies, implies_true, and_true, List.Pairwise.nil] at H ⊢
  obtain ⟨⟨a1, a2, a3, _, a5⟩, ⟨b2, b3, _, b5⟩, ⟨c3, _, c5⟩, ⟨_, d5⟩, _⟩ := H
  exact ⟨⟨a1, a2, a3, h1, a5⟩, ⟨b2, b3, h2, b5⟩, ⟨c3, h3, c5⟩, ⟨h4, d5⟩, h5⟩
set_option maxRecDepth 10000 in
set_option maxHeartbeats 4000000 in
theorem liveSize_any (P : Nat) (s : SS) (cols rows : Int) (ua ha pa qa la da : Option Addr) (uc hc pc qc lc dc : Nat) (w0 w : World) (E0 : Ext w0 w) (hP0 : w0.heap.size ≤ P)
    (hL : w.heap[P]? = some (.cells (lvC (sesC s (.slice ua s.un uc) (.slice ha s.kh.length hc) (.slice pa s.pn pc) (.slice qa s.qn qc) (.slice la s.ln lc) (.slice da s.dn dc)) lv0) 85 (0, 0))) (hO : OwnSes w w0.heap.size s (.slice ua s.un uc) (.slice ha s.kh.length hc) (.slice pa s.pn pc) (.slice qa s.qn qc) (.slice la s.ln lc) (.slice da s.dn dc)) (hnf : ¬ SesFoot (.slice ua s.un uc) (.slice ha s.kh.length hc) (.slice pa s.pn pc) (.slice qa s.qn qc) (.slice la s.ln lc) (.slice da s.dn dc) P) (hz : s.Sz) (hT : Tabs3 w0) (hlo : 4 < w0.heap.size) (hPw : PowT w0) :
    Calls Tryz.prog 34 #[.pointer (some ⟨P, 0, none⟩), .int .i64 cols, .int .i64 rows] w fun e w' => (∃ a c va vc r, e = .returned (.tuple #[.slice a (s.sizeZ cols rows).length c, .int .i64 0]) ∧ (SesP s ∧ sizeB cols rows = true) ∧ w'.ownsRow w.heap.size 5 1 (.slice a (s.sizeZ cols rows).length c) (s.sizeZ cols rows).length ((s.sizeZ cols rows).map (Value.int .u8)) ∧ Own1 w' w.heap.size 9 (.slice va s.vN vc) s.vN (fun i => .string (s.vT i)) ∧ w'.heap[P]? = some (.cells (lvC (sesC (s.resize cols rows) (.slice ua s.un uc) (.slice ha s.kh.length hc) (.slice pa s.pn pc) (.slice qa s.qn qc) (.slice va s.vN vc) (.slice da s.dn dc)) r) 85 (0, 0)) ∧ Fr (fun q => q = P ∨ w.heap.size ≤ q) w w')
      ∨ (∃ c u h p q l d r, e = .returned (.tuple #[.slice none 0 0, .int .i64 c]) ∧ (c = 1 ∧ ¬ SesP s ∨ SesP s ∧ sizeB cols rows = false ∧ c = 2) ∧ w'.heap[P]? = some (.cells (lvC (sesC s u h p q l d) r) 85 (0, 0)) ∧ OwnSes w' w.heap.size s u h p q l d ∧ ¬ SesFoot u h p q l d P ∧ Fr (fun q => q = P ∨ w.heap.size ≤ q) w w') := by
  have hPs : P < w.heap.size := lt_of_block hL
  have EA : Ext w (((w.alloc (.cells #[.pointer (some ⟨P, 0, none⟩)] 66)).alloc (.cells #[.int .i64 cols] 3)).alloc (.cells #[.int .i64 rows] 3)) := (((Ext.refl w).alloc _).alloc _).alloc _
  have hs1 : (((w.alloc (.cells #[.pointer (some ⟨P, 0, none⟩)] 66)).alloc (.cells #[.int .i64 cols] 3)).alloc (.cells #[.int .i64 rows] 3)).heap.size = w.heap.size + 1 + 1 + 1 := by simp
  have x0 : (((w.alloc (.cells #[.pointer (some ⟨P, 0, none⟩)] 66)).alloc (.cells #[.int .i64 cols] 3)).alloc (.cells #[.int .i64 rows] 3)).heap[w.heap.size]? = some (.cells #[.pointer (some ⟨P, 0, none⟩)] 66 (0, 0)) := (((Ext.refl _).alloc _).alloc _).kept (new_block w _)
  have x1 : (((w.alloc (.cells #[.pointer (some ⟨P, 0, none⟩)] 66)).alloc (.cells #[.int .i64 cols] 3)).alloc (.cells #[.int .i64 rows] 3)).heap[w.heap.size + 1]? = some (.cells #[.int .i64 cols] 3 (0, 0)) := by refine ((Ext.refl _).alloc _).kept ?_; have h := new_block (w.alloc (.cells #[.pointer (some ⟨P, 0, none⟩)] 66)) (.cells #[.int .i64 cols] 3); rw [show (w.alloc (.cells #[.pointer (some ⟨P, 0, none⟩)] 66)).heap.size = w.heap.size + 1 by simp] at h; exact h
  have x2 : (((w.alloc (.cells #[.pointer (some ⟨P, 0, none⟩)] 66)).alloc (.cells #[.int .i64 cols] 3)).alloc (.cells #[.int .i64 rows] 3)).heap[w.heap.size + 1 + 1]? = some (.cells #[.int .i64 rows] 3 (0, 0)) := by have h := new_block ((w.alloc (.cells #[.pointer (some ⟨P, 0, none⟩)] 66)).alloc (.cells #[.int .i64 cols] 3)) (.cells #[.int .i64 rows] 3); rw [show ((w.alloc (.cells #[.pointer (some ⟨P, 0, none⟩)] 66)).alloc (.cells #[.int .i64 cols] 3)).heap.size = w.heap.size + 1 + 1 by simp] at h; exact h
  have hOA := hO.ext EA
  have hs0 := E0.size
  have hf := frame_any P s ua ha pa qa la da uc hc pc qc lc dc 67 #[.pointer (some ⟨w.heap.size + 1, 0, none⟩), .pointer (some ⟨w.heap.size + 1 + 1, 0, none⟩), .pointer (some ⟨w.heap.size, 0, none⟩)] (SizeOk s cols rows ((((w.alloc (.cells #[.pointer (some ⟨P, 0, none⟩)] 66)).alloc (.cells #[.int .i64 cols] 3)).alloc (.cells #[.int .i64 rows] 3)).heap.size + 3) ua ha pa qa da uc hc pc qc dc) (fun c => sizeB cols rows = false ∧ c = 2) w0 (((w.alloc (.cells #[.pointer (some ⟨P, 0, none⟩)] 66)).alloc (.cells #[.int .i64 cols] 3)).alloc (.cells #[.int .i64 rows] 3)) (E0.trans EA) hP0 (EA.kept hL) hOA hnf hz hT hlo hPw
    (fun sc bs W1 W2 h F => by
      obtain ⟨h1, va, vc, h2, h3, h4⟩ := h
      exact ⟨h1, va, vc, h2, h3.fr F (fun g hg e => by have := (h3.lt g hg).1; omega), h4⟩)
    (fun W => Go.MuLone.run_callFunc_enter Tryz.func67 (by kernel_rfl) rfl _ _)
    (fun hk W B ob qb nb bv hE hF hob hB hP hWr hbv => by
      obtain ⟨bva, bvc, rfl⟩ := hbv.slice
      have hft : ∀ W', Fr (fun q => q = P ∨ B ≤ q) W W' → Fr (fun q => q = P ∨ (((w.alloc (.cells #[.pointer (some ⟨P, 0, none⟩)] 66)).alloc (.cells #[.int .i64 cols] 3)).alloc (.cells #[.int .i64 rows] 3)).heap.size ≤ q) (((w.alloc (.cells #[.pointer (some ⟨P, 0, none⟩)] 66)).alloc (.cells #[.int .i64 cols] 3)).alloc (.cells #[.int .i64 rows] 3)) W' := fun W' f => hF.tr (f.mono (fun q hq => by omega))
      have hfo : ∀ W', Fr (fun q => q = P ∨ B ≤ q) W W' → SesAt W' s (.slice ua s.un uc) (.slice ha s.kh.length hc) (.slice pa s.pn pc) (.slice qa s.qn qc) (.slice la s.ln lc) (.slice da s.dn dc) := fun W' f => (hOA.fr (hft W' f) (fun g hg e9 => by
        rcases e9 with e9 | e9
        · subst e9; exact hnf hg
        · have := (hOA.foot hg).2; omega)).reads
      refine size1_any P w.heap.size (w.heap.size + 1) (w.heap.size + 1 + 1) cols rows s ua ha pa qa la da uc hc pc qc lc dc s.blk.n (s.blk.R : Int) s.blk.C B ob qb nb ((((w.alloc (.cells #[.pointer (some ⟨P, 0, none⟩)] 66)).alloc (.cells #[.int .i64 cols] 3)).alloc (.cells #[.int .i64 rows] 3)).heap.size + 3) bva bvc W (hF.kept x0 (by omega)) (hF.kept x1 (by omega)) (hF.kept x2 (by omega)) ⟨by omega, by omega, by omega, by omega, by omega, by omega, by omega, fun e => ?_, fun e => ?_, by omega, hB⟩ hfo hz (fun W' f => hT.ext ((hft W' f).ext (E0.trans EA) (fun q hq => by omega))) hk hP hWr
      · have h4 := hWr.q
        rw [← e, cell_of_row W P 0 _ _ _ hP] at h4
        simp [lvC, sesC, seqF] at h4
      · have h4 := hWr.nn
        rw [← e, cell_of_row W P 0 _ _ _ hP] at h4
        simp [lvC, sesC, anyF] at h4)
  have HF := hide hf
  have hmf : ∀ (fn : Fn) (first cap : Array Value) (w : World), (Instr.makeFunc fn first cap).run Tryz.prog w = .ok (.func fn first cap) w := fun _ _ _ _ => rfl
  have HS1 := hide hs1
  have HEA := hide EA
  clear hf hL hO hnf hz hT hPw hs1 EA x0 x1 x2 hOA hs0
  go_enter Tryz.func34, Tryz.ntmps34
  go_wp2_with fail
  refine (unhide HF).mono ?_
  rintro e w2 (⟨v, sc, bs, r, rfl, hk, ho, hP2, hsz, ⟨hsb, va, vc, rfl, hv2, rfl⟩, F2⟩ | ⟨c, u, h, p, q, l, d, r, rfl, hk, hP2, ho, hnf2, F2⟩)
  · obtain ⟨a2, c2, rfl⟩ := owns_slice ho
    have HO := hide ho
    have HP2 := hide hP2
    have HF2 := hide F2
    have HK := hide (And.intro hk hsb)
    have HV2 := hide hv2
    clear ho hP2 F2 hk hsb hsz hv2
    go_wp2
    exact bodyPost_ret (v := .tuple #[.slice a2 (s.sizeZ cols rows).length c2, .int .i64 0]) (by simp [results, Tryz.results34, go_sem]) rfl (.inl ⟨a2, c2, va, vc, r, rfl, unhide HK, owns_mono (unhide HO) (by have := unhide HS1; omega), (unhide HV2).mono (by have := unhide HS1; omega), unhide HP2, (Fr.of_ext (unhide HEA)).tr ((unhide HF2).mono (fun q hq => by have := unhide HS1; omega))⟩)
  · have HO := hide ho
    have HP2 := hide hP2
    have HF2 := hide F2
    have HK := hide hk
    have HN := hide hnf2
    clear ho hP2 F2 hk hnf2
    go_wp2
    exact bodyPost_ret (v := .tuple #[.slice none 0 0, .int .i64 c]) (by simp [results, Tryz.results34, go_sem]) rfl (.inr ⟨c, u, h, p, q, l, d, r, rfl, unhide HK, unhide HP2, (unhide HO).mono (by have := unhide HS1; omega), unhide HN, (Fr.of_ext (unhide HEA)).tr ((unhide HF2).mono (fun q hq => by have := unhide HS1; omega))⟩)
end Go.Proofs.YtgdadidppelgdaaGreatDoor
