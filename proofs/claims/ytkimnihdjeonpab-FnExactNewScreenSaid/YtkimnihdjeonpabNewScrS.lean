import Derived.Test.YtkimnihdjeonpabNewScr
import Derived.Deep.AppendLies
import Derived.Deep.RegionLaw
namespace Go.Proofs.Ytkimnihdjeonpab
open Go.RowKit
set_option maxHeartbeats 1000000 in
theorem l2Blank_any (c : Nat) (w : World) (hc : c ≤ 200) :
    Calls Try.prog 34 #[.int .i64 c] w fun e w' => e = .returned (.slice (some ⟨w.heap.size, 0, none⟩) c c) ∧ Own2 w' w.heap.size 74 (.slice (some ⟨w.heap.size, 0, none⟩) c c) c (fun _ => .string noB) (fun _ => .bool false) ∧ Ext w w' := by
  obtain ⟨ic, hic, hc0, hc1, hc2⟩ := info_parts infoCell
  go_enter Try.func34, Try.ntmps34
  go_wp2_with (at_make; refine wpList_make_full _ rfl _ _ 63 rfl w.heap.size 74 ic (.agg #[.string noB, .bool false]) 2 Try.underlying63 hic hc0 hc1 _ _ _ _ c rfl rfl rfl rfl (by rw [hc2]; omega) (by unfold maxLen; omega) (Nat.le_refl _) ?_; intro w2 hown hgr)
  go_ret
  exact ⟨rfl, made_row hown, hgr⟩
def Box (W : World) (sb c r : Nat) (gv hv bv : Value) : Prop :=
  W.cell? ⟨sb, 0, none⟩ = some (.int .i64 c) ∧ W.cell? ⟨sb, 1, none⟩ = some (.int .i64 r) ∧ W.cell? ⟨sb, 2, none⟩ = some gv ∧ W.cell? ⟨sb, 3, none⟩ = some (.int .i64 0) ∧ W.cell? ⟨sb, 4, none⟩ = some (.int .i64 0) ∧ W.cell? ⟨sb, 5, none⟩ = some (.bool false) ∧ W.cell? ⟨sb, 6, none⟩ = some hv ∧ W.cell? ⟨sb, 7, none⟩ = some bv ∧ W.frozen? ⟨sb, 2, none⟩ = false
theorem Box.fr {S : Nat → Prop} {W W' : World} {sb c r : Nat} {gv hv bv : Value} (h : Box W sb c r gv hv bv) (hf : Fr S W W') (hS : ¬ S sb) : Box W' sb c r gv hv bv := by
  obtain ⟨h0, h1, h2, h3, h4, h5, h6, h7, h8⟩ := h
  have hb := hf.block sb (lt_of_cell h0) hS
  exact ⟨(World.cell?_of_block (a := ⟨sb, 0, none⟩) hb).trans h0, (World.cell?_of_block (a := ⟨sb, 1, none⟩) hb).trans h1, (World.cell?_of_block (a := ⟨sb, 2, none⟩) hb).trans h2, (World.cell?_of_block (a := ⟨sb, 3, none⟩) hb).trans h3, (World.cell?_of_block (a := ⟨sb, 4, none⟩) hb).trans h4, (World.cell?_of_block (a := ⟨sb, 5, none⟩) hb).trans h5, (World.cell?_of_block (a := ⟨sb, 6, none⟩) hb).trans h6, (World.cell?_of_block (a := ⟨sb, 7, none⟩) hb).trans h7, (World.frozen?_of_block (a := ⟨sb, 2, none⟩) hb).trans h8⟩
theorem Box.set {W : World} {sb c r : Nat} {gv hv bv : Value} (h : Box W sb c r gv hv bv) (u : Value) : Box (W.setCell ⟨sb, 2, none⟩ u) sb c r u hv bv := by
  obtain ⟨h0, h1, h2, h3, h4, h5, h6, h7, h8⟩ := h
  unfold Box
  simp [go_sem, h0, h1, h2, h3, h4, h5, h6, h7, h8]
def SG (W : World) (base sb c r : Nat) (gv hv bv : Value) (rv : Nat → Value) (j : Nat) : Prop :=
  OwnGrid W base gv rv j (fun _ => c) (fun _ _ => .string noB) (fun _ _ => .bool false) ∧ Box W sb c r gv hv bv ∧ gv.ownBlock ≠ some sb ∧ ∀ i, i < j → (rv i).ownBlock ≠ some sb
theorem SG.step {wr w' w3 : World} {base sb c r : Nat} {gv hv bv : Value} {rv : Nat → Value} {j g cap H : Nat} {xs : List Value} (h : SG wr base sb c r gv hv bv rv j) (hb : base ≤ wr.heap.size)
    (hxs : ∀ i, i < j → xs[i]? = some (rv i)) (hl : xs.length = j) (E : Ext wr w') (row : Own2 w' wr.heap.size 74 (.slice (some ⟨wr.heap.size, 0, none⟩) c c) c (fun _ => .string noB) (fun _ => .bool false))
    (fr : Fr (fun k => gv.ownBlock = some k) w' w3) (hown : w3.ownsRow base 63 1 (.slice (some ⟨g, 0, none⟩) (j + 1) cap) (j + 1) (xs ++ [.slice (some ⟨wr.heap.size, 0, none⟩) c c])) (hat : gv.ownBlock = some g ∨ g = H) (hH : wr.heap.size ≤ H) :
    SG (w3.setCell ⟨sb, 2, none⟩ (.slice (some ⟨g, 0, none⟩) (j + 1) cap)) base sb c r (.slice (some ⟨g, 0, none⟩) (j + 1) cap) hv bv (fun i => if i = j then .slice (some ⟨wr.heap.size, 0, none⟩) c c else rv i) (j + 1) := by
  obtain ⟨og, hbox, hg0, hr0⟩ := h
  have hsb := lt_of_cell hbox.1
  have hgs : g ≠ sb := by
    rcases hat with e | e
    · intro e2; subst e2; exact hg0 e
    · omega
  have fr1 : Fr (fun k => gv.ownBlock = some k) wr w3 := (Fr.of_ext E).trans fr
  have fr2 : Fr (fun k => k = sb) w3 (w3.setCell ⟨sb, 2, none⟩ (.slice (some ⟨g, 0, none⟩) (j + 1) cap)) := Fr.setCell (S := fun k => k = sb) (Fr.refl _ _) (a := ⟨sb, 2, none⟩) rfl _
  refine ⟨⟨⟨_, fr2.owns hown (fun k hk e => ?_), fun i hi => ?_⟩, fun i hi => ?_, fun i i' k hii hi hk => ?_⟩, (hbox.fr fr1 hg0).set _, ?_, fun i hi => ?_⟩
  · simp [Value.ownBlock] at hk; omega
  · dsimp only
    by_cases e : i = j
    · subst e
      rw [if_pos rfl, List.getElem?_append_right (by omega), hl]
      simp
    · rw [if_neg e, List.getElem?_append_left (by omega)]
      exact hxs i (by omega)
  · dsimp only
    by_cases e : i = j
    · subst e
      rw [if_pos rfl]
      refine ((row.mono hb).fr fr (fun k hk e => ?_)).fr fr2 (fun k hk e => ?_)
      · simp [Value.ownBlock] at hk
        have := (og.1.lt k e).2
        omega
      · simp [Value.ownBlock] at hk; omega
    · rw [if_neg e]
      refine ((og.2.1 i (by omega)).fr fr1 (fun k hk e => og.apart (by omega) hk e)).fr fr2 (fun k hk e => ?_)
      subst e
      exact hr0 i (by omega) hk
  · dsimp only at hk ⊢
    rw [if_neg (by omega)] at hk
    by_cases e : i' = j
    · subst e
      rw [if_pos rfl]
      have := ((og.2.1 i (by omega)).lt k hk).2
      simp [Value.ownBlock]; omega
    · rw [if_neg e]
      exact og.2.2 i i' k hii (by omega) hk
  · simp [Value.ownBlock]; exact hgs
  · dsimp only
    by_cases e : i = j
    · subst e
      rw [if_pos rfl]
      simp [Value.ownBlock]; omega
    · rw [if_neg e]; exact hr0 i (by omega)
set_option maxRecDepth 100000 in
set_option maxHeartbeats 2000000 in
theorem specNewScreen_yes (c r : Nat) (w : World) (h : sizeB c r = true) (hc : c ≤ 200) (hr : r ≤ 100) :
    Calls Try.prog 15 #[.int .i64 c, .int .i64 r] w fun e w' => ∃ gv rv hv bv, e = .returned (.tuple #[scrV (blankSD c r) gv hv bv, .bool true]) ∧ OwnGrid w' w.heap.size gv rv r (fun _ => c) (fun _ _ => .string noB) (fun _ _ => .bool false) ∧ ScrAt w' (blankSD c r) gv hv bv ∧ Ext w w' := by
  obtain ⟨ir, hir, hr0, hr1, hr2⟩ := info_parts infoRow
  go_enter Try.func15, Try.ntmps15
  go_wp2_with fail
  refine (l2SizeOk_any _ _ _).mono ?_
  rw [h]
  rintro e w1 ⟨rfl, rfl⟩
  go_wp2
  go_loopw [7] (fun i wr => ∃ (j : Nat) (gv : Value) (rv : Nat → Value), j ≤ r ∧ i = .int .i64 j ∧ Hid (SG wr (w.heap.size + 1) (w.heap.size + 1 + 1 + 1 + 1) c r gv (.slice (some ⟨w.heap.size + 1 + 1, 0, none⟩) 0 0) (.slice (some ⟨w.heap.size + 1 + 1 + 1, 0, none⟩) 0 0) rv j) ∧ Hid (Ext (w.alloc (.cells #[.int .i64 0, .int .i64 0, .slice none 0 0, .int .i64 0, .int .i64 0, .bool false, .slice none 0 0, .slice none 0 0] 37)) wr)) (fun i _ => r - (intOf i).toNat)
  case atStart =>
    refine ⟨0, .slice (some ⟨w.heap.size + 1, 0, none⟩) 0 0, fun _ => .slice none 0 0, Nat.zero_le _, rfl, ⟨⟨⟨[], ⟨by simp, .inr ⟨w.heap.size + 1, 0, #[], rfl, Nat.le_refl _, ?_, Nat.le_refl _, by unfold maxLen; omega, by simp, by simp⟩⟩, fun j hj => by omega⟩, fun i hi => by omega, fun i i' k _ hi => by omega⟩, ?_, ?_, fun i hi => by omega⟩, ((((Ext.refl _).alloc _).alloc _).alloc _).alloc _⟩
    · exact (((((Ext.refl _).alloc _).alloc _).alloc _).heap (by simp)).trans (by have := heap_alloc_new (w.alloc (.cells #[.int .i64 0, .int .i64 0, .slice none 0 0, .int .i64 0, .int .i64 0, .bool false, .slice none 0 0, .slice none 0 0] 37)) (.cells #[] 63); rw [show ∀ o, (w.alloc o).heap.size = w.heap.size + 1 from fun o => by simp] at this; exact this)
    · unfold Box; simp [go_sem]
    · simp [Value.ownBlock]
  case round =>
    obtain ⟨j, gv, rv, hj, rfl, HS, HE⟩ := hrel
    have hsz := (unhide HE).size
    simp at hsz
    by_cases hlt : j < r
    · have bj : (j : Int) < (r : Int) := by omega
      obtain ⟨xs, hown, hxs⟩ := (unhide HS).1.1
      have hl : xs.length = j := by have := hown.1; omega
      have HOWN := hide hown
      have HXS := hide hxs
      have c2 := (unhide HS).2.1.2.2.1
      have hcon : Hid (∀ W : World, W.heap = wr.heap → Ext wr W → Calls Try.prog 34 #[.int .i64 c] W fun e w' => e = .returned (.slice (some ⟨wr.heap.size, 0, none⟩) c c) ∧ Own2 w' wr.heap.size 74 (.slice (some ⟨wr.heap.size, 0, none⟩) c c) c (fun _ => .string noB) (fun _ => .bool false) ∧ Ext wr w') := by
        intro W hW hE
        have := l2Blank_any c W hc
        rw [hW] at this
        refine this.mono ?_
        rintro e w' ⟨h1, h2, h3⟩
        exact ⟨h1, h2, hE.trans h3⟩
      clear hown hxs
      go_wp2
      go_region_law (first
        | (refine step_append_lies _ (by rfl) _ _ _ (by rfl) (w.heap.size + 1) 63 ir _ 1 24 Try.underlying33 hir hr0 hr1 hr2 rfl (by omega) gv j xs (by rfl) (by first | exact (E'.owns (unhide HOWN)).alloc _ | exact ((E'.owns (unhide HOWN)).alloc _).drew | exact (E'.owns (unhide HOWN)).drew.alloc _ | exact ((E'.owns (unhide HOWN)).drew.alloc _).drew)
             ⟨w'.heap.size, 0, none⟩ 1 1 [.slice (some ⟨wr.heap.size, 0, none⟩) c c] (by rfl) (by rfl) (World.news_of_block (cs := #[.slice (some ⟨wr.heap.size, 0, none⟩) c c]) (t := 63) (fr := (0, 0)) (heap_alloc_new w' _)) (by simp [Value.oneCell'])
             (by omega) (by unfold maxLen; omega) (by omega) (by simp; omega) (w'.heap.size + 1) (by simp) ?_
           intro gg cap w3 hown3 hgrow hat hlt3
           have fr3 := Fr.grown (S := fun k => gv.ownBlock = some k) (w := w') (Fr.of_ext (by first | exact (Ext.refl w').alloc _ | exact ((Ext.refl w').alloc _).drew | exact (Ext.refl w').drew.alloc _ | exact ((Ext.refl w').drew.alloc _).drew)) hgrow (fun k hk => hk)
           have bx := (unhide HS).2.1.fr ((Fr.of_ext E').trans fr3) (unhide HS).2.2.1
           have c3 := bx.2.2.1
           have f3 := bx.2.2.2.2.2.2.2.2
           have HNEW := hide ((unhide HS).step (by omega) (unhide HXS) hl E' (unhide ROW) fr3 hown3 hat (by omega))
           have HEN : Hid (Ext _ w3) := Fr.ext ((Fr.of_ext E').trans fr3) (unhide HE) (fun k hk => by have := ((unhide HS).1.1.lt k hk).1; simp; omega)
           clear bx hown3 hgrow fr3)
        | (go_simp; go_at_call 34; refine ((unhide hcon) wr.drew rfl (Ext.refl _).drew).mono ?_; rintro e w' ⟨rfl, row, E'⟩; have ROW := hide row; have hsz' := E'.size; have c2' := E'.cell c2; have c2n : ∀ o, (w'.alloc o).cell? ⟨w.heap.size + 1 + 1 + 1 + 1, 2, none⟩ = some gv := fun o => ((Ext.refl w').alloc o).cell c2'; clear row))
      all_goals
        go_wp2
        go_roundw
        case rel => exact ⟨j + 1, _, _, by omega, by go_num, HNEW, (unhide HEN).setCell (by simp) _⟩
        case measure => simp [intOf]; omega
    · obtain rfl : j = r := by omega
      obtain ⟨h0, h1, h2, h3, h4, h5, h6, h7, h8⟩ := (unhide HS).2.1
      obtain ⟨hcc, hff⟩ := (unhide HE).rules
      have hj1 : 1 ≤ j := by
        obtain ⟨_, _, _, e2, _, _, k1, _⟩ := sizeB_open h
        omega
      obtain ⟨g, cap, rfl⟩ : ∃ g cap, gv = .slice (some ⟨g, 0, none⟩) j cap := by
        rcases (unhide HS).1.1.form with ⟨_, e0⟩ | e0
        · omega
        · exact e0
      have a0 : wr.cell? ⟨w.heap.size, 0, none⟩ = some (.int .i64 0) := by rw [hcc _ _ (by simp)]; simp [go_sem]
      have a1 : wr.cell? ⟨w.heap.size, 1, none⟩ = some (.int .i64 0) := by rw [hcc _ _ (by simp)]; simp [go_sem]
      have a2 : wr.cell? ⟨w.heap.size, 2, none⟩ = some (.slice none 0 0) := by rw [hcc _ _ (by simp)]; simp [go_sem]
      have a3 : wr.cell? ⟨w.heap.size, 3, none⟩ = some (.int .i64 0) := by rw [hcc _ _ (by simp)]; simp [go_sem]
      have a4 : wr.cell? ⟨w.heap.size, 4, none⟩ = some (.int .i64 0) := by rw [hcc _ _ (by simp)]; simp [go_sem]
      have a5 : wr.cell? ⟨w.heap.size, 5, none⟩ = some (.bool false) := by rw [hcc _ _ (by simp)]; simp [go_sem]
      have a6 : wr.cell? ⟨w.heap.size, 6, none⟩ = some (.slice none 0 0) := by rw [hcc _ _ (by simp)]; simp [go_sem]
      have a7 : wr.cell? ⟨w.heap.size, 7, none⟩ = some (.slice none 0 0) := by rw [hcc _ _ (by simp)]; simp [go_sem]
      go_wp2
      refine bodyPost_ret (v := .tuple #[scrV (blankSD c j) (.slice (some ⟨g, 0, none⟩) j cap) (.slice (some ⟨w.heap.size + 1 + 1, 0, none⟩) 0 0) (.slice (some ⟨w.heap.size + 1 + 1 + 1, 0, none⟩) 0 0), .bool true]) (by simp [results, Try.results15, go_sem, scrV, blankSD, a0, a1, a2, a3, a4, a5, a6, a7]) rfl ⟨_, rv, _, _, rfl, ?_, ?_⟩
      · have og := (unhide HS).1
        refine OwnGrid.base_le (OwnGrid.fr (S := fun q => q = w.heap.size) og ?_ (fun k hk e => ?_)) (Nat.le_succ _)
        · repeat' first | refine Fr.setCell (S := fun q => q = w.heap.size) ?_ (a := ⟨w.heap.size, _, none⟩) rfl _ | exact Fr.refl _ _
        · have := (og.foot hk).1
          omega
      refine ⟨?_, ?_⟩
      · have og := (unhide HS).1
        refine ⟨(OwnGrid.fr (S := fun q => q = w.heap.size) og ?_ (fun k hk e => ?_)).reads, ⟨_, _, rfl, Nat.le_refl _, fun hp => ?_⟩, ⟨_, _, rfl, Nat.le_refl _, fun hp => ?_⟩⟩
        · repeat' first | refine Fr.setCell (S := fun q => q = w.heap.size) ?_ (a := ⟨w.heap.size, _, none⟩) rfl _ | exact Fr.refl _ _
        · have := (og.foot hk).1
          omega
        · simp [blankSD] at hp
        · simp [blankSD] at hp
      · refine Fr.ext (S := fun q => q = w.heap.size) ?_ (((Ext.refl w).alloc _).trans (unhide HE)) (fun k hk => by omega)
        repeat' first | refine Fr.setCell (S := fun q => q = w.heap.size) ?_ (a := ⟨w.heap.size, _, none⟩) rfl _ | exact Fr.refl _ _
set_option maxHeartbeats 1000000 in
theorem specNewScreen_no (c r : Int) (w : World) (h : sizeB c r = false) :
    Calls Try.prog 15 #[.int .i64 c, .int .i64 r] w fun e w' => e = .returned (.tuple #[scrV zeroSD (.slice none 0 0) (.slice none 0 0) (.slice none 0 0), .bool false]) ∧ Ext w w' := by
  go_enter Try.func15, Try.ntmps15
  go_wp2_with fail
  refine (l2SizeOk_any _ _ _).mono ?_
  rw [h]
  rintro e w1 ⟨rfl, rfl⟩
  go_wp2
  exact bodyPost_ret (v := .tuple #[scrV zeroSD (.slice none 0 0) (.slice none 0 0) (.slice none 0 0), .bool false]) (by simp [results, Try.results15, go_sem, scrV, zeroSD]) rfl ⟨rfl, (Ext.refl _).alloc _⟩
end Go.Proofs.Ytkimnihdjeonpab
