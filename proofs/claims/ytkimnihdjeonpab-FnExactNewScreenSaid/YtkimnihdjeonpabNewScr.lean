import Derived.Test.YtkimnihdjeonpabScr
import Derived.Test.YtkimnihdjeonpabSizeB
namespace Go.Proofs.Ytkimnihdjeonpab
open Go.RowKit
def noB : ByteArray := { data := #[] }
def blankSD (c r : Nat) : SD := { cols := c, rows := r, row := 0, col := 0, late := false, R := r, C := fun _ => c, tx := fun _ _ => noB, hf := fun _ _ => false, hold := [], nb := 0, bk := fun _ => noB }
def zeroSD : SD := { cols := 0, rows := 0, row := 0, col := 0, late := false, R := 0, C := fun _ => 0, tx := fun _ _ => noB, hf := fun _ _ => false, hold := [], nb := 0, bk := fun _ => noB }
theorem infoCell : (Try.prog.info? 74).map (fun i => (i.zero, i.size, i.bytes)) = some (some (.agg #[.string noB, .bool false]), 2, 24) := by kernel_rfl
theorem infoRow : (Try.prog.info? 63).map (fun i => (i.zero, i.size, i.bytes)) = some (some (.slice none 0 0), 1, 24) := by kernel_rfl
theorem made_two (a b : Value) (n j : Nat) (hj : j < n) : (madeCells (Value.agg #[a, b]).cells (n * 2)).toList[j * 2]? = some a ∧ (madeCells (Value.agg #[a, b]).cells (n * 2)).toList[j * 2 + 1]? = some b := by
  have e0 : j * 2 % 2 = 0 := by omega
  have e1 : (j * 2 + 1) % 2 = 1 := by omega
  constructor
  · simp [madeCells, Value.cells, show j * 2 < n * 2 by omega, e0]
  · simp [madeCells, Value.cells, show j * 2 + 1 < n * 2 by omega, e1]
theorem made_row {w : World} {base : Nat} {T : TypeId} {v : Value} {n : Nat} {a b : Value} (h : w.ownsRow base T 2 v n (madeCells (Value.agg #[a, b]).cells (n * 2)).toList) : Own2 w base T v n (fun _ => a) (fun _ => b) :=
  ⟨_, h, fun j hj => made_two a b n j hj⟩
def PG (w : World) (base : Nat) (v : Value) (r c : Nat) (rv : Nat → Value) (j : Nat) : Prop :=
  Own1 w base 63 v r (fun i => if i < j then rv i else .slice none 0 0) ∧ (∀ i, i < j → Own2 w base 74 (rv i) c (fun _ => .string noB) (fun _ => .bool false)) ∧ (∀ i i' g, i < i' → i' < j → (rv i).ownBlock = some g → (rv i').ownBlock ≠ some g)
theorem PG.done {w : World} {base : Nat} {v : Value} {r c : Nat} {rv : Nat → Value} (h : PG w base v r c rv r) : OwnGrid w base v rv r (fun _ => c) (fun _ _ => .string noB) (fun _ _ => .bool false) :=
  ⟨h.1.congr (fun j hj => by simp [hj]), h.2.1, h.2.2⟩
theorem OwnGrid.base_le {w : World} {base base' : Nat} {v : Value} {rv : Nat → Value} {R : Nat} {C : Nat → Nat} {A B : Nat → Nat → Value} (h : OwnGrid w base v rv R C A B) (hb : base' ≤ base) : OwnGrid w base' v rv R C A B := by
  obtain ⟨⟨xs, h1, h2⟩, h3, h4⟩ := h
  refine ⟨⟨xs, owns_mono h1 hb, h2⟩, fun i hi => ?_, h4⟩
  obtain ⟨ys, k1, k2⟩ := h3 i hi
  exact ⟨ys, owns_mono k1 hb, k2⟩
set_option maxHeartbeats 1000000 in
theorem blankGrid_any (c r : Nat) (w : World) (hc : c ≤ 200) (hr : r ≤ 100) :
    Calls Try.prog 36 #[.int .i64 c, .int .i64 r] w fun e w' => e = .returned (.slice (some ⟨w.heap.size, 0, none⟩) r r) ∧ (∃ rv, OwnGrid w' w.heap.size (.slice (some ⟨w.heap.size, 0, none⟩) r r) rv r (fun _ => c) (fun _ _ => .string noB) (fun _ _ => .bool false)) ∧ Ext w w' := by
  obtain ⟨ic, hic, hc0, hc1, hc2⟩ := info_parts infoCell
  obtain ⟨ir, hir, hr0, hr1, hr2⟩ := info_parts infoRow
  go_enter Try.func36, Try.ntmps36
  go_wp2_with (at_make; refine wpList_make_full _ rfl _ _ 33 rfl w.heap.size 63 ir (.slice none 0 0) 1 Try.underlying33 hir hr0 hr1 _ _ _ _ r rfl rfl rfl rfl (by rw [hr2]; omega) (by unfold maxLen; omega) (Nat.le_refl _) ?_; intro w1 hown hgr)
  have h0 : PG w1 w.heap.size (.slice (some ⟨w.heap.size, 0, none⟩) r r) r c (fun _ => .slice none 0 0) 0 := by
    refine ⟨⟨_, hown, fun j hj => ?_⟩, fun i hi => by omega, fun i i' g _ hi => by omega⟩
    simp [madeCells, Value.cells, hj, Nat.mod_one]
  have H0 := hide h0
  clear h0 hown
  go_loopw [11] (fun i wr => ∃ (j : Nat) (rv : Nat → Value), j ≤ r ∧ i = .int .i64 j ∧ Hid (PG wr w.heap.size (.slice (some ⟨w.heap.size, 0, none⟩) r r) r c rv j) ∧ Ext w wr) (fun i _ => r - (intOf i).toNat)
  case atStart => exact ⟨0, _, Nat.zero_le _, rfl, H0, hgr⟩
  case round =>
    clear H0 hgr
    obtain ⟨j, rv, hj, rfl, HP, hext⟩ := hrel
    by_cases hlt : j < r
    · have bj : (j : Int) < (r : Int) := by omega
      have hsz := hext.size
      have hgz := ((unhide HP).1.lt w.heap.size rfl).2
      have HX : Hid (∀ W, Ext wr W → ∃ u, W.cell? ⟨w.heap.size, j, none⟩ = some u ∧ W.frozen? ⟨w.heap.size, j, none⟩ = false) := fun W hW => ⟨_, (((unhide HP).1.ext hW).cell hlt).1, (((unhide HP).1.ext hW).cell hlt).2⟩
      go_wp2_with (at_make; refine wpList_make_full _ rfl _ _ 63 rfl w.heap.size 74 ic (.agg #[.string noB, .bool false]) 2 Try.underlying63 hic hc0 hc1 _ _ _ _ c rfl rfl rfl rfl (by rw [hc2]; omega) (by unfold maxLen; omega) hsz ?_; intro w2 hown hgr; obtain ⟨u0, c0, f0⟩ := (unhide HX) w2 hgr; have HOWN := hide hown; have HGR : Hid (Ext wr w2) := hgr; clear hown hgr)
      have F2 : Ext wr w2 := unhide HGR
      have hown := unhide HOWN
      obtain ⟨p1, p2, p3⟩ := unhide HP
      have hst := (p1.ext F2).set hlt (.slice (some ⟨wr.heap.size, 0, none⟩) c c)
      have HPG : Hid (PG (w2.setCell ⟨w.heap.size, j, none⟩ (.slice (some ⟨wr.heap.size, 0, none⟩) c c)) w.heap.size (.slice (some ⟨w.heap.size, 0, none⟩) r r) r c (fun i => if i = j then .slice (some ⟨wr.heap.size, 0, none⟩) c c else rv i) (j + 1)) := by
        have fr1 : Fr (fun q => q = w.heap.size) w2 (w2.setCell ⟨w.heap.size, j, none⟩ (.slice (some ⟨wr.heap.size, 0, none⟩) c c)) := Fr.setCell (S := fun q => q = w.heap.size) (Fr.refl _ _) (a := ⟨w.heap.size, j, none⟩) rfl _
        refine ⟨hst.congr (fun i hi => ?_), fun i hi => ?_, fun i i' g hii hi hg => ?_⟩
        · dsimp only
          by_cases e : i = j
          · subst e; simp
          · by_cases e2 : i < j
            · rw [if_neg e, if_pos e2, if_pos (by omega), if_neg e]
            · rw [if_neg e, if_neg e2, if_neg (by omega)]
        · dsimp only
          by_cases e : i = j
          · subst e
            rw [if_pos rfl]
            exact (made_row hown).fr fr1 (fun g hg e => by simp [Value.ownBlock] at hg; omega)
          · rw [if_neg e]
            refine ((p2 i (by omega)).ext F2).fr fr1 (fun g hg e => ?_)
            obtain ⟨ys, a1, _⟩ := p1
            obtain ⟨zs, a2, _⟩ := p2 i (by omega)
            subst e
            exact owns_apart a2 a1 (by decide) hg rfl
        · dsimp only at hg ⊢
          rw [if_neg (by omega)] at hg
          by_cases e : i' = j
          · subst e
            rw [if_pos rfl]
            have := ((p2 i (by omega)).lt g hg).2
            simp [Value.ownBlock]; omega
          · rw [if_neg e]
            exact p3 i i' g hii (by omega) hg
      have E2 := (hext.trans F2).setCell (a := ⟨w.heap.size, j, none⟩) (Nat.le_refl _) (.slice (some ⟨wr.heap.size, 0, none⟩) c c)
      clear hst p1 p2 p3 hown HOWN
      go_wp2
      go_roundw
      case rel => exact ⟨j + 1, _, by omega, by go_num, HPG, E2⟩
      case measure => simp [intOf]; omega
    · obtain rfl : j = r := by omega
      have HD := hide (unhide HP).done
      go_wp2
      go_ret
      exact ⟨rfl, ⟨rv, unhide HD⟩, hext⟩
theorem own_zero (w : World) (base : Nat) (d : SD) (h1 : d.R = 0) (h2 : d.hold = []) (h3 : d.nb = 0) : OwnScr w base d (.slice none 0 0) (fun _ => .slice none 0 0) (.slice none 0 0) (.slice none 0 0) := by
  refine ⟨⟨⟨[], ?_, fun j hj => by omega⟩, fun i hi => by omega, fun i j g _ hj => by omega⟩, ?_, ⟨[], ?_, fun j hj => by omega⟩⟩
  · rw [h1]; exact World.ownsRow_nil _ _ _ _
  · rw [h2]; exact World.ownsRow_nil _ _ _ _
  · rw [h3]; exact World.ownsRow_nil _ _ _ _
set_option maxHeartbeats 1000000 in
theorem implNewScreen_yes (c r : Nat) (w : World) (h : sizeB c r = true) (hc : c ≤ 200) (hr : r ≤ 100) :
    Calls Try.prog 16 #[.int .i64 c, .int .i64 r] w fun e w' => e = .returned (.tuple #[scrV (blankSD c r) (.slice (some ⟨w.heap.size + 1, 0, none⟩) r r) (.slice none 0 0) (.slice none 0 0), .bool true]) ∧ (∃ rv, OwnScr w' w.heap.size (blankSD c r) (.slice (some ⟨w.heap.size + 1, 0, none⟩) r r) rv (.slice none 0 0) (.slice none 0 0)) ∧ Ext w w' := by
  go_enter Try.func16, Try.ntmps16
  go_wp2_with fail
  refine (sizeOk_any _ _ _).mono ?_
  rw [h]
  rintro e w1 ⟨rfl, rfl⟩
  go_wp2_with fail
  refine (blankGrid_any c r _ hc hr).mono ?_
  rintro e w2 ⟨rfl, ⟨rv, og⟩, F2⟩
  obtain ⟨hcc, hff⟩ := F2.rules
  have E2 := ((Ext.refl w).alloc _).trans F2
  have OG := hide og
  clear og
  have a0 : w2.cell? ⟨w.heap.size, 0, none⟩ = some (.int .i64 0) := by rw [hcc _ _ (by simp)]; simp [go_sem]
  have a1 : w2.cell? ⟨w.heap.size, 1, none⟩ = some (.int .i64 0) := by rw [hcc _ _ (by simp)]; simp [go_sem]
  have a2 : w2.cell? ⟨w.heap.size, 2, none⟩ = some (.slice none 0 0) := by rw [hcc _ _ (by simp)]; simp [go_sem]
  have a3 : w2.cell? ⟨w.heap.size, 3, none⟩ = some (.int .i64 0) := by rw [hcc _ _ (by simp)]; simp [go_sem]
  have a4 : w2.cell? ⟨w.heap.size, 4, none⟩ = some (.int .i64 0) := by rw [hcc _ _ (by simp)]; simp [go_sem]
  have a5 : w2.cell? ⟨w.heap.size, 5, none⟩ = some (.bool false) := by rw [hcc _ _ (by simp)]; simp [go_sem]
  have a6 : w2.cell? ⟨w.heap.size, 6, none⟩ = some (.slice none 0 0) := by rw [hcc _ _ (by simp)]; simp [go_sem]
  have a7 : w2.cell? ⟨w.heap.size, 7, none⟩ = some (.slice none 0 0) := by rw [hcc _ _ (by simp)]; simp [go_sem]
  go_wp2
  refine bodyPost_ret (v := .tuple #[scrV (blankSD c r) (.slice (some ⟨w.heap.size + 1, 0, none⟩) r r) (.slice none 0 0) (.slice none 0 0), .bool true]) (by simp [results, Try.results16, go_sem, scrV, blankSD, a0, a1, a2, a3, a4, a5, a6, a7]) rfl ⟨rfl, ⟨rv, ?_⟩, ?_⟩
  · have og := unhide OG
    have hz : ∀ o, (w.alloc o).heap.size = w.heap.size + 1 := fun o => by simp
    rw [hz] at og
    refine ⟨OwnGrid.base_le (OwnGrid.fr (S := fun q => q = w.heap.size) og ?_ (fun g hg e => ?_)) (Nat.le_succ _), World.ownsRow_nil _ _ _ _, ⟨[], World.ownsRow_nil _ _ _ _, fun j hj => by simp [blankSD] at hj⟩⟩
    · repeat' first | refine Fr.setCell (S := fun q => q = w.heap.size) ?_ (a := ⟨w.heap.size, _, none⟩) rfl _ | exact Fr.refl _ _
    · have := (og.foot hg).1
      omega
  · refine Fr.ext (S := fun q => q = w.heap.size) ?_ E2 (fun k hk => by omega)
    repeat' first | refine Fr.setCell (S := fun q => q = w.heap.size) ?_ (a := ⟨w.heap.size, _, none⟩) rfl _ | exact Fr.refl _ _
set_option maxHeartbeats 1000000 in
theorem implNewScreen_no (c r : Int) (w : World) (h : sizeB c r = false) :
    Calls Try.prog 16 #[.int .i64 c, .int .i64 r] w fun e w' => e = .returned (.tuple #[scrV zeroSD (.slice none 0 0) (.slice none 0 0) (.slice none 0 0), .bool false]) ∧ Ext w w' := by
  go_enter Try.func16, Try.ntmps16
  go_wp2_with fail
  refine (sizeOk_any _ _ _).mono ?_
  rw [h]
  rintro e w1 ⟨rfl, rfl⟩
  go_wp2
  exact bodyPost_ret (v := .tuple #[scrV zeroSD (.slice none 0 0) (.slice none 0 0) (.slice none 0 0), .bool false]) (by simp [results, Try.results16, go_sem, scrV, zeroSD]) rfl ⟨rfl, (Ext.refl _).alloc _⟩
end Go.Proofs.Ytkimnihdjeonpab
