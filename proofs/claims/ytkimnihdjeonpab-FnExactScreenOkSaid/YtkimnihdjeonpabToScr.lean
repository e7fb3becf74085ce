import Derived.Test.YtkimnihdjeonpabNewScr
namespace Go.Proofs.Ytkimnihdjeonpab
open Go.RowKit
set_option maxHeartbeats 1000000 in
theorem toCell_any (s : ByteArray) (b : Bool) (w : World) :
    Calls Try.prog 72 #[.agg #[.string s, .bool b]] w fun e w' => e = .returned (.agg #[.string s, .bool b]) ∧ Ext w w' := by
  go_enter Try.func72, Try.ntmps72
  go_wp2
  refine bodyPost_ret (v := .agg #[.string s, .bool b]) (by simp [results, Try.results72, go_sem]) rfl ⟨rfl, ?_⟩
  exact (((Ext.refl _).alloc _).alloc _).alloc _
set_option maxHeartbeats 1000000 in
theorem toCellS_any (v : Value) (n : Nat) (tx : Nat → ByteArray) (hf : Nat → Bool) (w : World) (hv : Row2At w v n (fun j => .string (tx j)) (fun j => .bool (hf j))) (hn : n ≤ 1048576) :
    Calls Try.prog 67 #[v] w fun e w' => e = .returned (.slice (some ⟨w.heap.size, 0, none⟩) n n) ∧ Own2 w' w.heap.size 74 (.slice (some ⟨w.heap.size, 0, none⟩) n n) n (fun j => .string (tx j)) (fun j => .bool (hf j)) ∧ Ext w w' := by
  obtain ⟨ic, hic, hc0, hc1, hc2⟩ := info_parts infoCell
  obtain ⟨ao, ca, rfl, hca, hxa⟩ := hv
  have HXA := hide hxa
  clear hxa
  go_enter Try.func67, Try.ntmps67
  go_wp2_with (at_make; refine wpList_make_full _ rfl _ _ 63 rfl w.heap.size 74 ic (.agg #[.string noB, .bool false]) 2 Try.underlying63 hic hc0 hc1 _ _ _ _ n rfl rfl rfl rfl (by rw [hc2]; omega) (by unfold maxLen; omega) (Nat.le_refl _) ?_; intro w1 hown hgr)
  have H0 := hide ((made_row hown).congr (A' := fun i => if i < 0 then .string (tx i) else .string noB) (B' := fun i => if i < 0 then .bool (hf i) else .bool false) (fun i _ => ⟨by simp, by simp⟩))
  have HG := hide hgr
  clear hown hgr
  go_loopw [4] (fun i wr => ∃ (j : Nat), j ≤ n ∧ i = .int .i64 j ∧ Hid (Own2 wr w.heap.size 74 (.slice (some ⟨w.heap.size, 0, none⟩) n n) n (fun i => if i < j then .string (tx i) else .string noB) (fun i => if i < j then .bool (hf i) else .bool false)) ∧ Ext w wr) (fun i _ => n - (intOf i).toNat)
  case atStart => exact ⟨0, Nat.zero_le _, rfl, H0, unhide HG⟩
  case round =>
    clear H0 HG
    obtain ⟨j, hj, rfl, HO, hext⟩ := hrel
    by_cases hlt : j < n
    · obtain ⟨b, off, rfl, hc⟩ := (unhide HXA) (by omega)
      have bj : (j : Int) < (n : Int) := by omega
      have g1 := hext.cell (hc j hlt).1
      have g2 := hext.cell (hc j hlt).2
      clear hc
      go_wp2_with fail
      refine (toCell_any (tx j) (hf j) wr).mono ?_
      rintro e w2 ⟨rfl, he⟩
      obtain ⟨⟨c0', f0⟩, c1', f1⟩ := ((unhide HO).ext he).cell hlt
      obtain ⟨u0, c0⟩ : ∃ u, w2.cell? ⟨w.heap.size, j * 2, none⟩ = some u := ⟨_, c0'⟩
      obtain ⟨u1, c1⟩ : ∃ u, w2.cell? ⟨w.heap.size, j * 2 + 1, none⟩ = some u := ⟨_, c1'⟩
      have HS := hide ((((unhide HO).ext he).set hlt (.string (tx j)) (.bool (hf j))).congr (A' := fun i => if i < j + 1 then .string (tx i) else .string noB) (B' := fun i => if i < j + 1 then .bool (hf i) else .bool false) (fun i _ => by
        by_cases e : i = j
        · subst e; simp
        · by_cases e2 : i < j
          · rw [if_neg e, if_neg e, if_pos e2, if_pos e2, if_pos (by omega), if_pos (by omega)]; exact ⟨rfl, rfl⟩
          · rw [if_neg e, if_neg e, if_neg e2, if_neg e2, if_neg (by omega), if_neg (by omega)]; exact ⟨rfl, rfl⟩))
      have hE := hext.trans he
      clear c0' c1'
      go_wp2
      go_roundw
      case rel => exact ⟨j + 1, by omega, by go_num, HS, (hE.setCell (Nat.le_refl _) _).setCell (Nat.le_refl _) _⟩
      case measure => simp [intOf]; omega
    · obtain rfl : j = n := by omega
      have HFIN := hide ((unhide HO).congr (A' := fun i => .string (tx i)) (B' := fun i => .bool (hf i)) (fun i hi => ⟨by simp [hi], by simp [hi]⟩))
      go_wp2
      go_ret
      exact ⟨rfl, unhide HFIN, hext⟩
theorem infoStr : (Try.prog.info? 9).map (fun i => (i.zero, i.size, i.bytes)) = some (some (.string noB), 1, 16) := by kernel_rfl
set_option maxHeartbeats 1000000 in
theorem toStringS_any (v : Value) (n : Nat) (tx : Nat → ByteArray) (w : World) (hv : Row1At w v n (fun j => .string (tx j))) (hn : n ≤ 16777216) :
    Calls Try.prog 51 #[v] w fun e w' => e = .returned (.slice (some ⟨w.heap.size, 0, none⟩) n n) ∧ Own1 w' w.heap.size 9 (.slice (some ⟨w.heap.size, 0, none⟩) n n) n (fun j => .string (tx j)) ∧ Ext w w' := by
  obtain ⟨ic, hic, hc0, hc1, hc2⟩ := info_parts infoStr
  obtain ⟨ao, ca, rfl, hca, hxa⟩ := hv
  have HXA := hide hxa
  clear hxa
  go_enter Try.func51, Try.ntmps51
  go_wp2_with (at_make; refine wpList_make_full _ rfl _ _ 35 rfl w.heap.size 9 ic (.string noB) 1 Try.underlying35 hic hc0 hc1 _ _ _ _ n rfl rfl rfl rfl (by rw [hc2]; omega) (by unfold maxLen; omega) (Nat.le_refl _) ?_; intro w1 hown hgr)
  have H0 : Hid (Own1 w1 w.heap.size 9 (.slice (some ⟨w.heap.size, 0, none⟩) n n) n (fun i => if i < 0 then .string (tx i) else .string noB)) :=
    ⟨_, hown, fun j hj => by simp [madeCells, Value.cells, hj, Nat.mod_one]⟩
  have HG := hide hgr
  clear hown hgr
  go_loopw [4] (fun i wr => ∃ (j : Nat), j ≤ n ∧ i = .int .i64 j ∧ Hid (Own1 wr w.heap.size 9 (.slice (some ⟨w.heap.size, 0, none⟩) n n) n (fun i => if i < j then .string (tx i) else .string noB)) ∧ Ext w wr) (fun i _ => n - (intOf i).toNat)
  case atStart => exact ⟨0, Nat.zero_le _, rfl, H0, unhide HG⟩
  case round =>
    clear H0 HG
    obtain ⟨j, hj, rfl, HO, hext⟩ := hrel
    by_cases hlt : j < n
    · obtain ⟨b, off, rfl, hc⟩ := (unhide HXA) (by omega)
      have bj : (j : Int) < (n : Int) := by omega
      have g1 := hext.cell (hc j hlt)
      clear hc
      obtain ⟨c0', f0⟩ := (unhide HO).cell hlt
      obtain ⟨u0, c0⟩ : ∃ u, wr.cell? ⟨w.heap.size, j, none⟩ = some u := ⟨_, c0'⟩
      have HS := hide (((unhide HO).set hlt (.string (tx j))).congr (A' := fun i => if i < j + 1 then .string (tx i) else .string noB) (fun i _ => by
        by_cases e : i = j
        · subst e; simp
        · by_cases e2 : i < j
          · rw [if_neg e, if_pos e2, if_pos (by omega)]
          · rw [if_neg e, if_neg e2, if_neg (by omega)]))
      clear c0'
      go_wp2
      go_roundw
      case rel => exact ⟨j + 1, by omega, by go_num, HS, hext.setCell (Nat.le_refl _) _⟩
      case measure => simp [intOf]; omega
    · obtain rfl : j = n := by omega
      have HFIN := hide ((unhide HO).congr (A' := fun i => .string (tx i)) (fun i hi => by simp [hi]))
      go_wp2
      go_ret
      exact ⟨rfl, unhide HFIN, hext⟩
def PG2 (w : World) (base : Nat) (v : Value) (r : Nat) (C : Nat → Nat) (A B : Nat → Nat → Value) (rv : Nat → Value) (j : Nat) : Prop :=
  Own1 w base 63 v r (fun i => if i < j then rv i else .slice none 0 0) ∧ (∀ i, i < j → Own2 w base 74 (rv i) (C i) (A i) (B i)) ∧ (∀ i i' g, i < i' → i' < j → (rv i).ownBlock = some g → (rv i').ownBlock ≠ some g)
theorem PG2.done {w : World} {base : Nat} {v : Value} {r : Nat} {C : Nat → Nat} {A B : Nat → Nat → Value} {rv : Nat → Value} (h : PG2 w base v r C A B rv r) : OwnGrid w base v rv r C A B :=
  ⟨h.1.congr (fun j hj => by simp [hj]), h.2.1, h.2.2⟩
theorem PG2.step {wr w2 : World} {base r cap j : Nat} {C : Nat → Nat} {A B : Nat → Nat → Value} {rv : Nat → Value} (h : PG2 wr base (.slice (some ⟨base, 0, none⟩) r cap) r C A B rv j) (hlt : j < r) (F : Ext wr w2)
    (row : Own2 w2 wr.heap.size 74 (.slice (some ⟨wr.heap.size, 0, none⟩) (C j) (C j)) (C j) (A j) (B j)) :
    PG2 (w2.setCell ⟨base, j, none⟩ (.slice (some ⟨wr.heap.size, 0, none⟩) (C j) (C j))) base (.slice (some ⟨base, 0, none⟩) r cap) r C A B (fun i => if i = j then .slice (some ⟨wr.heap.size, 0, none⟩) (C j) (C j) else rv i) (j + 1) := by
  obtain ⟨p1, p2, p3⟩ := h
  have hgz := (p1.lt base rfl).2
  have fr1 : Fr (fun q => q = base) w2 (w2.setCell ⟨base, j, none⟩ (.slice (some ⟨wr.heap.size, 0, none⟩) (C j) (C j))) := Fr.setCell (S := fun q => q = base) (Fr.refl _ _) (a := ⟨base, j, none⟩) rfl _
  refine ⟨((p1.ext F).set hlt _).congr (fun i hi => ?_), fun i hi => ?_, fun i i' g hii hi hg => ?_⟩
  · by_cases e : i = j
    · subst e; simp
    · by_cases e2 : i < j
      · rw [if_neg e, if_pos e2, if_pos (by omega)]; simp [e]
      · rw [if_neg e, if_neg e2, if_neg (by omega)]
  · dsimp only
    by_cases e : i = j
    · subst e
      rw [if_pos rfl]
      exact (row.mono (by omega)).fr fr1 (fun g hg e => by simp [Value.ownBlock] at hg; omega)
    · rw [if_neg e]
      refine ((p2 i (by omega)).ext F).fr fr1 (fun g hg e => ?_)
      obtain ⟨ys, a1, _⟩ := p1
      obtain ⟨zs, a2, _⟩ := p2 i (by omega)
      subst e
      exact owns_apart a2 a1 (by decide) hg rfl
  · dsimp only at hg ⊢
    rw [if_neg (by omega)] at hg
    by_cases e : i' = j
    · subst e
      rw [if_pos rfl]
      have := ((p2 i (by omega)).lt g hg).2
      simp [Value.ownBlock]; omega
    · rw [if_neg e]
      exact p3 i i' g hii (by omega) hg
set_option maxHeartbeats 1000000 in
theorem toCellSS_any (v : Value) (r : Nat) (C : Nat → Nat) (tx : Nat → Nat → ByteArray) (hf : Nat → Nat → Bool) (w : World) (hv : GridAt w v r C (fun i j => .string (tx i j)) (fun i j => .bool (hf i j))) (hr : r ≤ 1048576) (hC : ∀ i, i < r → C i ≤ 1048576) :
    Calls Try.prog 49 #[v] w fun e w' => e = .returned (.slice (some ⟨w.heap.size, 0, none⟩) r r) ∧ (∃ rv, OwnGrid w' w.heap.size (.slice (some ⟨w.heap.size, 0, none⟩) r r) rv r C (fun i j => .string (tx i j)) (fun i j => .bool (hf i j))) ∧ Ext w w' := by
  obtain ⟨ir, hir, hr0, hr1, hr2⟩ := info_parts infoRow
  obtain ⟨rw0, ⟨ao, ca, rfl, hca, hxa⟩, hrows⟩ := hv
  have HXA := hide hxa
  have HR := hide hrows
  have HC := hide hC
  clear hxa hrows hC
  go_enter Try.func49, Try.ntmps49
  go_wp2_with (at_make; refine wpList_make_full _ rfl _ _ 33 rfl w.heap.size 63 ir (.slice none 0 0) 1 Try.underlying33 hir hr0 hr1 _ _ _ _ r rfl rfl rfl rfl (by rw [hr2]; omega) (by unfold maxLen; omega) (Nat.le_refl _) ?_; intro w1 hown hgr)
  have H0 : Hid (PG2 w1 w.heap.size (.slice (some ⟨w.heap.size, 0, none⟩) r r) r C (fun i j => .string (tx i j)) (fun i j => .bool (hf i j)) (fun _ => .slice none 0 0) 0) :=
    ⟨⟨_, hown, fun j hj => by simp [madeCells, Value.cells, hj, Nat.mod_one]⟩, fun i hi => by omega, fun i i' g _ hi => by omega⟩
  have HG := hide hgr
  clear hown hgr
  go_loopw [4] (fun i wr => ∃ (j : Nat) (rv : Nat → Value), j ≤ r ∧ i = .int .i64 j ∧ Hid (PG2 wr w.heap.size (.slice (some ⟨w.heap.size, 0, none⟩) r r) r C (fun i j => .string (tx i j)) (fun i j => .bool (hf i j)) rv j) ∧ Ext w wr) (fun i _ => r - (intOf i).toNat)
  case atStart => exact ⟨0, _, Nat.zero_le _, rfl, H0, unhide HG⟩
  case round =>
    clear H0 HG
    obtain ⟨j, rv, hj, rfl, HP, hext⟩ := hrel
    by_cases hlt : j < r
    · obtain ⟨b, off, rfl, hc⟩ := (unhide HXA) (by omega)
      have bj : (j : Int) < (r : Int) := by omega
      have g1 := hext.cell (hc j hlt)
      clear hc
      have hcon := hide (toCellS_any (rw0 j) (C j) (tx j) (hf j) wr (((unhide HR) j hlt).ext hext) ((unhide HC) j hlt))
      go_wp2_with fail
      refine (unhide hcon).mono ?_
      rintro e w2 ⟨rfl, row, F⟩
      obtain ⟨c0', f0⟩ := ((unhide HP).1.ext F).cell hlt
      obtain ⟨u0, c0⟩ : ∃ u, w2.cell? ⟨w.heap.size, j, none⟩ = some u := ⟨_, c0'⟩
      have HS := hide ((unhide HP).step hlt F row)
      have hE := hext.trans F
      clear c0' row F
      go_wp2
      go_roundw
      case rel => exact ⟨j + 1, _, by omega, by go_num, HS, hE.setCell (Nat.le_refl _) _⟩
      case measure => simp [intOf]; omega
    · obtain rfl : j = r := by omega
      have HD := hide (unhide HP).done
      go_wp2
      go_ret
      exact ⟨rfl, ⟨rv, unhide HD⟩, hext⟩
set_option maxHeartbeats 2000000 in
theorem toScreen_any (d : SD) (gv hv bv : Value) (w : World) (h : ScrAt w d gv hv bv) (hF : d.Fits) :
    Calls Try.prog 22 #[scrV d gv hv bv] w fun e w' => ∃ gv' rv hv' bv', e = .returned (scrV d gv' hv' bv') ∧ OwnScr w' w.heap.size d gv' rv hv' bv' ∧ Ext w w' := by
  obtain ⟨f1, f2, f3, f4⟩ := hF
  have HH := hide h
  have HF2 := hide f2
  clear h f2
  unfold scrV
  go_enter Try.func22, Try.ntmps22
  go_wp2_with fail
  have hz : ∀ a b c, (((w.alloc a).alloc b).alloc c).heap.size = w.heap.size + 3 := fun a b c => by simp
  have E0 : ∀ a b c, Ext w (((w.alloc a).alloc b).alloc c) := fun a b c => (((Ext.refl _).alloc _).alloc _).alloc _
  refine (toCellSS_any gv d.R d.C d.tx d.hf _ ((unhide HH).ext (E0 _ _ _)).1 f1 (unhide HF2)).mono ?_
  rintro e w1 ⟨rfl, ⟨rv, og1⟩, F1⟩
  rw [hz] at og1
  have hs1 := F1.size
  rw [hz] at hs1
  have E1 := (E0 _ _ _).trans F1
  have OG1 := hide og1
  obtain ⟨hcc, hff⟩ := F1.rules
  rw [hz] at hcc hff
  rw [hz]
  have l0 : w.heap.size < w1.heap.size := by omega
  have l1 : w.heap.size + 1 < w1.heap.size := by omega
  have l2 : w.heap.size + 1 + 1 < w1.heap.size := by omega
  clear og1
  go_wp2_with fail
  have hz4 : ∀ (W : World) p q r t a b c e, ((((W.setCell p a).setCell q b).setCell r c).setCell t e).heap.size = W.heap.size := fun W p q r t a b c e => by simp
  have X1 : ∀ a b c e, Fr (fun q => w.heap.size ≤ q ∧ q < w.heap.size + 3) w1 ((((w1.setCell ⟨w.heap.size + 1 + 1, 2, none⟩ a).setCell ⟨w.heap.size + 1 + 1, 3, none⟩ b).setCell ⟨w.heap.size + 1 + 1, 4, none⟩ c).setCell ⟨w.heap.size + 1 + 1, 5, none⟩ e) := fun a b c e => by
    refine (((((Fr.refl _ _).setCell ?_ _).setCell ?_ _).setCell ?_ _).setCell ?_ _) <;> exact ⟨by show w.heap.size ≤ w.heap.size + 1 + 1; omega, by show w.heap.size + 1 + 1 < w.heap.size + 3; omega⟩
  have Y1 : ∀ a b c e, Ext w ((((w1.setCell ⟨w.heap.size + 1 + 1, 2, none⟩ a).setCell ⟨w.heap.size + 1 + 1, 3, none⟩ b).setCell ⟨w.heap.size + 1 + 1, 4, none⟩ c).setCell ⟨w.heap.size + 1 + 1, 5, none⟩ e) := fun a b c e => (X1 a b c e).ext E1 (fun k hk => hk.1)
  refine (toByteS_any hv d.hold _ ((unhide HH).ext (Y1 _ _ _ _)).2.1 (by omega)).mono ?_
  rintro e w2 ⟨rfl, oh2, F2⟩
  obtain ⟨hcc2, hff2⟩ := F2.rules
  have hs2 := F2.size
  rw [hz4] at oh2 hcc2 hff2 hs2
  rw [hz4]
  have OH2 := hide oh2
  have XF2 := hide ((X1 _ _ _ _).trans (Fr.of_ext F2))
  have m0 : w.heap.size < w2.heap.size := by omega
  have m1 : w.heap.size + 1 < w2.heap.size := by omega
  have m2 : w.heap.size + 1 + 1 < w2.heap.size := by omega
  clear oh2 X1 Y1 F1
  go_wp2_with fail
  have X2 : ∀ a, Fr (fun q => w.heap.size ≤ q ∧ q < w.heap.size + 3) w2 (w2.setCell ⟨w.heap.size + 1 + 1, 6, none⟩ a) := fun a => (Fr.refl _ _).setCell (a := ⟨w.heap.size + 1 + 1, 6, none⟩) ⟨by show w.heap.size ≤ w.heap.size + 1 + 1; omega, by show w.heap.size + 1 + 1 < w.heap.size + 3; omega⟩ _
  have hz5 : ∀ (W : World) p a, (W.setCell p a).heap.size = W.heap.size := fun W p a => by simp
  refine (toStringS_any bv d.nb d.bk _ ((unhide HH).ext (((unhide XF2).trans (X2 _)).ext E1 (fun k hk => hk.1))).2.2 (by omega)).mono ?_
  rintro e w3 ⟨rfl, ob3, F3⟩
  obtain ⟨hcc3, hff3⟩ := F3.rules
  have hs3 := F3.size
  rw [hz5] at ob3 hcc3 hff3 hs3
  rw [hz5]
  have XF3 := hide ((X2 _).trans (Fr.of_ext F3))
  have OB3 := hide ob3
  clear ob3 X2 F2
  have a0 : w3.cell? ⟨w.heap.size + 1, 0, none⟩ = some (.int .i64 0) := by rw [hcc3 _ _ m1]; simp [go_sem, hcc2, hcc, l1]
  have a1 : w3.cell? ⟨w.heap.size + 1, 1, none⟩ = some (.int .i64 0) := by rw [hcc3 _ _ m1]; simp [go_sem, hcc2, hcc, l1]
  have a2 : w3.cell? ⟨w.heap.size + 1, 2, none⟩ = some (.slice none 0 0) := by rw [hcc3 _ _ m1]; simp [go_sem, hcc2, hcc, l1]
  have a3 : w3.cell? ⟨w.heap.size + 1, 3, none⟩ = some (.int .i64 0) := by rw [hcc3 _ _ m1]; simp [go_sem, hcc2, hcc, l1]
  have a4 : w3.cell? ⟨w.heap.size + 1, 4, none⟩ = some (.int .i64 0) := by rw [hcc3 _ _ m1]; simp [go_sem, hcc2, hcc, l1]
  have a5 : w3.cell? ⟨w.heap.size + 1, 5, none⟩ = some (.bool false) := by rw [hcc3 _ _ m1]; simp [go_sem, hcc2, hcc, l1]
  have a6 : w3.cell? ⟨w.heap.size + 1, 6, none⟩ = some (.slice none 0 0) := by rw [hcc3 _ _ m1]; simp [go_sem, hcc2, hcc, l1]
  have a7 : w3.cell? ⟨w.heap.size + 1, 7, none⟩ = some (.slice none 0 0) := by rw [hcc3 _ _ m1]; simp [go_sem, hcc2, hcc, l1]
  go_wp2
  refine bodyPost_ret (v := scrV d (.slice (some ⟨w.heap.size + 3, 0, none⟩) d.R d.R) (.slice (some ⟨w1.heap.size, 0, none⟩) d.hold.length d.hold.length) (.slice (some ⟨w2.heap.size, 0, none⟩) d.nb d.nb)) (by simp [results, Try.results22, go_sem, scrV, a0, a1, a2, a3, a4, a5, a6, a7]) rfl ⟨_, rv, _, _, rfl, ?_⟩
  have frE : ∀ a b c e f g h i k, Fr (fun q => w.heap.size ≤ q ∧ q < w.heap.size + 3) w3 (((((((((w3.setCell ⟨w.heap.size + 1 + 1, 7, none⟩ a).setCell ⟨w.heap.size + 1, 0, none⟩ b).setCell ⟨w.heap.size + 1, 1, none⟩ c).setCell ⟨w.heap.size + 1, 2, none⟩ e).setCell ⟨w.heap.size + 1, 3, none⟩ f).setCell ⟨w.heap.size + 1, 4, none⟩ g).setCell ⟨w.heap.size + 1, 5, none⟩ h).setCell ⟨w.heap.size + 1, 6, none⟩ i).setCell ⟨w.heap.size + 1, 7, none⟩ k) := fun a b c e f g h i k => by
    refine ((((((((((Fr.refl _ _).setCell ?_ _).setCell ?_ _).setCell ?_ _).setCell ?_ _).setCell ?_ _).setCell ?_ _).setCell ?_ _).setCell ?_ _).setCell ?_ _) <;> first | exact ⟨by show w.heap.size ≤ w.heap.size + 1; omega, by show w.heap.size + 1 < w.heap.size + 3; omega⟩ | exact ⟨by show w.heap.size ≤ w.heap.size + 1 + 1; omega, by show w.heap.size + 1 + 1 < w.heap.size + 3; omega⟩
  have x2 := unhide XF2
  have x3 := unhide XF3
  have og := unhide OG1
  have ob := unhide OB3
  have oh := unhide OH2
  refine ⟨⟨OwnGrid.base_le (((og.fr x2 (fun g hg e => ?_)).fr x3 (fun g hg e => ?_)).fr (frE _ _ _ _ _ _ _ _ _) (fun g hg e => ?_)) (by omega), ?_, ?_⟩, ((x2.trans x3).trans (frE _ _ _ _ _ _ _ _ _)).ext E1 (fun k hk => hk.1)⟩
  · have := (og.foot hg).1; omega
  · have := (og.foot hg).1; omega
  · have := (og.foot hg).1; omega
  · refine owns_mono ((frE _ _ _ _ _ _ _ _ _).owns (x3.owns oh (fun g hg e => ?_)) (fun g hg e => ?_)) (by omega)
    · have := (oh.lt g hg).1; omega
    · have := (oh.lt g hg).1; omega
  · refine (ob.fr (frE _ _ _ _ _ _ _ _ _) (fun g hg e => ?_)).mono (by omega)
    have := (ob.lt g hg).1; omega
end Go.Proofs.Ytkimnihdjeonpab
