import Derived.Test.YtinfdhbnljnifaaGreatDoorFgE
import Derived.Test.YtinfdhbnljnifaaGreatDoorFcI
import Derived.Test.YtinfdhbnljnifaaGreatDoorOkImpl
import Derived.Test.YtinfdhbnljnifaaGreatDoorFsM4
import Derived.Test.YtinfdhbnljnifaaGreatDoorFfC
import Derived.Test.YtinfdhbnljnifaaGreatDoorTextOf
namespace Go.Proofs.YtinfdhbnljnifaaGreatDoor
open Go.RowKit Go.Deep Go.Maps
section
variable {F base B0 Bb : Nat} {X : Nat → Prop} {d : SD} {gv : Value} {rv : Nat → Value} {hv bv : Value}
theorem StsF.ext {w w' : World} {D F q r : Nat} (s : StsF w D F q r) (he : Ext w w') : StsF w' D F q r := ⟨s.d.ext he, s.gr.ext he, s.es.ext he, s.be.ext he, s.bg.ext he, s.h.ext he, s.g2.ext he, s.fo.ext he, s.b2.ext he⟩
theorem feedRead {w W3 : World} (h : ScrW w F base X d gv rv hv bv) (hXF : ¬ X F) (hXk : ∀ k, (k = B0 ∨ k = Bb ∨ k = 1 ∨ k = 2 ∨ k = 0) → X k) (hT : Tabs3 w) (E3 : Ext w W3) (hD : W3.heap[w.heap.size]? = some (.cells #[.slice none 0 0, showF F, obeyF F] 76 (0, 0)))
    (q r P : Nat) (T : TypeId) (sh yv : Value) (sts : StsF W3 w.heap.size F q r) (hq : w.heap.size < q) (hqr : q + 4 < r) (hr : r + 3 < W3.heap.size) (hP : W3.heap[P]? = some (.cells #[sh, yv] T (0, 0))) (hPw : w.heap.size < P) (ys : List Int)
    (hx : ∀ w', FrW F base X w w' → IntsAt w' .u8 sh d.hold) (hy : ∀ w', FrW F base X w w' → IntsAt w' .u8 yv ys) (hbx : Bytes d.hold) (hby : Bytes ys) (hrm : Room d (d.hold.length + ys.length)) (hl4 : d.hold.length + ys.length ≤ 4194303) :
    Calls Tryz.prog 49 #[grF q, .slice (some ⟨P, 0, none⟩) 2 2] W3 fun e w' => e = .returned (.tuple #[]) ∧ (∃ hv' gv' rv' bv', FkAt w' ⟨F, w.heap.size, base, q, r, fun k => X k ∨ (w.heap.size < k ∧ k < W3.heap.size), hv⟩ (fdH (d.hold ++ ys)) (d.acts rowT (fd (d.hold ++ ys)).1) hv' gv' rv' bv') ∧ FrF ⟨F, w.heap.size, base, q, r, fun k => X k ∨ (w.heap.size < k ∧ k < W3.heap.size), hv⟩ W3 w' := by
  have hF := h.below.1
  have z3 := E3.size
  have hPl := lt_of_block hP
  have hfw : FrF ⟨F, w.heap.size, base, q, r, fun k => X k ∨ (w.heap.size < k ∧ k < W3.heap.size), hv⟩ W3 W3 := Fr.refl _ _
  have toW : ∀ w', FrF ⟨F, w.heap.size, base, q, r, fun k => X k ∨ (w.heap.size < k ∧ k < W3.heap.size), hv⟩ W3 w' → FrW F base X w w' := fun w' hf => by
    refine ⟨hf.os.trans E3.os, hf.tape.trans E3.tape, hf.output.trans E3.output, Nat.le_trans z3 hf.size, fun i hi hS => ?_⟩
    rw [hf.block i (by omega) (by
      rintro (e | e | ⟨e1, e2⟩)
      · have e' : i = w.heap.size := e
        omega
      · exact hS (.inl e)
      · exact hS (.inr ⟨e1, fun x => e2 (.inl x)⟩))]
    exact E3.heap hi
  have hscr : ScrW W3 F base (fun k => (X k ∨ (w.heap.size < k ∧ k < W3.heap.size)) ∨ k = w.heap.size ∨ Value.ownBlock (.slice none 0 0) = some k) d gv rv hv bv := (h.ext E3).keepX (fun k hk => by
    rcases hk with (hk | hk) | hk | hk
    · exact ⟨by have := (h.kept k hk).1; omega, (h.kept k hk).2⟩
    · exact ⟨hk.2, fun hw => by have := (h.foot hw).2; omega⟩
    · exact ⟨by have := lt_of_block hD; omega, fun hw => by have := (h.foot hw).2; omega⟩
    · simp [Value.ownBlock] at hk)
  have k : FW W3 ⟨F, w.heap.size, base, q, r, fun k => X k ∨ (w.heap.size < k ∧ k < W3.heap.size), hv⟩ [] d := by
    refine ⟨⟨.slice none 0 0, gv, rv, bv, hD, ⟨by simp, .inl ⟨rfl, rfl⟩⟩, hscr, by show w.heap.size ≠ F; omega, fun k hk => ⟨?_, ?_, by simp [Value.ownBlock]⟩, by simp [Value.ownBlock], by simp [Value.ownBlock]⟩, sts, fun k hk => ?_, hT.ext E3⟩
    · show k ≠ w.heap.size
      rcases hk with hk | hk
      · have := (h.kept k hk).1; omega
      · omega
    · show k ≠ F
      rcases hk with hk | hk
      · exact fun e => hXF (e ▸ hk)
      · omega
    · rcases hk with hk | hk | hk
      · have h1 : q ≤ k := hk.1
        have h2 : k ≤ q + 4 := hk.2
        exact .inr ⟨by omega, by omega⟩
      · have h1 : r ≤ k := hk.1
        have h2 : k ≤ r + 3 := hk.2
        exact .inr ⟨by omega, by omega⟩
      · exact .inl (hXk k (.inr (.inr hk)))
  refine (readAll_any _ d.hold ys P T sh yv d W3 k hP (.inr ⟨hPw, hPl⟩) (fun w' hf => hx w' (toW w' hf)) (fun w' hf => hy w' (toW w' hf)) hbx hby hrm hl4 (grF q) (by simp [Fc.mode])).mono ?_
  rintro e w' ⟨rfl, v, _, k9, f9⟩
  exact ⟨rfl, k9.fk, f9⟩
theorem feedAfter {w W3 w4 : World} {q r : Nat} (h : ScrW w F base X d gv rv hv bv) (hXF : ¬ X F) (E3 : Ext w W3) (f4 : FrF ⟨F, w.heap.size, base, q, r, fun k => X k ∨ (w.heap.size < k ∧ k < W3.heap.size), hv⟩ W3 w4) {k : Nat} {o : Obj} (hk : X k) (ho : w.heap[k]? = some o) : w4.heap[k]? = some o := by
  refine f4.kept (E3.kept ho) ?_
  rintro (e | e | ⟨_, e⟩)
  · have e' : k = w.heap.size := e
    have := (h.kept k hk).1
    omega
  · have e' : k = F := e
    exact hXF (e' ▸ hk)
  · exact e (.inl hk)
theorem feedDone {w W3 w4 : World} {q r : Nat} {hs : List Int} {d4 : SD} {hv4 gv4 : Value} {rv4 : Nat → Value} {bv4 : Value} (E3 : Ext w W3) (h4 : FkAt w4 ⟨F, w.heap.size, base, q, r, fun k => X k ∨ (w.heap.size < k ∧ k < W3.heap.size), hv⟩ hs d4 hv4 gv4 rv4 bv4) (f4 : FrF ⟨F, w.heap.size, base, q, r, fun k => X k ∨ (w.heap.size < k ∧ k < W3.heap.size), hv⟩ W3 w4) :
    ScrW (w4.setCell ⟨F, 6, none⟩ hv4) F base X d4 gv4 rv4 hv4 bv4 ∧ (w4.setCell ⟨F, 6, none⟩ hv4).ownsRow base 5 1 hv4 hs.length (hs.map (Value.int .u8)) ∧ (∀ k, X k ∨ WFoot d4 gv4 rv4 bv4 k → ¬ hv4.ownBlock = some k) ∧ ¬ hv4.ownBlock = some F ∧ FrW F base X w (w4.setCell ⟨F, 6, none⟩ hv4) := by
  have fs : Fr (fun k => k = F) w4 (w4.setCell ⟨F, 6, none⟩ hv4) := Fr.setCell (S := fun k => k = F) (Fr.refl _ w4) (a := ⟨F, 6, none⟩) rfl _
  have z3 := E3.size
  have s4 := h4.scr
  have ne : ∀ g, WFoot d4 gv4 rv4 bv4 g → ¬ g = F := fun g hg e => s4.below.2 (e ▸ hg)
  have z4 := fs.size
  refine ⟨⟨set_blk2 s4.box rfl, s4.grid.fr fs (fun g hg => ne g (.inl hg)), fun i hi => (s4.row i hi).fr fs (fun g hg => ne g (.inr (.inl ⟨i, hi, hg⟩))), s4.apart, s4.back.fr fs (fun g hg => ne g (.inr (.inr hg))), ⟨Nat.lt_of_lt_of_le s4.below.1 fs.size, s4.below.2⟩, Nat.le_trans s4.top fs.size, fun k hk => ⟨Nat.lt_of_lt_of_le (s4.kept k (.inl (.inl hk))).1 fs.size, (s4.kept k (.inl (.inl hk))).2⟩⟩, fs.owns h4.held (fun g hg e => h4.hf (e ▸ hg)), fun k hk e => ?_, h4.hf, ?_⟩
  · rcases hk with hk | hk
    · exact (h4.kp k (.inl hk)).2.2 e
    · exact (s4.kept k (.inr (.inr e))).2 hk
  · have f5 : FrW F base X w w4 := by
      refine ⟨f4.os.trans E3.os, f4.tape.trans E3.tape, f4.output.trans E3.output, Nat.le_trans z3 f4.size, fun i hi hS => ?_⟩
      rw [f4.block i (by omega) (by
        rintro (e | e | ⟨e1, e2⟩)
        · have e' : i = w.heap.size := e
          omega
        · exact hS (.inl e)
        · exact hS (.inr ⟨e1, fun x => e2 (.inl x)⟩))]
      exact E3.heap hi
    exact Fr.tr f5 (fs.mono (fun k hk => .inl hk))
set_option maxRecDepth 10000 in
set_option maxHeartbeats 4000000 in
theorem feed1_any (w : World) (h : ScrW w F base X d gv rv hv bv) (hXF : ¬ X F) (sc : Array Value) (T1 : TypeId) (sh yv : Value) (hs : w.heap[B0]? = some (.cells sc T1 (0, 0))) (hs6 : sc[6]? = some sh) (hb : w.heap[Bb]? = some (.cells #[yv] 22 (0, 0)))
    (hXk : ∀ k, (k = B0 ∨ k = Bb ∨ k = 1 ∨ k = 2 ∨ k = 0) → X k) (hT : Tabs3 w) (ys : List Int)
    (hx : ∀ w', FrW F base X w w' → IntsAt w' .u8 sh d.hold) (hy : ∀ w', FrW F base X w w' → IntsAt w' .u8 yv ys) (hbx : Bytes d.hold) (hby : Bytes ys) (hrm : Room d (d.hold.length + ys.length)) (hl4 : d.hold.length + ys.length ≤ 4194303) :
    Calls Tryz.prog 46 #[ptr F, ptr B0, ptr Bb] w fun e w' => e = .returned (.tuple #[]) ∧ ∃ gv' rv' hv' bv', ScrW w' F base X (d.acts rowT (fd (d.hold ++ ys)).1) gv' rv' hv' bv' ∧ w'.ownsRow base 5 1 hv' (fdH (d.hold ++ ys)).length ((fdH (d.hold ++ ys)).map (Value.int .u8)) ∧ (∀ k, X k ∨ WFoot (d.acts rowT (fd (d.hold ++ ys)).1) gv' rv' bv' k → ¬ hv'.ownBlock = some k) ∧ ¬ hv'.ownBlock = some F ∧ FrW F base X w w' := by
  have hmf : ∀ (fn : Fn) (first cap : Array Value) (w : World), (Instr.makeFunc fn first cap).run Tryz.prog w = .ok (.func fn first cap) w := fun _ _ _ _ => rfl
  have hF := h.below.1
  obtain ⟨A1, hA1⟩ : ∃ A1, A1 = (w.alloc (.cells #[.slice none 0 0, .nilFunc, .nilFunc] 76)).setCell ⟨w.heap.size, 1, none⟩ (showF F) := ⟨_, rfl⟩
  obtain ⟨A2, hA2⟩ : ∃ A2, A2 = A1.setCell ⟨w.heap.size, 2, none⟩ (obeyF F) := ⟨_, rfl⟩
  have nb := new_block w (.cells #[.slice none 0 0, .nilFunc, .nilFunc] 76)
  have nb1 : A1.heap[w.heap.size]? = some (.cells #[.slice none 0 0, showF F, .nilFunc] 76 (0, 0)) := by rw [hA1]; exact set_blk2 nb rfl
  have nb2 : A2.heap[w.heap.size]? = some (.cells #[.slice none 0 0, showF F, obeyF F] 76 (0, 0)) := by rw [hA2]; exact set_blk2 nb1 rfl
  have hst1 : (store ⟨w.heap.size, 1, none⟩ (.func (.func 47) #[ptr F] #[])).run Tryz.prog (w.alloc (.cells #[.slice none 0 0, .nilFunc, .nilFunc] 76)) = .ok () A1 := by rw [hA1]; exact run_store_func (cells_of nb 1 _ rfl) (Lib.frozen_of_heap nb 1) _ _ _
  have hst2 : (store ⟨w.heap.size, 2, none⟩ (.func (.func 48) #[ptr F] #[])).run Tryz.prog A1 = .ok () A2 := by rw [hA2]; exact run_store_func (cells_of nb1 2 _ rfl) (Lib.frozen_of_heap nb1 2) _ _ _
  have EA : Ext w A2 := by rw [hA2, hA1]; exact (((Ext.refl w).alloc _).setCell (Nat.le_refl _) _).setCell (Nat.le_refl _) _
  have zA : A2.heap.size = w.heap.size + 1 := by rw [hA2, hA1]; simp
  have a6 : A2.cell? ⟨B0, 6, none⟩ = some sh := cells_of (EA.kept hs) 6 _ hs6
  have ab : A2.cell? ⟨Bb, 0, none⟩ = some yv := cells_of (EA.kept hb) 0 _ rfl
  have HStart := hide (fun W (hW : Ext A2 W) => startF_any w.heap.size F (.slice none 0 0) W (hW.kept nb2))
  obtain ⟨xa, xc, hxv⟩ : ∃ xa xc, sh = .slice xa d.hold.length xc := by obtain ⟨a, b, e, _⟩ := hx w (Fr.refl _ _); exact ⟨a, b, e⟩
  obtain ⟨ya, yc, hyv⟩ : ∃ ya yc, yv = .slice ya ys.length yc := by obtain ⟨a, b, e, _⟩ := hy w (Fr.refl _ _); exact ⟨a, b, e⟩
  subst hxv
  subst hyv
  have H := hide h
  have HNB := hide nb2
  have HEA := hide EA
  have HS := hide hs
  have HBb := hide hb
  have HXk := hide hXk
  have HT := hide hT
  have HX := hide hx
  have HY := hide hy
  have HRm := hide hrm
  have HS6 := hide hs6
  clear h hs hb hXk hT hx hy hrm nb nb1 nb2 EA hA1 hA2 hs6
  go_enter Tryz.func46, Tryz.ntmps46
  have HRead := hide (fun W3 E3 hD q r P T sts hq hqr hr hP hPw => feedRead (W3 := W3) (unhide H) hXF (unhide HXk) (unhide HT) E3 hD q r P T _ _ sts hq hqr hr hP hPw ys (unhide HX) (unhide HY) hbx hby (unhide HRm) hl4)
  go_wp2_with fail
  refine wp_region_held_drew (S := fun W => W.cell? ⟨B0, 6, none⟩ = some (.slice xa d.hold.length xc) ∧ W.cell? ⟨Bb, 0, none⟩ = some (.slice ya ys.length yc)) (by kernel_rfl) ⟨a6, ab⟩ (fun hHeld => ?_)
  refine wpAnyH_take (i := 1) (v := ?_) rfl (by kernel_rfl) (by kernel_rfl) (by kernel_rfl) (fun _ _ _ h => h) (Or.inl ⟨by rfl, ?_⟩) (by assumption) ?_
  rotate_left
  · intro w' hSw; obtain ⟨e1, e2⟩ := hSw; go_simp <;> with_reducible rfl
  simp only [Act.put, qA, qB, qC, qD, qE, qF]
  refine wpAnyH_take (i := 2) (v := ?_) rfl (by kernel_rfl) (by kernel_rfl) (by kernel_rfl) (fun _ _ _ h => h) (Or.inl ⟨by rfl, ?_⟩) (by assumption) ?_
  rotate_left
  · intro w' hSw; obtain ⟨e1, e2⟩ := hSw; go_simp <;> with_reducible rfl
  simp only [Act.put, qA, qB, qC, qD, qE, qF]
  refine wpAnyH_take (i := 3) (v := ?_) rfl (by kernel_rfl) (by kernel_rfl) (by kernel_rfl) (fun _ _ _ h => h) (Or.inl ⟨by rfl, ?_⟩) (by assumption) ?_
  rotate_left
  · intro w' hSw; obtain ⟨e1, e2⟩ := hSw; go_simp <;> with_reducible rfl
  simp only [Act.put, qA, qB, qC, qD, qE, qF]
  refine wpAnyH_ready (rs := [0, 4]) (by kernel_rfl) (by simp) ?_
  refine AllReadyH.cons rfl (fun K hK => ?_) (AllReadyH.cons rfl (fun K hK => ?_) AllReadyH.nil)
  · go_simp
    refine ((unhide HStart) (A2.drew) ((Ext.refl A2).drew)).mono ?_
    rintro e w2 ⟨⟨q, r, rfl, sts, hq, hqr, hr⟩, E2⟩
    have E3 : Ext A2 w2 := Ext.trans ((Ext.refl A2).drew) E2
    have d6 := E3.cell a6
    have db := E3.cell ab
    have hq1 : w.heap.size < q := (by have h9 : A2.heap.size ≤ q := hq; omega)
    have z3 := E3.size
    have HST := hide sts
    have HE2 := hide E2
    have HE3 := hide E3
    clear sts E2 E3 hq
    refine hK.out _ _ ⟨d6, db⟩ (fun hHeld => ?_)
    clear hK K
    refine wpAnyH_ready (rs := [4]) (by kernel_rfl) (by simp) ?_
    refine AllReadyH.cons rfl (fun K hK => ?_) AllReadyH.nil
    go_simp
    refine hK.out _ _ ⟨((Ext.refl w2).alloc _).cell d6, ((Ext.refl w2).alloc _).cell db⟩ (fun hHeld => ?_)
    clear hK K
    refine wpAnyH_ready (rs := [5]) (by kernel_rfl) (by simp) ?_
    refine AllReadyH.cons rfl (fun K hK => ?_) AllReadyH.nil
    go_simp
    refine ((unhide HRead) (w2.alloc (.cells #[.slice xa d.hold.length xc, .slice ya ys.length yc] 22)) (((unhide HEA).trans (unhide HE3)).alloc (.cells #[.slice xa d.hold.length xc, .slice ya ys.length yc] 22)) (((unhide HE3).alloc _).kept (unhide HNB)) q r (w2.heap.size) _ ((unhide HST).ext ((Ext.refl w2).alloc _)) hq1 hqr (by simp; omega) (new_block w2 _) (by omega)).mono ?_
    rintro e w4 ⟨rfl, ⟨hv4, gv4, rv4, bv4, h4⟩, f4⟩
    have EE := ((unhide HEA).trans (unhide HE3)).alloc (.cells #[.slice xa d.hold.length xc, .slice ya ys.length yc] 22)
    have hk6 := feedAfter (unhide H) hXF EE f4 ((unhide HXk) B0 (.inl rfl)) (unhide HS)
    have hkb := feedAfter (unhide H) hXF EE f4 ((unhide HXk) Bb (.inr (.inl rfl))) (unhide HBb)
    have g6 := cells_of hk6 6 _ (unhide HS6)
    have gb : w4.cell? ⟨Bb, 0, none⟩ = some (.slice ya ys.length yc) := cells_of hkb 0 _ rfl
    have HFin := hide (feedDone EE h4 f4)
    have HD4 := hide h4
    clear h4 f4 hk6 hkb EE
    refine hK.out _ _ ⟨g6, gb⟩ (fun hHeld => ?_)
    clear hK K
    refine wpAnyH_done (by kernel_rfl) ?_ _
    have e0 := cells_of (unhide HD4).blk 0 _ rfl
    have e6 := cells_of (unhide HD4).scr.box 6 _ rfl
    have f6 : w4.frozen? ⟨F, 6, none⟩ = false := Lib.frozen_of_heap (unhide HD4).scr.box 6
    obtain ⟨a4, n4, c4, hsl⟩ : ∃ a n c, hv4 = .slice a n c := by obtain ⟨a, c, e⟩ := owns_ln (unhide HD4).held; exact ⟨a, _, c, e⟩
    subst hsl
    clear HRead HStart
    go_wp2
    go_end0
    exact ⟨rfl, _, _, _, _, unhide HFin⟩
  · go_simp
    refine hK.out _ _ ⟨((Ext.refl A2).alloc (.cells #[.slice xa d.hold.length xc, .slice ya ys.length yc] 22)).drew.cell a6, ((Ext.refl A2).alloc (.cells #[.slice xa d.hold.length xc, .slice ya ys.length yc] 22)).drew.cell ab⟩ (fun hHeld => ?_)
    clear hK K
    refine wpAnyH_ready (rs := [0]) (by kernel_rfl) (by simp) ?_
    refine AllReadyH.cons rfl (fun K hK => ?_) AllReadyH.nil
    go_simp
    refine ((unhide HStart) ((A2.alloc (.cells #[.slice xa d.hold.length xc, .slice ya ys.length yc] 22)).drew) (((Ext.refl A2).alloc (.cells #[.slice xa d.hold.length xc, .slice ya ys.length yc] 22)).drew)).mono ?_
    rintro e w2 ⟨⟨q, r, rfl, sts, hq, hqr, hr⟩, E2⟩
    have E3 : Ext A2 w2 := Ext.trans (((Ext.refl A2).alloc (.cells #[.slice xa d.hold.length xc, .slice ya ys.length yc] 22)).drew) E2
    have d6 := E3.cell a6
    have db := E3.cell ab
    have hq1 : w.heap.size < q := (by have h9 : (A2.alloc (.cells #[.slice xa d.hold.length xc, .slice ya ys.length yc] 22)).heap.size ≤ q := hq; simp at h9; omega)
    have z3 := E3.size
    have HST := hide sts
    have HE2 := hide E2
    have HE3 := hide E3
    clear sts E2 E3 hq
    refine hK.out _ _ ⟨d6, db⟩ (fun hHeld => ?_)
    clear hK K
    have hP9 := (unhide HE2).kept (show (A2.alloc (.cells #[.slice xa d.hold.length xc, .slice ya ys.length yc] 22)).drew.heap[A2.heap.size]? = some (.cells #[.slice xa d.hold.length xc, .slice ya ys.length yc] 22) from new_block A2 _)
    rw [zA] at hP9
    have HP9 := hide hP9
    clear hP9
    refine wpAnyH_ready (rs := [5]) (by kernel_rfl) (by simp) ?_
    refine AllReadyH.cons rfl (fun K hK => ?_) AllReadyH.nil
    go_simp
    refine ((unhide HRead) (w2) ((unhide HEA).trans (unhide HE3)) ((unhide HE3).kept (unhide HNB)) q r (w.heap.size + 1) _ (unhide HST) hq1 hqr hr (unhide HP9) (by omega)).mono ?_
    rintro e w4 ⟨rfl, ⟨hv4, gv4, rv4, bv4, h4⟩, f4⟩
    have EE := (unhide HEA).trans (unhide HE3)
    have hk6 := feedAfter (unhide H) hXF EE f4 ((unhide HXk) B0 (.inl rfl)) (unhide HS)
    have hkb := feedAfter (unhide H) hXF EE f4 ((unhide HXk) Bb (.inr (.inl rfl))) (unhide HBb)
    have g6 := cells_of hk6 6 _ (unhide HS6)
    have gb : w4.cell? ⟨Bb, 0, none⟩ = some (.slice ya ys.length yc) := cells_of hkb 0 _ rfl
    have HFin := hide (feedDone EE h4 f4)
    have HD4 := hide h4
    clear h4 f4 hk6 hkb EE
    refine hK.out _ _ ⟨g6, gb⟩ (fun hHeld => ?_)
    clear hK K
    refine wpAnyH_done (by kernel_rfl) ?_ _
    have e0 := cells_of (unhide HD4).blk 0 _ rfl
    have e6 := cells_of (unhide HD4).scr.box 6 _ rfl
    have f6 : w4.frozen? ⟨F, 6, none⟩ = false := Lib.frozen_of_heap (unhide HD4).scr.box 6
    obtain ⟨a4, n4, c4, hsl⟩ : ∃ a n c, hv4 = .slice a n c := by obtain ⟨a, c, e⟩ := owns_ln (unhide HD4).held; exact ⟨a, _, c, e⟩
    subst hsl
    clear HRead HStart
    go_wp2
    go_end0
    exact ⟨rfl, _, _, _, _, unhide HFin⟩
end
end Go.Proofs.YtinfdhbnljnifaaGreatDoor

namespace Go.Proofs.YtinfdhbnljnifaaGreatDoor
open Go.RowKit Go.Deep Go.Maps
set_option maxHeartbeats 1000000 in
theorem withinGrid_f (p q r : Addr) (w : World) (Pt : World → Prop) (hP : ∀ w', Pt w' → w'.cell? ⟨w.heap.size, 0, none⟩ = some (.bool false) ∧ w'.frozen? ⟨w.heap.size, 0, none⟩ = false)
    (hw : Calls Tryz.prog 46 #[.pointer (some p), .pointer (some q), .pointer (some r)] (w.alloc (.cells #[.bool false] 4)) fun e w' => e = .returned (.tuple #[]) ∧ Pt w') :
    Calls Tryz.prog 45 #[.func (Fn.func 46) #[] #[.pointer (some p), .pointer (some q), .pointer (some r)]] w fun e w' => ∃ (w1 : World), e = .returned (.bool true) ∧ Pt w1 ∧ w' = w1.setCell ⟨w.heap.size, 0, none⟩ (.bool true) := by
  have hmf : ∀ (fn : Fn) (first cap : Array Value) (w : World), (Instr.makeFunc fn first cap).run Tryz.prog w = .ok (.func fn first cap) w := fun _ _ _ _ => rfl
  have HW := hide hw
  have HP := hide hP
  clear hw hP
  go_enter_defers Tryz.func45, Tryz.ntmps45
  go_wp2_with fail
  refine (unhide HW).mono ?_
  rintro e w1 ⟨rfl, hpt⟩
  obtain ⟨c1, f1⟩ := (unhide HP) w1 hpt
  have HPT := hide hpt
  clear hpt HW HP
  go_wp2
  refine leaves_cons (f := 100) (args := #[.pointer (some ⟨w.heap.size, 0, none⟩)]) (by simp) (by simp [go_sem]) ?_
  refine (catch_idle ⟨w.heap.size, 0, none⟩ _).mono ?_
  rintro e u' w'' ⟨rfl, rfl, rfl⟩
  have hpt := unhide HPT
  simp [Leaves, settle, results, Tryz.results45, go_sem, c1]
  exact ⟨w1, hpt, rfl⟩
set_option maxRecDepth 10000 in
set_option maxHeartbeats 4000000 in
theorem implFeed_no (d : SD) (gv hv bv yv : Value) (ys : List Int) (w : World) (h : ScrAt w d gv hv bv) (hF : d.Fits) (hy : IntsAt w .u8 yv ys) (hno : ¬ OkP d) :
    Calls Tryz.prog 8 #[scrV d gv hv bv, yv] w fun e w' => ∃ gv' rv hv' bv', e = .returned (scrV d gv' hv' bv') ∧ OwnScr w' w.heap.size d gv' rv hv' bv' ∧ Ext w w' := by
  obtain ⟨ya, yc, hyv, _, _⟩ := id hy
  subst hyv
  obtain ⟨ga, gc, ha, hc, ba, bc, e1, e2, e3⟩ := h.forms
  subst e1
  subst e2
  subst e3
  have HH := hide h
  have HF := hide hF
  have HY := hide hy
  obtain ⟨V, hV⟩ : ∃ V, V = ((w.alloc (.cells #[.int .i64 d.cols, .int .i64 d.rows, .slice ga d.R gc, .int .i64 d.row, .int .i64 d.col, .bool d.late, .slice ha d.hold.length hc, .slice ba d.nb bc] 26)).alloc (.cells #[.slice ya ys.length yc] 22)).alloc (.cells #[.int .i64 0, .int .i64 0, .slice none 0 0, .int .i64 0, .int .i64 0, .bool false, .slice none 0 0, .slice none 0 0] 26) := ⟨_, rfl⟩
  have E0 : Ext w V := by rw [hV]; exact (((Ext.refl w).alloc _).alloc _).alloc _
  have szV : V.heap.size = w.heap.size + 3 := by rw [hV]; simp
  have b0 : V.heap[w.heap.size]? = some (.cells #[.int .i64 d.cols, .int .i64 d.rows, .slice ga d.R gc, .int .i64 d.row, .int .i64 d.col, .bool d.late, .slice ha d.hold.length hc, .slice ba d.nb bc] 26 (0, 0)) := by rw [hV]; exact (((Ext.refl _).alloc _).alloc _).kept (new_block w _)
  have b1 : V.heap[w.heap.size + 1]? = some (.cells #[.slice ya ys.length yc] 22 (0, 0)) := by
    rw [hV]
    have h9 := new_block (w.alloc (.cells #[.int .i64 d.cols, .int .i64 d.rows, .slice ga d.R gc, .int .i64 d.row, .int .i64 d.col, .bool d.late, .slice ha d.hold.length hc, .slice ba d.nb bc] 26)) (.cells #[.slice ya ys.length yc] 22)
    rw [show ∀ o, (w.alloc o).heap.size = w.heap.size + 1 from fun o => by simp] at h9
    exact ((Ext.refl _).alloc _).kept h9
  have b2 : V.heap[w.heap.size + 1 + 1]? = some (.cells #[.int .i64 0, .int .i64 0, .slice none 0 0, .int .i64 0, .int .i64 0, .bool false, .slice none 0 0, .slice none 0 0] 26 (0, 0)) := by
    rw [hV]
    have h9 := new_block ((w.alloc (.cells #[.int .i64 d.cols, .int .i64 d.rows, .slice ga d.R gc, .int .i64 d.row, .int .i64 d.col, .bool d.late, .slice ha d.hold.length hc, .slice ba d.nb bc] 26)).alloc (.cells #[.slice ya ys.length yc] 22)) (.cells #[.int .i64 0, .int .i64 0, .slice none 0 0, .int .i64 0, .int .i64 0, .bool false, .slice none 0 0, .slice none 0 0] 26)
    rw [show ∀ o o', ((w.alloc o).alloc o').heap.size = w.heap.size + 1 + 1 from fun o o' => by simp] at h9
    exact h9
  have HVV := hide hV
  have HB0 := hide b0
  have HB1 := hide b1
  have HB2 := hide b2
  have HE0 := hide E0
  have HOk := hide (implScreenOk_any d _ _ _ false (by simp [hno]) V (h.ext E0) hF)
  unfold scrV at HOk
  clear h hF hno hy hV E0 b0 b1 b2
  unfold scrV
  go_enter Tryz.func8, Tryz.ntmps8
  go_wp2_with fail
  rw [← unhide HVV]
  clear HVV
  refine (unhide HOk).mono ?_
  rintro e w1 ⟨rfl, F1⟩
  have E1 := (unhide HE0).trans F1
  have HC := hide (copyScreen_any d _ _ _ w1 ((unhide HH).ext E1) (unhide HF))
  unfold scrV at HC
  have HB0' := hide (F1.kept (unhide HB0))
  have HB2' := hide (F1.kept (unhide HB2))
  have z1 := F1.size
  have HE1 := hide E1
  clear HOk F1 E1
  go_wp2_with (refine wpList_load_blk rfl 26 _ rfl w.heap.size rfl _ _ _ _ (unhide HB0') Tryz.underlying26 rfl infoScrN ?_)
  refine (unhide HC).mono ?_
  rintro e w2 ⟨gv', rv, hv', bv', rfl, ho, F2⟩
  have HB2'' := hide (F2.kept (unhide HB2'))
  have HO := hide ho
  have HF2 := hide F2
  have z2 := F2.size
  obtain ⟨ga', gc', ha', hc', ba', bc', e1, e2, e3⟩ := ho.reads.forms
  subst e1
  subst e2
  subst e3
  clear ho F2 HC
  go_wp2_with (refine wpList_store_blk rfl 26 _ _ rfl rfl (w.heap.size + 1 + 1) rfl _ _ _ rfl (unhide HB2'') infoScrN rfl (by simp [Value.oneCell']) ?_; intro X HX9 hX9; have HXB := hide HX9; have HXF := hide hX9; clear HX9 hX9)
  have v0 := cells_of (unhide HXB) 0 _ rfl
  have v1 := cells_of (unhide HXB) 1 _ rfl
  have v2 := cells_of (unhide HXB) 2 _ rfl
  have v3 := cells_of (unhide HXB) 3 _ rfl
  have v4 := cells_of (unhide HXB) 4 _ rfl
  have v5 := cells_of (unhide HXB) 5 _ rfl
  have v6 := cells_of (unhide HXB) 6 _ rfl
  have v7 := cells_of (unhide HXB) 7 _ rfl
  have hO := (unhide HO).fr (unhide HXF) (fun g hg e => by have := ((unhide HO).foot hg).1; omega)
  have hEX := (unhide HXF).ext ((unhide HE1).trans (unhide HF2)) (fun q hq => by omega)
  exact bodyPost_ret (v := .agg #[.int .i64 d.cols, .int .i64 d.rows, .slice ga' d.R gc', .int .i64 d.row, .int .i64 d.col, .bool d.late, .slice ha' d.hold.length hc', .slice ba' d.nb bc']) (by simp [results, Tryz.results8, go_sem, v0, v1, v2, v3, v4, v5, v6, v7]) rfl ⟨_, rv, _, _, rfl, ⟨hO.1.base_le (by omega), owns_mono hO.2.1 (by omega), hO.2.2.mono (by omega)⟩, hEX⟩
structure OwnF (w : World) (base : Nat) (d : SD) (gv : Value) (rv : Nat → Value) (hv bv : Value) : Prop where
  grid : OwnO w base 81 gv d.R rv
  row : ∀ i, i < d.R → Own2 w base 83 (rv i) (d.C i) (fun j => .string (d.tx i j)) (fun j => .bool (d.hf i j))
  apart : ∀ i j g, i < j → j < d.R → (rv i).ownBlock = some g → (rv j).ownBlock ≠ some g
  hold : w.ownsRow base 5 1 hv d.hold.length (d.hold.map (Value.int .u8))
  back : Own1 w base 9 bv d.nb (fun j => .string (d.bk j))
set_option maxRecDepth 10000 in
set_option maxHeartbeats 4000000 in
theorem implFeed_yes (d : SD) (gv hv bv yv : Value) (ys : List Int) (w : World) (h : ScrAt w d gv hv bv) (hF : d.Fits) (hy : IntsAt w .u8 yv ys) (hok : OkP d) (hbx : Bytes d.hold) (hby : Bytes ys) (hrm : Room d (d.hold.length + ys.length)) (hl4 : d.hold.length + ys.length ≤ 4194303) (hT : Tabs3 w) :
    Calls Tryz.prog 8 #[scrV d gv hv bv, yv] w fun e w' => ∃ gv' rv hv' bv', e = .returned (scrV (d.feed rowT ys) gv' hv' bv') ∧ OwnF w' w.heap.size (d.feed rowT ys) gv' rv hv' bv' ∧ Ext w w' := by
  obtain ⟨ya, yc, hyv, _, _⟩ := id hy
  subst hyv
  obtain ⟨ga, gc, ha, hc, ba, bc, e1, e2, e3⟩ := h.forms
  subst e1
  subst e2
  subst e3
  have HH := hide h
  have HF := hide hF
  have HY := hide hy
  obtain ⟨V, hV⟩ : ∃ V, V = ((w.alloc (.cells #[.int .i64 d.cols, .int .i64 d.rows, .slice ga d.R gc, .int .i64 d.row, .int .i64 d.col, .bool d.late, .slice ha d.hold.length hc, .slice ba d.nb bc] 26)).alloc (.cells #[.slice ya ys.length yc] 22)).alloc (.cells #[.int .i64 0, .int .i64 0, .slice none 0 0, .int .i64 0, .int .i64 0, .bool false, .slice none 0 0, .slice none 0 0] 26) := ⟨_, rfl⟩
  have E0 : Ext w V := by rw [hV]; exact (((Ext.refl w).alloc _).alloc _).alloc _
  have szV : V.heap.size = w.heap.size + 3 := by rw [hV]; simp
  have b0 : V.heap[w.heap.size]? = some (.cells #[.int .i64 d.cols, .int .i64 d.rows, .slice ga d.R gc, .int .i64 d.row, .int .i64 d.col, .bool d.late, .slice ha d.hold.length hc, .slice ba d.nb bc] 26 (0, 0)) := by rw [hV]; exact (((Ext.refl _).alloc _).alloc _).kept (new_block w _)
  have b1 : V.heap[w.heap.size + 1]? = some (.cells #[.slice ya ys.length yc] 22 (0, 0)) := by
    rw [hV]
    have h9 := new_block (w.alloc (.cells #[.int .i64 d.cols, .int .i64 d.rows, .slice ga d.R gc, .int .i64 d.row, .int .i64 d.col, .bool d.late, .slice ha d.hold.length hc, .slice ba d.nb bc] 26)) (.cells #[.slice ya ys.length yc] 22)
    rw [show ∀ o, (w.alloc o).heap.size = w.heap.size + 1 from fun o => by simp] at h9
    exact ((Ext.refl _).alloc _).kept h9
  have b2 : V.heap[w.heap.size + 1 + 1]? = some (.cells #[.int .i64 0, .int .i64 0, .slice none 0 0, .int .i64 0, .int .i64 0, .bool false, .slice none 0 0, .slice none 0 0] 26 (0, 0)) := by
    rw [hV]
    have h9 := new_block ((w.alloc (.cells #[.int .i64 d.cols, .int .i64 d.rows, .slice ga d.R gc, .int .i64 d.row, .int .i64 d.col, .bool d.late, .slice ha d.hold.length hc, .slice ba d.nb bc] 26)).alloc (.cells #[.slice ya ys.length yc] 22)) (.cells #[.int .i64 0, .int .i64 0, .slice none 0 0, .int .i64 0, .int .i64 0, .bool false, .slice none 0 0, .slice none 0 0] 26)
    rw [show ∀ o o', ((w.alloc o).alloc o').heap.size = w.heap.size + 1 + 1 from fun o o' => by simp] at h9
    exact h9
  have HVV := hide hV
  have HB0 := hide b0
  have HB1 := hide b1
  have HB2 := hide b2
  have HE0 := hide E0
  have HOk := hide (implScreenOk_any d _ _ _ true (by simp [hok]) V (h.ext E0) hF)
  unfold scrV at HOk
  have HT := hide hT
  have HRm := hide hrm
  have HKK := hide hok
  clear h hF hy hV E0 b0 b1 b2 hT hrm hok
  have hmf : ∀ (fn : Fn) (first cap : Array Value) (w : World), (Instr.makeFunc fn first cap).run Tryz.prog w = .ok (.func fn first cap) w := fun _ _ _ _ => rfl
  unfold scrV
  go_enter Tryz.func8, Tryz.ntmps8
  go_wp2_with fail
  rw [← unhide HVV]
  clear HVV
  refine (unhide HOk).mono ?_
  rintro e w1 ⟨rfl, F1⟩
  have E1 := (unhide HE0).trans F1
  have HC := hide (copyScreen_any d _ _ _ w1 ((unhide HH).ext E1) (unhide HF))
  unfold scrV at HC
  have HB0' := hide (F1.kept (unhide HB0))
  have HB1' := hide (F1.kept (unhide HB1))
  have HB2' := hide (F1.kept (unhide HB2))
  have z1 := F1.size
  have HE1 := hide E1
  clear HOk F1 E1
  go_wp2_with (refine wpList_load_blk rfl 26 _ rfl w.heap.size rfl _ _ _ _ (unhide HB0') Tryz.underlying26 rfl infoScrN ?_)
  refine (unhide HC).mono ?_
  rintro e w2 ⟨gv', rv, hv', bv', rfl, ho, F2⟩
  replace HB0' := hide (F2.kept (unhide HB0'))
  replace HB1' := hide (F2.kept (unhide HB1'))
  replace HB2' := hide (F2.kept (unhide HB2'))
  have HO := hide ho
  have HF2 := hide F2
  have z2 := F2.size
  obtain ⟨ga', gc', ha', hc', ba', bc', e1, e2, e3⟩ := ho.reads.forms
  subst e1
  subst e2
  subst e3
  clear ho F2 HC
  obtain ⟨w3, hw3⟩ : ∃ w3, w3 = w2.alloc (.cells #[.int .i64 d.cols, .int .i64 d.rows, .slice ga' d.R gc', .int .i64 d.row, .int .i64 d.col, .bool d.late, .slice ha' d.hold.length hc', .slice ba' d.nb bc'] 26) := ⟨_, rfl⟩
  have z3 : w3.heap.size = w2.heap.size + 1 := by rw [hw3]; simp
  have E3 : Ext w2 w3 := by rw [hw3]; exact (Ext.refl _).alloc _
  have bF : w3.heap[w2.heap.size]? = some (.cells #[.int .i64 d.cols, .int .i64 d.rows, .slice ga' d.R gc', .int .i64 d.row, .int .i64 d.col, .bool d.late, .slice ha' d.hold.length hc', .slice ba' d.nb bc'] 26 (0, 0)) := by rw [hw3]; exact new_block w2 _
  obtain ⟨w4, hw4⟩ : ∃ w4, w4 = w3.alloc (.cells #[.bool false] 4) := ⟨_, rfl⟩
  have E4 : Ext w3 w4 := by rw [hw4]; exact (Ext.refl _).alloc _
  have bB : w4.heap[w3.heap.size]? = some (.cells #[.bool false] 4 (0, 0)) := by rw [hw4]; exact new_block w3 _
  have z4 : w4.heap.size = w3.heap.size + 1 := by rw [hw4]; simp
  have hO4 := (unhide HO).ext (E3.trans E4)
  have hsz := size_bd (unhide HKK)
  have hRp : 0 < d.R := by have := (unhide HKK).R; omega
  have hS4 : ScrW w4 w2.heap.size w1.heap.size (fun k => k < w1.heap.size ∨ k = w3.heap.size) d (.slice ga' d.R gc') rv (.slice ha' d.hold.length hc') (.slice ba' d.nb bc') := by
    have hfoot : ∀ k, WFoot d (.slice ga' d.R gc') rv (.slice ba' d.nb bc') k → w1.heap.size ≤ k ∧ k < w2.heap.size := fun k hk => (unhide HO).foot (by
      rcases hk with hk | ⟨i, hi, hk⟩ | hk
      · exact .inl (.inl hk)
      · exact .inl (.inr ⟨i, hi, hk⟩)
      · exact .inr (.inr hk))
    refine ⟨E4.kept bF, hO4.1.1.toO hRp, hO4.1.2.1, hO4.1.2.2, hO4.2.2, ⟨by omega, fun hw => by have := hfoot _ hw; omega⟩, by omega, fun k hk => ⟨by omega, fun hw => by have := hfoot k hw; omega⟩⟩
  have HE4 := hide ((unhide HE1).trans ((unhide HF2).trans (E3.trans E4)))
  have zE := (unhide HE0).size
  have frx : ∀ w', FrW w2.heap.size w1.heap.size (fun k => k < w1.heap.size ∨ k = w3.heap.size) w4 w' → Ext w w' := fun w' hf => hf.ext (unhide HE4) (fun k hk => by
    have := (unhide HE1).size
    rcases hk with hk | hk
    · omega
    · omega)
  have HFX := hide frx
  have hfeed := feed1_any (B0 := w.heap.size) (Bb := w.heap.size + 1) w4 hS4 (by rintro (x | x) <;> omega) _ _ (.slice ha d.hold.length hc) (.slice ya ys.length yc) ((E3.trans E4).kept (unhide HB0')) rfl ((E3.trans E4).kept (unhide HB1')) (fun k hk => by
      have g1 := lt_of_cell ((unhide HT).2.1 0 (by omega))
      have g2 := lt_of_cell ((unhide HT).2.2 0 (by omega)).1
      have g3 := (unhide HT).1.pos
      rcases hk with hk | hk | hk | hk | hk
      all_goals (left; have := (unhide HE1).size; omega)) ((unhide HT).ext (unhide HE4)) ys (fun w' hf => ((unhide HH).ext (frx w' hf)).2.1) (fun w' hf => (unhide HY).ext (frx w' hf)) hbx hby (unhide HRm) hl4
  have hwg := withinGrid_f ⟨w2.heap.size, 0, none⟩ ⟨w.heap.size, 0, none⟩ ⟨w.heap.size + 1, 0, none⟩ w3 (fun w' => ∃ gv' rv' hv' bv', ScrW w' w2.heap.size w1.heap.size (fun k => k < w1.heap.size ∨ k = w3.heap.size) (d.acts rowT (fd (d.hold ++ ys)).1) gv' rv' hv' bv' ∧ w'.ownsRow w1.heap.size 5 1 hv' (fdH (d.hold ++ ys)).length ((fdH (d.hold ++ ys)).map (Value.int .u8)) ∧ (∀ k, (k < w1.heap.size ∨ k = w3.heap.size) ∨ WFoot (d.acts rowT (fd (d.hold ++ ys)).1) gv' rv' bv' k → ¬ hv'.ownBlock = some k) ∧ ¬ hv'.ownBlock = some w2.heap.size ∧ FrW w2.heap.size w1.heap.size (fun k => k < w1.heap.size ∨ k = w3.heap.size) w4 w') (fun w' hp => by
      obtain ⟨_, _, _, _, _, _, _, _, hf⟩ := hp
      have hk := hf.kept bB (by
        rintro (x | ⟨_, x⟩)
        · omega
        · exact x (.inr rfl))
      exact ⟨cells_of hk 0 _ rfl, Lib.frozen_of_heap hk 0⟩) (by rw [← hw4]; exact hfeed)
  have HWG := hide hwg
  have HW3 := hide hw3
  have HB2'' := hide ((E3.trans E4).kept (unhide HB2'))
  clear hwg hfeed hS4 hO4 frx E3 E4 bF bB hw4 hw3
  go_wp2_with fail
  rw [← unhide HW3]
  clear HW3
  refine (unhide HWG).mono ?_
  rintro e w6 ⟨w5, rfl, ⟨gv5, rv5, hv5, bv5, hS5, hO5, hn5, hm5, hf5⟩, rfl⟩
  obtain ⟨d5, hd5⟩ : ∃ x, x = d.acts rowT (fd (d.hold ++ ys)).1 := ⟨_, rfl⟩
  obtain ⟨hs5, hh5⟩ : ∃ x, x = fdH (d.hold ++ ys) := ⟨_, rfl⟩
  rw [← hd5] at hS5 hn5
  rw [← hh5] at hO5
  have HFeed : Hid (d.feed rowT ys = { d5 with hold := hs5 }) := hide (by rw [hd5, hh5]; rfl)
  obtain ⟨W6, hW6⟩ : ∃ W6, W6 = w5.setCell ⟨w3.heap.size, 0, none⟩ (.bool true) := ⟨_, rfl⟩
  rw [← hW6]
  have f6 : Fr (fun k => k = w3.heap.size) w5 W6 := by rw [hW6]; exact Fr.setCell (S := fun k => k = w3.heap.size) (Fr.refl _ _) (a := ⟨w3.heap.size, 0, none⟩) rfl _
  have bF := f6.kept hS5.box (by omega)
  have b2 := f6.kept (hf5.kept (unhide HB2'') (by
    have := (unhide HE0).size
    rintro (x | ⟨x, _⟩) <;> omega)) (by omega)
  have hOF : OwnF W6 w1.heap.size { d5 with hold := hs5 } gv5 rv5 hv5 bv5 := by
    have ne : ∀ g, WFoot d5 gv5 rv5 bv5 g → ¬ g = w3.heap.size := fun g hg e => (hS5.kept g (.inr e)).2 hg
    exact ⟨hS5.grid.fr f6 (fun g hg => ne g (.inl hg)), fun i hi => (hS5.row i hi).fr f6 (fun g hg => ne g (.inr (.inl ⟨i, hi, hg⟩))), hS5.apart, f6.owns hO5 (fun g hg e => hn5 g (.inl (.inr e)) hg), hS5.back.fr f6 (fun g hg => ne g (.inr (.inr hg)))⟩
  have hE6 : Ext w W6 := f6.ext ((unhide HFX) w5 hf5) (fun k hk => by have := (unhide HE1).size; omega)
  obtain ⟨ga5, gk5, gc5, _, hgv5, _⟩ := id hOF.grid
  obtain ⟨ha5, hc5, hhv5⟩ := owns_ln hOF.hold
  obtain ⟨ba5, bc5, hbv5⟩ : ∃ a c, bv5 = .slice a d5.nb c := by
    obtain ⟨_, h9, _⟩ := hOF.back
    exact owns_ln h9
  subst hgv5
  subst hhv5
  subst hbv5
  have HBF := hide bF
  have HB2f := hide b2
  have HOF := hide hOF
  have HE6 := hide hE6
  clear hS5 hO5 hn5 hm5 hf5 hd5 hh5 hW6 f6 bF b2 hOF hE6 HWG HB2''
  go_wp2_with (first
    | (refine wpList_load_blk rfl 26 _ rfl w2.heap.size rfl _ _ _ _ (unhide HBF) Tryz.underlying26 rfl infoScrN ?_)
    | (refine wpList_store_blk rfl 26 _ _ rfl rfl (w.heap.size + 1 + 1) rfl _ _ _ rfl (unhide HB2f) infoScrN rfl (by simp [Value.oneCell']) ?_; intro X HX9 hX9; have HXB := hide HX9; have HXF := hide hX9; clear HX9 hX9))
  have v0 := cells_of (unhide HXB) 0 _ rfl
  have v1 := cells_of (unhide HXB) 1 _ rfl
  have v2 := cells_of (unhide HXB) 2 _ rfl
  have v3 := cells_of (unhide HXB) 3 _ rfl
  have v4 := cells_of (unhide HXB) 4 _ rfl
  have v5 := cells_of (unhide HXB) 5 _ rfl
  have v6 := cells_of (unhide HXB) 6 _ rfl
  have v7 := cells_of (unhide HXB) 7 _ rfl
  have hlo : w.heap.size + 1 + 1 < w1.heap.size := by omega
  have hO9 : OwnF X w.heap.size { d5 with hold := hs5 } (.slice (some ⟨ga5, gk5, none⟩) d5.R gc5) rv5 (.slice ha5 hs5.length hc5) (.slice ba5 d5.nb bc5) := by
    have o := unhide HOF
    exact ⟨(o.grid.fr (unhide HXF) (fun g hg e => by have := (o.grid.lt g hg).1; omega)).mono (by omega), fun i hi => ((o.row i hi).fr (unhide HXF) (fun g hg e => by have := ((o.row i hi).lt g hg).1; omega)).mono (by omega), o.apart, owns_mono ((unhide HXF).owns o.hold (fun g hg e => by have := (o.hold.lt g hg).1; omega)) (by omega), (o.back.fr (unhide HXF) (fun g hg e => by have := (o.back.lt g hg).1; omega)).mono (by omega)⟩
  have hEX := (unhide HXF).ext (unhide HE6) (fun q hq => by omega)
  exact bodyPost_ret (v := .agg #[.int .i64 d5.cols, .int .i64 d5.rows, .slice (some ⟨ga5, gk5, none⟩) d5.R gc5, .int .i64 d5.row, .int .i64 d5.col, .bool d5.late, .slice ha5 hs5.length hc5, .slice ba5 d5.nb bc5]) (by simp [results, Tryz.results8, go_sem, v0, v1, v2, v3, v4, v5, v6, v7]) rfl ⟨_, rv5, _, _, by rw [unhide HFeed], by rw [unhide HFeed]; exact hO9, hEX⟩
end Go.Proofs.YtinfdhbnljnifaaGreatDoor

namespace Go.Proofs.YtinfdhbnljnifaaGreatDoor
open Go.RowKit
section
variable {base : Nat} {X : Nat → Prop} {d : SD} {gv : Value} {rv : Nat → Value} {hv bv : Value}
theorem ScrV.keepZ {w w2 : World} {Y : Nat → Prop} {o o' : Obj} (h : ScrV w2 base X d gv rv bv) (h0 : ScrV w base X d gv rv bv) (hb : w2.heap[w.heap.size]? = some o) (hz : w2.heap[w.heap.size + 1]? = some o') (hY : ∀ q, Y q → X q ∨ q = w.heap.size ∨ q = w.heap.size + 1 := by intro q hq; exact hq) : ScrV w2 base Y d gv rv bv :=
  ⟨h.grid, h.row, h.apart, h.back, h.top, fun q hq => by
    have g1 := lt_of_block hb
    have g2 := lt_of_block hz
    rcases hY q hq with x | x | x
    · exact h.kept q x
    · exact ⟨by omega, fun hw => by have := (h0.foot hw).2; omega⟩
    · exact ⟨by omega, fun hw => by have := (h0.foot hw).2; omega⟩⟩
theorem sp_fr {w w2 w3 X9 : World} (h : ScrV w base X d gv rv bv) (E : Ext w w2) (f : FrV base (fun q => X q ∨ q = w.heap.size ∨ q = w.heap.size + 1) w2 w3) (f9 : Fr (fun q => q = w.heap.size + 1) w3 X9) : FrV base X w X9 := by
  refine Fr.tr (Fr.tr (Fr.of_ext E) (f.mono (fun q hq => ⟨hq.1, fun hx => hq.2 (.inl hx)⟩))) (f9.mono (fun q hq => ⟨by have := h.top; omega, fun hx => by have := (h.kept q hx).1; omega⟩))
set_option maxRecDepth 10000 in
set_option maxHeartbeats 4000000 in
theorem l2Show_ctl (w : World) (h : ScrV w base X d gv rv bv) (ha hc : Nat) (hs : Option Addr) (hhv : hv = .slice hs ha hc) (r : Int) (hr0 : 0 ≤ r) (hr1 : r ≤ 1114111) (hct : r < 32 ∨ (127 ≤ r ∧ r ≤ 159)) :
    Calls Tryz.prog 43 #[scrV d gv hv bv, .int .i64 r] w (SpR w base X d hv) := by
  obtain ⟨gb, gk, gc, _, hgv, _⟩ := id h.grid
  obtain ⟨ba, bc, hbv⟩ : ∃ a c, bv = .slice a d.nb c := by obtain ⟨_, h9, _⟩ := h.back; exact owns_ln h9
  subst hgv
  subst hbv
  subst hhv
  have wr : IntKind.i32.wrap r = r := by rw [IntKind.wrap_i32] <;> omega
  obtain ⟨V, hV⟩ : ∃ V, V = (w.alloc (.cells #[.int .i64 d.cols, .int .i64 d.rows, .slice (some ⟨gb, gk, none⟩) d.R gc, .int .i64 d.row, .int .i64 d.col, .bool d.late, .slice hs ha hc, .slice ba d.nb bc] 26)).alloc (.cells #[.int .i64 0, .int .i64 0, .slice none 0 0, .int .i64 0, .int .i64 0, .bool false, .slice none 0 0, .slice none 0 0] 26) := ⟨_, rfl⟩
  have hb0 := sp_alloc w d (.slice (some ⟨gb, gk, none⟩) d.R gc) (.slice hs ha hc) (.slice ba d.nb bc)
  rw [← hV] at hb0
  have HRW := hide (specRW_any r V (by omega) (by omega))
  obtain ⟨wd, hwd⟩ : ∃ x, x = wid r := ⟨_, rfl⟩
  rw [← hwd] at HRW
  have HVV := hide hV
  have HSP := hide hb0
  have H := hide h
  clear h hV hb0 hwd
  unfold scrV
  go_enter Tryz.func43, Tryz.ntmps43
  go_wp2_with fail
  rw [← unhide HVV]
  refine (unhide HRW).mono ?_
  rintro e w1 ⟨rfl, F1⟩
  have E1 := Ext.of_below F1
  have HE1 := hide ((unhide HSP).ext.trans E1)
  have HSB := hide (E1.kept (unhide HSP).s)
  have HSZ := hide (E1.kept (unhide HSP).z)
  clear E1 F1
  rcases hct with hct | hct
  · go_wp2_with (first | (refine wpList_load_blk rfl 26 _ rfl w.heap.size rfl _ _ _ _ (unhide HSB) Tryz.underlying26 rfl infoScr8 ?_) | (refine wpList_store_blk rfl 26 _ _ rfl rfl (w.heap.size + 1) rfl _ _ _ rfl (unhide HSZ) infoScr8 rfl (by simp [Value.oneCell']) ?_; intro X9 HX9 hX9; have HXB := hide HX9; have HXF := hide hX9; clear HX9 hX9))
    have v0 := cells_of (unhide HXB) 0 _ rfl
    have v1 := cells_of (unhide HXB) 1 _ rfl
    have v2 := cells_of (unhide HXB) 2 _ rfl
    have v3 := cells_of (unhide HXB) 3 _ rfl
    have v4 := cells_of (unhide HXB) 4 _ rfl
    have v5 := cells_of (unhide HXB) 5 _ rfl
    have v6 := cells_of (unhide HXB) 6 _ rfl
    have v7 := cells_of (unhide HXB) 7 _ rfl
    refine bodyPost_ret (v := scrV d (.slice (some ⟨gb, gk, none⟩) d.R gc) (.slice hs ha hc) (.slice ba d.nb bc)) (by unfold scrV; simp [results, Tryz.results43, go_sem, v0, v1, v2, v3, v4, v5, v6, v7]) rfl ⟨_, rv, _, rfl, ((unhide H).ext (unhide HE1)).fr (unhide HXF) (fun g9 hg9 e9 => by have := ((unhide H).foot hg9).2; omega), Fr.of_ext ((unhide HXF).ext (unhide HE1) (fun q hq => by omega))⟩
  · have n32 : ¬ r < 32 := by omega
    have m127 := hct.1
    have m159 := hct.2
    go_wp2_with (first | (refine wpList_load_blk rfl 26 _ rfl w.heap.size rfl _ _ _ _ (unhide HSB) Tryz.underlying26 rfl infoScr8 ?_) | (refine wpList_store_blk rfl 26 _ _ rfl rfl (w.heap.size + 1) rfl _ _ _ rfl (unhide HSZ) infoScr8 rfl (by simp [Value.oneCell']) ?_; intro X9 HX9 hX9; have HXB := hide HX9; have HXF := hide hX9; clear HX9 hX9))
    have v0 := cells_of (unhide HXB) 0 _ rfl
    have v1 := cells_of (unhide HXB) 1 _ rfl
    have v2 := cells_of (unhide HXB) 2 _ rfl
    have v3 := cells_of (unhide HXB) 3 _ rfl
    have v4 := cells_of (unhide HXB) 4 _ rfl
    have v5 := cells_of (unhide HXB) 5 _ rfl
    have v6 := cells_of (unhide HXB) 6 _ rfl
    have v7 := cells_of (unhide HXB) 7 _ rfl
    refine bodyPost_ret (v := scrV d (.slice (some ⟨gb, gk, none⟩) d.R gc) (.slice hs ha hc) (.slice ba d.nb bc)) (by unfold scrV; simp [results, Tryz.results43, go_sem, v0, v1, v2, v3, v4, v5, v6, v7]) rfl ⟨_, rv, _, rfl, ((unhide H).ext (unhide HE1)).fr (unhide HXF) (fun g9 hg9 e9 => by have := ((unhide H).foot hg9).2; omega), Fr.of_ext ((unhide HXF).ext (unhide HE1) (fun q hq => by omega))⟩
set_option linter.unusedSimpArgs false in
set_option maxRecDepth 10000 in
set_option maxHeartbeats 4000000 in
theorem l2Show_mark (w : World) (h : ScrV w base X d gv rv bv) (ha hc : Nat) (hs : Option Addr) (hhv : hv = .slice hs ha hc) (r : Int) (hr0 : 0 ≤ r) (hr1 : r ≤ 1114111) (hk : OkP d) (hvr : Utf8.valid r = true) (hct : ¬ (r < 32 ∨ (127 ≤ r ∧ r ≤ 159))) (hw0 : wid r = 0) :
    Calls Tryz.prog 43 #[scrV d gv hv bv, .int .i64 r] w (SpR w base X (d.mark (toBA (encR r))) hv) := by
  obtain ⟨gb, gk, gc, _, hgv, _⟩ := id h.grid
  obtain ⟨ba, bc, hbv⟩ : ∃ a c, bv = .slice a d.nb c := by obtain ⟨_, h9, _⟩ := h.back; exact owns_ln h9
  subst hgv
  subst hbv
  subst hhv
  have wr : IntKind.i32.wrap r = r := by rw [IntKind.wrap_i32] <;> omega
  obtain ⟨V, hV⟩ : ∃ V, V = (w.alloc (.cells #[.int .i64 d.cols, .int .i64 d.rows, .slice (some ⟨gb, gk, none⟩) d.R gc, .int .i64 d.row, .int .i64 d.col, .bool d.late, .slice hs ha hc, .slice ba d.nb bc] 26)).alloc (.cells #[.int .i64 0, .int .i64 0, .slice none 0 0, .int .i64 0, .int .i64 0, .bool false, .slice none 0 0, .slice none 0 0] 26) := ⟨_, rfl⟩
  have hb0 := sp_alloc w d (.slice (some ⟨gb, gk, none⟩) d.R gc) (.slice hs ha hc) (.slice ba d.nb bc)
  rw [← hV] at hb0
  have HRW := hide (specRW_any r V (by omega) (by omega))
  rw [hw0] at HRW
  have HVV := hide hV
  have HSP := hide hb0
  have H := hide h
  have n32 : ¬ r < 32 := by omega
  have HK := hide hk
  clear h hV hb0 hw0 hk
  unfold scrV
  go_enter Tryz.func43, Tryz.ntmps43
  go_wp2_with fail
  rw [← unhide HVV]
  refine (unhide HRW).mono ?_
  rintro e w1 ⟨rfl, F1⟩
  have E1 := Ext.of_below F1
  have HE1 := hide ((unhide HSP).ext.trans E1)
  have HSB := hide (E1.kept (unhide HSP).s)
  have HSZ := hide (E1.kept (unhide HSP).z)
  clear E1 F1
  have ht4 : (toBA (encR r)).size ≤ 4 := by rw [toBA_size]; exact encR_len r
  have HU := hide (fun W => l1Utf8_any r W hr0 hr1)
  have een : encL r = encR r := by unfold encR; rw [if_pos hvr]
  rw [een] at HU
  by_cases h127 : 127 ≤ r
  · have h159 : ¬ r ≤ 159 := by omega
    clear hct
    go_wp2_with fail
    refine wp_region_held_drew (S := fun W => W.heap[w.heap.size]? = some (.cells #[.int .i64 d.cols, .int .i64 d.rows, .slice (some ⟨gb, gk, none⟩) d.R gc, .int .i64 d.row, .int .i64 d.col, .bool d.late, .slice hs ha hc, .slice ba d.nb bc] 26 (0, 0))) (by kernel_rfl) (unhide HSB) (fun hHeld => ?_)
    refine wpAnyH_take (i := 0) (v := .agg #[.int .i64 d.cols, .int .i64 d.rows, .slice (some ⟨gb, gk, none⟩) d.R gc, .int .i64 d.row, .int .i64 d.col, .bool d.late, .slice hs ha hc, .slice ba d.nb bc]) rfl (by kernel_rfl) (by kernel_rfl) (by kernel_rfl) (fun _ _ _ h => h) (Or.inl ⟨by rfl, ?_⟩) (by assumption) ?_
    · intro w' hSw; exact yields_load_blk 26 _ rfl w.heap.size rfl _ _ _ _ hSw Tryz.underlying26 rfl infoScr8
    simp only [Act.put, qA, qB, qC, qD, qE, qF]
    refine wpAnyH_take (i := 1) (v := ?_) rfl (by kernel_rfl) (by kernel_rfl) (by kernel_rfl) (fun _ _ _ h => h) (Or.inl ⟨by rfl, ?_⟩) (by assumption) ?_
    rotate_left
    · intro w' hSw; go_simp <;> with_reducible rfl
    simp only [Act.put, qA, qB, qC, qD, qE, qF]
    refine wpAnyH_ready (rs := [2]) (by kernel_rfl) (by simp) ?_
    refine AllReadyH.cons rfl (fun K hK => ?_) AllReadyH.nil
    go_simp
    refine ((unhide HU) _).mono ?_
    rintro e w2 ⟨rfl, E2⟩
    have E3 : Ext w1 w2 := (Ext.refl w1).drew.trans E2
    have HE3 := hide ((unhide HE1).trans E3)
    have HSB2 := hide (E3.kept (unhide HSB))
    have HSZ2 := hide (E3.kept (unhide HSZ))
    refine hK.out _ _ (unhide HSB2) (fun hHeld => ?_)
    clear hK K E2 E3
    have HMk := hide (l2Mark_any w2 (((unhide H).ext (unhide HE3)).keepZ (Y := fun q => X q ∨ q = w.heap.size ∨ q = w.heap.size + 1) (unhide H) (unhide HSB2) (unhide HSZ2)) ha hc hs rfl (unhide HK) (toBA (encR r)) ht4)
    unfold scrV at HMk
    refine wpAnyH_ready (rs := [3]) (by kernel_rfl) (by simp) ?_
    refine AllReadyH.cons rfl (fun K hK => ?_) AllReadyH.nil
    go_simp
    refine (unhide HMk).mono ?_
    rintro e w3 ⟨gv3, rv3, bv3, rfl, hV3, f3⟩
    obtain ⟨gb3, gk3, gc3, _, hgv3, _⟩ := id hV3.grid
    obtain ⟨ba3, bc3, hbv3⟩ : ∃ a c, bv3 = .slice a (d.mark (toBA (encR r))).nb c := by obtain ⟨_, h9, _⟩ := hV3.back; exact owns_ln h9
    subst hgv3
    subst hbv3
    have HSB3 := hide (f3.kept (unhide HSB2) (fun x => x.2 (.inr (.inl rfl))))
    have HSZ3 := hide (f3.kept (unhide HSZ2) (fun x => x.2 (.inr (.inr rfl))))
    refine hK.out _ _ (unhide HSB3) (fun hHeld => ?_)
    clear hK K HMk
    unfold scrV
    refine wpAnyH_ready (rs := [4]) (by kernel_rfl) (by simp) ?_
    refine AllReadyH.cons rfl (fun K hK => ?_) AllReadyH.nil
    refine wp_store_blk 26 _ _ rfl rfl (w.heap.size + 1) rfl _ _ _ rfl (unhide HSZ3) infoScr8 rfl (by simp [Value.oneCell']) ?_
    intro X9 HX9 hX9
    have HXB := hide HX9
    have HXF := hide hX9
    refine hK.out _ _ (hX9.kept (unhide HSB3) (by omega)) (fun hHeld => ?_)
    clear hK K HX9 hX9
    refine wpAnyH_done (by kernel_rfl) ?_ _
    go_wp2
    have v0 := cells_of (unhide HXB) 0 _ rfl
    have v1 := cells_of (unhide HXB) 1 _ rfl
    have v2 := cells_of (unhide HXB) 2 _ rfl
    have v3 := cells_of (unhide HXB) 3 _ rfl
    have v4 := cells_of (unhide HXB) 4 _ rfl
    have v5 := cells_of (unhide HXB) 5 _ rfl
    have v6 := cells_of (unhide HXB) 6 _ rfl
    have v7 := cells_of (unhide HXB) 7 _ rfl
    have hV9 := hV3.fr (unhide HXF) (fun g9 hg9 e9 => (hV3.kept g9 (.inr (.inr e9))).2 hg9)
    refine bodyPost_ret (v := scrV (d.mark (toBA (encR r))) (.slice (some ⟨gb3, gk3, none⟩) (d.mark (toBA (encR r))).R gc3) (.slice hs ha hc) (.slice ba3 (d.mark (toBA (encR r))).nb bc3)) (by unfold scrV; simp [results, Tryz.results43, go_sem, v0, v1, v2, v3, v4, v5, v6, v7]) rfl ⟨_, _, _, rfl, hV9.keep (fun q hq => .inl hq), ?_⟩
    exact sp_fr (unhide H) (unhide HE3) f3 (unhide HXF)
  · clear hct
    go_wp2_with fail
    refine wp_region_held_drew (S := fun W => W.heap[w.heap.size]? = some (.cells #[.int .i64 d.cols, .int .i64 d.rows, .slice (some ⟨gb, gk, none⟩) d.R gc, .int .i64 d.row, .int .i64 d.col, .bool d.late, .slice hs ha hc, .slice ba d.nb bc] 26 (0, 0))) (by kernel_rfl) (unhide HSB) (fun hHeld => ?_)
    refine wpAnyH_take (i := 0) (v := .agg #[.int .i64 d.cols, .int .i64 d.rows, .slice (some ⟨gb, gk, none⟩) d.R gc, .int .i64 d.row, .int .i64 d.col, .bool d.late, .slice hs ha hc, .slice ba d.nb bc]) rfl (by kernel_rfl) (by kernel_rfl) (by kernel_rfl) (fun _ _ _ h => h) (Or.inl ⟨by rfl, ?_⟩) (by assumption) ?_
    · intro w' hSw; exact yields_load_blk 26 _ rfl w.heap.size rfl _ _ _ _ hSw Tryz.underlying26 rfl infoScr8
    simp only [Act.put, qA, qB, qC, qD, qE, qF]
    refine wpAnyH_take (i := 1) (v := ?_) rfl (by kernel_rfl) (by kernel_rfl) (by kernel_rfl) (fun _ _ _ h => h) (Or.inl ⟨by rfl, ?_⟩) (by assumption) ?_
    rotate_left
    · intro w' hSw; go_simp <;> with_reducible rfl
    simp only [Act.put, qA, qB, qC, qD, qE, qF]
    refine wpAnyH_ready (rs := [2]) (by kernel_rfl) (by simp) ?_
    refine AllReadyH.cons rfl (fun K hK => ?_) AllReadyH.nil
    go_simp
    refine ((unhide HU) _).mono ?_
    rintro e w2 ⟨rfl, E2⟩
    have E3 : Ext w1 w2 := (Ext.refl w1).drew.trans E2
    have HE3 := hide ((unhide HE1).trans E3)
    have HSB2 := hide (E3.kept (unhide HSB))
    have HSZ2 := hide (E3.kept (unhide HSZ))
    refine hK.out _ _ (unhide HSB2) (fun hHeld => ?_)
    clear hK K E2 E3
    have HMk := hide (l2Mark_any w2 (((unhide H).ext (unhide HE3)).keepZ (Y := fun q => X q ∨ q = w.heap.size ∨ q = w.heap.size + 1) (unhide H) (unhide HSB2) (unhide HSZ2)) ha hc hs rfl (unhide HK) (toBA (encR r)) ht4)
    unfold scrV at HMk
    refine wpAnyH_ready (rs := [3]) (by kernel_rfl) (by simp) ?_
    refine AllReadyH.cons rfl (fun K hK => ?_) AllReadyH.nil
    go_simp
    refine (unhide HMk).mono ?_
    rintro e w3 ⟨gv3, rv3, bv3, rfl, hV3, f3⟩
    obtain ⟨gb3, gk3, gc3, _, hgv3, _⟩ := id hV3.grid
    obtain ⟨ba3, bc3, hbv3⟩ : ∃ a c, bv3 = .slice a (d.mark (toBA (encR r))).nb c := by obtain ⟨_, h9, _⟩ := hV3.back; exact owns_ln h9
    subst hgv3
    subst hbv3
    have HSB3 := hide (f3.kept (unhide HSB2) (fun x => x.2 (.inr (.inl rfl))))
    have HSZ3 := hide (f3.kept (unhide HSZ2) (fun x => x.2 (.inr (.inr rfl))))
    refine hK.out _ _ (unhide HSB3) (fun hHeld => ?_)
    clear hK K HMk
    unfold scrV
    refine wpAnyH_ready (rs := [4]) (by kernel_rfl) (by simp) ?_
    refine AllReadyH.cons rfl (fun K hK => ?_) AllReadyH.nil
    refine wp_store_blk 26 _ _ rfl rfl (w.heap.size + 1) rfl _ _ _ rfl (unhide HSZ3) infoScr8 rfl (by simp [Value.oneCell']) ?_
    intro X9 HX9 hX9
    have HXB := hide HX9
    have HXF := hide hX9
    refine hK.out _ _ (hX9.kept (unhide HSB3) (by omega)) (fun hHeld => ?_)
    clear hK K HX9 hX9
    refine wpAnyH_done (by kernel_rfl) ?_ _
    go_wp2
    have v0 := cells_of (unhide HXB) 0 _ rfl
    have v1 := cells_of (unhide HXB) 1 _ rfl
    have v2 := cells_of (unhide HXB) 2 _ rfl
    have v3 := cells_of (unhide HXB) 3 _ rfl
    have v4 := cells_of (unhide HXB) 4 _ rfl
    have v5 := cells_of (unhide HXB) 5 _ rfl
    have v6 := cells_of (unhide HXB) 6 _ rfl
    have v7 := cells_of (unhide HXB) 7 _ rfl
    have hV9 := hV3.fr (unhide HXF) (fun g9 hg9 e9 => (hV3.kept g9 (.inr (.inr e9))).2 hg9)
    refine bodyPost_ret (v := scrV (d.mark (toBA (encR r))) (.slice (some ⟨gb3, gk3, none⟩) (d.mark (toBA (encR r))).R gc3) (.slice hs ha hc) (.slice ba3 (d.mark (toBA (encR r))).nb bc3)) (by unfold scrV; simp [results, Tryz.results43, go_sem, v0, v1, v2, v3, v4, v5, v6, v7]) rfl ⟨_, _, _, rfl, hV9.keep (fun q hq => .inl hq), ?_⟩
    exact sp_fr (unhide H) (unhide HE3) f3 (unhide HXF)
end
end Go.Proofs.YtinfdhbnljnifaaGreatDoor
