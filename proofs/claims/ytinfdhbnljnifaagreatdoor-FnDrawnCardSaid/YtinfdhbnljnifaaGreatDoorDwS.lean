import Derived.Test.YtinfdhbnljnifaaGreatDoorFgE
import Derived.Test.YtinfdhbnljnifaaGreatDoorFdE
import Derived.Test.YtinfdhbnljnifaaGreatDoorOkImpl
import Derived.Test.YtinfdhbnljnifaaGreatDoorWhole
import Derived.Test.YtinfdhbnljnifaaGreatDoorKys
import Derived.Test.YtinfdhbnljnifaaGreatDoorShowable
import Derived.Test.YtinfdhbnljnifaaGreatDoorToScr
import Derived.Test.YtinfdhbnljnifaaGreatDoorFsY
import Derived.Test.YtinfdhbnljnifaaGreatDoorFdX
import Derived.Deep.DeepCutAuto
import Derived.Test.YtinfdhbnljnifaaGreatDoorTextOf
import Derived.Test.YtinfdhbnljnifaaGreatDoorFdB
import Derived.Test.YtinfdhbnljnifaaGreatDoorEdN
import Derived.Test.YtinfdhbnljnifaaGreatDoorRkE
import Derived.Test.YtinfdhbnljnifaaGreatDoorEdP0
import Derived.ArgAppend
import Derived.Lib.SlBytesConst
import Derived.Test.YtinfdhbnljnifaaGreatDoorShG
import Derived.Test.YtinfdhbnljnifaaGreatDoorEdZs
import Derived.Test.YtinfdhbnljnifaaGreatDoorEdMA
import Derived.Test.YtinfdhbnljnifaaGreatDoorImplPaint
import Derived.Test.YtinfdhbnljnifaaGreatDoorShF
import Derived.Test.YtinfdhbnljnifaaGreatDoorLinesT
namespace Go.Proofs.YtinfdhbnljnifaaGreatDoor
open Go.RowKit Go.Deep Go.Maps
section
variable {F base B0 Bb : Nat} {X : Nat → Prop} {d : SD} {gv : Value} {rv : Nat → Value} {hv bv : Value}
theorem StsF.ext {w w' : World} {D F q r : Nat} (s : StsF w D F q r) (he : Ext w w') : StsF w' D F q r := ⟨s.d.ext he, s.gr.ext he, s.es.ext he, s.be.ext he, s.bg.ext he, s.h.ext he, s.g2.ext he, s.fo.ext he, s.b2.ext he⟩
theorem zn9 {w W3 : World} (h : zab w F base X d gv rv hv bv) (hXF : ¬ X F) (hXk : ∀ k, (k = B0 ∨ k = Bb ∨ k = 1 ∨ k = 2 ∨ k = 0) → X k) (hT : zdd w) (E3 : Ext w W3) (hD : W3.heap[w.heap.size]? = some (.cells #[.slice none 0 0, zgC F, zkG F] 76 (0, 0)))
  (q r P : Nat) (T : TypeId) (sh yv : Value) (sts : StsF W3 w.heap.size F q r) (hq : w.heap.size < q) (hqr : q + 4 < r) (hr : r + 3 < W3.heap.size) (hP : W3.heap[P]? = some (.cells #[sh, yv] T (0, 0))) (hPw : w.heap.size < P) (ys : List Int)
  (hx : ∀ w', FrW F base X w w' → zx w' .u8 sh d.hold) (hy : ∀ w', FrW F base X w w' → zx w' .u8 yv ys) (hbx : zv d.hold) (hby : zv ys) (hrm : zcm d (d.hold.length + ys.length)) (hl4 : d.hold.length + ys.length ≤ 4194303) :
  Calls Tryz.prog 49 #[grF q, .slice (some ⟨P, 0, none⟩) 2 2] W3 fun e w' => e = .returned (.tuple #[]) ∧ (∃ hv' gv' rv' bv', zcR w' ⟨F, w.heap.size, base, q, r, fun k => X k ∨ (w.heap.size < k ∧ k < W3.heap.size), hv⟩ (fdH (d.hold ++ ys)) (d.acts zp (fd (d.hold ++ ys)).1) hv' gv' rv' bv') ∧ FrF ⟨F, w.heap.size, base, q, r, fun k => X k ∨ (w.heap.size < k ∧ k < W3.heap.size), hv⟩ W3 w' := by
 have hF := h.below.1
 have z3 := E3.size
 have hPl := zq hP
 have hfw : FrF ⟨F, w.heap.size, base, q, r, fun k => X k ∨ (w.heap.size < k ∧ k < W3.heap.size), hv⟩ W3 W3 := Fr.refl _ _
 have toW : ∀ w', FrF ⟨F, w.heap.size, base, q, r, fun k => X k ∨ (w.heap.size < k ∧ k < W3.heap.size), hv⟩ W3 w' → FrW F base X w w' := fun w' hf => by
  refine ⟨hf.os.trans E3.os, hf.tape.trans E3.tape, hf.output.trans E3.output, Nat.le_trans z3 hf.size, fun i hi hS => ?_⟩
  rw [hf.block i (by omega) (by
   rintro (e | e | ⟨e1, e2⟩)
   ·have e' : i = w.heap.size := e
    omega
   ·exact hS (.inl e)
   ·exact hS (.inr ⟨e1, fun x => e2 (.inl x)⟩))]
  exact E3.heap hi
 have hscr : zab W3 F base (fun k => (X k ∨ (w.heap.size < k ∧ k < W3.heap.size)) ∨ k = w.heap.size ∨ Value.ownBlock (.slice none 0 0) = some k) d gv rv hv bv := (h.ext E3).keepX (fun k hk => by
  rcases hk with (hk | hk) | hk | hk
  ·exact ⟨by have := (h.kept k hk).1; omega, (h.kept k hk).2⟩
  ·exact ⟨hk.2, fun hw => by have := (h.foot hw).2; omega⟩
  ·exact ⟨by have := zq hD; omega, fun hw => by have := (h.foot hw).2; omega⟩
  ·simp [Value.ownBlock] at hk)
 have k : FW W3 ⟨F, w.heap.size, base, q, r, fun k => X k ∨ (w.heap.size < k ∧ k < W3.heap.size), hv⟩ [] d := by
  refine ⟨⟨.slice none 0 0, gv, rv, bv, hD, ⟨by simp, .inl ⟨rfl, rfl⟩⟩, hscr, by show w.heap.size ≠ F; omega, fun k hk => ⟨?_, ?_, by simp [Value.ownBlock]⟩, by simp [Value.ownBlock], by simp [Value.ownBlock]⟩, sts, fun k hk => ?_, hT.ext E3⟩
  ·show k ≠ w.heap.size
   rcases hk with hk | hk
   ·have := (h.kept k hk).1; omega
   ·omega
  ·show k ≠ F
   rcases hk with hk | hk
   ·exact fun e => hXF (e ▸ hk)
   ·omega
  ·rcases hk with hk | hk | hk
   ·have h1 : q ≤ k := hk.1
    have h2 : k ≤ q + 4 := hk.2
    exact .inr ⟨by omega, by omega⟩
   ·have h1 : r ≤ k := hk.1
    have h2 : k ≤ r + 3 := hk.2
    exact .inr ⟨by omega, by omega⟩
   ·exact .inl (hXk k (.inr (.inr hk)))
 refine (zjp _ d.hold ys P T sh yv d W3 k hP (.inr ⟨hPw, hPl⟩) (fun w' hf => hx w' (toW w' hf)) (fun w' hf => hy w' (toW w' hf)) hbx hby hrm hl4 (grF q) (by simp [Fc.mode])).mono ?_
 rintro e w' ⟨rfl, v, _, k9, f9⟩
 exact ⟨rfl, k9.fk, f9⟩
theorem zet {w W3 w4 : World} {q r : Nat} (h : zab w F base X d gv rv hv bv) (hXF : ¬ X F) (E3 : Ext w W3) (f4 : FrF ⟨F, w.heap.size, base, q, r, fun k => X k ∨ (w.heap.size < k ∧ k < W3.heap.size), hv⟩ W3 w4) {k : Nat} {o : Obj} (hk : X k) (ho : w.heap[k]? = some o) : w4.heap[k]? = some o := by
 refine f4.kept (E3.kept ho) ?_
 rintro (e | e | ⟨_, e⟩)
 ·have e' : k = w.heap.size := e
  have := (h.kept k hk).1
  omega
 ·have e' : k = F := e
  exact hXF (e' ▸ hk)
 ·exact e (.inl hk)
theorem zkp {w W3 w4 : World} {q r : Nat} {hs : List Int} {d4 : SD} {hv4 gv4 : Value} {rv4 : Nat → Value} {bv4 : Value} (E3 : Ext w W3) (h4 : zcR w4 ⟨F, w.heap.size, base, q, r, fun k => X k ∨ (w.heap.size < k ∧ k < W3.heap.size), hv⟩ hs d4 hv4 gv4 rv4 bv4) (f4 : FrF ⟨F, w.heap.size, base, q, r, fun k => X k ∨ (w.heap.size < k ∧ k < W3.heap.size), hv⟩ W3 w4) :
  zab (w4.setCell ⟨F, 6, none⟩ hv4) F base X d4 gv4 rv4 hv4 bv4 ∧ (w4.setCell ⟨F, 6, none⟩ hv4).ownsRow base 5 1 hv4 hs.length (hs.map (Value.int .u8)) ∧ (∀ k, X k ∨ zbZ d4 gv4 rv4 bv4 k → ¬ hv4.ownBlock = some k) ∧ ¬ hv4.ownBlock = some F ∧ FrW F base X w (w4.setCell ⟨F, 6, none⟩ hv4) := by
 have fs : Fr (fun k => k = F) w4 (w4.setCell ⟨F, 6, none⟩ hv4) := Fr.setCell (S := fun k => k = F) (Fr.refl _ w4) (a := ⟨F, 6, none⟩) rfl _
 have z3 := E3.size
 have s4 := h4.scr
 have ne : ∀ g, zbZ d4 gv4 rv4 bv4 g → ¬ g = F := fun g hg e => s4.below.2 (e ▸ hg)
 have z4 := fs.size
 refine ⟨⟨zj s4.box rfl, s4.grid.fr fs (fun g hg => ne g (.inl hg)), fun i hi => (s4.row i hi).fr fs (fun g hg => ne g (.inr (.inl ⟨i, hi, hg⟩))), s4.apart, s4.back.fr fs (fun g hg => ne g (.inr (.inr hg))), ⟨Nat.lt_of_lt_of_le s4.below.1 fs.size, s4.below.2⟩, Nat.le_trans s4.top fs.size, fun k hk => ⟨Nat.lt_of_lt_of_le (s4.kept k (.inl (.inl hk))).1 fs.size, (s4.kept k (.inl (.inl hk))).2⟩⟩, fs.owns h4.held (fun g hg e => h4.hf (e ▸ hg)), fun k hk e => ?_, h4.hf, ?_⟩
 ·rcases hk with hk | hk
  ·exact (h4.kp k (.inl hk)).2.2 e
  ·exact (s4.kept k (.inr (.inr e))).2 hk
 ·have f5 : FrW F base X w w4 := by
   refine ⟨f4.os.trans E3.os, f4.tape.trans E3.tape, f4.output.trans E3.output, Nat.le_trans z3 f4.size, fun i hi hS => ?_⟩
   rw [f4.block i (by omega) (by
    rintro (e | e | ⟨e1, e2⟩)
    ·have e' : i = w.heap.size := e
     omega
    ·exact hS (.inl e)
    ·exact hS (.inr ⟨e1, fun x => e2 (.inl x)⟩))]
   exact E3.heap hi
  exact Fr.tr f5 (fs.mono (fun k hk => .inl hk))
set_option maxRecDepth 10000 in
set_option maxHeartbeats 4000000 in
theorem zm3 (w : World) (h : zab w F base X d gv rv hv bv) (hXF : ¬ X F) (sc : Array Value) (T1 : TypeId) (sh yv : Value) (hs : w.heap[B0]? = some (.cells sc T1 (0, 0))) (hs6 : sc[6]? = some sh) (hb : w.heap[Bb]? = some (.cells #[yv] 22 (0, 0)))
  (hXk : ∀ k, (k = B0 ∨ k = Bb ∨ k = 1 ∨ k = 2 ∨ k = 0) → X k) (hT : zdd w) (ys : List Int)
  (hx : ∀ w', FrW F base X w w' → zx w' .u8 sh d.hold) (hy : ∀ w', FrW F base X w w' → zx w' .u8 yv ys) (hbx : zv d.hold) (hby : zv ys) (hrm : zcm d (d.hold.length + ys.length)) (hl4 : d.hold.length + ys.length ≤ 4194303) :
  Calls Tryz.prog 46 #[ptr F, ptr B0, ptr Bb] w fun e w' => e = .returned (.tuple #[]) ∧ ∃ gv' rv' hv' bv', zab w' F base X (d.acts zp (fd (d.hold ++ ys)).1) gv' rv' hv' bv' ∧ w'.ownsRow base 5 1 hv' (fdH (d.hold ++ ys)).length ((fdH (d.hold ++ ys)).map (Value.int .u8)) ∧ (∀ k, X k ∨ zbZ (d.acts zp (fd (d.hold ++ ys)).1) gv' rv' bv' k → ¬ hv'.ownBlock = some k) ∧ ¬ hv'.ownBlock = some F ∧ FrW F base X w w' := by
 have hmf : ∀ (fn : Fn) (first cap : Array Value) (w : World), (Instr.makeFunc fn first cap).run Tryz.prog w = .ok (.func fn first cap) w := fun _ _ _ _ => rfl
 have hF := h.below.1
 obtain ⟨A1, hA1⟩ : ∃ A1, A1 = (w.alloc (.cells #[.slice none 0 0, .nilFunc, .nilFunc] 76)).setCell ⟨w.heap.size, 1, none⟩ (zgC F) := ⟨_, rfl⟩
 obtain ⟨A2, hA2⟩ : ∃ A2, A2 = A1.setCell ⟨w.heap.size, 2, none⟩ (zkG F) := ⟨_, rfl⟩
 have nb := zk w (.cells #[.slice none 0 0, .nilFunc, .nilFunc] 76)
 have nb1 : A1.heap[w.heap.size]? = some (.cells #[.slice none 0 0, zgC F, .nilFunc] 76 (0, 0)) := by rw [hA1]; exact zj nb rfl
 have nb2 : A2.heap[w.heap.size]? = some (.cells #[.slice none 0 0, zgC F, zkG F] 76 (0, 0)) := by rw [hA2]; exact zj nb1 rfl
 have HA := zh (show w.alloc (.cells #[.slice none 0 0, .func (.func 47) #[ptr F] #[], .func (.func 48) #[ptr F] #[]] 76) = A2 by rw [hA2, hA1]; simp [go_sem, zgC, zkG])
 have EA : Ext w A2 := by rw [hA2, hA1]; exact (((Ext.refl w).alloc _).setCell (Nat.le_refl _) _).setCell (Nat.le_refl _) _
 have zA : A2.heap.size = w.heap.size + 1 := by rw [hA2, hA1]; simp
 have a6 : A2.cell? ⟨B0, 6, none⟩ = some sh := zg (EA.kept hs) 6 _ hs6
 have ab := zg (EA.kept hb) 0 _ rfl
 have HStart := zh (fun W (hW : Ext A2 W) => zlx w.heap.size F (.slice none 0 0) W (hW.kept nb2))
 obtain ⟨xa, xc, hxv⟩ : ∃ xa xc, sh = .slice xa d.hold.length xc := by obtain ⟨a, b, e, _⟩ := hx w (Fr.refl _ _); exact ⟨a, b, e⟩
 obtain ⟨ya, yc, hyv⟩ : ∃ ya yc, yv = .slice ya ys.length yc := by obtain ⟨a, b, e, _⟩ := hy w (Fr.refl _ _); exact ⟨a, b, e⟩
 subst hxv
 subst hyv
 have H := zh h
 have HNB := zh nb2
 have HEA := zh EA
 have HS := zh hs
 have HBb := zh hb
 have HXk := zh hXk
 have HT := zh hT
 have HX := zh hx
 have HY := zh hy
 have HRm := zh hrm
 have HS6 := zh hs6
 clear h hs hb hXk hT hx hy hrm nb nb1 nb2 EA hA1 hA2 hs6
 go_enter Tryz.func46, Tryz.ntmps46
 have HRead := zh (fun W3 E3 hD q r P T sts hq hqr hr hP hPw => zn9 (W3 := W3) (zu H) hXF (zu HXk) (zu HT) E3 hD q r P T _ _ sts hq hqr hr hP hPw ys (zu HX) (zu HY) hbx hby (zu HRm) hl4)
 go_wp2_with fail
 rw [zu HA]
 refine wp_region_held_drew (S := fun W => W.cell? ⟨B0, 6, none⟩ = some (.slice xa d.hold.length xc) ∧ W.cell? ⟨Bb, 0, none⟩ = some (.slice ya ys.length yc)) (by kernel_rfl) ⟨a6, ab⟩ (fun hHeld => ?_)
 refine tk 1 ?_ rfl (by kernel_rfl) (fun _ _ _ h => h) (by rfl) ?_ (by assumption) ?_
 rotate_left
 ·intro w' hSw; obtain ⟨e1, e2⟩ := hSw; go_simp <;> with_reducible rfl
 simp only [Act.put, qA, qB, qC, qD, qE, qF]
 refine tk 2 ?_ rfl (by kernel_rfl) (fun _ _ _ h => h) (by rfl) ?_ (by assumption) ?_
 rotate_left
 ·intro w' hSw; obtain ⟨e1, e2⟩ := hSw; go_simp <;> with_reducible rfl
 simp only [Act.put, qA, qB, qC, qD, qE, qF]
 refine tk 3 ?_ rfl (by kernel_rfl) (fun _ _ _ h => h) (by rfl) ?_ (by assumption) ?_
 rotate_left
 ·intro w' hSw; obtain ⟨e1, e2⟩ := hSw; go_simp <;> with_reducible rfl
 simp only [Act.put, qA, qB, qC, qD, qE, qF]
 refine wpAnyH_ready (rs := [0, 4]) (by kernel_rfl) (by simp) ?_
 refine AllReadyH.cons rfl (fun K hK => ?_) (AllReadyH.cons rfl (fun K hK => ?_) AllReadyH.nil)
 ·go_simp
  refine ((zu HStart) (A2.drew) ((Ext.refl A2).drew)).mono ?_
  rintro e w2 ⟨⟨q, r, rfl, sts, hq, hqr, hr⟩, E2⟩
  have E3 : Ext A2 w2 := Ext.trans ((Ext.refl A2).drew) E2
  have d6 := E3.cell a6
  have db := E3.cell ab
  have hq1 : w.heap.size < q := (by have h9 : A2.heap.size ≤ q := hq; omega)
  have z3 := E3.size
  have HST := zh sts
  have HE2 := zh E2
  have HE3 := zh E3
  clear sts E2 E3 hq
  refine hK.out _ _ ⟨d6, db⟩ (fun hHeld => ?_)
  clear hK K
  refine rdy 4 (by kernel_rfl) rfl (fun K hK => ?_)
  go_simp
  refine hK.out _ _ ⟨((Ext.refl w2).alloc _).cell d6, ((Ext.refl w2).alloc _).cell db⟩ (fun hHeld => ?_)
  clear hK K
  refine rdy 5 (by kernel_rfl) rfl (fun K hK => ?_)
  go_simp
  refine ((zu HRead) (w2.alloc (.cells #[.slice xa d.hold.length xc, .slice ya ys.length yc] 22)) (((zu HEA).trans (zu HE3)).alloc (.cells #[.slice xa d.hold.length xc, .slice ya ys.length yc] 22)) (((zu HE3).alloc _).kept (zu HNB)) q r (w2.heap.size) _ ((zu HST).ext ((Ext.refl w2).alloc _)) hq1 hqr (by simp; omega) (zk w2 _) (by omega)).mono ?_
  rintro e w4 ⟨rfl, ⟨hv4, gv4, rv4, bv4, h4⟩, f4⟩
  have EE := ((zu HEA).trans (zu HE3)).alloc (.cells #[.slice xa d.hold.length xc, .slice ya ys.length yc] 22)
  have hk6 := zet (zu H) hXF EE f4 ((zu HXk) B0 (.inl rfl)) (zu HS)
  have hkb := zet (zu H) hXF EE f4 ((zu HXk) Bb (.inr (.inl rfl))) (zu HBb)
  have g6 := zg hk6 6 _ (zu HS6)
  have gb := zg hkb 0 _ rfl
  have HFin := zh (zkp EE h4 f4)
  have HD4 := zh h4
  clear h4 f4 hk6 hkb EE
  refine hK.out _ _ ⟨g6, gb⟩ (fun hHeld => ?_)
  clear hK K
  refine wpAnyH_done (by kernel_rfl) ?_ _
  have e0 := zg (zu HD4).blk 0 _ rfl
  have e6 := zg (zu HD4).scr.box 6 _ rfl
  have f6 : w4.frozen? ⟨F, 6, none⟩ = false := Lib.frozen_of_heap (zu HD4).scr.box 6
  obtain ⟨a4, n4, c4, hsl⟩ : ∃ a n c, hv4 = .slice a n c := by obtain ⟨a, c, e⟩ := zbi (zu HD4).held; exact ⟨a, _, c, e⟩
  subst hsl
  clear HRead HStart
  go_wp2
  go_end0
  exact ⟨rfl, _, _, _, _, zu HFin⟩
 ·go_simp
  refine hK.out _ _ ⟨((Ext.refl A2).alloc (.cells #[.slice xa d.hold.length xc, .slice ya ys.length yc] 22)).drew.cell a6, ((Ext.refl A2).alloc (.cells #[.slice xa d.hold.length xc, .slice ya ys.length yc] 22)).drew.cell ab⟩ (fun hHeld => ?_)
  clear hK K
  refine rdy 0 (by kernel_rfl) rfl (fun K hK => ?_)
  go_simp
  refine ((zu HStart) ((A2.alloc (.cells #[.slice xa d.hold.length xc, .slice ya ys.length yc] 22)).drew) (((Ext.refl A2).alloc (.cells #[.slice xa d.hold.length xc, .slice ya ys.length yc] 22)).drew)).mono ?_
  rintro e w2 ⟨⟨q, r, rfl, sts, hq, hqr, hr⟩, E2⟩
  have E3 : Ext A2 w2 := Ext.trans (((Ext.refl A2).alloc (.cells #[.slice xa d.hold.length xc, .slice ya ys.length yc] 22)).drew) E2
  have d6 := E3.cell a6
  have db := E3.cell ab
  have hq1 : w.heap.size < q := (by have h9 : (A2.alloc (.cells #[.slice xa d.hold.length xc, .slice ya ys.length yc] 22)).heap.size ≤ q := hq; simp at h9; omega)
  have z3 := E3.size
  have HST := zh sts
  have HE2 := zh E2
  have HE3 := zh E3
  clear sts E2 E3 hq
  refine hK.out _ _ ⟨d6, db⟩ (fun hHeld => ?_)
  clear hK K
  have hP9 := (zu HE2).kept (show (A2.alloc (.cells #[.slice xa d.hold.length xc, .slice ya ys.length yc] 22)).drew.heap[A2.heap.size]? = some (.cells #[.slice xa d.hold.length xc, .slice ya ys.length yc] 22) from zk A2 _)
  rw [zA] at hP9
  have HP9 := zh hP9
  clear hP9
  refine rdy 5 (by kernel_rfl) rfl (fun K hK => ?_)
  go_simp
  refine ((zu HRead) (w2) ((zu HEA).trans (zu HE3)) ((zu HE3).kept (zu HNB)) q r (w.heap.size + 1) _ (zu HST) hq1 hqr hr (zu HP9) (by omega)).mono ?_
  rintro e w4 ⟨rfl, ⟨hv4, gv4, rv4, bv4, h4⟩, f4⟩
  have EE := (zu HEA).trans (zu HE3)
  have hk6 := zet (zu H) hXF EE f4 ((zu HXk) B0 (.inl rfl)) (zu HS)
  have hkb := zet (zu H) hXF EE f4 ((zu HXk) Bb (.inr (.inl rfl))) (zu HBb)
  have g6 := zg hk6 6 _ (zu HS6)
  have gb := zg hkb 0 _ rfl
  have HFin := zh (zkp EE h4 f4)
  have HD4 := zh h4
  clear h4 f4 hk6 hkb EE
  refine hK.out _ _ ⟨g6, gb⟩ (fun hHeld => ?_)
  clear hK K
  refine wpAnyH_done (by kernel_rfl) ?_ _
  have e0 := zg (zu HD4).blk 0 _ rfl
  have e6 := zg (zu HD4).scr.box 6 _ rfl
  have f6 : w4.frozen? ⟨F, 6, none⟩ = false := Lib.frozen_of_heap (zu HD4).scr.box 6
  obtain ⟨a4, n4, c4, hsl⟩ : ∃ a n c, hv4 = .slice a n c := by obtain ⟨a, c, e⟩ := zbi (zu HD4).held; exact ⟨a, _, c, e⟩
  subst hsl
  clear HRead HStart
  go_wp2
  go_end0
  exact ⟨rfl, _, _, _, _, zu HFin⟩
end
set_option maxHeartbeats 1000000 in
theorem zjd (p q r : Addr) (w : World) (Pt : World → Prop) (hP : ∀ w', Pt w' → w'.cell? ⟨w.heap.size, 0, none⟩ = some (.bool false) ∧ w'.frozen? ⟨w.heap.size, 0, none⟩ = false)
  (hw : Calls Tryz.prog 46 #[.pointer (some p), .pointer (some q), .pointer (some r)] (w.alloc (.cells #[.bool false] 4)) fun e w' => e = .returned (.tuple #[]) ∧ Pt w') :
  Calls Tryz.prog 45 #[.func (Fn.func 46) #[] #[.pointer (some p), .pointer (some q), .pointer (some r)]] w fun e w' => ∃ (w1 : World), e = .returned (.bool true) ∧ Pt w1 ∧ w' = w1.setCell ⟨w.heap.size, 0, none⟩ (.bool true) := by
 have hmf : ∀ (fn : Fn) (first cap : Array Value) (w : World), (Instr.makeFunc fn first cap).run Tryz.prog w = .ok (.func fn first cap) w := fun _ _ _ _ => rfl
 have HW := zh hw
 have HP := zh hP
 clear hw hP
 go_enter_defers Tryz.func45, Tryz.ntmps45
 go_wp2_with fail
 refine (zu HW).mono ?_
 rintro e w1 ⟨rfl, hpt⟩
 obtain ⟨c1, f1⟩ := (zu HP) w1 hpt
 have HPT := zh hpt
 clear hpt HW HP
 go_wp2
 refine leaves_cons (f := 100) (args := #[.pointer (some ⟨w.heap.size, 0, none⟩)]) (by simp) (by simp [go_sem]) ?_
 refine (zgy ⟨w.heap.size, 0, none⟩ _).mono ?_
 rintro e u' w'' ⟨rfl, rfl, rfl⟩
 have hpt := zu HPT
 simp [Leaves, settle, results, Tryz.results45, go_sem, c1]
 exact ⟨w1, hpt, rfl⟩
structure OwnF (w : World) (base : Nat) (d : SD) (gv : Value) (rv : Nat → Value) (hv bv : Value) : Prop where
 grid : zbg w base 81 gv d.R rv
 row : ∀ i, i < d.R → zaG w base 83 (rv i) (d.C i) (fun j => .string (d.tx i j)) (fun j => .bool (d.hf i j))
 apart : ∀ i j g, i < j → j < d.R → (rv i).ownBlock = some g → (rv j).ownBlock ≠ some g
 hold : w.ownsRow base 5 1 hv d.hold.length (d.hold.map (Value.int .u8))
 back : za4 w base 9 bv d.nb (fun j => .string (d.bk j))
set_option maxRecDepth 10000 in
set_option maxHeartbeats 4000000 in
theorem zi0 (d : SD) (gv hv bv yv : Value) (ys : List Int) (w : World) (h : zbY w d gv hv bv) (hF : d.Fits) (hy : zx w .u8 yv ys) (hok : OkP d) (hbx : zv d.hold) (hby : zv ys) (hrm : zcm d (d.hold.length + ys.length)) (hl4 : d.hold.length + ys.length ≤ 4194303) (hT : zdd w) :
  Calls Tryz.prog 8 #[zbT d gv hv bv, yv] w fun e w' => ∃ gv' rv hv' bv', e = .returned (zbT (d.feed zp ys) gv' hv' bv') ∧ OwnF w' w.heap.size (d.feed zp ys) gv' rv hv' bv' ∧ Ext w w' := by
 obtain ⟨ya, yc, hyv, _, _⟩ := id hy
 subst hyv
 obtain ⟨ga, gc, ha, hc, ba, bc, e1, e2, e3⟩ := h.forms
 subst e1
 subst e2
 subst e3
 have HH := zh h
 have HF := zh hF
 have HY := zh hy
 obtain ⟨V, hV⟩ : ∃ V, V = ((w.alloc (.cells #[.int .i64 d.cols, .int .i64 d.rows, .slice ga d.R gc, .int .i64 d.row, .int .i64 d.col, .bool d.late, .slice ha d.hold.length hc, .slice ba d.nb bc] 26)).alloc (.cells #[.slice ya ys.length yc] 22)).alloc (.cells zS8 26) := ⟨_, rfl⟩
 have E0 : Ext w V := by rw [hV]; exact (((Ext.refl w).alloc _).alloc _).alloc _
 have szV : V.heap.size = w.heap.size + 3 := by rw [hV]; simp
 have b0 : V.heap[w.heap.size]? = some (.cells #[.int .i64 d.cols, .int .i64 d.rows, .slice ga d.R gc, .int .i64 d.row, .int .i64 d.col, .bool d.late, .slice ha d.hold.length hc, .slice ba d.nb bc] 26 (0, 0)) := by rw [hV]; exact (((Ext.refl _).alloc _).alloc _).kept (zk w _)
 have b1 : V.heap[w.heap.size + 1]? = some (.cells #[.slice ya ys.length yc] 22 (0, 0)) := by
  rw [hV]
  have h9 := zk (w.alloc (.cells #[.int .i64 d.cols, .int .i64 d.rows, .slice ga d.R gc, .int .i64 d.row, .int .i64 d.col, .bool d.late, .slice ha d.hold.length hc, .slice ba d.nb bc] 26)) (.cells #[.slice ya ys.length yc] 22)
  rw [show ∀ o, (w.alloc o).heap.size = w.heap.size + 1 from fun o => by simp] at h9
  exact ((Ext.refl _).alloc _).kept h9
 have b2 : V.heap[w.heap.size + 1 + 1]? = some (.cells zS8 26 (0, 0)) := by
  rw [hV]
  have h9 := zk ((w.alloc (.cells #[.int .i64 d.cols, .int .i64 d.rows, .slice ga d.R gc, .int .i64 d.row, .int .i64 d.col, .bool d.late, .slice ha d.hold.length hc, .slice ba d.nb bc] 26)).alloc (.cells #[.slice ya ys.length yc] 22)) (.cells zS8 26)
  rw [show ∀ o o', ((w.alloc o).alloc o').heap.size = w.heap.size + 1 + 1 from fun o o' => by simp] at h9
  exact h9
 have HVV := zh hV
 have HB0 := zh b0
 have HB1 := zh b1
 have HB2 := zh b2
 have HE0 := zh E0
 have HOk := zh (zdi d _ _ _ true (by simp [hok]) V (h.ext E0) hF)
 unfold zbT at HOk
 have HT := zh hT
 have HRm := zh hrm
 have HKK := zh hok
 clear h hF hy hV E0 b0 b1 b2 hT hrm hok
 have hmf : ∀ (fn : Fn) (first cap : Array Value) (w : World), (Instr.makeFunc fn first cap).run Tryz.prog w = .ok (.func fn first cap) w := fun _ _ _ _ => rfl
 unfold zbT
 go_enter Tryz.func8, Tryz.ntmps8
 go_wp2_with fail
 rw [← zu HVV]
 clear HVV
 refine (zu HOk).mono ?_
 rintro e w1 ⟨rfl, F1⟩
 have E1 := (zu HE0).trans F1
 have HC := zh (zgO d _ _ _ w1 ((zu HH).ext E1) (zu HF))
 unfold zbT at HC
 have HB0' := F1.hk HB0
 have HB1' := F1.hk HB1
 have HB2' := F1.hk HB2
 have z1 := F1.size
 have HE1 := zh E1
 clear HOk F1 E1
 go_wp2_with (refine zl rfl 26 _ rfl w.heap.size rfl _ _ _ _ (zu HB0') Tryz.underlying26 rfl zd3 ?_)
 refine (zu HC).mono ?_
 rintro e w2 ⟨gv', rv, hv', bv', rfl, ho, F2⟩
 replace HB0' := zh (F2.kept (zu HB0'))
 replace HB1' := zh (F2.kept (zu HB1'))
 replace HB2' := zh (F2.kept (zu HB2'))
 have HO := zh ho
 have HF2 := zh F2
 have z2 := F2.size
 obtain ⟨ga', gc', ha', hc', ba', bc', e1, e2, e3⟩ := ho.reads.forms
 subst e1
 subst e2
 subst e3
 clear ho F2 HC
 obtain ⟨w3, hw3⟩ : ∃ w3, w3 = w2.alloc (.cells #[.int .i64 d.cols, .int .i64 d.rows, .slice ga' d.R gc', .int .i64 d.row, .int .i64 d.col, .bool d.late, .slice ha' d.hold.length hc', .slice ba' d.nb bc'] 26) := ⟨_, rfl⟩
 have z3 : w3.heap.size = w2.heap.size + 1 := by rw [hw3]; simp
 have E3 : Ext w2 w3 := by rw [hw3]; exact (Ext.refl _).alloc _
 have bF : w3.heap[w2.heap.size]? = some (.cells #[.int .i64 d.cols, .int .i64 d.rows, .slice ga' d.R gc', .int .i64 d.row, .int .i64 d.col, .bool d.late, .slice ha' d.hold.length hc', .slice ba' d.nb bc'] 26 (0, 0)) := by rw [hw3]; exact zk w2 _
 obtain ⟨w4, hw4⟩ : ∃ w4, w4 = w3.alloc (.cells #[.bool false] 4) := ⟨_, rfl⟩
 have E4 : Ext w3 w4 := by rw [hw4]; exact (Ext.refl _).alloc _
 have bB : w4.heap[w3.heap.size]? = some (.cells #[.bool false] 4 (0, 0)) := by rw [hw4]; exact zk w3 _
 have z4 : w4.heap.size = w3.heap.size + 1 := by rw [hw4]; simp
 have hO4 := (zu HO).ext (E3.trans E4)
 have hsz := zae (zu HKK)
 have hRp : 0 < d.R := by have := (zu HKK).R; omega
 have hS4 : zab w4 w2.heap.size w1.heap.size (fun k => k < w1.heap.size ∨ k = w3.heap.size) d (.slice ga' d.R gc') rv (.slice ha' d.hold.length hc') (.slice ba' d.nb bc') := by
  have hfoot : ∀ k, zbZ d (.slice ga' d.R gc') rv (.slice ba' d.nb bc') k → w1.heap.size ≤ k ∧ k < w2.heap.size := fun k hk => (zu HO).foot (by
   rcases hk with hk | ⟨i, hi, hk⟩ | hk
   ·exact .inl (.inl hk)
   ·exact .inl (.inr ⟨i, hi, hk⟩)
   ·exact .inr (.inr hk))
  refine ⟨E4.kept bF, hO4.1.1.toO hRp, hO4.1.2.1, hO4.1.2.2, hO4.2.2, ⟨by omega, fun hw => by have := hfoot _ hw; omega⟩, by omega, fun k hk => ⟨by omega, fun hw => by have := hfoot k hw; omega⟩⟩
 have HE4 := zh ((zu HE1).trans ((zu HF2).trans (E3.trans E4)))
 have zE := (zu HE0).size
 have frx : ∀ w', FrW w2.heap.size w1.heap.size (fun k => k < w1.heap.size ∨ k = w3.heap.size) w4 w' → Ext w w' := fun w' hf => hf.ext (zu HE4) (fun k hk => by
  have := (zu HE1).size
  rcases hk with hk | hk
  ·omega
  ·omega)
 have HFX := zh frx
 have hfeed := zm3 (B0 := w.heap.size) (Bb := w.heap.size + 1) w4 hS4 (by rintro (x | x) <;> omega) _ _ (.slice ha d.hold.length hc) (.slice ya ys.length yc) ((E3.trans E4).kept (zu HB0')) rfl ((E3.trans E4).kept (zu HB1')) (fun k hk => by
   have g1 := zaj ((zu HT).2.1 0 (by omega))
   have g2 := zaj ((zu HT).2.2 0 (by omega)).1
   have g3 := (zu HT).1.pos
   rcases hk with hk | hk | hk | hk | hk
   all_goals (left; have := (zu HE1).size; omega)) ((zu HT).ext (zu HE4)) ys (fun w' hf => ((zu HH).ext (frx w' hf)).2.1) (fun w' hf => (zu HY).ext (frx w' hf)) hbx hby (zu HRm) hl4
 have hwg := zjd ⟨w2.heap.size, 0, none⟩ ⟨w.heap.size, 0, none⟩ ⟨w.heap.size + 1, 0, none⟩ w3 (fun w' => ∃ gv' rv' hv' bv', zab w' w2.heap.size w1.heap.size (fun k => k < w1.heap.size ∨ k = w3.heap.size) (d.acts zp (fd (d.hold ++ ys)).1) gv' rv' hv' bv' ∧ w'.ownsRow w1.heap.size 5 1 hv' (fdH (d.hold ++ ys)).length ((fdH (d.hold ++ ys)).map (Value.int .u8)) ∧ (∀ k, (k < w1.heap.size ∨ k = w3.heap.size) ∨ zbZ (d.acts zp (fd (d.hold ++ ys)).1) gv' rv' bv' k → ¬ hv'.ownBlock = some k) ∧ ¬ hv'.ownBlock = some w2.heap.size ∧ FrW w2.heap.size w1.heap.size (fun k => k < w1.heap.size ∨ k = w3.heap.size) w4 w') (fun w' hp => by
   obtain ⟨_, _, _, _, _, _, _, _, hf⟩ := hp
   have hk := hf.kept bB (by
    rintro (x | ⟨_, x⟩)
    ·omega
    ·exact x (.inr rfl))
   exact ⟨zg hk 0 _ rfl, Lib.frozen_of_heap hk 0⟩) (by rw [← hw4]; exact hfeed)
 have HWG := zh hwg
 have HW3 := zh hw3
 have HB2'' := zh ((E3.trans E4).kept (zu HB2'))
 clear hwg hfeed hS4 hO4 frx E3 E4 bF bB hw4 hw3
 go_wp2_with fail
 rw [← zu HW3]
 clear HW3
 refine (zu HWG).mono ?_
 rintro e w6 ⟨w5, rfl, ⟨gv5, rv5, hv5, bv5, hS5, hO5, hn5, hm5, hf5⟩, rfl⟩
 obtain ⟨d5, hd5⟩ : ∃ x, x = d.acts zp (fd (d.hold ++ ys)).1 := ⟨_, rfl⟩
 obtain ⟨hs5, hh5⟩ : ∃ x, x = fdH (d.hold ++ ys) := ⟨_, rfl⟩
 rw [← hd5] at hS5 hn5
 rw [← hh5] at hO5
 have HFeed : Hid (d.feed zp ys = { d5 with hold := hs5 }) := zh (by rw [hd5, hh5]; rfl)
 obtain ⟨W6, hW6⟩ : ∃ W6, W6 = w5.setCell ⟨w3.heap.size, 0, none⟩ (.bool true) := ⟨_, rfl⟩
 rw [← hW6]
 have f6 : Fr (fun k => k = w3.heap.size) w5 W6 := by rw [hW6]; exact Fr.setCell (S := fun k => k = w3.heap.size) (Fr.refl _ _) (a := ⟨w3.heap.size, 0, none⟩) rfl _
 have bF := f6.kept hS5.box (by omega)
 have b2 := f6.kept (hf5.kept (zu HB2'') (by
  have := (zu HE0).size
  rintro (x | ⟨x, _⟩) <;> omega)) (by omega)
 have hOF : OwnF W6 w1.heap.size { d5 with hold := hs5 } gv5 rv5 hv5 bv5 := by
  have ne : ∀ g, zbZ d5 gv5 rv5 bv5 g → ¬ g = w3.heap.size := fun g hg e => (hS5.kept g (.inr e)).2 hg
  exact ⟨hS5.grid.fr f6 (fun g hg => ne g (.inl hg)), fun i hi => (hS5.row i hi).fr f6 (fun g hg => ne g (.inr (.inl ⟨i, hi, hg⟩))), hS5.apart, f6.owns hO5 (fun g hg e => hn5 g (.inl (.inr e)) hg), hS5.back.fr f6 (fun g hg => ne g (.inr (.inr hg)))⟩
 have hE6 : Ext w W6 := f6.ext ((zu HFX) w5 hf5) (fun k hk => by have := (zu HE1).size; omega)
 obtain ⟨ga5, gk5, gc5, _, hgv5, _⟩ := id hOF.grid
 obtain ⟨ha5, hc5, hhv5⟩ := zbi hOF.hold
 obtain ⟨ba5, bc5, hbv5⟩ : ∃ a c, bv5 = .slice a d5.nb c := by
  obtain ⟨_, h9, _⟩ := hOF.back
  exact zbi h9
 subst hgv5
 subst hhv5
 subst hbv5
 have HBF := zh bF
 have HB2f := zh b2
 have HOF := zh hOF
 have HE6 := zh hE6
 clear hS5 hO5 hn5 hm5 hf5 hd5 hh5 hW6 f6 bF b2 hOF hE6 HWG HB2''
 go_wp2_with (first
  | (refine zl rfl 26 _ rfl w2.heap.size rfl _ _ _ _ (zu HBF) Tryz.underlying26 rfl zd3 ?_)
  | (refine zi rfl 26 _ _ rfl rfl (w.heap.size + 1 + 1) rfl _ _ _ rfl (zu HB2f) zd3 rfl (by simp [Value.oneCell']) ?_; intro X HX9 hX9; have HXB := zh HX9; have HXF := zh hX9; clear HX9 hX9))
 have v0 := zg (zu HXB) 0 _ rfl
 have v1 := zg (zu HXB) 1 _ rfl
 have v2 := zg (zu HXB) 2 _ rfl
 have v3 := zg (zu HXB) 3 _ rfl
 have v4 := zg (zu HXB) 4 _ rfl
 have v5 := zg (zu HXB) 5 _ rfl
 have v6 := zg (zu HXB) 6 _ rfl
 have v7 := zg (zu HXB) 7 _ rfl
 have hlo : w.heap.size + 1 + 1 < w1.heap.size := by omega
 have hO9 : OwnF X w.heap.size { d5 with hold := hs5 } (.slice (some ⟨ga5, gk5, none⟩) d5.R gc5) rv5 (.slice ha5 hs5.length hc5) (.slice ba5 d5.nb bc5) := by
  have o := zu HOF
  exact ⟨(o.grid.fr (zu HXF) (fun g hg e => by have := (o.grid.lt g hg).1; omega)).mono (by omega), fun i hi => ((o.row i hi).fr (zu HXF) (fun g hg e => by have := ((o.row i hi).lt g hg).1; omega)).mono (by omega), o.apart, zah ((zu HXF).owns o.hold (fun g hg e => by have := (o.hold.lt g hg).1; omega)) (by omega), (o.back.fr (zu HXF) (fun g hg e => by have := (o.back.lt g hg).1; omega)).mono (by omega)⟩
 have hEX := (zu HXF).ext (zu HE6) (fun q hq => by omega)
 exact bodyPost_ret (v := .agg #[.int .i64 d5.cols, .int .i64 d5.rows, .slice (some ⟨ga5, gk5, none⟩) d5.R gc5, .int .i64 d5.row, .int .i64 d5.col, .bool d5.late, .slice ha5 hs5.length hc5, .slice ba5 d5.nb bc5]) (by simp [results, Tryz.results8, go_sem, v0, v1, v2, v3, v4, v5, v6, v7]) rfl ⟨_, rv5, _, _, by rw [zu HFeed], by rw [zu HFeed]; exact hO9, hEX⟩
end Go.Proofs.YtinfdhbnljnifaaGreatDoor

namespace Go.Proofs.YtinfdhbnljnifaaGreatDoor
open Go.RowKit
theorem zbg.notRow {w : World} {base base' : Nat} {T T' : TypeId} {v u : Value} {n m size : Nat} {A : Nat → Value} {xs : List Value} (h : zbg w base T v n A) (hy : w.ownsRow base' T' size u m xs) (hT : T ≠ T') {g : Nat} (hg : u.ownBlock = some g) : v.ownBlock ≠ some g := by
 intro e
 obtain ⟨g', k', cap', cur, e1, _, hg', _⟩ := h
 rw [e1] at e
 have e2 : g' = g := by simpa [Value.ownBlock] using e
 subst e2
 rcases hy.2 with ⟨e3, _⟩ | ⟨g2, _, cur2, e3, _, hg2, _⟩
 ·rw [e3] at hg; simp [Value.ownBlock] at hg
 ·rw [e3] at hg
  have e4 : g2 = g' := by simpa [Value.ownBlock] using hg
  subst e4
  rw [hg'] at hg2
  simp at hg2
  exact hT hg2.2
def zb6 (w : World) (base : Nat) (v : Value) (rv : Nat → Value) (R : Nat) (C : Nat → Nat) (A B : Nat → Nat → Value) : Prop :=
 zbg w base 81 v R rv ∧ (∀ i, i < R → zaG w base 83 (rv i) (C i) (A i) (B i)) ∧ (∀ i j g, i < j → j < R → (rv i).ownBlock = some g → (rv j).ownBlock ≠ some g)
section
variable {w w' : World} {base : Nat} {v : Value} {rv : Nat → Value} {R : Nat} {C : Nat → Nat} {A B : Nat → Nat → Value}
theorem zb6.ext (h : zb6 w base v rv R C A B) (he : Ext w w') : zb6 w' base v rv R C A B := ⟨h.1.ext he, fun i hi => (h.2.1 i hi).ext he, h.2.2⟩
theorem zb6.reads (h : zb6 w base v rv R C A B) : zfo w v R C A B := ⟨rv, h.1.reads, fun i hi => (h.2.1 i hi).reads⟩
theorem zb6.foot (h : zb6 w base v rv R C A B) {g : Nat} (hg : zjw v rv R g) : base ≤ g ∧ g < w.heap.size := by
 rcases hg with hg | ⟨i, hi, hg⟩
 ·exact h.1.lt g hg
 ·exact (h.2.1 i hi).lt g hg
theorem zb6.fr {S : Nat → Prop} (h : zb6 w base v rv R C A B) (hf : Fr S w w') (hS : ∀ g, zjw v rv R g → ¬ S g) : zb6 w' base v rv R C A B :=
 ⟨h.1.fr hf (fun g hg => hS g (.inl hg)), fun i hi => (h.2.1 i hi).fr hf (fun g hg => hS g (.inr ⟨i, hi, hg⟩)), h.2.2⟩
theorem zb6.apart (h : zb6 w base v rv R C A B) {i g : Nat} (hi : i < R) (hg : (rv i).ownBlock = some g) : v.ownBlock ≠ some g := by
 obtain ⟨zs, h2, _⟩ := h.2.1 i hi
 exact h.1.notRow h2 (by decide) hg
theorem zb6.row {A' B' : Nat → Value} {j : Nat} (h : zb6 w base v rv R C A B) (hj : j < R) (ho : zaG w' base 83 (rv j) (C j) A' B') (hf : Fr (fun g => (rv j).ownBlock = some g) w w') :
  zb6 w' base v rv R C (fun i => if i = j then A' else A i) (fun i => if i = j then B' else B i) := by
 refine ⟨h.1.fr hf (fun g hg e => h.apart hj e hg), fun i hi => ?_, h.2.2⟩
 dsimp only
 by_cases e : i = j
 ·subst e; rw [if_pos rfl, if_pos rfl]; exact ho
 ·rw [if_neg e, if_neg e]
  refine (h.2.1 i hi).fr hf (fun g hg e2 => ?_)
  rcases Nat.lt_or_gt_of_ne e with h5 | h5
  ·exact h.2.2 i j g h5 hj hg e2
  ·exact h.2.2 j i g h5 hi e2 hg
theorem zb6.congr {A' B' : Nat → Nat → Value} (h : zb6 w base v rv R C A B) (e : ∀ i, i < R → A i = A' i ∧ B i = B' i) : zb6 w base v rv R C A' B' :=
 ⟨h.1, fun i hi => by rw [← (e i hi).1, ← (e i hi).2]; exact h.2.1 i hi, h.2.2⟩
end
def zcU (w : World) (base : Nat) (d : SD) (gv : Value) (rv : Nat → Value) (hv bv : Value) : Prop :=
 zb6 w base gv rv d.R d.C (fun i j => .string (d.tx i j)) (fun i j => .bool (d.hf i j)) ∧ w.ownsRow base 5 1 hv d.hold.length (d.hold.map (Value.int .u8)) ∧ za4 w base 9 bv d.nb (fun j => .string (d.bk j))
section
variable {w w' : World} {base : Nat} {d : SD} {gv : Value} {rv : Nat → Value} {hv bv : Value}
theorem OwnF.toS (h : OwnF w base d gv rv hv bv) : zcU w base d gv rv hv bv := ⟨⟨h.grid, h.row, h.apart⟩, h.hold, h.back⟩
theorem zcU.ext (h : zcU w base d gv rv hv bv) (he : Ext w w') : zcU w' base d gv rv hv bv := ⟨h.1.ext he, he.owns h.2.1, h.2.2.ext he⟩
theorem zcU.reads (h : zcU w base d gv rv hv bv) : zbY w d gv hv bv := ⟨h.1.reads, zz h.2.1, h.2.2.reads⟩
theorem zcU.foot (h : zcU w base d gv rv hv bv) {g : Nat} (hg : zl7 d gv rv hv bv g) : base ≤ g ∧ g < w.heap.size := by
 rcases hg with hg | hg | hg
 ·exact h.1.foot hg
 ·exact h.2.1.lt g hg
 ·exact h.2.2.lt g hg
theorem zcU.fr {S : Nat → Prop} (h : zcU w base d gv rv hv bv) (hf : Fr S w w') (hS : ∀ g, zl7 d gv rv hv bv g → ¬ S g) : zcU w' base d gv rv hv bv :=
 ⟨h.1.fr hf (fun g hg => hS g (.inl hg)), hf.owns h.2.1 (fun g hg => hS g (.inr (.inl hg))), h.2.2.fr hf (fun g hg => hS g (.inr (.inr hg)))⟩
end
structure FI (w wr : World) (B0 base : Nat) (a3 : Option Addr) (c3 : Nat) (A : List Int) (Z : Array Value) (Fin : SD) (M N i : Nat) (d : SD) (gv : Value) (rv : Nat → Value) (hv bv : Value) : Prop where
 scr : zab wr B0 base (fun q => Value.ownBlock (.slice a3 A.length c3) = some q) d gv rv hv bv
 all : wr.ownsRow base 5 1 (.slice a3 A.length c3) A.length (A.map (Value.int .u8))
 z : wr.heap[B0 + 1]? = some (.cells Z 26 (0, 0))
 ext : Ext w wr
 ok : OkP d
 wt : WtB d (M + 4 * i)
 nb : d.nb ≤ N + i
 end0 : Fin = { d.acts zp (fd (A.drop i)).1 with hold := fdH (A.drop i) }
section
variable {w wr Y : World} {B0 base : Nat} {a3 : Option Addr} {c3 : Nat} {A : List Int} {Z : Array Value} {Fin : SD} {M N i : Nat} {d : SD} {gv : Value} {rv : Nat → Value} {hv bv : Value}
theorem FI.step (h : FI w wr B0 base a3 c3 A Z Fin M N i d gv rv hv bv) {ks : List zby} {m : Nat} (hst : zar (A.drop i) = some (ks, m)) {gv' : Value} {rv' : Nat → Value} {bv' : Value} (hS : zab Y B0 base (fun q => Value.ownBlock (.slice a3 A.length c3) = some q) (d.acts zp ks) gv' rv' hv bv') (f : FrW B0 base (fun q => Value.ownBlock (.slice a3 A.length c3) = some q) wr Y) (hM : 200 ≤ M) (hB : B0 + 1 < base) (hw : w.heap.size ≤ B0) :
  FI w Y B0 base a3 c3 A Z Fin M N (i + m) (d.acts zp ks) gv' rv' hv bv' := by
 obtain ⟨b1, b2, b3⟩ := zeZ zp ks h.ok h.wt (by omega : 200 ≤ M + 4 * i)
 have hc := zgF _ _ _ hst
 refine ⟨hS, f.owns h.all ?_, f.kept h.z (by rintro (e | e) <;> omega), f.ext h.ext (fun q hq => by rcases hq with e | e <;> omega), b1, b2.mono (by omega), by have := h.nb; omega, ?_⟩
 ·rintro g hg (e | ⟨_, e⟩)
  ·have := (h.all.lt g hg).1; omega
  ·exact e hg
 ·rw [h.end0, show fd (A.drop i) = (ks ++ (fd ((A.drop i).drop m)).1, m + (fd ((A.drop i).drop m)).2) from zcv zaZ hst, zcI, List.drop_drop]
  have e2 : fdH (A.drop i) = fdH (A.drop (i + m)) := by
   show (A.drop i).drop (fd (A.drop i)).2 = (A.drop (i + m)).drop (fd (A.drop (i + m))).2
   rw [show fd (A.drop i) = (ks ++ (fd ((A.drop i).drop m)).1, m + (fd ((A.drop i).drop m)).2) from zcv zaZ hst]
   simp only [List.drop_drop]
   congr 1
   omega
  rw [e2]
theorem FI.fits (h : FI w wr B0 base a3 c3 A Z Fin M N i d gv rv hv bv) (hM : M + 4 * i ≤ 1073741824) (hN : N + i ≤ 16777216) : rsz (d.tx 0) (d.C 0) ≤ 1073741824 ∧ d.nb ≤ 16777216 := by
 have hs := zae h.ok
 have hR := h.ok.R
 exact ⟨Nat.le_trans (h.wt 0 (by omega)) hM, Nat.le_trans h.nb hN⟩
end
section
variable {s : List Int}
end
theorem znI {c r : Nat} (h1 : 2 ≤ c) (h2 : c ≤ 200) (h3 : 1 ≤ r) (h4 : r ≤ 100) : zbN (c : Int) (r : Int) = true := by
 unfold zbN
 have a1 : (2 : Int) ≤ c := by omega
 have a2 : (c : Int) ≤ 200 := by omega
 have a3 : (1 : Int) ≤ r := by omega
 have a4 : (r : Int) ≤ 100 := by omega
 simp only [a1, a2, a3, a4, decide_true, Bool.and_self]
theorem zkg {c r : Nat} (h1 : 2 ≤ c) (h2 : c ≤ 200) (h3 : 1 ≤ r) (h4 : r ≤ 100) : OkP (zap c r) :=
 ⟨znI h1 h2 h3 h4, rfl, by simp [zap], fun i hi => rfl, fun i k hi hk h => by simp [zap] at h, ⟨by simp [zap], by simp [zap]; omega⟩, ⟨by simp [zap], by simp [zap]; omega⟩, fun h => by simp [zap] at h⟩
theorem zo4 {c r : Nat} (h2 : c ≤ 200) : WtB (zap c r) 200 := fun i hi => by
 show rsz (fun _ => noB) c ≤ 200
 have : rsz (fun _ => bz) c = c := zk0 c
 rw [show (fun _ : Nat => noB) = (fun _ : Nat => bz) from rfl, this]
 exact h2
theorem zcU.down {w : World} {base b2 : Nat} {d : SD} {gv : Value} {rv : Nat → Value} {hv bv : Value} (h : zcU w base d gv rv hv bv) (hb : b2 ≤ base) : zcU w b2 d gv rv hv bv :=
 ⟨⟨h.1.1.mono hb, fun i hi => (h.1.2.1 i hi).mono hb, h.1.2.2⟩, zah h.2.1 hb, h.2.2.mono hb⟩
def zik (d d' : SD) : Prop := d.nb ≤ d'.nb ∧ ∀ j, j < d.nb → d'.bk j = d.bk j
theorem zik.refl (d : SD) : zik d d := ⟨Nat.le_refl _, fun _ _ => rfl⟩
theorem zik.trans {a b c : SD} (h : zik a b) (k : zik b c) : zik a c := ⟨Nat.le_trans h.1 k.1, fun j hj => (k.2 j (Nat.lt_of_lt_of_le hj h.1)).trans (h.2 j hj)⟩
section
variable (tT : (Nat → ByteArray) → (Nat → Bool) → Nat → ByteArray)
end
structure zbr (d : SD) (M N : Nat) : Prop where
 ok : OkP d
 by' : zv d.hold
 wt : WtB d M
 nb : d.nb ≤ N
theorem zbr.feed {d : SD} {M N : Nat} (h : zbr d M N) (hM : 200 ≤ M) (xs : List Int) (hx : zv xs) (hl : xs.length ≤ 300) : zbr (d.feed zp xs) (M + 1400) (N + 350) := by
 have hb := zeZ zp (fd (d.hold ++ xs)).1 h.ok h.wt hM
 have hc := zkl (d.hold ++ xs)
 rw [List.length_append] at hc
 have hh := h.ok.hold
 refine ⟨ziN zp h.ok xs, ?_, ?_, ?_⟩
 ·intro n hn
  have : n ∈ fdH (d.hold ++ xs) := hn
  have h2 : n ∈ d.hold ++ xs := List.mem_of_mem_drop this
  rcases List.mem_append.1 h2 with h3 | h3
  ·exact h.by' n h3
  ·exact hx n h3
 ·have h2 : WtB (d.acts zp (fd (d.hold ++ xs)).1) (M + 1400) := hb.2.1.mono (by omega)
  exact h2
 ·have h3 := hb.2.2
  have := h.nb
  show (d.acts zp (fd (d.hold ++ xs)).1).nb ≤ _
  omega
theorem zbr.fits {d : SD} {M N : Nat} (h : zbr d M N) (hN : N ≤ 1048576) : d.Fits := by
 have hs := zae h.ok
 have hR := h.ok.R
 have hh := h.ok.hold
 have hn := h.nb
 exact ⟨by omega, fun i hi => by have := h.ok.C i hi; omega, by omega, by omega⟩
def after (d : SD) (pss : List (List Int)) (i : Nat) : SD := if i = 0 then d else d.feed zp (pss.take i).flatten
theorem zin : ∀ (r : List Int) (A : List (List Int × Int)), A.length ≤ (r.foldl clG A).length
 | [], _ => Nat.le_refl _
 | y :: r, A => by
  refine Nat.le_trans ?_ (zin r (clG A y))
  unfold clG za3
  split
  ·simp
  ·split
   ·simp; omega
   ·simp
theorem zg0 : ∀ (r : List Int) (l : List Int) (d : Int) (c : List Int × Int), (∀ y ∈ r, za5 y) → r.foldl clG [(l, d)] = [c] → zcu r = 0 ∧ c.2 = d
 | [], l, d, c, _, h => by
  simp at h
  rw [← h]
  exact ⟨rfl, rfl⟩
 | y :: r, l, d, c, hr, h => by
  have hs := (hr y (by simp)).shown
  rw [List.foldl_cons] at h
  by_cases hw : 0 < wid y
  ·exfalso
   have h1 := zin r (clG [(l, d)] y)
   rw [h] at h1
   unfold clG za3 at h1
   rw [hs, if_pos hw] at h1
   simp at h1
  ·have e : clG [(l, d)] y = [(l ++ [y], d)] := by
    unfold clG za3
    rw [hs, if_neg hw, if_neg (by simp)]
    rfl
   rw [e] at h
   obtain ⟨h1, h2⟩ := zg0 r (l ++ [y]) d c (fun z hz => hr z (by simp [hz])) h
   refine ⟨?_, h2⟩
   rw [zcu, h1]
   rcases zbM y with e0 | e0 | e0 <;> omega
theorem zon {c : List Int × Int} (h : zaW c) : zcu c.1 = c.2 := by
 obtain ⟨x, r, e, hx, hs⟩ := zfH h
 obtain ⟨_, hcl⟩ := zge h
 have h0 := h
 unfold zaW at h0
 rw [e, List.foldl_cons] at h0
 have e1 : clG [] x = [([x], wid x)] := by
  unfold clG za3
  rw [hs, if_pos hx]
  rfl
 rw [e1] at h0
 obtain ⟨h1, h2⟩ := zg0 r [x] (wid x) c (fun y hy => hcl y (by rw [e]; simp [hy])) h0
 rw [e, zcu, h1, h2]
 omega
theorem zkj : ∀ (a b : List Int), zcu (a ++ b) = zcu a + zcu b
 | [], b => by simp [zcu]
 | x :: a, b => by rw [List.cons_append, zcu, zcu, zkj a b]; omega
theorem zl5 (c : List Int × Int) (X : List (List Int × Int)) : ∀ k, pw (c :: X) (k + 1) = c.2 + pw X k
 | 0 => by simp [pw, cW]
 | k + 1 => by
  rw [pw, zl5 c X k, pw]
  have : cW (c :: X) (k + 1) = cW X k := rfl
  rw [this]
  omega
theorem zib : ∀ (X : List (List Int × Int)), (∀ c ∈ X, zaW c) → zcu (zaL X) = zkE X
 | [], _ => rfl
 | c :: X, h => by
  have h1 := zib X (fun d hd => h d (by simp [hd]))
  unfold zkE at h1 ⊢
  rw [zaL, zkj, zon (h c (by simp)), h1, List.length_cons, zl5]
theorem zjo {X : List (List Int × Int)} (h : ∀ c ∈ X, zaW c) : ∀ r, (zaL X).head? = some r → 0 < wid r := by
 intro r hr
 cases X with
 | nil => simp [zaL] at hr
 | cons c X =>
  obtain ⟨x, l, e, hx, _⟩ := zfH (h c (by simp))
  rw [zaL, e] at hr
  simp at hr
  rw [← hr]
  exact hx
structure zc6 (cols rows : Int) (m : Nat) (tx : Nat → ByteArray) (f : Nat → List Int) (row col : Int) : Prop where
 le : (m : Int) ≤ rows
 ok : bOk m row col
 col : col < cols
 row : ∀ i, i < m → baL (tx i) = zaO (f i) ∧ Fit cols (f i)
theorem zc6.size {cols rows : Int} {m : Nat} {tx : Nat → ByteArray} {f : Nat → List Int} {row col : Int} (h : zc6 cols rows m tx f row col) {i : Nat} (hi : i < m) : (tx i).size ≤ 6000 := by
 obtain ⟨h1, h2⟩ := h.row i hi
 have := congrArg List.length h1
 rw [zw] at this
 have := h2.len
 omega
theorem zc6.slen {cols rows : Int} {m : Nat} {tx : Nat → ByteArray} {f : Nat → List Int} {row col : Int} (h : zc6 cols rows m tx f row col) : zgE tx m ≤ 6000 * m := by
 have : ∀ k, k ≤ m → Go.Proofs.YtinfdhbnljnifaaGreatDoor.zgE tx k ≤ 6000 * k := by
  intro k
  induction k with
  | zero => intro _; exact Nat.le_refl _
  | succ k ih =>
   intro hk
   have h1 := ih (by omega)
   have h2 := h.size (i := k) (by omega)
   rw [Go.Proofs.YtinfdhbnljnifaaGreatDoor.zgE]
   omega
 exact this m (Nat.le_refl _)
theorem cW_at {cs : List (List Int × Int)} {j : Nat} (hj : j < cs.length) : cW cs j = cs[j].2 := by simp [cW, List.getElem?_eq_getElem hj]
theorem zmD (P A B : List Int) (cols rows : Nat) (hc : 2 ≤ cols) (hc2 : cols ≤ 200) (hr : 1 ≤ rows) (hl : 4 * (P.length + A.length + B.length) + 12 ≤ 6000) :
  zc6 (cols : Int) (rows : Int) (zc7 (zn P ++ zn A ++ zn B) cols ((zn P).length + (zn A).length) rows) (layT (zn P ++ zn A ++ zn B) cols ((zn P).length + (zn A).length) rows) (fun i => zaL (zew (zn P ++ zn A ++ zn B) cols ((zn P).length + (zn A).length) (zcB (zn P ++ zn A ++ zn B) cols ((zn P).length + (zn A).length) rows + i))) ((zcN (zn P ++ zn A ++ zn B) cols ((zn P).length + (zn A).length) : Int) - (zcB (zn P ++ zn A ++ zn B) cols ((zn P).length + (zn A).length) rows : Int)) (zdG (zn P ++ zn A ++ zn B) cols ((zn P).length + (zn A).length)) := by
 have hg : ∀ c ∈ zn P ++ zn A ++ zn B, zaW c := by
  intro c hc
  simp only [List.mem_append] at hc
  rcases hc with (h | h) | h
  ·exact zfM _ c h
  ·exact zfM _ c h
  ·exact zfM _ c h
 have hw : zco (zn P ++ zn A ++ zn B) := by
  intro j hj
  have hm := List.getElem_mem hj
  have hG := hg _ hm
  rw [cW_at hj]
  generalize (zn P ++ zn A ++ zn B)[j] = c at hG
  obtain ⟨x, r, e1, hx, hs⟩ := zfH hG
  have h0 := hG
  unfold zaW at h0
  rw [e1, List.foldl_cons] at h0
  have e2 : clG [] x = [([x], wid x)] := by
   unfold clG za3
   rw [hs, if_pos hx]
   rfl
  rw [e2] at h0
  obtain ⟨_, h2⟩ := zg0 r [x] (wid x) c (fun y hy => (zge hG).2 y (by rw [e1]; simp [hy])) h0
  rw [h2]
  rcases zbM x with e0 | e0 | e0 <;> omega
 have hp : (zn P).length + (zn A).length ≤ (zn P ++ zn A ++ zn B).length := by simp only [List.length_append]; omega
 have ht : (zy (zn P ++ zn A ++ zn B)).length ≤ 6000 := by
  rw [zcA, zcA]
  have h1 := zdR P
  have h2 := zdR A
  have h3 := zdR B
  have e1 : zas P = zy (zn P) := rfl
  have e2 : zas A = zy (zn A) := rfl
  have e3 : zas B = zy (zn B) := rfl
  rw [e1] at h1
  rw [e2] at h2
  rw [e3] at h3
  simp only [List.length_append]
  omega
 generalize (zn P ++ zn A ++ zn B) = cs at *
 generalize (zn P).length + (zn A).length = p at *
 obtain ⟨k1, k2, k3, k4, k5⟩ := zkY (cs := cs) (cols := cols) (p := p) hr
 obtain ⟨c1, c2⟩ := znj hw hc hp
 refine ⟨by omega, ⟨by omega, by omega, c1, by omega⟩, c2, fun i hi => ?_⟩
 have hsub : ∀ c ∈ zew cs cols p (zcB cs cols p rows + i), zaW c := fun c hc => hg c (List.mem_of_mem_take (List.mem_of_mem_drop hc))
 have e1 : baL (layT cs cols p rows i) = zaO (zaL (zew cs cols p (zcB cs cols p rows + i))) := by
  unfold layT
  rw [zfh, zaC]
 refine ⟨e1, (zhv _ hsub).2, ?_, ?_, zjo hsub⟩
 ·show zcu (zaL _) ≤ _
  rw [zib _ hsub]
  exact (lay_wid hw hc hp _ (by omega)).2
 ·show (zaO (zaL _)).length ≤ 6000
  rw [← zaC]
  exact Nat.le_trans (zhd cs _ _) ht
def rab (bs : List Int) : Nat → List Int × Nat
 | 0 => ([], nxt bs 0)
 | k + 1 => ((rab bs k).1 ++ (([114, 111] : List Int).take (rdN bs (rab bs k).2 % 3) ++ [13, 10]), nxt bs (rab bs k).2)
def zda (bs : List Int) : Nat := rdN bs 0 % 7
theorem zgh (bs : List Int) : ∀ k, (rab bs k).1.length ≤ 4 * k
 | 0 => Nat.le_refl _
 | k + 1 => by
  have h1 := zgh bs k
  rw [rab]
  simp only [List.length_append, List.length_take, List.length_cons, List.length_nil]
  omega
theorem ro_ext : ∀ m, m < 3 → baL (({ data := #[114, 111] } : ByteArray).extract 0 m) = ([114, 111] : List Int).take m := by
 intro m hm
 match m, hm with
 | 0, _ => rfl
 | 1, _ => rfl
 | 2, _ => rfl
set_option maxRecDepth 20000 in
set_option maxHeartbeats 4000000 in
theorem zi4 (v : Value) (bs : List Int) (w : World) (hv : zx w .u8 v bs) (hB : zv bs) (hl : bs.length ≤ 16777216) :
  Calls Tryz.prog 24 #[v] w fun e w' => ∃ v', e = .returned v' ∧ zx w' .u8 v' (rab (bs.take 1000) (zda (bs.take 1000))).1 ∧ Ext w w' := by
 obtain ⟨i0, hi, hz0, hz1, hz2⟩ := info_parts zbP
 obtain ⟨va, vc, hvv, _, _⟩ := id hv
 subst hvv
 obtain ⟨cd, hcd⟩ : ∃ cd, cd = bs.take 1000 := ⟨_, rfl⟩
 have hBc : zv cd := by rw [hcd]; exact fun n hn => hB n (List.mem_of_mem_take hn)
 have hlc : cd.length ≤ 16777216 := by rw [hcd, List.length_take]; omega
 rw [← hcd]
 have HO := zh (zgS _ bs w hv hl)
 rw [← hcd] at HO
 clear hv hcd
 obtain ⟨hx, hx255⟩ := zor hBc 0
 obtain ⟨x, hxx⟩ : ∃ x, x = rdN cd 0 := ⟨_, rfl⟩
 obtain ⟨n, hn⟩ : ∃ n, n = x % 7 := ⟨_, rfl⟩
 have hn7 : n ≤ 6 := by omega
 have t7 : (x : Int).tmod 7 = (n : Int) := by rw [hn]; exact zjJ x 7
 have hrn : zda cd = n := by unfold zda; rw [← hxx, hn]
 rw [hrn]
 rw [← hxx] at hx
 have HX := zh hx
 clear hx hxx hrn hn
 go_enter Tryz.func24, Tryz.ntmps24
 go_wp2_with fail
 refine (zu HO).mono ?_
 rintro e w1 ⟨rfl, ⟨rv, hr1⟩, F1⟩
 have z1 : w.heap.size < w1.heap.size := zaj hr1.1
 obtain ⟨V, hV⟩ : ∃ V, V = w1.alloc (.cells #[] 5) := ⟨_, rfl⟩
 have EV : Ext w1 V := by rw [hV]; exact (Ext.refl _).alloc _
 have HN1 := zh (zb9 w.heap.size rv cd 0 V (hr1.ext EV) hBc hlc)
 rw [zu HX] at HN1
 have HS0 : Hid (StI w1 V w.heap.size rv cd (.slice (some ⟨w1.heap.size, 0, none⟩) 0 0) [] 0) := zh ⟨by rw [hV]; have h9 := zaD w1 5 1; exact h9, hr1.ext EV, Fr.of_ext EV⟩
 have HF1 := zh F1
 have HR1 := zh hr1
 have HV := zh hV
 clear HO hr1 F1 hV EV
 go_wp2_with fail
 rw [← zu HV]
 refine (zu HN1).mono ?_
 rintro e w2 ⟨rfl, hr2, f2⟩
 have HS1 := zh ((zu HS0).next z1 hr2 f2)
 rw [show (if 0 < cd.length then 0 + 1 else 0) = nxt cd 0 from rfl] at HS1
 clear hr2 f2 HS0 HN1 HV
 go_wp2_with fail
 go_loopw [4, 6] (fun o i wr => ∃ (k : Nat), k ≤ n ∧ i = .int .i64 k ∧ Hid (StI w1 wr w.heap.size rv cd o (rab cd k).1 (rab cd k).2)) (fun _ i _ => n - (intOf i).toNat)
 case atStart => exact ⟨0, Nat.zero_le _, rfl, HS1⟩
 case round =>
  clear HS1
  obtain ⟨k, hk, rfl, HS⟩ := hrel
  obtain ⟨zs, p, hzp⟩ : ∃ zs p, rab cd k = (zs, p) := ⟨_, _, rfl⟩
  have HZP := zh hzp
  rw [hzp] at HS
  have hzl : zs.length ≤ 4 * k := by have := zgh cd k; rw [hzp] at this; exact this
  clear hzp
  by_cases hlt : k < n
  ·have bk : (k : Int) < (n : Int) := by omega
   have wk : IntKind.i64.wrap ((k : Int) + 1) = (k : Int) + 1 := by rw [IntKind.wrap_i64] <;> omega
   obtain ⟨hy, hy255⟩ := zor hBc p
   obtain ⟨y, hyy⟩ : ∃ y, y = rdN cd p := ⟨_, rfl⟩
   have hnx := zh (zb9 w.heap.size rv cd p wr (zu HS).rd hBc hlc)
   rw [hy, ← hyy] at hnx
   obtain ⟨m, hm⟩ : ∃ m, m = y % 3 := ⟨_, rfl⟩
   have t3 : (y : Int).tmod 3 = (m : Int) := by rw [hm]; exact zjJ y 3
   have hm3 : m < 3 := by omega
   have HQ : Hid (rab cd (k + 1) = (zs ++ (([114, 111] : List Int).take m ++ [13, 10]), nxt cd p)) := zh (by rw [rab, zu HZP, hm, hyy])
   have hex := ro_ext m hm3
   obtain ⟨t, ht⟩ : ∃ t, t = ({ data := #[114, 111] } : ByteArray).extract 0 m := ⟨_, rfl⟩
   rw [← ht] at hex
   have htl : (baL t).length ≤ 2 := by rw [hex, List.length_take]; simp; omega
   have hmi : (m : Int) ≤ 2 := by omega
   rw [← hex] at HQ
   have HT := zh ht
   clear hy hyy hm hex ht
   go_wp2_with fail
   refine (zu hnx).mono ?_
   rintro e w3 ⟨rfl, hr1, fr1⟩
   have HS1 := zh ((zu HS).next z1 hr1 fr1)
   rw [show (if p < cd.length then p + 1 else p) = nxt cd p from rfl] at HS1
   clear hr1 fr1 HS hnx
   have htz : t.size = (baL t).length := (zw t).symm
   go_wp2_with (at_builtin; refine zaS.intro ?_)
   show wpList _ _ _ _ _ _
   rw [← zu HT]
   refine Lib.wpList_append_own_string _ rfl _ _ 22 9 rfl w1.heap.size 5 i0 Tryz.underlying22 Tryz.underlying9 hi hz0 hz1 hz2 _ _ _ rfl (zu HS1).own t rfl (by unfold maxLen; omega) (by omega) (by have := (zu HS1).fr.size; omega) ?_
   intro u7 u7w own9 grow9 _
   have e9 : Lib.strCells t = (baL t).map (Value.int .u8) := by have := zeB (zf t); rwa [zat] at this
   rw [e9] at own9
   have u7H := zh ((zu HS1).app z1 (zu HR1) (ps := baL t) htz.symm own9 grow9)
   clear own9 grow9 e9 HS1 HT
   have hl2 : (zs ++ baL t).length = zs.length + (baL t).length := List.length_append
   obtain ⟨U1, hU1⟩ : ∃ V, V = u7w.alloc (.cells #[.int .u8 13, .int .u8 10] 5) := ⟨_, rfl⟩
   have HS2 := zh ((zu u7H).ext (show Ext u7w U1 by rw [hU1]; exact (Ext.refl _).alloc _))
   have HSr : Hid (Src U1 1 (.slice (some ⟨u7w.heap.size, 0, none⟩) 2 2) 2 (([13, 10] : List Int).map (Value.int .u8))) := zh (by rw [hU1]; exact Src.made _ _ _ rfl (by simp [Value.oneCell']))
   have HU1 := zh hU1
   clear hU1 u7H
   go_wp2_with (at_builtin; refine zaS.intro ?_)
   show wpList _ _ _ _ _ _
   rw [← zu HU1]
   clear HU1
   refine zd rfl _ _ 22 rfl w1.heap.size 5 i0 (.int .u8 0) 1 1 Tryz.underlying22 hi hz0 hz1 hz2 rfl (by decide) _ _ _ rfl (zu HS2).own _ 2 (([13, 10] : List Int).map (Value.int .u8)) rfl (zu HSr) (by unfold maxLen; omega) (by omega) (by have := (zu HS2).fr.size; omega) ?_
   intro u8 u8w own9 grow9 _
   have u8H := zh ((zu HS2).app z1 (zu HR1) (ps := ([13, 10] : List Int)) rfl own9 grow9)
   clear own9 grow9 HSr HS2
   have HZ : Hid (zs ++ baL t ++ [13, 10] = (rab cd (k + 1)).1 ∧ nxt cd p = (rab cd (k + 1)).2) := zh (by rw [zu HQ]; exact ⟨by simp, rfl⟩)
   rw [(zu HZ).1, (zu HZ).2] at u8H
   clear HZ HQ
   go_wp2
   go_roundw
   case rel => exact ⟨k + 1, by omega, by go_num, u8H⟩
   case measure => simp [intOf]; omega
  ·obtain rfl : k = n := by omega
   have bk : ¬ (k : Int) < (k : Int) := by omega
   go_wp2
   go_ret
   exact ⟨_, rfl, by rw [zu HZP]; exact zz (zu HS).own, (zu HS).fr.ext (zu HF1) (fun q hq => by omega)⟩
theorem zbr.feedL {d : SD} {M N : Nat} (h : zbr d M N) (hM : 200 ≤ M) (xs : List Int) (hx : zv xs) (L : Nat) (hl : xs.length ≤ L) : zbr (d.feed zp xs) (M + 4 * L + 200) (N + L + 50) := by
 have hb := zeZ zp (fd (d.hold ++ xs)).1 h.ok h.wt hM
 have hc := zkl (d.hold ++ xs)
 rw [List.length_append] at hc
 have hh := h.ok.hold
 refine ⟨ziN zp h.ok xs, ?_, ?_, ?_⟩
 ·intro n hn
  have : n ∈ fdH (d.hold ++ xs) := hn
  have h2 : n ∈ d.hold ++ xs := List.mem_of_mem_drop this
  rcases List.mem_append.1 h2 with h3 | h3
  ·exact h.by' n h3
  ·exact hx n h3
 ·have h2 : WtB (d.acts zp (fd (d.hold ++ xs)).1) (M + 4 * L + 200) := hb.2.1.mono (by omega)
  exact h2
 ·have h3 := hb.2.2
  have := h.nb
  show (d.acts zp (fd (d.hold ++ xs)).1).nb ≤ _
  omega
theorem zbr.roomL {d : SD} {M N : Nat} (h : zbr d M N) (hM : 200 ≤ M) (hM2 : M ≤ 100000000) (hN : N ≤ 1000000) (n : Nat) (hn : n ≤ 1000000) : zcm d n :=
 ⟨h.ok, ⟨M, h.wt, hM, by omega⟩, by have := h.nb; omega⟩
theorem zbr.texts {d : SD} {M N : Nat} (h : zbr d M N) (hM : M ≤ 1048576) : d.Texts := fun i hi => Nat.le_trans (h.wt i hi) hM
theorem zeY {c r : Nat} (h1 : 2 ≤ c) (h2 : c ≤ 200) (h3 : 1 ≤ r) (h4 : r ≤ 100) : zbr (zap c r) 200 0 :=
 ⟨zkg h1 h2 h3 h4, fun n hn => by simp [zap] at hn, zo4 h2, Nat.le_refl _⟩
theorem zkh {c r : Nat} (h1 : 2 ≤ c) (h2 : c ≤ 200) (h3 : 1 ≤ r) (h4 : r ≤ 100) (up : Nat → ByteArray) : zfm (zap c r) up 0 := by
 refine ⟨⟨zkg h1 h2 h3 h4, by simp [zap], fun _ => ⟨rfl, rfl⟩, fun e => ?_, fun q _ => ⟨rfl, rfl⟩, rfl, fun h => by omega⟩, fun p _ q => ⟨rfl, rfl⟩, fun p q _ => ⟨rfl, rfl⟩, rfl, rfl, fun k hk => by omega⟩
 have e2 : ((0 : Nat) : Int) = (c : Int) := e
 omega
theorem zne {d : SD} {up : Nat → ByteArray} {n : Nat} (h : zfm d up n) (r : List Int) (hf : Fit d.cols r) (hu : up n = zaR (zo (zaO r))) :
  zfm (d.feed zp (zaO r ++ [13, 10])) up (n + 1) ∧ (d.feed zp (zaO r ++ [13, 10])).cols = d.cols ∧ (d.feed zp (zaO r ++ [13, 10])).rows = d.rows := by
 obtain ⟨a1, a2⟩ := zgj r hf.clean
 obtain ⟨b1, b2⟩ := zdx a2 [13, 10]
 have e : d.feed zp (zaO r ++ [13, 10]) = (d.acts zp (r.map zby.shw)).acts zp [.shw 13, .shw 10] := by
  rw [zbG h.hold (by rw [b2, ze4.2]), b1, a1, ze4.1, zcI]
 have hout : Out (d.feed zp (zaO r ++ [13, 10])) := by
  rw [zbG h.hold (by rw [b2, ze4.2])]
  exact zdZ _ h.at0.ok h.out
 rw [e] at hout ⊢
 obtain ⟨c', e', h', s'⟩ := zes r h.at0 hf.clean (by have := hf.wide; simp; omega) (by simpa using hf.len) (.inr hf.head)
 obtain ⟨k0, k1, k2, k3, k4, k5, k6⟩ := zjY h' (s'.below h.below)
 obtain ⟨j1, _⟩ := zjB (d.acts zp (r.map zby.shw))
 have hA := s'.absR
 have hrow := h.row
 refine ⟨⟨k0, k1, hout, by rw [k6, s'.hold, h.hold], by rw [k2, hA, hrow], fun k hk => ?_⟩, by rw [k5, s'.cols], by rw [j1, s'.rows]⟩
 rw [k3 k (by omega)]
 by_cases hkn : k = n
 ·subst hkn
  rw [hu, ← hrow, ← hA, k4]
  simp
 ·rw [s'.absT k (by omega)]
  exact h.above k (by omega)
theorem zgL : ∀ m, ∀ r ∈ ([114, 111] : List Int).take m, za5 r := by
 intro m r hr
 have h := List.mem_of_mem_take hr
 simp at h
 rcases h with rfl | rfl <;> exact ⟨by decide, by omega, by omega⟩
theorem ro_fit {cols : Int} (hc : 2 ≤ cols) (m : Nat) (hm : m < 3) : Fit cols (([114, 111] : List Int).take m) ∧ zaO (([114, 111] : List Int).take m) = ([114, 111] : List Int).take m := by
 have w1 : wid 114 = 1 := by decide
 have w2 : wid 111 = 1 := by decide
 match m, hm with
 | 0, _ => exact ⟨⟨zgL 0, by simp [zcu]; omega, by decide, fun r hr => by simp at hr⟩, rfl⟩
 | 1, _ => exact ⟨⟨zgL 1, by simp [zcu, w1]; omega, by decide, fun r hr => by simp at hr; subst hr; rw [w1]; decide⟩, by decide⟩
 | 2, _ => exact ⟨⟨zgL 2, by simp [zcu, w1, w2]; omega, by decide, fun r hr => by simp at hr; subst hr; rw [w1]; decide⟩, by decide⟩
def upR (bs : List Int) (k : Nat) : ByteArray := zaR (zo (([114, 111] : List Int).take (rdN bs (rab bs k).2 % 3)))
theorem zh8 {c r : Nat} (h1 : 2 ≤ c) (h2 : c ≤ 200) (h3 : 1 ≤ r) (h4 : r ≤ 100) (bs : List Int) : ∀ k, zfm ((zap c r).feed zp (rab bs k).1) (upR bs) k ∧ ((zap c r).feed zp (rab bs k).1).cols = c ∧ ((zap c r).feed zp (rab bs k).1).rows = r
 | 0 => by
  have e : (zap c r).feed zp [] = zap c r := by
   rw [zbG (d := zap c r) rfl (x := []) rfl]
   rfl
  show zfm ((zap c r).feed zp []) _ _ ∧ _
  rw [show (rab bs 0).1 = [] from rfl, e]
  exact ⟨zkh h1 h2 h3 h4 _, rfl, rfl⟩
 | k + 1 => by
  obtain ⟨g1, g2, g3⟩ := zh8 h1 h2 h3 h4 bs k
  obtain ⟨f1, f2⟩ := ro_fit (cols := (c : Int)) (by omega) (rdN bs (rab bs k).2 % 3) (Nat.mod_lt _ (by decide))
  rw [show (rab bs (k + 1)).1 = (rab bs k).1 ++ (zaO (([114, 111] : List Int).take (rdN bs (rab bs k).2 % 3)) ++ [13, 10]) from by rw [f2]; rfl, ← zjD]
  obtain ⟨q1, q2, q3⟩ := zne g1 _ (by rw [g2]; exact f1) (by rw [f2]; rfl)
  exact ⟨q1, q2.trans g2, q3.trans g3⟩
theorem zfT (bs : List Int) : ∀ k, zv (rab bs k).1
 | 0 => fun n hn => by simp [rab] at hn
 | k + 1 => by
  intro n hn
  rw [rab] at hn
  simp only [List.mem_append] at hn
  rcases hn with h | h | h
  ·exact zfT bs k n h
  ·have := List.mem_of_mem_take h
   simp at this
   omega
  ·simp at h
   omega
def zb0 : List Int → Nat
 | [] => 0
 | x :: xs => (if x = 10 then 0 else 1) + zb0 xs
theorem zfS : ∀ (a b : List Int), zb0 (a ++ b) = zb0 a + zb0 b
 | [], b => by simp [zb0]
 | x :: a, b => by rw [List.cons_append, zb0, zb0, zfS a b]; omega
theorem zn2 : ∀ m, m < 3 → zb0 (([114, 111] : List Int).take m ++ [13, 10]) + 1 = (([114, 111] : List Int).take m ++ [13, 10]).length := by decide
theorem zig (bs : List Int) : ∀ k, zb0 (rab bs k).1 + k = (rab bs k).1.length
 | 0 => rfl
 | k + 1 => by
  have h1 := zig bs k
  have h2 := zn2 (rdN bs (rab bs k).2 % 3) (Nat.mod_lt _ (by decide))
  rw [rab, zfS, List.length_append]
  omega
set_option maxRecDepth 10000 in
set_option maxHeartbeats 2000000 in
theorem zjt (d : SD) (gv hv bv rv : Value) (n : Nat) (ty : Nat → ByteArray) (row col : Int) (w : World) (h : zbY w d gv hv bv) (hr : zam w rv n (fun j => .string (ty j))) (hOK : OkP d) (hF : d.Fits) (hT : d.Texts) (hn : n ≤ 1048576)
  (h1 : zfL d = n) (h2 : ∀ j, j < n → zdt d j = ty j) (h3 : (d.nb : Int) + d.row = row) (h4 : d.col = col) (h5 : d.late = false) (h6 : d.hold = []) :
  Calls Tryz.prog 29 #[zbT d gv hv bv, rv, .int .i64 row, .int .i64 col] w fun e w' => e = .returned (.bool true) ∧ Ext w w' := by
 have HL := zh (fun U (hU : Ext w U) => zeD d gv hv bv true (by simp [hOK]) U (h.ext hU) hF hT)
 have HS := zh (fun U v (hU : Ext w U) (hv : zam U v n (fun j => .string (zdt d j))) => zhD v rv n n (zdt d) ty U hv (hr.ext hU) hn hn true (by simp only [true_iff]; exact ⟨rfl, h2⟩))
 obtain ⟨ga, gc, ha, hc, ba, bc, rfl, rfl, rfl⟩ := h.forms
 obtain ⟨ra, rc, rfl, _, _⟩ := hr
 have hrw := hOK.row
 have hs := zae hOK
 have hnb : d.nb ≤ 16777216 := hF.4
 rw [h1, if_pos rfl] at HL
 subst h3
 subst h4
 have hw : IntKind.i64.wrap ((d.nb : Int) + d.row) = (d.nb : Int) + d.row := by rw [IntKind.wrap_i64] <;> omega
 have H5 := zh h5
 have H6 : Hid (d.hold.length = 0) := zh (by rw [h6]; rfl)
 unfold zbT at *
 obtain ⟨V, hV⟩ : ∃ V, V = w.alloc (.cells #[.int .i64 d.cols, .int .i64 d.rows, .slice ga d.R gc, .int .i64 d.row, .int .i64 d.col, .bool d.late, .slice ha d.hold.length hc, .slice ba d.nb bc] 26) := ⟨_, rfl⟩
 have EV : Ext w V := by rw [hV]; exact (Ext.refl _).alloc _
 have HB : Hid (V.heap[w.heap.size]? = some (.cells #[.int .i64 d.cols, .int .i64 d.rows, .slice ga d.R gc, .int .i64 d.row, .int .i64 d.col, .bool d.late, .slice ha d.hold.length hc, .slice ba d.nb bc] 26 (0, 0))) := zh (by rw [hV]; exact zk _ _)
 have HV := zh hV
 have HE := zh EV
 clear h hV EV h5 h6 hOK hT h2 h1 hs hF
 go_enter Tryz.func29, Tryz.ntmps29
 go_wp2_with (show wpList _ _ _ (List.cons ⟨_, .load _ _, _, _, _, _⟩ _) _ _; rw [← zu HV]; refine zl rfl 26 _ rfl w.heap.size rfl _ _ _ _ (zu HB) Tryz.underlying26 rfl zoS ?_)
 refine ((zu HL) V (zu HE)).mono ?_
 rintro e w1 ⟨lv, rfl, ol, F1⟩
 have HS1 := zh ((zu HS) w1 lv ((zu HE).trans F1) ol.reads)
 obtain ⟨la, lc, rfl, _⟩ := ol.reads
 have HB1 := F1.hk HB
 have HE1 := Hid.ht HE F1
 clear ol F1 HL HS HB HE
 go_wp2_with fail
 refine (zu HS1).mono ?_
 rintro e w2 ⟨rfl, F2⟩
 have HB2 := F2.hk HB1
 have HE2 := Hid.ht HE1 F2
 have c3 := zg (zu HB2) 3 _ rfl
 have c4 := zg (zu HB2) 4 _ rfl
 have c5 := zg (zu HB2) 5 _ rfl
 have c6 := zg (zu HB2) 6 _ rfl
 have c7 := zg (zu HB2) 7 _ rfl
 rw [zu H5] at c5
 rw [zu H6] at c6
 clear F2 HS1 HB1 HE1 HB2
 go_wp2
 go_ret
 exact ⟨rfl, zu HE2⟩
theorem zk5 (zs : List Int) (i : Nat) (hi : i < zs.length) : zb0 (zs.take (i + 1)) = zb0 (zs.take i) + (if at0 zs i = 10 then 0 else 1) := by
 rw [List.take_succ_eq_append_getElem hi, zfS]
 have : at0 zs i = zs[i] := by simp [at0, hi]
 rw [this]
 simp [zb0]
theorem zjH : ∀ zs : List Int, zb0 zs ≤ zs.length
 | [] => Nat.le_refl _
 | x :: xs => by
  have := zjH xs
  rw [zb0, List.length_cons]
  split <;> omega
set_option maxRecDepth 10000 in
set_option maxHeartbeats 1000000 in
theorem zjn (v : Value) (zs : List Int) (w : World) (hv : zx w .u8 v zs) (hl : zs.length ≤ 1048576) :
  Calls Tryz.prog 26 #[v] w fun e w' => e = .returned (.int .i64 (zb0 zs : Int)) ∧ Ext w w' := by
 have HI := zh hv
 obtain ⟨va, vc, rfl, _, _⟩ := id hv
 clear hv
 go_enter Tryz.func26, Tryz.ntmps26
 go_wp2
 go_loopw [3, 4] (fun n i wr => ∃ (k : Nat), k ≤ zs.length ∧ i = .int .i64 k ∧ n = .int .i64 (zb0 (zs.take k) : Int) ∧ Ext w wr) (fun _ i _ => zs.length - (intOf i).toNat)
 case atStart => exact ⟨0, Nat.zero_le _, rfl, rfl, Ext.refl _⟩
 case round =>
  obtain ⟨k, hk, rfl, rfl, E⟩ := hrel
  by_cases hlt : k < zs.length
  ·have bk : (k : Int) < (zs.length : Int) := by omega
   have wk : IntKind.i64.wrap ((k : Int) + 1) = (k : Int) + 1 := by rw [IntKind.wrap_i64] <;> omega
   obtain ⟨ao, cap, e9, _, hx9⟩ := (zu HI).ext E
   obtain ⟨g1, g2, g3⟩ := Value.slice.inj e9
   subst g1
   obtain ⟨b, off, e8, hc⟩ := hx9 (by omega)
   subst e8
   have ck := hc k hlt
   have hN := zk5 zs k hlt
   have hle := zjH (zs.take k)
   rw [List.length_take] at hle
   have wn : IntKind.i64.wrap ((zb0 (zs.take k) : Int) + 1) = (zb0 (zs.take k) : Int) + 1 := by rw [IntKind.wrap_i64] <;> omega
   by_cases h10 : at0 zs k = 10
   ·rw [if_pos h10] at hN
    rw [h10] at ck
    go_wp2
    go_roundw
    case rel => exact ⟨k + 1, by omega, by go_num, by rw [hN]; rfl, E⟩
    case measure => simp [intOf]; omega
   ·rw [if_neg h10] at hN
    have h10' : (at0 zs k == 10) = false := by simpa using h10
    go_wp2
    go_roundw
    case rel => exact ⟨k + 1, by omega, by go_num, by rw [hN]; go_num, E⟩
    case measure => simp [intOf]; omega
  ·obtain rfl : k = zs.length := by omega
   have bk : ¬ ((zs.length : Nat) : Int) < (zs.length : Int) := by omega
   go_wp2
   go_ret
   exact ⟨rfl, E⟩
theorem Trim_is (s : ByteArray) (w : World) (hs : s.size ≤ 1048576) :
  Calls Tryz.prog 28 #[.string s] w fun e w' => e = .returned (.string (zaR s)) ∧ w' = w := by
 have H := zh (zll s w hs)
 go_enter Tryz.func28, Tryz.ntmps28
 go_wp2_with fail
 refine (zu H).mono ?_
 rintro e w' ⟨rfl, rfl⟩
 go_wp2
 go_ret
 exact ⟨rfl, rfl⟩
end Go.Proofs.YtinfdhbnljnifaaGreatDoor
