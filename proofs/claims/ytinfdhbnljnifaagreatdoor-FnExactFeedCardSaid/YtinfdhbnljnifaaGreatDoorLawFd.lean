import Derived.Test.YtinfdhbnljnifaaGreatDoorFsS
import Derived.Test.YtinfdhbnljnifaaGreatDoorKdScr2
import Derived.Test.YtinfdhbnljnifaaGreatDoorFsI
import Derived.Test.YtinfdhbnljnifaaGreatDoorGenFeed
import Derived.Test.YtinfdhbnljnifaaGreatDoorFsZ
import Derived.Test.YtinfdhbnljnifaaGreatDoorCameScr
import Derived.Test.YtinfdhbnljnifaaGreatDoorHTab
namespace Go.Proofs.YtinfdhbnljnifaaGreatDoor
open Go.RowKit
theorem OwnO.notRow {w : World} {base base' : Nat} {T T' : TypeId} {v u : Value} {n m size : Nat} {A : Nat → Value} {xs : List Value} (h : OwnO w base T v n A) (hy : w.ownsRow base' T' size u m xs) (hT : T ≠ T') {g : Nat} (hg : u.ownBlock = some g) : v.ownBlock ≠ some g := by
  intro e
  obtain ⟨g', k', cap', cur, e1, _, hg', _⟩ := h
  rw [e1] at e
  have e2 : g' = g := by simpa [Value.ownBlock] using e
  subst e2
  rcases hy.2 with ⟨e3, _⟩ | ⟨g2, _, cur2, e3, _, hg2, _⟩
  · rw [e3] at hg; simp [Value.ownBlock] at hg
  · rw [e3] at hg
    have e4 : g2 = g' := by simpa [Value.ownBlock] using hg
    subst e4
    rw [hg'] at hg2
    simp at hg2
    exact hT hg2.2
def OwnGF (w : World) (base : Nat) (v : Value) (rv : Nat → Value) (R : Nat) (C : Nat → Nat) (A B : Nat → Nat → Value) : Prop :=
  OwnO w base 81 v R rv ∧ (∀ i, i < R → Own2 w base 83 (rv i) (C i) (A i) (B i)) ∧ (∀ i j g, i < j → j < R → (rv i).ownBlock = some g → (rv j).ownBlock ≠ some g)
section
variable {w w' : World} {base : Nat} {v : Value} {rv : Nat → Value} {R : Nat} {C : Nat → Nat} {A B : Nat → Nat → Value}
theorem OwnGF.ext (h : OwnGF w base v rv R C A B) (he : Ext w w') : OwnGF w' base v rv R C A B := ⟨h.1.ext he, fun i hi => (h.2.1 i hi).ext he, h.2.2⟩
theorem OwnGF.reads (h : OwnGF w base v rv R C A B) : GridAt w v R C A B := ⟨rv, h.1.reads, fun i hi => (h.2.1 i hi).reads⟩
theorem OwnGF.foot (h : OwnGF w base v rv R C A B) {g : Nat} (hg : GFoot v rv R g) : base ≤ g ∧ g < w.heap.size := by
  rcases hg with hg | ⟨i, hi, hg⟩
  · exact h.1.lt g hg
  · exact (h.2.1 i hi).lt g hg
theorem OwnGF.fr {S : Nat → Prop} (h : OwnGF w base v rv R C A B) (hf : Fr S w w') (hS : ∀ g, GFoot v rv R g → ¬ S g) : OwnGF w' base v rv R C A B :=
  ⟨h.1.fr hf (fun g hg => hS g (.inl hg)), fun i hi => (h.2.1 i hi).fr hf (fun g hg => hS g (.inr ⟨i, hi, hg⟩)), h.2.2⟩
theorem OwnGF.apart (h : OwnGF w base v rv R C A B) {i g : Nat} (hi : i < R) (hg : (rv i).ownBlock = some g) : v.ownBlock ≠ some g := by
  obtain ⟨zs, h2, _⟩ := h.2.1 i hi
  exact h.1.notRow h2 (by decide) hg
theorem OwnGF.row {A' B' : Nat → Value} {j : Nat} (h : OwnGF w base v rv R C A B) (hj : j < R) (ho : Own2 w' base 83 (rv j) (C j) A' B') (hf : Fr (fun g => (rv j).ownBlock = some g) w w') :
    OwnGF w' base v rv R C (fun i => if i = j then A' else A i) (fun i => if i = j then B' else B i) := by
  refine ⟨h.1.fr hf (fun g hg e => h.apart hj e hg), fun i hi => ?_, h.2.2⟩
  dsimp only
  by_cases e : i = j
  · subst e; rw [if_pos rfl, if_pos rfl]; exact ho
  · rw [if_neg e, if_neg e]
    refine (h.2.1 i hi).fr hf (fun g hg e2 => ?_)
    rcases Nat.lt_or_gt_of_ne e with h5 | h5
    · exact h.2.2 i j g h5 hj hg e2
    · exact h.2.2 j i g h5 hi e2 hg
theorem OwnGF.congr {A' B' : Nat → Nat → Value} (h : OwnGF w base v rv R C A B) (e : ∀ i, i < R → A i = A' i ∧ B i = B' i) : OwnGF w base v rv R C A' B' :=
  ⟨h.1, fun i hi => by rw [← (e i hi).1, ← (e i hi).2]; exact h.2.1 i hi, h.2.2⟩
end
set_option maxHeartbeats 1000000 in
theorem markCellSF_any (base : Nat) (v : Value) (rv : Nat → Value) (R : Nat) (C : Nat → Nat) (A B : Nat → Nat → Value) (k : Int) (w : World) (hv : OwnGF w base v rv R C A B) (hn : R ≤ 1048576) (hC : ∀ i, i < R → C i ≤ 1048576) (hS : ∀ i, i ≤ R → 0 ≤ gk k C i ∧ gk k C i ≤ 1099511627776) :
    Calls Tryz.prog 66 #[v, .int .i64 k] w fun e w' => e = .returned (.int .i64 (gk k C R)) ∧ OwnGF w' base v rv R C (fun i => mkT (gk k C i)) (fun i => mkH (gk k C i)) ∧ Fr (GFoot v rv R) w w' := by
  have HV := hide hv
  have HC := hide hC
  have HSM := hide hS
  obtain ⟨g, k9, cap, hvv⟩ : ∃ g k9 cap, v = .slice (some ⟨g, k9, none⟩) R cap := by obtain ⟨g, k9, cap, _, e, _⟩ := id hv.1; exact ⟨g, k9, cap, e⟩
  subst hvv
  clear hv hC hS
  go_enter Tryz.func66, Tryz.ntmps66
  go_wp2
  go_loopw [1, 5] (fun a i wr => ∃ j : Nat, j ≤ R ∧ a = .int .i64 (gk k C j) ∧ i = .int .i64 j ∧ Hid (OwnGF wr base (.slice (some ⟨g, k9, none⟩) R cap) rv R C (fun i => if i < j then mkT (gk k C i) else A i) (fun i => if i < j then mkH (gk k C i) else B i)) ∧ Hid (Fr (GFoot (.slice (some ⟨g, k9, none⟩) R cap) rv R) w wr)) (fun _ i _ => R - (intOf i).toNat)
  case atStart => exact ⟨0, Nat.zero_le _, rfl, rfl, (unhide HV).congr (fun i hi => ⟨by simp, by simp⟩), Fr.refl _ _⟩
  case round =>
    obtain ⟨j, hj, rfl, rfl, HO, HF⟩ := hrel
    by_cases hlt : j < R
    · have bj : (j : Int) < (R : Int) := by omega
      have c0 := ((unhide HO).1.cellF hlt)
      have hk1 := (unhide HSM) j (by omega)
      have hst : Hid (gk k C (j + 1) = gk k C j + 2 * (C j : Int)) := rfl
      have hcon := hide (markCellS_any base (rv j) (C j) _ _ (gk k C j) wr ((unhide HO).2.1 j hlt) ((unhide HC) j hlt) hk1.1 hk1.2)
      go_wp2_with fail
      refine (unhide hcon).mono ?_
      rintro e w1 ⟨rfl, ho, hf⟩
      have HS := hide (((unhide HO).row hlt ho hf).congr (A' := fun i => if i < j + 1 then mkT (gk k C i) else A i) (B' := fun i => if i < j + 1 then mkH (gk k C i) else B i) (fun i hi => by
        by_cases e : i = j
        · subst e
          rw [if_pos rfl, if_pos rfl, if_pos (by omega), if_pos (by omega)]
          exact ⟨rfl, rfl⟩
        · rw [if_neg e, if_neg e]
          by_cases e2 : i < j
          · rw [if_pos e2, if_pos e2, if_pos (by omega), if_pos (by omega)]; exact ⟨rfl, rfl⟩
          · rw [if_neg e2, if_neg e2, if_neg (by omega), if_neg (by omega)]; exact ⟨rfl, rfl⟩))
      have HF2 : Hid (Fr (GFoot (.slice (some ⟨g, k9, none⟩) R cap) rv R) w w1) := by
        have h1 := unhide HF
        exact ⟨hf.os.trans h1.os, hf.tape.trans h1.tape, hf.output.trans h1.output, Nat.le_trans h1.size hf.size, fun q hq hn => (hf.block q (Nat.lt_of_lt_of_le hq h1.size) (fun e => hn (.inr ⟨j, hlt, e⟩))).trans (h1.block q hq hn)⟩
      clear ho hf
      go_wp2
      go_roundw
      case rel => exact ⟨j + 1, by omega, by rw [hst.out], by go_num, HS, HF2⟩
      case measure => simp [intOf]; omega
    · obtain rfl : j = R := by omega
      have HFIN := hide ((unhide HO).congr (A' := fun i => mkT (gk k C i)) (B' := fun i => mkH (gk k C i)) (fun i hi => ⟨by simp [hi], by simp [hi]⟩))
      go_wp2
      go_ret
      exact ⟨rfl, unhide HFIN, unhide HF⟩
def OwnFS (w : World) (base : Nat) (d : SD) (gv : Value) (rv : Nat → Value) (hv bv : Value) : Prop :=
  OwnGF w base gv rv d.R d.C (fun i j => .string (d.tx i j)) (fun i j => .bool (d.hf i j)) ∧ w.ownsRow base 5 1 hv d.hold.length (d.hold.map (Value.int .u8)) ∧ Own1 w base 9 bv d.nb (fun j => .string (d.bk j))
section
variable {w w' : World} {base : Nat} {d : SD} {gv : Value} {rv : Nat → Value} {hv bv : Value}
theorem OwnF.toS (h : OwnF w base d gv rv hv bv) : OwnFS w base d gv rv hv bv := ⟨⟨h.grid, h.row, h.apart⟩, h.hold, h.back⟩
theorem OwnFS.ext (h : OwnFS w base d gv rv hv bv) (he : Ext w w') : OwnFS w' base d gv rv hv bv := ⟨h.1.ext he, he.owns h.2.1, h.2.2.ext he⟩
theorem OwnFS.reads (h : OwnFS w base d gv rv hv bv) : ScrAt w d gv hv bv := ⟨h.1.reads, ints_of_owns h.2.1, h.2.2.reads⟩
theorem OwnFS.foot (h : OwnFS w base d gv rv hv bv) {g : Nat} (hg : SFoot d gv rv hv bv g) : base ≤ g ∧ g < w.heap.size := by
  rcases hg with hg | hg | hg
  · exact h.1.foot hg
  · exact h.2.1.lt g hg
  · exact h.2.2.lt g hg
theorem OwnFS.fr {S : Nat → Prop} (h : OwnFS w base d gv rv hv bv) (hf : Fr S w w') (hS : ∀ g, SFoot d gv rv hv bv g → ¬ S g) : OwnFS w' base d gv rv hv bv :=
  ⟨h.1.fr hf (fun g hg => hS g (.inl hg)), hf.owns h.2.1 (fun g hg => hS g (.inr (.inl hg))), h.2.2.fr hf (fun g hg => hS g (.inr (.inr hg)))⟩
theorem OwnFS.kinds (h : OwnFS w base d gv rv hv bv) :
    (∀ g, GFoot gv rv d.R g → hv.ownBlock ≠ some g ∧ bv.ownBlock ≠ some g) ∧ (∀ g, hv.ownBlock = some g → bv.ownBlock ≠ some g) := by
  obtain ⟨⟨a1, a2, _⟩, a3, ⟨zs, a4, _⟩⟩ := h
  refine ⟨fun g hg => ?_, fun g hg => owns_apart a3 a4 (by decide) hg⟩
  rcases hg with hg | ⟨i, hi, hg⟩
  · exact ⟨fun e => a1.notRow a3 (by decide) e hg, fun e => a1.notRow a4 (by decide) e hg⟩
  · obtain ⟨xs, b1, _⟩ := a2 i hi
    exact ⟨owns_apart b1 a3 (by decide) hg, owns_apart b1 a4 (by decide) hg⟩
end
set_option maxHeartbeats 2000000 in
theorem markScreenF_any (base : Nat) (d : SD) (gv : Value) (rv : Nat → Value) (hv bv : Value) (k : Int) (w : World) (h : OwnFS w base d gv rv hv bv) (hF : d.Fits) (hS : d.Small k) :
    Calls Tryz.prog 19 #[scrV d gv hv bv, .int .i64 k] w fun e w' => e = .returned (.int .i64 (sk3 k d)) ∧ OwnFS w' base (mkSD k d) gv rv hv bv ∧ Fr (SFoot d gv rv hv bv) w w' := by
  obtain ⟨f1, f2, f3, f4⟩ := hF
  have HH := hide h
  have HF2 := hide f2
  have HSM := hide hS
  have hk1 := hS d.R (Nat.le_refl _)
  have hs1 : Hid (sk1 k d = gk k d.C d.R) := rfl
  have hs2 : Hid (sk2 k d = sk1 k d + (d.hold.length : Int)) := rfl
  have hs3 : Hid (sk3 k d = sk2 k d + (d.nb : Int)) := rfl
  rw [← hs1.out] at hk1
  have hk2 : 0 ≤ sk2 k d ∧ sk2 k d ≤ 549756862464 := by rw [hs2.out]; omega
  obtain ⟨kd1, kd2⟩ := h.kinds
  have K1 := hide kd1
  have K2 := hide kd2
  clear h f2 hS kd1 kd2
  unfold scrV
  go_enter Tryz.func19, Tryz.ntmps19
  go_wp2_with fail
  refine (markCellSF_any base gv rv d.R d.C _ _ k _ ((unhide HH).1.ext ((Ext.refl _).alloc _)) f1 (unhide HF2) (fun i hi => by have := (unhide HSM) i hi; omega)).mono ?_
  rw [← hs1.out]
  rintro e w1 ⟨rfl, og1, fr1⟩
  have E0 : Ext w (w.alloc (.cells #[.int .i64 d.cols, .int .i64 d.rows, gv, .int .i64 d.row, .int .i64 d.col, .bool d.late, hv, bv] 26)) := (Ext.refl _).alloc _
  have oh1 := fr1.owns (E0.owns (unhide HH).2.1) (fun g hg e => ((unhide K1) g e).1 hg)
  have ob1 := ((unhide HH).2.2.ext E0).fr fr1 (fun g hg e => ((unhide K1) g e).2 hg)
  have hblk : ∀ g, SFoot d gv rv hv bv g → g < w.heap.size := fun g hg => ((unhide HH).foot hg).2
  have HBLK := hide hblk
  have hbox : ∀ o, w1.cell? ⟨w.heap.size, o, none⟩ = (w.alloc (.cells #[.int .i64 d.cols, .int .i64 d.rows, gv, .int .i64 d.row, .int .i64 d.col, .bool d.late, hv, bv] 26)).cell? ⟨w.heap.size, o, none⟩ := fun o => by
    refine World.cell?_of_block (a := ⟨w.heap.size, o, none⟩) (fr1.block _ (by simp) (fun e => ?_))
    have := hblk w.heap.size (.inl e); omega
  have b6 := hbox 6
  have b7 := hbox 7
  simp [go_sem] at b6 b7
  have FR1 := hide (Fr.trans (Fr.of_ext (S := SFoot d gv rv hv bv) E0) (fr1.mono (fun k hk => .inl hk)))
  have OG1 := hide og1
  have OB1 := hide ob1
  clear hbox hblk og1 ob1 fr1
  go_wp2_with fail
  refine (markByteS_any base hv _ _ (sk1 k d) _ oh1 (by omega) hk1.1 (by omega)).mono ?_
  rw [← hs2.out]
  rintro e w2 ⟨rfl, oh2, gr2⟩
  have fr2 : Fr (fun g => hv.ownBlock = some g) w1 w2 := (Fr.refl _ _).grown gr2 (fun q hq => hq)
  have og2 := (unhide OG1).fr fr2 (fun g hg e => ((unhide K1) g hg).1 e)
  have ob2 := (unhide OB1).fr fr2 (fun g hg e => (unhide K2) g e hg)
  have b72 : w2.cell? ⟨w.heap.size, 7, none⟩ = some bv := by
    refine (World.cell?_of_block (a := ⟨w.heap.size, 7, none⟩) (fr2.block _ (lt_of_cell b7) (fun e => ?_))).trans b7
    have := (unhide HBLK) w.heap.size (.inr (.inl e)); omega
  have FR2 := hide ((unhide FR1).trans (fr2.mono (fun k hk => .inr (.inl hk))))
  have OG2 := hide og2
  have OH2 := hide oh2
  clear og2 oh2 fr2 gr2 oh1 b6 b7
  go_wp2_with fail
  refine (markStringS_any base bv d.nb _ (sk2 k d) _ ob2 (by omega) hk2.1 (by omega)).mono ?_
  rw [← hs3.out]
  rintro e w3 ⟨rfl, ob3, fr3⟩
  have og3 := (unhide OG2).fr fr3 (fun g hg e => ((unhide K1) g hg).2 e)
  have oh3 := fr3.owns (unhide OH2) (fun g hg e => (unhide K2) g hg e)
  have FR3 := hide ((unhide FR2).trans (fr3.mono (fun k hk => .inr (.inr hk))))
  have HFIN : Hid (OwnFS w3 base (mkSD k d) gv rv hv bv) := by
    refine ⟨og3, ?_, ob3⟩
    show w3.ownsRow base 5 1 hv (mkU8 (sk1 k d) d.hold.length).length ((mkU8 (sk1 k d) d.hold.length).map (Value.int .u8))
    rw [mkU8_len]; exact oh3
  clear og3 oh3 ob3 fr3
  go_wp2
  go_ret
  exact ⟨rfl, unhide HFIN, unhide FR3⟩
def fedK (d : SD) : Kd where
  R w v := ∃ gv hv bv, v = scrV d gv hv bv ∧ ScrAt w d gv hv bv
  O w b S v := ∃ gv rv hv bv, v = scrV d gv hv bv ∧ OwnFS w b d gv rv hv bv ∧ ∀ g, S g ↔ SFoot d gv rv hv bv g
  rext := by rintro w w' v ⟨gv, hv, bv, e, h⟩ he; exact ⟨gv, hv, bv, e, h.ext he⟩
  oext := by rintro w w' b S v ⟨gv, rv, hv, bv, e, h, hS⟩ he; exact ⟨gv, rv, hv, bv, e, h.ext he, hS⟩
  ofr := by rintro w w' b S S' v ⟨gv, rv, hv, bv, e, h, hS⟩ hf hd; exact ⟨gv, rv, hv, bv, e, h.fr hf (fun g hg => hd g ((hS g).2 hg)), hS⟩
  reads := by rintro w b S v ⟨gv, rv, hv, bv, e, h, hS⟩; exact ⟨gv, hv, bv, e, h.reads⟩
  lt := by rintro w b S v ⟨gv, rv, hv, bv, e, h, hS⟩ g hg; exact h.foot ((hS g).1 hg)
theorem fedK_shape {d : SD} {w : World} {v : Value} (h : (fedK d).R w v) : ∃ ga gc ha hc ba bc, v = .agg #[.int .i64 d.cols, .int .i64 d.rows, .slice ga d.R gc, .int .i64 d.row, .int .i64 d.col, .bool d.late, .slice ha d.hold.length hc, .slice ba d.nb bc] := scrK_shape h
theorem fedK_own {d : SD} {w : World} {b : Nat} {gv : Value} {rv : Nat → Value} {hv bv : Value} (h : OwnF w b d gv rv hv bv) : (fedK d).O w b (SFoot d gv rv hv bv) (scrV d gv hv bv) := ⟨gv, rv, hv, bv, rfl, h.toS, fun _ => Iff.rfl⟩
theorem fedK_eq (d : SD) (hF : d.Fits) : EqOk 17 (fedK d) := scrK_eq d hF
theorem fedK_mark (d : SD) (hF : d.Fits) (hs : sumC d.C d.R ≤ 1073741824) : MarkOk 19 (fedK d) (fun k => fedK (mkSD k d)) (scrM d) := by
  rintro w b S v k ⟨gv, rv, hv, bv, rfl, h, hS⟩ h0 h1
  refine (markScreenF_any b d gv rv hv bv k w h hF (scr_small hs h0 h1)).mono ?_
  rintro e w' ⟨rfl, o, f⟩
  rw [sk3_m]
  exact ⟨rfl, ⟨gv, rv, hv, bv, rfl, o, hS⟩, f.mono (fun g hg => (hS g).2 hg)⟩
theorem fedK_held (d : SD) (hF : d.Fits) (hs : sumC d.C d.R ≤ 1073741824) : HeldOk 21 (fun k => fedK (mkSD k d)) (scrM d) := scrK_held d hF hs
end Go.Proofs.YtinfdhbnljnifaaGreatDoor

namespace Go.Proofs.YtinfdhbnljnifaaGreatDoor
open Go.ChangeShapes Go.WideShapes Go.ChangeAt Go.RowKit Go.Deep
theorem sumC_bd (C : Nat → Nat) (c : Nat) : ∀ n, (∀ i, i < n → C i ≤ c) → sumC C n ≤ n * c
  | 0, _ => by simp [sumC]
  | n + 1, h => by
    have h1 := sumC_bd C c n (fun i hi => h i (by omega))
    have h2 := h n (by omega)
    rw [sumC, Nat.succ_mul]
    omega
theorem feed_fits {s : SD} (hok : OkP s) (ys : List Int) (hb : s.bulk ≤ 1048576) (hl : ys.length ≤ 1048576) : (s.feed rowT ys).Fits ∧ sumC (s.feed rowT ys).C (s.feed rowT ys).R ≤ 1073741824 ∧ scrM (s.feed rowT ys) ≤ 1073741824 := by
  have hf := SD.Fits.of_bulk hb
  have hh := hok.hold
  have h1 := ok_feed rowT hok ys
  have hs := size_bd h1
  have hR := h1.R
  have hRn : (s.feed rowT ys).R ≤ 100 := by omega
  have hC : ∀ i, i < (s.feed rowT ys).R → (s.feed rowT ys).C i ≤ 200 := fun i hi => by have := h1.C i hi; omega
  have hnb : (s.feed rowT ys).nb ≤ s.nb + (s.hold ++ ys).length := by
    have hw : WtB s (s.bulk + 200) := fun i hi => by
      have h9 := SD.texts_of_bulk hb i hi
      unfold SD.bulk at hb ⊢
      have := gl_row s.C s.tx s.R i hi
      rw [rsz_tl]
      omega
    have h2 := (acts_bd rowT (fd (s.hold ++ ys)).1 hok hw (by omega)).2.2
    have h3 := fd_count (s.hold ++ ys)
    show (s.acts rowT (fd (s.hold ++ ys)).1).nb ≤ _
    omega
  rw [List.length_append] at hnb
  have hnb2 : s.nb ≤ 1048576 := by unfold SD.bulk at hb; omega
  have hsum := sumC_bd (s.feed rowT ys).C 200 (s.feed rowT ys).R hC
  have hsum2 : (s.feed rowT ys).R * 200 ≤ 100 * 200 := Nat.mul_le_mul_right _ hRn
  have hho := h1.hold
  refine ⟨⟨by omega, fun i hi => by have := hC i hi; omega, by omega, by omega⟩, by omega, ?_⟩
  unfold scrM
  omega
theorem wt_bulk {s : SD} (hb : s.bulk ≤ 1048576) : WtB s 1048776 := fun i hi => by
  have := gl_row s.C s.tx s.R i hi
  unfold SD.bulk at hb
  rw [rsz_tl]
  omega
set_option maxHeartbeats 1000000 in
theorem fnExactFeed_great (x0 x1 x3 x4 : Int) (x5 : Bool) (ga ha ba : Option Addr) (gn gc hn hc bn bc : Nat) (ao : Option Addr) (n cap : Nat) (w : World) (hl : ¬ n ≤ 1048576) :
    Calls Tryz.prog 4 #[.agg #[.int .i64 x0, .int .i64 x1, .slice ga gn gc, .int .i64 x3, .int .i64 x4, .bool x5, .slice ha hn hc, .slice ba bn bc], .slice ao n cap] w fun e w' => e = .returned (.bool true) ∧ Below w.heap.size w w' := by
  have b1 : (1048576 : Int) < (n : Int) := by omega
  go_enter Tryz.func4, Tryz.ntmps4
  go_wp2
  go_ret
  exact ⟨rfl, ((Ext.refl w).alloc _).below⟩
theorem fnExactFeed_walk (s : SD) (gv hv bv : Value) (ao : Option Addr) (cap : Nat) (ys : List Int) (w : World) (h : ScrAt w s gv hv bv) (hC : s.Came) (hB : Bytes s.hold) (hv1 : IntsAt w .u8 (.slice ao ys.length cap) ys) (hB2 : Bytes ys) (hT : Tabs3 w) :
    Calls Tryz.prog 4 #[scrV s gv hv bv, .slice ao ys.length cap] w fun e w' => e = .returned (.bool true) ∧ Below w.heap.size w w' := by
  by_cases hl : ys.length ≤ 1048576
  · obtain ⟨K, M, m, kS, kI, kE, kM, kH, kSh⟩ : ∃ (K : Kd) (M : Int → Kd) (m : Nat),
        (s.bulk ≤ 1048576 → ∀ W u0 u1, (scrK s).R W u0 → (bytesK ys).R W u1 → Calls Tryz.prog 7 #[u0, u1] W fun e w' => ∃ v0, e = .returned v0 ∧ K.R w' v0 ∧ Ext W w')
        ∧ (s.bulk ≤ 1048576 → ∀ W u0 u1, Ext w W → (scrK s).R W u0 → (bytesK ys).R W u1 → Calls Tryz.prog 8 #[u0, u1] W fun e w' => ∃ v0 S0, e = .returned v0 ∧ K.O w' W.heap.size S0 v0 ∧ Ext W w')
        ∧ (s.bulk ≤ 1048576 → EqOk 17 K) ∧ (s.bulk ≤ 1048576 → MarkOk 19 K M m ∧ m ≤ 17179869184) ∧ (s.bulk ≤ 1048576 → HeldOk 21 M m)
        ∧ (∀ W u, K.R W u → ∃ (x0 : Int) (x1 : Int) (x2a : Option Addr) (x2n : Nat) (x2c : Nat) (x3 : Int) (x4 : Int) (x5 : Bool) (x6a : Option Addr) (x6n : Nat) (x6c : Nat) (x7a : Option Addr) (x7n : Nat) (x7c : Nat), u = .agg #[.int .i64 x0, .int .i64 x1, .slice x2a x2n x2c, .int .i64 x3, .int .i64 x4, .bool x5, .slice x6a x6n x6c, .slice x7a x7n x7c]) := by
      by_cases hok : OkP s
      · have hh := hok.hold
        refine ⟨fedK (s.feed rowT ys), fun k => fedK (mkSD k (s.feed rowT ys)), scrM (s.feed rowT ys), fun hb W u0 u1 h0 h1 => ?_, fun hb W u0 u1 hW h0 h1 => ?_, fun hb => fedK_eq _ (feed_fits hok ys hb hl).1, fun hb => ⟨fedK_mark _ (feed_fits hok ys hb hl).1 (feed_fits hok ys hb hl).2.1, by have := (feed_fits hok ys hb hl).2.2; omega⟩, fun hb => fedK_held _ (feed_fits hok ys hb hl).1 (feed_fits hok ys hb hl).2.1, fun W u hu => ?_⟩
        · obtain ⟨g', h', b', rfl, hr⟩ := h0
          have hnb2 : s.nb ≤ 1048576 := by unfold SD.bulk at hb; omega
          refine (specFeed_yes s g' h' b' u1 ys W hr (SD.Fits.of_bulk hb) h1 hok hB hB2 1048776 (wt_bulk hb) (by omega) (by omega) (by omega) (by omega)).mono ?_
          rintro e w' ⟨g, h, b, rfl, o, F⟩
          exact ⟨_, rfl, ⟨_, _, _, rfl, o⟩, F⟩
        · obtain ⟨g', h', b', rfl, hr⟩ := h0
          have hnb2 : s.nb ≤ 1048576 := by unfold SD.bulk at hb; omega
          refine (implFeed_yes s g' h' b' u1 ys W hr (SD.Fits.of_bulk hb) h1 hok hB hB2 ⟨hok, ⟨1048776, wt_bulk hb, by omega, by omega⟩, by omega⟩ (by omega) (hT.ext hW)).mono ?_
          rintro e w' ⟨g, rv, h, b, rfl, o, F⟩
          exact ⟨_, _, rfl, fedK_own o, F⟩
        · obtain ⟨a1, a2, a3, a4, a5, a6, e⟩ := fedK_shape hu
          exact ⟨_, _, _, _, _, _, _, _, _, _, _, _, _, _, e⟩
      · refine ⟨scrK s, fun k => scrK (mkSD k s), scrM s, fun hb W u0 u1 h0 h1 => ?_, fun hb W u0 u1 hW h0 h1 => ?_, fun hb => scrK_eq s (SD.Fits.of_bulk hb), fun hb => ⟨scrK_mark s (SD.Fits.of_bulk hb) (by have := SD.sum_of_bulk hb; omega), ?_⟩, fun hb => scrK_held s (SD.Fits.of_bulk hb) (by have := SD.sum_of_bulk hb; omega), fun W u hu => ?_⟩
        · obtain ⟨g', h', b', rfl, hr⟩ := h0
          refine (specFeed_no s g' h' b' u1 ys W hr (SD.Fits.of_bulk hb) h1 hok).mono ?_
          rintro e w' ⟨g, h, b, rfl, o, F⟩
          exact ⟨_, rfl, ⟨_, _, _, rfl, o⟩, F⟩
        · obtain ⟨g', h', b', rfl, hr⟩ := h0
          refine (implFeed_no s g' h' b' u1 ys W hr (SD.Fits.of_bulk hb) h1 hok).mono ?_
          rintro e w' ⟨g, rv, h, b, rfl, o, F⟩
          exact ⟨_, _, rfl, scrK_own o, F⟩
        · have h1 := SD.sum_of_bulk hb
          have h2 := (SD.Fits.of_bulk hb).hold
          have h3 := (SD.Fits.of_bulk hb).nb
          unfold scrM
          omega
        · obtain ⟨a1, a2, a3, a4, a5, a6, e⟩ := scrK_shape hu
          exact ⟨_, _, _, _, _, _, _, _, _, _, _, _, _, _, e⟩
    obtain ⟨ga, gc, ha, hc, ba, bc, rfl, rfl, rfl⟩ := h.forms
    refine law_Feed _ _ _ _ _ _ _ _ _ _ _ _ _ _ _ _ _ w hl (scrK s) (fun k => scrK (mkSD k s)) (scrM s) (bytesK ys) (fun k => bytesK (mkU8 k ys.length)) ys.length K M m (s.bulk ≤ 1048576)
      ?_ ?_ ?_ ?_ ?_ ?_ ?_ ?_ ?_ (hide (fun hb W u0 u1 _ h0 h1 => kS hb W u0 u1 h0 h1)) (hide (fun hb W u0 u1 hW h0 h1 => kI hb W u0 u1 hW h0 h1)) (hide kSh) (hide kE) (hide kM) (hide kH)
    · refine hide (fun W hW => (szScreen_any s _ _ _ 1048576 W (h.ext hW) hC (by omega) (by omega)).mono ?_)
      rintro e w' ⟨r, rfl, hr, F⟩
      refine ⟨r, rfl, fun h0 => ?_, F⟩
      rcases hr with ⟨h1, _⟩ | ⟨h1, _⟩ <;> omega
    · refine hide (fun hb W hW => (toScreen_any s _ _ _ W (h.ext hW) (SD.Fits.of_bulk hb)).mono ?_)
      rintro e w' ⟨g', rv, h', b', rfl, o, F⟩
      exact ⟨_, _, rfl, scrK_own o, F⟩
    · exact hide (fun W u hu => by
        obtain ⟨a1, a2, a3, a4, a5, a6, e⟩ := scrK_shape hu
        exact ⟨_, _, _, _, _, _, _, _, _, _, _, _, _, _, e⟩)
    · exact hide (fun hb => scrK_eq s (SD.Fits.of_bulk hb))
    · exact hide (fun hb => ⟨scrK_mark s (SD.Fits.of_bulk hb) (by have := SD.sum_of_bulk hb; omega), by
        have h1 := SD.sum_of_bulk hb
        have h2 := (SD.Fits.of_bulk hb).hold
        have h3 := (SD.Fits.of_bulk hb).nb
        unfold scrM
        omega⟩)
    · refine hide (fun hb W hW => (toByteS_any _ ys W (hv1.ext hW) (by omega)).mono ?_)
      rintro e w' ⟨rfl, o, F⟩
      exact ⟨_, _, rfl, bytesK_own o, F⟩
    · exact hide (fun W u hu => by
        obtain ⟨a, c, e⟩ := bytesK_shape hu
        exact ⟨_, _, _, e⟩)
    · exact hide (fun hb => bytesK_eq ys (by omega))
    · exact hide (fun hb => ⟨bytesK_mark ys (by omega), by omega⟩)
  · obtain ⟨ga, gc, ha, hc, ba, bc, rfl, rfl, rfl⟩ := h.forms
    exact fnExactFeed_great _ _ _ _ _ _ _ _ _ _ _ _ _ _ ao ys.length cap w hl
end Go.Proofs.YtinfdhbnljnifaaGreatDoor
