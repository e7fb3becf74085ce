import Derived.Test.YtinfdhbnljnifaaGreatDoorEdN
import Derived.Test.YtinfdhbnljnifaaGreatDoorFdE
import Derived.Test.YtinfdhbnljnifaaGreatDoorRowTx
import Derived.Test.YtinfdhbnljnifaaGreatDoorKys
namespace Go.Proofs.YtinfdhbnljnifaaGreatDoor
open Go.RowKit
section
variable {F base : Nat} {X : Nat → Prop} {d : SD} {gv : Value} {rv : Nat → Value} {hv bv : Value}
theorem zab.setT1 {w : World} (h : zab w F base X d gv rv hv bv) (i q g cap : Nat) (hi : i < d.R) (hq : q < d.C i) (hg : rv i = .slice (some ⟨g, 0, none⟩) (d.C i) cap) (t : ByteArray) :
  zab (w.setCell ⟨g, q * 2, none⟩ (.string t)) F base X (d.setT i q t) gv rv hv bv ∧ Fr (fun k => (rv i).ownBlock = some k) w (w.setCell ⟨g, q * 2, none⟩ (.string t)) := by
 have hb : (rv i).ownBlock = some g := by rw [hg]; rfl
 have fs : Fr (fun k => (rv i).ownBlock = some k) w (w.setCell ⟨g, q * 2, none⟩ (.string t)) := Fr.setCell (S := fun k => (rv i).ownBlock = some k) (Fr.refl _ w) (a := ⟨g, q * 2, none⟩) hb _
 have hr := h.row i hi
 rw [hg] at hr
 have hs := hr.setA hq (.string t)
 rw [← hg] at hs
 have := h.rowAt i hi fs (fun r => if r = q then t else d.tx i r) (d.hf i) (hs.congr (fun r _ => ⟨by by_cases e : r = q <;> simp [e], rfl⟩))
 refine ⟨?_, fs⟩
 have ed : d.setT i q t = { d with tx := fun p r => if p = i then (if r = q then t else d.tx i r) else d.tx p r, hf := fun p r => if p = i then d.hf i r else d.hf p r } := by
  unfold SD.setT
  have a1 : (fun p r => if p = i ∧ r = q then t else d.tx p r) = fun p r => if p = i then (if r = q then t else d.tx i r) else d.tx p r := by
   funext p r
   by_cases hp : p = i
   ·subst hp
    by_cases e : r = q <;> simp [e]
   ·simp [hp]
  have a2 : d.hf = fun p r => if p = i then d.hf i r else d.hf p r := by
   funext p r
   by_cases hp : p = i
   ·subst hp; simp
   ·simp [hp]
  rw [a1, ← a2]
 rw [ed]
 exact this
theorem zab.setH1 {w : World} (h : zab w F base X d gv rv hv bv) (i q g cap : Nat) (hi : i < d.R) (hq : q < d.C i) (hg : rv i = .slice (some ⟨g, 0, none⟩) (d.C i) cap) :
  zab (w.setCell ⟨g, q * 2 + 1, none⟩ (.bool true)) F base X (d.setH i q) gv rv hv bv ∧ Fr (fun k => (rv i).ownBlock = some k) w (w.setCell ⟨g, q * 2 + 1, none⟩ (.bool true)) := by
 have hb : (rv i).ownBlock = some g := by rw [hg]; rfl
 have fs : Fr (fun k => (rv i).ownBlock = some k) w (w.setCell ⟨g, q * 2 + 1, none⟩ (.bool true)) := Fr.setCell (S := fun k => (rv i).ownBlock = some k) (Fr.refl _ w) (a := ⟨g, q * 2 + 1, none⟩) hb _
 have hr := h.row i hi
 rw [hg] at hr
 have hs := hr.setB hq (.bool true)
 rw [← hg] at hs
 have := h.rowAt i hi fs (d.tx i) (fun r => if r = q then true else d.hf i r) (hs.congr (fun r _ => ⟨rfl, by by_cases e : r = q <;> simp [e]⟩))
 refine ⟨?_, fs⟩
 have ed : d.setH i q = { d with tx := fun p r => if p = i then d.tx i r else d.tx p r, hf := fun p r => if p = i then (if r = q then true else d.hf i r) else d.hf p r } := by
  unfold SD.setH
  have a1 : (fun p r => if p = i ∧ r = q then true else d.hf p r) = fun p r => if p = i then (if r = q then true else d.hf i r) else d.hf p r := by
   funext p r
   by_cases hp : p = i
   ·subst hp
    by_cases e : r = q <;> simp [e]
   ·simp [hp]
  have a2 : d.tx = fun p r => if p = i then d.tx i r else d.tx p r := by
   funext p r
   by_cases hp : p = i
   ·subst hp; simp
   ·simp [hp]
  rw [a1, ← a2]
 rw [ed]
 exact this
end
section
variable {F base : Nat} {X : Nat → Prop} {d : SD} {gv : Value} {rv : Nat → Value} {hv bv : Value}
theorem zab.rowGrid {w : World} (h : zab w F base X d gv rv hv bv) {i : Nat} (hi : i < d.R) {g : Nat} (hg : (rv i).ownBlock = some g) : gv.ownBlock ≠ some g := by
 intro e
 obtain ⟨g', k', cap', cur, e1, _, hg', _⟩ := h.grid
 obtain ⟨ys, hy, _⟩ := h.row i hi
 rw [e1] at e
 have e2 : g' = g := by simpa [Value.ownBlock] using e
 subst e2
 rcases hy.2 with ⟨e3, _⟩ | ⟨g2, _, cur2, e3, _, hg2, _⟩
 ·rw [e3] at hg; simp [Value.ownBlock] at hg
 ·rw [e3] at hg
  have e4 : g2 = g' := by simpa [Value.ownBlock] using hg
  subst e4
  rw [hg'] at hg2
  simp at hg2
theorem zab.rowBack {w : World} (h : zab w F base X d gv rv hv bv) {i : Nat} (hi : i < d.R) {g : Nat} (hg : (rv i).ownBlock = some g) : bv.ownBlock ≠ some g := by
 intro e
 obtain ⟨ys, hy, _⟩ := h.row i hi
 obtain ⟨zs, hz, _⟩ := h.back
 exact zaw hz hy (by decide) e hg
theorem zab.gridBack {w : World} (h : zab w F base X d gv rv hv bv) {g : Nat} (hg : bv.ownBlock = some g) : gv.ownBlock ≠ some g := by
 intro e
 obtain ⟨g', k', cap', cur, e1, _, hg', _⟩ := h.grid
 obtain ⟨ys, hy, _⟩ := h.back
 rw [e1] at e
 have e2 : g' = g := by simpa [Value.ownBlock] using e
 subst e2
 rcases hy.2 with ⟨e3, _⟩ | ⟨g2, _, cur2, e3, _, hg2, _⟩
 ·rw [e3] at hg; simp [Value.ownBlock] at hg
 ·rw [e3] at hg
  have e4 : g2 = g' := by simpa [Value.ownBlock] using hg
  subst e4
  rw [hg'] at hg2
  simp at hg2
theorem zab.rolled {w w9 : World} (h : zab w F base X d gv rv hv bv) (hk : OkP d) (hr : ¬ d.row < d.rows - 1) (gv' u bv' : Value)
  (hbox : w9.heap[F]? = some (.cells #[.int .i64 d.cols, .int .i64 d.rows, gv', .int .i64 d.row, .int .i64 d.col, .bool false, hv, bv'] 26 (0, 0)))
  (hgv : zbg w9 base 81 gv' d.R (fun j => if j + 1 < d.R then rv (j + 1) else u))
  (hu : zaG w9 base 83 u d.cols.toNat (fun _ => .string bz) (fun _ => .bool false))
  (hbv : za4 w9 base 9 bv' (d.nb + 1) (fun j => .string (if j = d.nb then zp (d.tx 0) (d.hf 0) (d.C 0) else d.bk j)))
  (hfr : Fr (fun k => k = F ∨ gv.ownBlock = some k ∨ bv.ownBlock = some k) w w9)
  (ng : gv'.ownBlock = gv.ownBlock ∨ ∀ g, gv'.ownBlock = some g → w.heap.size ≤ g) (nb : bv'.ownBlock = bv.ownBlock ∨ ∀ g, bv'.ownBlock = some g → w.heap.size ≤ g) (nu : ∀ g, u.ownBlock = some g → w.heap.size ≤ g) :
  zab w9 F base X (d.down zp) gv' (fun j => if j + 1 < d.R then rv (j + 1) else u) hv bv' := by
 have hC0 := zae hk
 have key : ∀ k, k < w.heap.size → ¬ zbZ d gv rv bv k → ¬ zbZ d gv' (fun j => if j + 1 < d.R then rv (j + 1) else u) bv' k := by
  intro k hk2 hk3
  rintro (x | ⟨i, hi, x⟩ | x)
  ·rcases ng with e | e
   ·rw [e] at x; exact hk3 (.inl x)
   ·have := e k x; omega
  ·dsimp only at x
   by_cases e : i + 1 < d.R
   ·rw [if_pos e] at x; exact hk3 (.inr (.inl ⟨i + 1, e, x⟩))
   ·rw [if_neg e] at x; have := nu k x; omega
  ·rcases nb with e | e
   ·rw [e] at x; exact hk3 (.inr (.inr x))
   ·have := e k x; omega
 unfold SD.down
 rw [if_neg hr]
 refine ⟨hbox, hgv, fun i hi => ?_, fun i j g hij hj hg hg2 => ?_, hbv, ⟨Nat.lt_of_lt_of_le h.below.1 hfr.size, ?_⟩, Nat.le_trans h.top hfr.size, fun k hX => ⟨Nat.lt_of_lt_of_le (h.kept k hX).1 hfr.size, ?_⟩⟩
 ·by_cases e : i + 1 < d.R
  ·simp only [if_pos e]
   refine (h.row (i + 1) e).fr hfr (fun g hg x => ?_)
   rcases x with x | x | x
   ·exact h.below.2 (.inr (.inl ⟨i + 1, e, x ▸ hg⟩))
   ·exact h.rowGrid e hg x
   ·exact h.rowBack e hg x
  ·simp only [if_neg e]
   exact hu
 ·have hg0 := hg
  have hj2 : j < d.R := hj
  rw [if_pos (by omega)] at hg
  by_cases e : j + 1 < d.R
  ·rw [if_pos e] at hg2
   exact h.apart (i + 1) (j + 1) g (by omega) e hg hg2
  ·rw [if_neg e] at hg2
   have := ((h.row (i + 1) (by omega)).lt g hg).2
   have := nu g hg2
   omega
 ·exact key F h.below.1 h.below.2
 ·exact key k (h.kept k hX).1 (h.kept k hX).2
end
section
variable {F base : Nat} {X : Nat → Prop} {d : SD} {gv : Value} {rv : Nat → Value} {hv bv : Value}
set_option maxHeartbeats 2000000 in
theorem zmN (w : World) (h : zab w F base X d gv rv hv bv) (hk : OkP d) (r : Int) (hm : d.mkAt < 0) :
  Calls Tryz.prog 105 #[.pointer (some ⟨F, 0, none⟩), .int .i32 r] w fun e w' => e = .returned (.tuple #[]) ∧ zab w' F base X (d.mark (zo (zac r))) gv rv hv bv ∧ FrW F base X w w' := by
 have hc := hk.col
 have hs := zae hk
 have hl : d.late = false := by
  unfold SD.mkAt at hm
  cases e : d.late with
  | false => rfl
  | true => rw [e, if_pos rfl] at hm; omega
 have h0 : d.col = 0 := by
  unfold SD.mkAt at hm
  rw [hl] at hm
  simp at hm
  omega
 have c4 : w.cell? ⟨F, 4, none⟩ = some (.int .i64 0) := by rw [← h0]; exact zg h.box 4 _ rfl
 have c5 : w.cell? ⟨F, 5, none⟩ = some (.bool false) := by rw [← hl]; exact zg h.box 5 _ rfl
 have em : d.mark (zo (zac r)) = d := by unfold SD.mark; rw [if_pos hm]
 rw [em]
 have H := zh h
 clear h hk em
 go_enter Tryz.func105, Tryz.ntmps105
 go_wp2
 exact bodyPost_ret (v := .tuple #[]) (by simp [results, Tryz.results105, go_sem]) rfl ⟨rfl, zu H, Fr.refl _ _⟩
set_option maxRecDepth 10000 in
set_option maxHeartbeats 4000000 in
theorem zmw (w : World) (h : zab w F base X d gv rv hv bv) (hk : OkP d) (r : Int) (hm : ¬ d.mkAt < 0) :
  Calls Tryz.prog 105 #[.pointer (some ⟨F, 0, none⟩), .int .i32 r] w fun e w' => e = .returned (.tuple #[]) ∧ zab w' F base X (d.mark (zo (zac r))) gv rv hv bv ∧ FrW F base X w w' := by
 have hc := hk.col
 have hs := zae hk
 obtain ⟨i, ei⟩ : ∃ i : Nat, d.row = i := ⟨d.row.toNat, by have := hk.row; omega⟩
 obtain ⟨k, ek⟩ : ∃ k : Nat, d.mkAt = k := ⟨d.mkAt.toNat, by omega⟩
 have hiR : i < d.R := by have := hk.R; have := hk.row; omega
 have hCi := hk.C i hiR
 have hkC : k < d.C i := by
  have : d.mkAt ≤ d.col := by unfold SD.mkAt; split <;> omega
  omega
 have hhk := hk.half i k hiR hkC
 obtain ⟨g, cap, hg, _, _, _, _⟩ := h.cellOf i k hiR hkC
 have c3 : w.cell? ⟨F, 3, none⟩ = some (.int .i64 (i : Int)) := by rw [← ei]; exact zg h.box 3 _ rfl
 have c4 := zg h.box 4 _ rfl
 have c5 := zg h.box 5 _ rfl
 have wm : IntKind.i64.wrap (d.col - 1) = d.col - 1 := by rw [IntKind.wrap_i64] <;> omega
 have hkm := ek
 unfold SD.mkAt at hkm
 have HCn := zh (fun W (hW : Ext w W) => zao W (h.ext hW) i k g cap hiR hkC hg)
 have H := zh h
 have HK := zh hk
 have HG := zh hg
 have hk0 : ¬ (k : Int) < 0 := by omega
 clear h hk hg
 cases hl : d.late with
 | true =>
  rw [hl] at hkm c5
  rw [if_pos rfl] at hkm
  rw [hkm] at c4 wm
  go_enter Tryz.func105, Tryz.ntmps105
  go_wp2_with fail
  refine ((zu HCn) w (Ext.refl _)).mono ?_
  rintro e w1 ⟨rfl, E1⟩
  have H1 := zh ((zu H).ext E1)
  have HE1 := zh E1
  have c3' := E1.cell c3
  clear E1 c4 c5
  obtain ⟨g', cap', e', a1, a2, a3, a4⟩ := (zu H1).cellOf i k hiR hkC
  rw [zu HG] at e'
  simp only [Value.slice.injEq, Option.some.injEq, Addr.mk.injEq, and_true] at e'
  rw [← e'.1] at a1 a2 a3 a4
  clear e'
  cases hh : d.hf i k with
  | true =>
   rw [hh] at a2
   have hk1 := (hhk hh).2.1
   have wk : IntKind.i64.wrap ((k : Int) - 1) = (k : Int) - 1 := by rw [IntKind.wrap_i64] <;> omega
   have HC2 := zh (zao w1 (zu H1) i (k - 1) g cap hiR (by omega) (zu HG))
   rw [show ((k - 1 : Nat) : Int) = (k : Int) - 1 by omega] at HC2
   go_wp2_with fail
   refine (zu HC2).mono ?_
   rintro e w2 ⟨rfl, E2⟩
   have H2 := zh ((zu H1).ext E2)
   have HE2 := Hid.ht HE1 E2
   clear HC2 E2 a1 a2 a3 a4 c3'
   obtain ⟨g', cap', e', b1, b2, b3, b4⟩ := (zu H2).cellOf i (k - 1) hiR (by omega)
   rw [zu HG] at e'
   simp only [Value.slice.injEq, Option.some.injEq, Addr.mk.injEq, and_true] at e'
   rw [← e'.1] at b1 b2 b3 b4
   clear e'
   have em2 : d.mkAt2 = (k - 1) := by unfold SD.mkAt2; rw [ei, ek, Int.toNat_natCast, Int.toNat_natCast, if_pos hh]
   by_cases ht : (d.tx i (k - 1)).toList = []
   ·have em : d.mark (zo (zac r)) = d := by unfold SD.mark; rw [if_neg (show ¬ d.mkAt < 0 by omega), em2, ei, Int.toNat_natCast, if_neg (fun x => x.1 ht)]
    have HEM := zh em
    clear HCn em
    go_wp2
    go_end0
    rw [zu HEM]
    exact ⟨rfl, zu H2, Fr.of_ext (zu HE2)⟩
   ·by_cases hz : (d.tx i (k - 1)).size ≤ 6000
    ·have em : d.mark (zo (zac r)) = d.setT i (k - 1) (d.tx i (k - 1) ++ zo (zac r)) := by unfold SD.mark; rw [if_neg (show ¬ d.mkAt < 0 by omega), em2, ei, Int.toNat_natCast, if_pos ⟨ht, hz⟩]
     have HEM := zh em
     have hte : (d.tx i (k - 1)).toList.isEmpty = false := by cases e9 : (d.tx i (k - 1)).toList with | nil => exact absurd e9 ht | cons _ _ => rfl
     have hzi : ((d.tx i (k - 1)).size : Int) ≤ 6000 := by omega
     have hov : ¬ 9223372036854775807 < (d.tx i (k - 1)).size + (Utf8.encode r).size := by rw [zbc, zai]; have := zb1 r; omega
     clear HCn em
     go_wp2
     go_end0
     rw [zu HEM, zbc]
     have hfin := (zu H2).setT1 i (k - 1) g cap hiR (by omega) (zu HG) (d.tx i (k - 1) ++ zo (zac r))
     exact ⟨rfl, hfin.1, Fr.tr (Fr.of_ext (zu HE2)) ((zu H2).rowFr i hiR hfin.2)⟩
    ·have em : d.mark (zo (zac r)) = d := by unfold SD.mark; rw [if_neg (show ¬ d.mkAt < 0 by omega), em2, ei, Int.toNat_natCast, if_neg (fun x => hz x.2)]
     have HEM := zh em
     clear HCn em
     go_wp2
     go_end0
     rw [zu HEM]
     exact ⟨rfl, zu H2, Fr.of_ext (zu HE2)⟩
  | false =>
   rw [hh] at a2
   have HC2 := zh (zao w1 (zu H1) i k g cap hiR hkC (zu HG))
   go_wp2_with fail
   refine (zu HC2).mono ?_
   rintro e w2 ⟨rfl, E2⟩
   have H2 := zh ((zu H1).ext E2)
   have HE2 := Hid.ht HE1 E2
   clear HC2 E2 a1 a2 a3 a4 c3'
   obtain ⟨g', cap', e', b1, b2, b3, b4⟩ := (zu H2).cellOf i k hiR hkC
   rw [zu HG] at e'
   simp only [Value.slice.injEq, Option.some.injEq, Addr.mk.injEq, and_true] at e'
   rw [← e'.1] at b1 b2 b3 b4
   clear e'
   have em2 : d.mkAt2 = k := by unfold SD.mkAt2; rw [ei, ek, Int.toNat_natCast, Int.toNat_natCast, if_neg (by rw [hh]; simp)]
   by_cases ht : (d.tx i k).toList = []
   ·have em : d.mark (zo (zac r)) = d := by unfold SD.mark; rw [if_neg (show ¬ d.mkAt < 0 by omega), em2, ei, Int.toNat_natCast, if_neg (fun x => x.1 ht)]
    have HEM := zh em
    clear HCn em
    go_wp2
    go_end0
    rw [zu HEM]
    exact ⟨rfl, zu H2, Fr.of_ext (zu HE2)⟩
   ·by_cases hz : (d.tx i k).size ≤ 6000
    ·have em : d.mark (zo (zac r)) = d.setT i k (d.tx i k ++ zo (zac r)) := by unfold SD.mark; rw [if_neg (show ¬ d.mkAt < 0 by omega), em2, ei, Int.toNat_natCast, if_pos ⟨ht, hz⟩]
     have HEM := zh em
     have hte : (d.tx i k).toList.isEmpty = false := by cases e9 : (d.tx i k).toList with | nil => exact absurd e9 ht | cons _ _ => rfl
     have hzi : ((d.tx i k).size : Int) ≤ 6000 := by omega
     have hov : ¬ 9223372036854775807 < (d.tx i k).size + (Utf8.encode r).size := by rw [zbc, zai]; have := zb1 r; omega
     clear HCn em
     go_wp2
     go_end0
     rw [zu HEM, zbc]
     have hfin := (zu H2).setT1 i k g cap hiR hkC (zu HG) (d.tx i k ++ zo (zac r))
     exact ⟨rfl, hfin.1, Fr.tr (Fr.of_ext (zu HE2)) ((zu H2).rowFr i hiR hfin.2)⟩
    ·have em : d.mark (zo (zac r)) = d := by unfold SD.mark; rw [if_neg (show ¬ d.mkAt < 0 by omega), em2, ei, Int.toNat_natCast, if_neg (fun x => hz x.2)]
     have HEM := zh em
     clear HCn em
     go_wp2
     go_end0
     rw [zu HEM]
     exact ⟨rfl, zu H2, Fr.of_ext (zu HE2)⟩
 | false =>
  rw [hl] at hkm c5
  rw [if_neg (by simp)] at hkm
  rw [hkm] at wm
  go_enter Tryz.func105, Tryz.ntmps105
  go_wp2_with fail
  refine ((zu HCn) w (Ext.refl _)).mono ?_
  rintro e w1 ⟨rfl, E1⟩
  have H1 := zh ((zu H).ext E1)
  have HE1 := zh E1
  have c3' := E1.cell c3
  clear E1 c4 c5
  obtain ⟨g', cap', e', a1, a2, a3, a4⟩ := (zu H1).cellOf i k hiR hkC
  rw [zu HG] at e'
  simp only [Value.slice.injEq, Option.some.injEq, Addr.mk.injEq, and_true] at e'
  rw [← e'.1] at a1 a2 a3 a4
  clear e'
  cases hh : d.hf i k with
  | true =>
   rw [hh] at a2
   have hk1 := (hhk hh).2.1
   have wk : IntKind.i64.wrap ((k : Int) - 1) = (k : Int) - 1 := by rw [IntKind.wrap_i64] <;> omega
   have HC2 := zh (zao w1 (zu H1) i (k - 1) g cap hiR (by omega) (zu HG))
   rw [show ((k - 1 : Nat) : Int) = (k : Int) - 1 by omega] at HC2
   go_wp2_with fail
   refine (zu HC2).mono ?_
   rintro e w2 ⟨rfl, E2⟩
   have H2 := zh ((zu H1).ext E2)
   have HE2 := Hid.ht HE1 E2
   clear HC2 E2 a1 a2 a3 a4 c3'
   obtain ⟨g', cap', e', b1, b2, b3, b4⟩ := (zu H2).cellOf i (k - 1) hiR (by omega)
   rw [zu HG] at e'
   simp only [Value.slice.injEq, Option.some.injEq, Addr.mk.injEq, and_true] at e'
   rw [← e'.1] at b1 b2 b3 b4
   clear e'
   have em2 : d.mkAt2 = (k - 1) := by unfold SD.mkAt2; rw [ei, ek, Int.toNat_natCast, Int.toNat_natCast, if_pos hh]
   by_cases ht : (d.tx i (k - 1)).toList = []
   ·have em : d.mark (zo (zac r)) = d := by unfold SD.mark; rw [if_neg (show ¬ d.mkAt < 0 by omega), em2, ei, Int.toNat_natCast, if_neg (fun x => x.1 ht)]
    have HEM := zh em
    clear HCn em
    go_wp2
    go_end0
    rw [zu HEM]
    exact ⟨rfl, zu H2, Fr.of_ext (zu HE2)⟩
   ·by_cases hz : (d.tx i (k - 1)).size ≤ 6000
    ·have em : d.mark (zo (zac r)) = d.setT i (k - 1) (d.tx i (k - 1) ++ zo (zac r)) := by unfold SD.mark; rw [if_neg (show ¬ d.mkAt < 0 by omega), em2, ei, Int.toNat_natCast, if_pos ⟨ht, hz⟩]
     have HEM := zh em
     have hte : (d.tx i (k - 1)).toList.isEmpty = false := by cases e9 : (d.tx i (k - 1)).toList with | nil => exact absurd e9 ht | cons _ _ => rfl
     have hzi : ((d.tx i (k - 1)).size : Int) ≤ 6000 := by omega
     have hov : ¬ 9223372036854775807 < (d.tx i (k - 1)).size + (Utf8.encode r).size := by rw [zbc, zai]; have := zb1 r; omega
     clear HCn em
     go_wp2
     go_end0
     rw [zu HEM, zbc]
     have hfin := (zu H2).setT1 i (k - 1) g cap hiR (by omega) (zu HG) (d.tx i (k - 1) ++ zo (zac r))
     exact ⟨rfl, hfin.1, Fr.tr (Fr.of_ext (zu HE2)) ((zu H2).rowFr i hiR hfin.2)⟩
    ·have em : d.mark (zo (zac r)) = d := by unfold SD.mark; rw [if_neg (show ¬ d.mkAt < 0 by omega), em2, ei, Int.toNat_natCast, if_neg (fun x => hz x.2)]
     have HEM := zh em
     clear HCn em
     go_wp2
     go_end0
     rw [zu HEM]
     exact ⟨rfl, zu H2, Fr.of_ext (zu HE2)⟩
  | false =>
   rw [hh] at a2
   have HC2 := zh (zao w1 (zu H1) i k g cap hiR hkC (zu HG))
   go_wp2_with fail
   refine (zu HC2).mono ?_
   rintro e w2 ⟨rfl, E2⟩
   have H2 := zh ((zu H1).ext E2)
   have HE2 := Hid.ht HE1 E2
   clear HC2 E2 a1 a2 a3 a4 c3'
   obtain ⟨g', cap', e', b1, b2, b3, b4⟩ := (zu H2).cellOf i k hiR hkC
   rw [zu HG] at e'
   simp only [Value.slice.injEq, Option.some.injEq, Addr.mk.injEq, and_true] at e'
   rw [← e'.1] at b1 b2 b3 b4
   clear e'
   have em2 : d.mkAt2 = k := by unfold SD.mkAt2; rw [ei, ek, Int.toNat_natCast, Int.toNat_natCast, if_neg (by rw [hh]; simp)]
   by_cases ht : (d.tx i k).toList = []
   ·have em : d.mark (zo (zac r)) = d := by unfold SD.mark; rw [if_neg (show ¬ d.mkAt < 0 by omega), em2, ei, Int.toNat_natCast, if_neg (fun x => x.1 ht)]
    have HEM := zh em
    clear HCn em
    go_wp2
    go_end0
    rw [zu HEM]
    exact ⟨rfl, zu H2, Fr.of_ext (zu HE2)⟩
   ·by_cases hz : (d.tx i k).size ≤ 6000
    ·have em : d.mark (zo (zac r)) = d.setT i k (d.tx i k ++ zo (zac r)) := by unfold SD.mark; rw [if_neg (show ¬ d.mkAt < 0 by omega), em2, ei, Int.toNat_natCast, if_pos ⟨ht, hz⟩]
     have HEM := zh em
     have hte : (d.tx i k).toList.isEmpty = false := by cases e9 : (d.tx i k).toList with | nil => exact absurd e9 ht | cons _ _ => rfl
     have hzi : ((d.tx i k).size : Int) ≤ 6000 := by omega
     have hov : ¬ 9223372036854775807 < (d.tx i k).size + (Utf8.encode r).size := by rw [zbc, zai]; have := zb1 r; omega
     clear HCn em
     go_wp2
     go_end0
     rw [zu HEM, zbc]
     have hfin := (zu H2).setT1 i k g cap hiR hkC (zu HG) (d.tx i k ++ zo (zac r))
     exact ⟨rfl, hfin.1, Fr.tr (Fr.of_ext (zu HE2)) ((zu H2).rowFr i hiR hfin.2)⟩
    ·have em : d.mark (zo (zac r)) = d := by unfold SD.mark; rw [if_neg (show ¬ d.mkAt < 0 by omega), em2, ei, Int.toNat_natCast, if_neg (fun x => hz x.2)]
     have HEM := zh em
     clear HCn em
     go_wp2
     go_end0
     rw [zu HEM]
     exact ⟨rfl, zu H2, Fr.of_ext (zu HE2)⟩
end
end Go.Proofs.YtinfdhbnljnifaaGreatDoor
