import Derived.Test.YtinfdhbnljnifaaGreatDoorEdN
import Derived.Test.YtinfdhbnljnifaaGreatDoorFdX
import Derived.Test.YtinfdhbnljnifaaGreatDoorToScr
import Derived.Deep.AppendLies
import Derived.Deep.RegionLaw
namespace Go.Proofs.YtinfdhbnljnifaaGreatDoor
open Go.RowKit
theorem znl {P : Program} {w : World} {ops : Array Oper} {o : Oper} {a : Act} {K : Act → World → Prop} {Q : Exit → Act → World → Prop} {E : Prop} (hgd : o.guard = none) (s x : Operand) (t : TypeId) (ho : o.op = .call { callee := .builtin .append, args := #[s, x], argTypes := #[t, t] })
  {base : Nat} {T : TypeId} {v : Value} {n : Nat} {A : Nat → Value} (h : zbg w base T v n A) (i : TypeInfo) (z : Value) (bytes : Nat) (ht : P.underlying t = some (.slice T)) (hi : P.info? T = some i) (hz : i.zero = some z) (hsize : i.size = 1) (hby : i.bytes = bytes) (hzs : z.cells.size = 1)
  (hs : a.eval s = v) (ad : Addr) (c : Nat) (r : Value) (hx : a.eval x = .slice (some ad) 1 c) (hr : w.cell? ad = some r) (hr1 : r.oneCell' = true) (hbase : base ≤ w.heap.size) (hn : n ≤ 200) (hbt : bytes ≤ 64)
  (hK : ∀ v' w', zbg w' base T v' (n + 1) (fun j => if j < n then A j else r) → Fr (fun q => v.ownBlock = some q) w w' → (v'.ownBlock = v.ownBlock ∨ v'.ownBlock = some w.heap.size) → K (a.put o.dst v') w') : if Region.wanted o (yielded ops a.tmps) = true then Oper.wp P o a w K Q else E := by
 rw [if_pos (by simp [Region.wanted, hgd])]
 exact wp_appO s x t ho h i z bytes ht hi hz hsize hby hzs hs ad c r hx hr hr1 hbase hn hbt hK
section
variable {F base : Nat} {X : Nat → Prop} {d : SD} {gv : Value} {rv : Nat → Value} {hv bv : Value}
set_option maxHeartbeats 2000000 in
theorem zhL (w : World) (h : zab w F base X d gv rv hv bv) (hk : OkP d) (hn : d.row < d.rows - 1) :
  Calls Tryz.prog 103 #[.pointer (some ⟨F, 0, none⟩)] w fun e w' => e = .returned (.tuple #[]) ∧ zab w' F base X (d.down zp) gv rv hv bv ∧ FrW F base X w w' := by
 have hs := zae hk
 have hr := hk.row
 have c5 := zg h.box 5 _ rfl
 have f5 : w.frozen? ⟨F, 5, none⟩ = false := Lib.frozen_of_heap h.box 5
 have w1 : IntKind.i64.wrap (d.rows - 1) = d.rows - 1 := by rw [IntKind.wrap_i64] <;> omega
 have w2 : IntKind.i64.wrap (d.row + 1) = d.row + 1 := by rw [IntKind.wrap_i64] <;> omega
 obtain ⟨U, hU⟩ : ∃ U, U = w.setCell ⟨F, 5, none⟩ (.bool false) := ⟨_, rfl⟩
 have fU : Fr (fun k => k = F) w U := by rw [hU]; exact Fr.setCell (S := fun k => k = F) (Fr.refl _ w) (a := ⟨F, 5, none⟩) rfl _
 have hU2 : zab U F base X { d with late := false } gv rv hv bv := h.head fU d.row d.col false (by rw [hU]; exact zj h.box rfl)
 have u1 := zg hU2.box 1 _ rfl
 have u3 := zg hU2.box 3 _ rfl
 have HU := zh hU
 have HFU := zh fU
 have HSU := zh hU2
 clear h hk fU hU2 hU
 go_enter Tryz.func103, Tryz.ntmps103
 go_wp2_with fail
 rw [← zu HU]
 clear c5 f5 HU
 go_region_held3 (fun W => W.cell? ⟨F, 3, none⟩ = some (.int .i64 d.row) ∧ W.cell? ⟨F, 1, none⟩ = some (.int .i64 d.rows)) (first | exact ⟨u3, u1⟩) (first | fail)
 have HV := zh ((zu HSU).ext (Ext.refl U).drew)
 have HFV := zh (Fr.tr (zu HFU) (Fr.of_ext (Ext.refl U).drew))
 generalize U.drew = V at *
 clear HSU HFU u1 u3
 have u3 := zg (zu HV).box 3 _ rfl
 have f3 : V.frozen? ⟨F, 3, none⟩ = false := Lib.frozen_of_heap (zu HV).box 3
 go_wp2
 have fs : Fr (fun k => k = F) V (V.setCell ⟨F, 3, none⟩ (.int .i64 (d.row + 1))) := Fr.setCell (S := fun k => k = F) (Fr.refl _ V) (a := ⟨F, 3, none⟩) rfl _
 have hfin := (zu HV).head fs (d.row + 1) d.col false (zj (zu HV).box rfl)
 refine bodyPost_ret (v := .tuple #[]) (by simp [results, Tryz.results103, go_sem]) rfl ⟨rfl, ?_, Fr.mono (Fr.tr (zu HFV) fs) (fun k hk => .inl hk)⟩
 unfold SD.down
 rw [if_pos hn]
 exact hfin
theorem far_end {w V w3 W5 w6 : World} {gb gk gcap gg cap g6 k6 cap6 : Nat} {xs : List Value} {T : Value} (hFV : Fr (fun k => k = F) w V) (hV : zab V F base X { d with late := false } (.slice (some ⟨gb, gk, none⟩) d.R gcap) rv hv bv) (hk : OkP d) (hn : ¬ d.row < d.rows - 1)
  (hO3 : w3.ownsRow base 9 1 (.slice (some ⟨gg, 0, none⟩) (d.nb + 1) cap) (d.nb + 1) (xs ++ [.string (zp (d.tx 0) (d.hf 0) (d.C 0))])) (hxs : ∀ j, j < d.nb → xs[j]? = some (.string (d.bk j))) (hl : xs.length = d.nb) (hF3 : Fr (fun k => bv.ownBlock = some k) V w3) (hA3 : bv.ownBlock = some gg ∨ V.heap.size ≤ gg)
  (Y : World) (hFY : Fr (fun k => k = F) w3 Y) (E5 : Ext Y W5) (ho5 : W5.ownsRow Y.heap.size 83 2 (.slice (some ⟨Y.heap.size, 0, none⟩) d.cols.toNat d.cols.toNat) d.cols.toNat (madeCells (Value.agg #[.string noB, .bool false]).cells (d.cols.toNat * 2)).toList)
  (o6 : zbg w6 base 81 (.slice (some ⟨g6, k6, none⟩) (d.R - 1 + 1) cap6) (d.R - 1 + 1) (fun j => if j < d.R - 1 then rv (j + 1) else .slice (some ⟨Y.heap.size, 0, none⟩) d.cols.toNat d.cols.toNat)) (o : Obj) (F6 : Fr (fun q => T.ownBlock = some q) (W5.alloc o) w6) (hTb : T.ownBlock = some gb)
  (n6 : Value.ownBlock (.slice (some ⟨g6, k6, none⟩) (d.R - 1 + 1) cap6) = T.ownBlock ∨ Value.ownBlock (.slice (some ⟨g6, k6, none⟩) (d.R - 1 + 1) cap6) = some (W5.alloc o).heap.size)
  (b6 : w6.heap[F]? = some (.cells #[.int .i64 d.cols, .int .i64 d.rows, .slice (some ⟨gb, gk, none⟩) d.R gcap, .int .i64 d.row, .int .i64 d.col, .bool false, hv, .slice (some ⟨gg, 0, none⟩) (d.nb + 1) cap] 26 (0, 0))) :
  (∃ gv' rv' bv', zab (w6.setCell ⟨F, 2, none⟩ (.slice (some ⟨g6, k6, none⟩) (d.R - 1 + 1) cap6)) F base X (d.down zp) gv' rv' hv bv') ∧ FrW F base X w (w6.setCell ⟨F, 2, none⟩ (.slice (some ⟨g6, k6, none⟩) (d.R - 1 + 1) cap6)) := by
 have hs := zae hk
 have hR := hk.R
 have eR : d.R - 1 + 1 = d.R := by omega
 rw [eR] at o6 n6 ⊢
 have hk2 : OkP { d with late := false } := ⟨hk.size, hk.R, hk.hold, hk.C, hk.half, hk.row, hk.col, fun e => by cases e⟩
 obtain ⟨Z, hZ⟩ : ∃ Z, Z = w6.setCell ⟨F, 2, none⟩ (.slice (some ⟨g6, k6, none⟩) d.R cap6) := ⟨_, rfl⟩
 rw [← hZ]
 have fZ : Fr (fun k => k = F) w6 Z := by rw [hZ]; exact Fr.setCell (S := fun k => k = F) (Fr.refl _ _) (a := ⟨F, 2, none⟩) rfl _
 have z3 := hF3.size
 have zY := hFY.size
 have z5 := E5.size
 have z6 := F6.size
 have zA : (W5.alloc o).heap.size = W5.heap.size + 1 := by simp
 have hgb := (hV.foot (g := gb) (.inl rfl)).2
 have hF := hV.below.1
 have hgF : gb ≠ F := fun e => hV.below.2 (.inl (by rw [← e]; rfl))
 have hggF : gg ≠ F := fun e => by
  rcases hA3 with x | x
  ·exact hV.below.2 (.inr (.inr (by rw [← e]; exact x)))
  ·omega
 have hgg : gg ≠ gb := fun e => by
  rcases hA3 with x | x
  ·exact hV.gridBack x (by rw [e]; rfl)
  ·omega
 have F6b : Fr (fun q => q = gb) (W5.alloc o) w6 := F6.mono (fun q hq => by rw [hTb] at hq; simpa using hq.symm)
 have g6F : g6 ≠ F := fun e => by
  rcases n6 with x | x
  ·rw [hTb] at x
   have : g6 = gb := by simpa [Value.ownBlock] using x
   omega
  ·have : g6 = (W5.alloc o).heap.size := by simpa [Value.ownBlock] using x
   omega
 have hall : Fr (fun k => k = F ∨ Value.ownBlock (.slice (some ⟨gb, gk, none⟩) d.R gcap) = some k ∨ bv.ownBlock = some k) V Z :=
  Fr.tr (Fr.tr (Fr.tr (Fr.tr (hF3.mono (fun k hk => .inr (.inr hk))) (hFY.mono (fun k hk => .inl hk))) (Fr.of_ext (E5.alloc o))) (F6b.mono (fun k hk => .inr (.inl (by rw [hk]; rfl))))) (fZ.mono (fun k hk => .inl hk))
 have hrow : zaG Z base 83 (.slice (some ⟨Y.heap.size, 0, none⟩) d.cols.toNat d.cols.toNat) d.cols.toNat (fun _ => .string bz) (fun _ => .bool false) := by
  have h1 := (((zjL ho5).mono (by have := hV.top; omega : base ≤ Y.heap.size)).ext ((Ext.refl W5).alloc o)).fr F6b (fun g hg e => by have : Y.heap.size = g := (by simpa [Value.ownBlock] using hg); omega)
  exact h1.fr fZ (fun g hg e => by have : Y.heap.size = g := (by simpa [Value.ownBlock] using hg); omega)
 have hbk : za4 Z base 9 (.slice (some ⟨gg, 0, none⟩) (d.nb + 1) cap) (d.nb + 1) (fun j => .string (if j = d.nb then zp (d.tx 0) (d.hf 0) (d.C 0) else d.bk j)) := by
  have hne : ∀ (P : Nat), gg ≠ P → ∀ g, Value.ownBlock (.slice (some ⟨gg, 0, none⟩) (d.nb + 1) cap) = some g → ¬ g = P := fun P hP g hg e => by have : gg = g := (by simpa [Value.ownBlock] using hg); omega
  have h1 := fZ.owns (F6b.owns ((E5.alloc o).owns (hFY.owns hO3 (hne F hggF))) (hne gb hgg)) (hne F hggF)
  refine ⟨_, h1, fun j hj => ?_⟩
  show _ = some (Value.string (if j = d.nb then zp (d.tx 0) (d.hf 0) (d.C 0) else d.bk j))
  by_cases e : j = d.nb
  ·subst e
   rw [if_pos rfl, List.getElem?_append_right (by omega), hl]
   simp
  ·rw [if_neg e, List.getElem?_append_left (by omega)]
   exact hxs j (by omega)
 have hgr : zbg Z base 81 (.slice (some ⟨g6, k6, none⟩) d.R cap6) d.R (fun j => if j + 1 < d.R then rv (j + 1) else .slice (some ⟨Y.heap.size, 0, none⟩) d.cols.toNat d.cols.toNat) := by
  refine (o6.fr fZ (fun g hg e => by have : g6 = g := (by simpa [Value.ownBlock] using hg); omega)).congr (fun j hj => ?_)
  by_cases e : j + 1 < d.R
  ·rw [if_pos e, if_pos (by omega)]
  ·rw [if_neg e, if_neg (by omega)]
 have hbox : Z.heap[F]? = some (.cells #[.int .i64 d.cols, .int .i64 d.rows, .slice (some ⟨g6, k6, none⟩) d.R cap6, .int .i64 d.row, .int .i64 d.col, .bool false, hv, .slice (some ⟨gg, 0, none⟩) (d.nb + 1) cap] 26 (0, 0)) := by rw [hZ]; exact zj b6 rfl
 have hfin := hV.rolled hk2 hn (.slice (some ⟨g6, k6, none⟩) d.R cap6) (.slice (some ⟨Y.heap.size, 0, none⟩) d.cols.toNat d.cols.toNat) (.slice (some ⟨gg, 0, none⟩) (d.nb + 1) cap) hbox hgr hrow hbk hall
  (by
   rcases n6 with x | x
   ·exact .inl (by rw [x, hTb]; rfl)
   ·exact .inr (fun g hg => by rw [x] at hg; simp only [Option.some.injEq] at hg; omega))
  (by
   rcases hA3 with x | x
   ·exact .inl (by rw [x]; rfl)
   ·exact .inr (fun g hg => by have : gg = g := (by simpa [Value.ownBlock] using hg); omega))
  (fun g hg => by have : Y.heap.size = g := (by simpa [Value.ownBlock] using hg); omega)
 have ed : ({ d with late := false } : SD).down zp = d.down zp := by
  unfold SD.down
  rw [if_neg hn]
 rw [ed] at hfin
 refine ⟨⟨_, _, _, hfin⟩, Fr.tr (hFV.mono (fun k hk => .inl hk)) (hall.mono (fun k hk => ?_))⟩
 rcases hk with hk | hk | hk
 ·exact .inl hk
 ·exact .inr ⟨(hV.foot (.inl hk)).1, fun hx => (hV.kept k hx).2 (.inl hk)⟩
 ·exact .inr ⟨(hV.foot (.inr (.inr hk))).1, fun hx => (hV.kept k hx).2 (.inr (.inr hk))⟩
set_option maxRecDepth 10000 in
set_option maxHeartbeats 4000000 in
theorem ziA (w : World) (h : zab w F base X d gv rv hv bv) (hk : OkP d) (hn : ¬ d.row < d.rows - 1) (hw : rsz (d.tx 0) (d.C 0) ≤ 1099511627776) (hnb : d.nb ≤ 16777216) :
    Calls Tryz.prog 103 #[.pointer (some ⟨F, 0, none⟩)] w fun e w' => e = .returned (.tuple #[]) ∧ (∃ gv' rv' bv', zab w' F base X (d.down zp) gv' rv' hv bv') ∧ FrW F base X w w' := by
  have hs := zae hk
  have hR := hk.R
  have hr := hk.row
  obtain ⟨ic, hic, hc0, hc1, hc2⟩ := info_parts zfa
  have c5 := zg h.box 5 _ rfl
  have f5 : w.frozen? ⟨F, 5, none⟩ = false := Lib.frozen_of_heap h.box 5
  have w1 : IntKind.i64.wrap (d.rows - 1) = d.rows - 1 := by rw [IntKind.wrap_i64] <;> omega
  have HK := zh hk
  obtain ⟨U, hU⟩ : ∃ U, U = w.setCell ⟨F, 5, none⟩ (.bool false) := ⟨_, rfl⟩
  have fU : Fr (fun k => k = F) w U := by rw [hU]; exact Fr.setCell (S := fun k => k = F) (Fr.refl _ w) (a := ⟨F, 5, none⟩) rfl _
  have hU2 : zab U F base X { d with late := false } gv rv hv bv := h.head fU d.row d.col false (by rw [hU]; exact zj h.box rfl)
  have u1 := zg hU2.box 1 _ rfl
  have u3 := zg hU2.box 3 _ rfl
  have HU := zh hU
  have HFU := zh fU
  have HSU := zh hU2
  have hnle : d.rows - 1 ≤ d.row := by omega
  clear h hk fU hU2 hU
  go_enter Tryz.func103, Tryz.ntmps103
  go_wp2_with fail
  rw [← zu HU]
  clear c5 f5 HU
  go_region_held3 (fun W => W.cell? ⟨F, 3, none⟩ = some (.int .i64 d.row) ∧ W.cell? ⟨F, 1, none⟩ = some (.int .i64 d.rows)) (first | exact ⟨u3, u1⟩) (first | fail)
  have HV := zh ((zu HSU).ext (Ext.refl U).drew)
  have HFV := zh (Fr.tr (zu HFU) (Fr.of_ext (Ext.refl U).drew))
  generalize U.drew = V at *
  clear HSU HFU u1 u3
  obtain ⟨gb, gk, gcap, cur, rfl, hgb0, hgb, hgk, hgn, hgm, hgA⟩ := (zu HV).grid
  have u2 := zg (zu HV).box 2 _ rfl
  have u7 := zg (zu HV).box 7 _ rfl
  have r0 : V.cell? ⟨gb, gk, none⟩ = some (rv 0) := zg hgb gk _ (by have := hgA 0 (by show 0 < d.R; omega); simpa using this)
  have hRp : 0 < d.rows := by omega
  have HRt := zh (fun W (hW : Ext V W) => zd9 (rv 0) (d.C 0) (d.tx 0) (d.hf 0) W (((zu HV).ext hW).row 0 (by show 0 < d.R; omega)).reads (by have := (zu HK).C 0 (by omega); omega) hw)
  obtain ⟨xs, hown, hxs⟩ := (zu HV).back
  have hl : xs.length = d.nb := by have := hown.1; simpa using this
  have HOWN := zh hown
  have HXS := zh hxs
  have hbz := (zu HV).top
  clear hgA hgb hown hxs
  go_wp2_with fail
  go_region_law (first
    | (refine step_append_lies _ (by rfl) _ _ _ (by rfl) base 9 ic _ 1 16 Tryz.underlying24 hic hc0 hc1 hc2 rfl (by omega) bv d.nb xs (by rfl) (by first | exact (E'.owns (zu HOWN)).alloc _ | exact ((E'.owns (zu HOWN)).alloc _).drew | exact (E'.owns (zu HOWN)).drew.alloc _ | exact ((E'.owns (zu HOWN)).drew.alloc _).drew)
         ⟨w'.heap.size, 0, none⟩ 1 1 [.string (zp (d.tx 0) (d.hf 0) (d.C 0))] (by rfl) (by rfl) (World.news_of_block (cs := #[.string (zp (d.tx 0) (d.hf 0) (d.C 0))]) (t := 9) (fr := (0, 0)) (heap_alloc_new w' _)) (by simp [Value.oneCell'])
         (by omega) (by unfold maxLen; omega) (by omega) (by simp; omega) (w'.heap.size + 1) (by simp) ?_
       intro gg cap w3 hown3 hgrow hat hlt3
       have fr3 : Fr (fun k => bv.ownBlock = some k) V w3 := Fr.grown (S := fun k => bv.ownBlock = some k) (w := V) (Fr.of_ext (by first | exact E'.alloc _ | exact (E'.alloc _).drew | exact E'.drew.alloc _ | exact (E'.drew.alloc _).drew)) hgrow (fun k hk => hk)
       have b3 := fr3.kept (zu HV).box (fun e => (zu HV).below.2 (.inr (.inr e)))
       have c3 := zg b3 7 _ rfl
       have f3 : w3.frozen? ⟨F, 7, none⟩ = false := Lib.frozen_of_heap b3 7
       have hat2 : bv.ownBlock = some gg ∨ V.heap.size ≤ gg := hat.imp id (fun e => by omega)
       have HO3 := zh hown3
       have HF3 := zh fr3
       have HB3 := zh b3
       have HA3 := zh hat2
       clear b3 hown3 hgrow fr3 hat hat2)
    | (go_simp; go_at_call 79; refine ((zu HRt) V.drew (Ext.refl _).drew).mono ?_; rintro e w' ⟨rfl, E0⟩; have E' : Ext V w' := (Ext.refl V).drew.trans E0; have hsz' := E'.size; have c7 := E'.cell u7; have c7n : ∀ o, (w'.alloc o).cell? ⟨F, 7, none⟩ = some bv := fun o => ((Ext.refl w').alloc o).cell c7; clear E0))
  all_goals
    go_wp2_with fail
    obtain ⟨Y, hY⟩ : ∃ Y, Y = w3.setCell ⟨F, 7, none⟩ (.slice (some ⟨gg, 0, none⟩) (d.nb + 1) cap) := ⟨_, rfl⟩
    rw [← hY]
    have fY : Fr (fun k => k = F) w3 Y := by rw [hY]; exact Fr.setCell (S := fun k => k = F) (Fr.refl _ _) (a := ⟨F, 7, none⟩) rfl _
    have bY : Y.heap[F]? = some (.cells #[.int .i64 d.cols, .int .i64 d.rows, .slice (some ⟨gb, gk, none⟩) d.R gcap, .int .i64 d.row, .int .i64 d.col, .bool false, hv, .slice (some ⟨gg, 0, none⟩) (d.nb + 1) cap] 26 (0, 0)) := by rw [hY]; exact zj (zu HB3) rfl
    have gY := ((zu HV).grid.fr (zu HF3) (fun g hg e => (zu HV).gridBack e hg)).fr fY (fun g hg e => (zu HV).below.2 (.inl (e ▸ hg)))
    have y0 := zg bY 0 _ rfl
    have y2 := zg bY 2 _ rfl
    have g2 : Y.frozen? ⟨F, 2, none⟩ = false := Lib.frozen_of_heap bY 2
    have hzY : V.heap.size ≤ Y.heap.size := Nat.le_trans (zu HF3).size fY.size
    obtain ⟨icc, hicc, hcc0, hcc1, hcc2⟩ := info_parts zgM
    obtain ⟨W5, hmk, hown5, hgr5⟩ := run_make_full (P := Tryz.prog) Y.drew Y.heap.size 81 83 icc (.agg #[.string noB, .bool false]) 2 Tryz.underlying81 hicc hcc0 hcc1 .i64 .i64 d.cols.toNat (by rw [hcc2]; omega) (by unfold maxLen; omega) (Nat.le_refl _)
    rw [Int.toNat_of_nonneg (show 0 ≤ d.cols by omega)] at hmk
    have HY := zh hY
    have HFY := zh fY
    have HBY := zh bY
    have HGY := zh gY
    have HO5 := zh hown5
    have HG5 := zh hgr5
    have bR : (1 : Int) ≤ d.rows := by omega
    clear hY fY bY gY hown5 hgr5 c3 f3
    obtain ⟨n, hn1⟩ : ∃ n, d.R = n + 1 := ⟨d.R - 1, by omega⟩
    have hT0 : zbg Y base 81 (.slice (if gcap = 1 then some ⟨gb, gk, none⟩ else some ⟨gb, gk + 1, none⟩) (d.R - 1) (gcap - 1)) (d.R - 1) (fun j => rv (j + 1)) := by
      have h1 : zbg Y base 81 (.slice (some ⟨gb, gk, none⟩) d.R gcap) d.R rv := zu HGY
      rw [hn1] at h1
      have h2 := h1.tail
      rw [show d.R - 1 = n by omega]
      exact h2
    have hTb : Value.ownBlock (.slice (if gcap = 1 then some ⟨gb, gk, none⟩ else some ⟨gb, gk + 1, none⟩) (d.R - 1) (gcap - 1)) = some gb := by split <;> rfl
    have HT0 := zh hT0
    have HTb := zh hTb
    have E5 : Ext Y W5 := Ext.grown ((Ext.refl Y).drew) (zu HG5) (fun k hk => by cases hk)
    have z5 := E5.size
    have e0 := zg (E5.kept (zu HBY)) 0 _ rfl
    have e2 := zg (E5.kept (zu HBY)) 2 _ rfl
    have e2n : ∀ o, (W5.alloc o).cell? ⟨F, 2, none⟩ = some (.slice (some ⟨gb, gk, none⟩) d.R gcap) := fun o => ((Ext.refl W5).alloc o).cell e2
    have hR101 : d.R ≤ 100 := by omega
    clear hT0 hTb hn1 n
    obtain ⟨ir, hir, hr0, hr1, hr2⟩ := info_parts zi2
    go_region_law (first
      | (refine znl (by rfl) _ _ _ (by rfl) (base := base) (T := 81) (A := fun j => rv (j + 1)) ((zu HT0).ext (E5.alloc _)) ir _ 24 Tryz.underlying23 hir hr0 hr1 hr2 rfl (by rfl) ⟨W5.heap.size, 0, none⟩ 1 (.slice (some ⟨Y.heap.size, 0, none⟩) d.cols.toNat d.cols.toNat) (by rfl) (zg (zk W5 _) 0 _ rfl) rfl (by simp; omega) (by omega) (by omega) ?_
         intro v6 w6 o6 F6 n6
         obtain ⟨g6, k6, cap6, cur6, rfl, hx6⟩ := id o6
         clear hx6
         have b6 := F6.kept (((Ext.refl W5).alloc (.cells #[.slice (some ⟨Y.heap.size, 0, none⟩) d.cols.toNat d.cols.toNat] 81)).kept (E5.kept (zu HBY))) (fun e => (zu HV).below.2 (.inl (by rw [zu HTb] at e; simp only [Option.some.injEq] at e; rw [← e]; rfl)))
         have c6 := zg b6 2 _ rfl
         have f6 : w6.frozen? ⟨F, 2, none⟩ = false := Lib.frozen_of_heap b6 2
         have HO6 := zh o6
         have HF6 := zh F6
         have HN6 := zh n6
         have HB6 := zh b6
         clear o6 F6 n6 b6))
    all_goals
      go_wp2
      all_goals go_end0
      all_goals exact ⟨rfl, far_end (zu HFV) (zu HV) (zu HK) (by omega) (zu HO3) (zu HXS) hl (zu HF3) (zu HA3) Y (zu HFY) E5 (zu HO5) (zu HO6) _ (zu HF6) (zu HTb) (zu HN6) (zu HB6)⟩
end
section
variable {F base : Nat} {X : Nat → Prop} {d : SD} {gv : Value} {rv : Nat → Value} {hv bv : Value}
def zdP (w : World) (F base : Nat) (X : Nat → Prop) (d : SD) (hv : Value) : Prop := ∃ gv rv bv, zab w F base X d gv rv hv bv
def zeT (d : SD) : Prop := OkP d ∧ rsz (d.tx 0) (d.C 0) ≤ 1099511627776 ∧ d.nb ≤ 16777216
theorem zct (w : World) (h : zdP w F base X d hv) (hk : zeT d) :
  Calls Tryz.prog 103 #[.pointer (some ⟨F, 0, none⟩)] w fun e w' => e = .returned (.tuple #[]) ∧ zdP w' F base X (d.down zp) hv ∧ FrW F base X w w' := by
 obtain ⟨gv, rv, bv, h⟩ := h
 by_cases hn : d.row < d.rows - 1
 ·exact (zhL w h hk.1 hn).mono (fun e w' ⟨h1, h2, h3⟩ => ⟨h1, ⟨_, _, _, h2⟩, h3⟩)
 ·exact ziA w h hk.1 hn hk.2.1 hk.2.2
theorem zbx (w : World) (h : zdP w F base X d hv) :
  Calls Tryz.prog 102 #[.pointer (some ⟨F, 0, none⟩)] w fun e w' => e = .returned (.tuple #[]) ∧ zdP w' F base X { d with col := 0, late := false } hv ∧ FrW F base X w w' := by
 obtain ⟨gv, rv, bv, h⟩ := h
 exact (zeS w h).mono (fun e w' ⟨h1, h2, h3⟩ => ⟨h1, ⟨_, _, _, h2⟩, h3.mono (fun k hk => .inl hk)⟩)
theorem zft (d : SD) : ({ d with col := 0, late := false } : SD).down zp = { d.down zp with col := 0 } := by
 unfold SD.down
 by_cases e : d.row < d.rows - 1
 ·rw [if_pos e, if_pos e]
 ·rw [if_neg e, if_neg e]
theorem zbK (d : SD) (i j k : Nat) : (d.clrTo i j k).row = d.row ∧ (d.clrTo i j k).col = d.col := by
 unfold SD.clrTo
 split <;> exact ⟨rfl, rfl⟩
theorem zeT.col0 (h : zeT d) : zeT { d with col := 0, late := false } := ⟨zgg h.1, h.2.1, h.2.2⟩
end
section
variable {F base : Nat} {X : Nat → Prop} {d : SD} {gv : Value} {rv : Nat → Value} {hv bv : Value}
set_option maxRecDepth 10000 in
set_option maxHeartbeats 16000000 in
theorem put_1 (w : World) (h : zdP w F base X d hv) (hk : zeT d) (r : Int) :
    Calls Tryz.prog 106 #[.pointer (some ⟨F, 0, none⟩), .int .i32 r, .int .i64 1] w fun e w' => e = .returned (.tuple #[]) ∧ zdP w' F base X (d.put zp (zo (zac r)) 1) hv ∧ FrW F base X w w' := by
  have hs := zae hk.1
  obtain ⟨gv, rv, bv, h⟩ := h
  have c0 := zg h.box 0 _ rfl
  have c4 := zg h.box 4 _ rfl
  have c5 := zg h.box 5 _ rfl
  have wc : IntKind.i64.wrap (d.cols - 1) = d.cols - 1 := by rw [IntKind.wrap_i64] <;> omega
  obtain ⟨d1, hd1⟩ : ∃ x, x = d.wrapL zp 1 := ⟨_, rfl⟩
  have hok1 := ze8 zp hk.1 1 (by omega)
  rw [← hd1] at hok1
  have HD1 : Hid (OkP d1 ∧ d1.col + 1 ≤ d1.cols) := zh ⟨hok1.1, hok1.2.2⟩
  have HDE := zh hd1
  have H := zh h
  have HK := zh hk
  clear h hk hok1
  have hcs : d.late = true ∨ d.late = false := by cases d.late; exact .inr rfl; exact .inl rfl
  rcases hcs with hl | hl
  case' inl =>
    rw [hl] at c5
    go_enter Tryz.func106, Tryz.ntmps106
    go_wp2_with fail
    go_region
    have HR := zh (zbx w.drew ⟨_, _, _, (zu H).ext (Ext.refl w).drew⟩)
    clear c0 c4 c5 H
    go_wp2_with fail
    refine (zu HR).mono ?_
    rintro e w5 ⟨rfl, h5, f5⟩
    have HL := zh (zct w5 h5 (zu HK).col0)
    rw [zft] at HL
    have HF5 := zh f5
    clear h5 f5 HR
    go_wp2_with fail
    refine (zu HL).mono ?_
    rintro e wa ⟨rfl, ⟨gva, rva, bva, ha⟩, fa⟩
    have HFA := zh (Fr.tr (Fr.of_ext (Ext.refl w).drew) (Fr.tr (zu HF5) fa))
    have HA : Hid (zab wa F base X d1 gva rva hv bva) := zh (by rw [hd1]; unfold SD.wrapL; rw [if_pos (.inl hl)]; exact ha)
    clear ha fa HL HF5 hd1
  case' inr =>
    rw [hl] at c5
    go_enter Tryz.func106, Tryz.ntmps106
    go_wp2_with fail
    go_region
    obtain ⟨wa, hwa⟩ : ∃ wa, wa = w.drew := ⟨_, rfl⟩
    have HA : Hid (zab wa F base X d1 gv rv hv bv) := zh (by rw [hd1, hwa]; unfold SD.wrapL; rw [if_neg (by rw [hl]; simp)]; exact (zu H).ext (Ext.refl w).drew)
    have HFA : Hid (FrW F base X w wa) := zh (by rw [hwa]; exact Fr.of_ext (Ext.refl w).drew)
    rw [← hwa]
    generalize gv = gva at *
    generalize rv = rva at *
    generalize bv = bva at *
    clear c0 c4 c5 H hd1 hwa
  all_goals
    have ok1 := (zu HD1).1
    have hs1 := zae ok1
    have hrow1 := ok1.row
    have hcol1 := ok1.col
    have hle1 := (zu HD1).2
    obtain ⟨i0, ei0⟩ : ∃ i0 : Nat, d1.row = i0 := ⟨d1.row.toNat, by omega⟩
    obtain ⟨j0, ej0⟩ : ∃ j0 : Nat, d1.col = j0 := ⟨d1.col.toNat, by omega⟩
    have hiR : i0 < d1.R := by have := ok1.R; omega
    have hCi := ok1.C i0 hiR
    have hjC : j0 + 1 ≤ d1.C i0 := by omega
    have HLoop : Hid (zab wa F base X (d1.clrTo i0 j0 (j0 + 0)) gva rva hv bva) := zh (by unfold SD.clrTo; rw [if_pos (by omega)]; exact zu HA)
    obtain ⟨g, cap, hg, _, _, _, _⟩ := (zu HA).cellOf i0 j0 hiR (by omega)
    have HG := zh hg
    have HOK1 := zh ok1
    have hC200 : d1.C i0 ≤ 200 := by omega
    clear hg ok1
    go_wp2_with fail
    go_loopw [32] (fun i wr => ∃ k : Nat, k ≤ 1 ∧ i = .int .i64 k ∧ Hid (zab wr F base X (d1.clrTo i0 j0 (j0 + k)) gva rva hv bva) ∧ Hid (FrW F base X w wr)) (fun i _ => 1 - (intOf i).toNat)
    case atStart => exact ⟨0, Nat.zero_le _, rfl, HLoop, HFA⟩
    case round =>
      clear HLoop HFA
      obtain ⟨k, hk1, rfl, HK, HF⟩ := hrel
      obtain ⟨q1, q2, q3⟩ := zcF d1 i0 j0 (j0 + k)
      have c3 : wr.cell? ⟨F, 3, none⟩ = some (.int .i64 (i0 : Int)) := by have h9 := zg (zu HK).box 3 _ rfl; rw [← ei0, ← (zbK d1 i0 j0 (j0 + k)).1]; exact h9
      have c4 : wr.cell? ⟨F, 4, none⟩ = some (.int .i64 (j0 : Int)) := by have h9 := zg (zu HK).box 4 _ rfl; rw [← ej0, ← (zbK d1 i0 j0 (j0 + k)).2]; exact h9
      by_cases hlt : k < 1
      · have b1 : (k : Int) < 1 := by omega
        have wjk : IntKind.i64.wrap ((j0 : Int) + (k : Int)) = (j0 : Int) + (k : Int) := by rw [IntKind.wrap_i64] <;> omega
        have hcall : ∀ W9, Ext wr W9 → Calls Tryz.prog 164 #[.pointer (some ⟨F, 0, none⟩), .int .i64 (i0 : Int), .int .i64 ((j0 : Int) + (k : Int))] W9 fun e w' => e = .returned (.tuple #[]) ∧ zab w' F base X (d1.clrTo i0 j0 (j0 + k + 1)) gva rva hv bva ∧ Fr (fun q => (rva i0).ownBlock = some q) W9 w' := fun W9 hW9 => by
          have h9 := zfw W9 ((zu HK).ext hW9) i0 (j0 + k) (by rw [q1]; exact hiR) (by rw [q2]; omega) (by rw [q2, q3]; exact hCi) (fun hh => by
            rcases Nat.eq_zero_or_pos k with e | e
            · subst e
              unfold SD.clrTo at hh
              rw [if_pos (by omega)] at hh
              exact ((zu HOK1).half i0 (j0 + 0) hiR (by omega) hh).2.1
            · omega) (by rw [q2]; exact hC200)
          rw [zeK d1 i0 j0 (j0 + k) (by omega) (by omega), show ((j0 + k : Nat) : Int) = (j0 : Int) + (k : Int) by omega] at h9
          exact h9
        have HCall := zh hcall
        clear hcall q1 q2 q3
        go_wp2_with fail
        go_region_held3 (fun W => W.cell? ⟨F, 3, none⟩ = some (.int .i64 (i0 : Int)) ∧ W.cell? ⟨F, 4, none⟩ = some (.int .i64 (j0 : Int))) (first | exact ⟨c3, c4⟩ | exact ⟨e3, e4⟩) (first
          | (go_at_call 164
             refine ((zu HCall) _ (Ext.refl wr).drew).mono ?_
             rintro e w1 ⟨rfl, h1, f1⟩
             have e3 : w1.cell? ⟨F, 3, none⟩ = some (.int .i64 (i0 : Int)) := (by have h9 := zg h1.box 3 _ rfl; rw [← ei0, ← (zbK d1 i0 j0 (j0 + k + 1)).1]; exact h9)
             have e4 : w1.cell? ⟨F, 4, none⟩ = some (.int .i64 (j0 : Int)) := (by have h9 := zg h1.box 4 _ rfl; rw [← ej0, ← (zbK d1 i0 j0 (j0 + k + 1)).2]; exact h9)
             have HS2 := zh h1
             have HF2 := zh (Fr.tr (zu HF) (Fr.tr (Fr.of_ext (Ext.refl wr).drew) (((zu HK).ext (Ext.refl wr).drew).rowFr i0 (by rw [(zcF d1 i0 j0 (j0 + k)).1]; exact hiR) f1)))
             clear h1 f1))
        go_wp2
        go_roundw
        case rel => exact ⟨k + 1, by omega, by go_num, HS2, HF2⟩
        case measure => simp [intOf]; omega
      · obtain rfl : k = 1 := by omega
        have hb : ¬ ((1 : Nat) : Int) < 1 := by omega
        clear q1 q2 q3
        have HB : Hid (zab wr F base X (d1.clr i0 j0 (j0 + 1)) gva rva hv bva) := zh (by have := zu HK; unfold SD.clrTo at this; rw [if_neg (by omega)] at this; exact this)
        clear HK
        have HCn := zh (fun W9 (hW9 : Ext wr W9) => zao W9 ((zu HB).ext hW9) i0 j0 g cap hiR (by show j0 < d1.C i0; omega) (zu HG))
        go_wp2_with fail
        first
          | (go_region_held3 (fun W => W.cell? ⟨F, 3, none⟩ = some (.int .i64 (i0 : Int)) ∧ W.cell? ⟨F, 4, none⟩ = some (.int .i64 (j0 : Int))) (first | exact ⟨c3, c4⟩ | exact ⟨e3, e4⟩ | exact ⟨p3, p4⟩) (first
              | (go_at_call 163
                 refine ((zu HCn) _ (Ext.refl wr).drew).mono ?_
                 rintro e w2 ⟨rfl, E2⟩
                 have H2 := zh ((zu HB).ext ((Ext.refl wr).drew.trans E2))
                 have HF2 := zh (Fr.tr (zu HF) (Fr.of_ext ((Ext.refl wr).drew.trans E2)))
                 obtain ⟨g', cap', e', b1, b2, b3, b4⟩ := (zu H2).cellOf i0 j0 hiR (by show j0 < d1.C i0; omega)
                 rw [zu HG] at e'
                 simp only [Value.slice.injEq, Option.some.injEq, Addr.mk.injEq, and_true] at e'
                 rw [← e'.1] at b1 b2 b3 b4
                 clear e' E2
                 have e3 : w2.cell? ⟨F, 3, none⟩ = some (.int .i64 (i0 : Int)) := (by rw [← ei0]; exact zg (zu H2).box 3 _ rfl)
                 have e4 : w2.cell? ⟨F, 4, none⟩ = some (.int .i64 (j0 : Int)) := (by rw [← ej0]; exact zg (zu H2).box 4 _ rfl)
                 have hset := (zu H2).setT1 i0 j0 g cap hiR (by show j0 < d1.C i0; omega) (zu HG) (Utf8.encode r)
                 have p3 : (w2.setCell ⟨g, j0 * 2, none⟩ (.string (Utf8.encode r))).cell? ⟨F, 3, none⟩ = some (.int .i64 (i0 : Int)) := (by rw [← ei0]; exact zg hset.1.box 3 _ rfl)
                 have p4 : (w2.setCell ⟨g, j0 * 2, none⟩ (.string (Utf8.encode r))).cell? ⟨F, 4, none⟩ = some (.int .i64 (j0 : Int)) := (by rw [← ej0]; exact zg hset.1.box 4 _ rfl)
                 have HP1 := zh hset
                 clear hset))
             )
          | fail
        obtain ⟨W3, hW3⟩ : ∃ W3, W3 = w2.setCell ⟨g, j0 * 2, none⟩ (.string (Utf8.encode r)) := ⟨_, rfl⟩
        rw [← hW3] at HP1 p3 p4 ⊢
        have H3 := zh (zu HP1).1
        have HF3 := zh (Fr.tr (zu HF2) ((zu H2).rowFr i0 hiR (zu HP1).2))
        clear HP1 hW3 b1 b2 b3 b4 e3 e4 H2 HF2 HCn HB HF c3 c4 p3 p4
        have c0 := zg (zu H3).box 0 _ rfl
        have c4 : W3.cell? ⟨F, 4, none⟩ = some (.int .i64 (j0 : Int)) := by rw [← ej0]; exact zg (zu H3).box 4 _ rfl
        have f4 : W3.frozen? ⟨F, 4, none⟩ = false := Lib.frozen_of_heap (zu H3).box 4
        have wjw : IntKind.i64.wrap ((j0 : Int) + 1) = (j0 : Int) + 1 := by rw [IntKind.wrap_i64] <;> omega
        have wcm : IntKind.i64.wrap (d1.cols - 1) = d1.cols - 1 := by rw [IntKind.wrap_i64] <;> omega
        obtain ⟨d2, hd2⟩ : ∃ x, x = d1.put2 (Utf8.encode r) 1 := ⟨_, rfl⟩
        have HS2 : Hid (zab W3 F base X d2 gva rva hv bva) := zh (by
          have h9 := zu H3
          rw [hd2]
          unfold SD.put2 SD.put1
          rw [if_neg (by decide), ei0, ej0, Int.toNat_natCast, Int.toNat_natCast]
          exact h9)
        have hrest := zfG d1 (Utf8.encode r) 1
        rw [← hd2] at hrest
        obtain ⟨U, hU⟩ : ∃ U, U = W3.setCell ⟨F, 4, none⟩ (.int .i64 ((j0 : Int) + 1)) := ⟨_, rfl⟩
        have fU : Fr (fun k => k = F) W3 U := by rw [hU]; exact Fr.setCell (S := fun k => k = F) (Fr.refl _ _) (a := ⟨F, 4, none⟩) rfl _
        have hSU := (zu HS2).head fU d2.row ((j0 : Int) + 1) d2.late (by rw [hU]; exact zj (zu HS2).box rfl)
        have HU := zh hU
        have HSU := zh hSU
        have HFU := zh (Fr.tr (zu HF3) (fU.mono (fun k hk => .inl hk)))
        have u0 : U.cell? ⟨F, 0, none⟩ = some (.int .i64 d1.cols) := by rw [← hrest.1]; exact zg hSU.box 0 _ rfl
        have u4 := zg hSU.box 4 _ rfl
        clear hU fU hSU H3 HF3
        go_wp2_with fail
        rw [← zu HU]
        clear c0 c4 f4 HU
        go_region_held3 (fun W => W.cell? ⟨F, 4, none⟩ = some (.int .i64 ((j0 : Int) + 1)) ∧ W.cell? ⟨F, 0, none⟩ = some (.int .i64 d1.cols)) (first | exact ⟨u4, u0⟩) (first | fail)
        have HSV := zh ((zu HSU).ext (Ext.refl U).drew)
        have HFV := zh (Fr.tr (zu HFU) (Fr.of_ext (Ext.refl U).drew))
        generalize U.drew = V at *
        clear HSU HFU u0 u4
        have v0 : V.cell? ⟨F, 0, none⟩ = some (.int .i64 d1.cols) := by rw [← hrest.1]; exact zg (zu HSV).box 0 _ rfl
        have v4 := zg (zu HSV).box 4 _ rfl
        have v5 := zg (zu HSV).box 5 _ rfl
        have x4 : V.frozen? ⟨F, 4, none⟩ = false := Lib.frozen_of_heap (zu HSV).box 4
        have x5 : V.frozen? ⟨F, 5, none⟩ = false := Lib.frozen_of_heap (zu HSV).box 5
        by_cases hfull : d1.cols ≤ (j0 : Int) + 1
        · have HE3 : Hid (d1.put3 (Utf8.encode r) 1 = { d2 with col := d1.cols - 1, late := true }) := zh (by unfold SD.put3; rw [if_pos (by rw [ej0]; exact hfull), ← hd2])
          go_wp2
          go_end0
          have fs : Fr (fun k => k = F) V ((V.setCell ⟨F, 4, none⟩ (.int .i64 (d1.cols - 1))).setCell ⟨F, 5, none⟩ (.bool true)) := Fr.setCell (S := fun k => k = F) (Fr.setCell (S := fun k => k = F) (Fr.refl _ V) (a := ⟨F, 4, none⟩) rfl _) (a := ⟨F, 5, none⟩) rfl _
          have hfin := (zu HSV).head fs d2.row (d1.cols - 1) true (zj (zj (zu HSV).box rfl) rfl)
          refine ⟨rfl, ⟨gva, rva, bva, ?_⟩, Fr.tr (zu HFV) (fs.mono (fun k hk => .inl hk))⟩
          unfold SD.put
          rw [← zbc, ← zu HDE, zu HE3]
          exact hfin
        · have HE3 : Hid (d1.put3 (Utf8.encode r) 1 = { d2 with col := d1.col + 1 }) := zh (by unfold SD.put3; rw [if_neg (by rw [ej0]; exact hfull), ← hd2])
          go_wp2
          go_end0
          refine ⟨rfl, ⟨gva, rva, bva, ?_⟩, zu HFV⟩
          unfold SD.put
          rw [← zbc, ← zu HDE, zu HE3, ej0]
          exact zu HSV
end
end Go.Proofs.YtinfdhbnljnifaaGreatDoor
