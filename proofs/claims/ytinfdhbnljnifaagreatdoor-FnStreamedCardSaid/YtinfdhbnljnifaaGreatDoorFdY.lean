import Derived.Test.YtinfdhbnljnifaaGreatDoorFdF
import Derived.Test.YtinfdhbnljnifaaGreatDoorFdQ
import Derived.Test.YtinfdhbnljnifaaGreatDoorOkSpec
import Derived.Deep.AppendLies
import Derived.Deep.RegionLaw
namespace Go.Proofs.YtinfdhbnljnifaaGreatDoor
open Go.RowKit
theorem step_appO {P : Program} {w : World} {ops : Array Oper} {o : Oper} {a : Act} {K : Act → World → Prop} {Q : Exit → Act → World → Prop} {E : Prop} (hgd : o.guard = none) (s x : Operand) (t : TypeId) (ho : o.op = .call { callee := .builtin .append, args := #[s, x], argTypes := #[t, t] })
    {base : Nat} {T : TypeId} {v : Value} {n : Nat} {A : Nat → Value} (h : OwnO w base T v n A) (i : TypeInfo) (z : Value) (bytes : Nat) (ht : P.underlying t = some (.slice T)) (hi : P.info? T = some i) (hz : i.zero = some z) (hsize : i.size = 1) (hby : i.bytes = bytes) (hzs : z.cells.size = 1)
    (hs : a.eval s = v) (ad : Addr) (c : Nat) (r : Value) (hx : a.eval x = .slice (some ad) 1 c) (hr : w.cell? ad = some r) (hr1 : r.oneCell' = true) (hbase : base ≤ w.heap.size) (hn : n ≤ 200) (hbt : bytes ≤ 64)
    (hK : ∀ v' w', OwnO w' base T v' (n + 1) (fun j => if j < n then A j else r) → Fr (fun q => v.ownBlock = some q) w w' → (v'.ownBlock = v.ownBlock ∨ v'.ownBlock = some w.heap.size) → K (a.put o.dst v') w') : if Region.wanted o (yielded ops a.tmps) = true then Oper.wp P o a w K Q else E := by
  rw [if_pos (by simp [Region.wanted, hgd])]
  exact wp_appO s x t ho h i z bytes ht hi hz hsize hby hzs hs ad c r hx hr hr1 hbase hn hbt hK
section
variable {F base : Nat} {X : Nat → Prop} {d : SD} {gv : Value} {rv : Nat → Value} {hv bv : Value}
set_option maxHeartbeats 2000000 in
theorem lineFeed_near (w : World) (h : ScrW w F base X d gv rv hv bv) (hk : OkP d) (hn : d.row < d.rows - 1) :
    Calls Tryz.prog 103 #[.pointer (some ⟨F, 0, none⟩)] w fun e w' => e = .returned (.tuple #[]) ∧ ScrW w' F base X (d.down rowT) gv rv hv bv ∧ FrW F base X w w' := by
  have hs := size_bd hk
  have hr := hk.row
  have c5 := cells_of h.box 5 _ rfl
  have f5 : w.frozen? ⟨F, 5, none⟩ = false := Lib.frozen_of_heap h.box 5
  have w1 : IntKind.i64.wrap (d.rows - 1) = d.rows - 1 := by rw [IntKind.wrap_i64] <;> omega
  have w2 : IntKind.i64.wrap (d.row + 1) = d.row + 1 := by rw [IntKind.wrap_i64] <;> omega
  obtain ⟨U, hU⟩ : ∃ U, U = w.setCell ⟨F, 5, none⟩ (.bool false) := ⟨_, rfl⟩
  have fU : Fr (fun k => k = F) w U := by rw [hU]; exact Fr.setCell (S := fun k => k = F) (Fr.refl _ w) (a := ⟨F, 5, none⟩) rfl _
  have hU2 : ScrW U F base X { d with late := false } gv rv hv bv := h.head fU d.row d.col false (by rw [hU]; exact set_blk2 h.box rfl)
  have u1 : U.cell? ⟨F, 1, none⟩ = some (.int .i64 d.rows) := cells_of hU2.box 1 _ rfl
  have u3 : U.cell? ⟨F, 3, none⟩ = some (.int .i64 d.row) := cells_of hU2.box 3 _ rfl
  have HU := hide hU
  have HFU := hide fU
  have HSU := hide hU2
  clear h hk fU hU2 hU
  go_enter Tryz.func103, Tryz.ntmps103
  go_wp2_with fail
  rw [← unhide HU]
  clear c5 f5 HU
  go_region_held3 (fun W => W.cell? ⟨F, 3, none⟩ = some (.int .i64 d.row) ∧ W.cell? ⟨F, 1, none⟩ = some (.int .i64 d.rows)) (first | exact ⟨u3, u1⟩) (first | fail)
  have HV := hide ((unhide HSU).ext (Ext.refl U).drew)
  have HFV := hide (Fr.tr (unhide HFU) (Fr.of_ext (Ext.refl U).drew))
  generalize U.drew = V at *
  clear HSU HFU u1 u3
  have u3 : V.cell? ⟨F, 3, none⟩ = some (.int .i64 d.row) := cells_of (unhide HV).box 3 _ rfl
  have f3 : V.frozen? ⟨F, 3, none⟩ = false := Lib.frozen_of_heap (unhide HV).box 3
  go_wp2
  have fs : Fr (fun k => k = F) V (V.setCell ⟨F, 3, none⟩ (.int .i64 (d.row + 1))) := Fr.setCell (S := fun k => k = F) (Fr.refl _ V) (a := ⟨F, 3, none⟩) rfl _
  have hfin := (unhide HV).head fs (d.row + 1) d.col false (set_blk2 (unhide HV).box rfl)
  refine bodyPost_ret (v := .tuple #[]) (by simp [results, Tryz.results103, go_sem]) rfl ⟨rfl, ?_, Fr.mono (Fr.tr (unhide HFV) fs) (fun k hk => .inl hk)⟩
  unfold SD.down
  rw [if_pos hn]
  exact hfin
theorem far_end {w V w3 W5 w6 : World} {gb gk gcap gg cap g6 k6 cap6 : Nat} {xs : List Value} {T : Value} (hFV : Fr (fun k => k = F) w V) (hV : ScrW V F base X { d with late := false } (.slice (some ⟨gb, gk, none⟩) d.R gcap) rv hv bv) (hk : OkP d) (hn : ¬ d.row < d.rows - 1)
    (hO3 : w3.ownsRow base 9 1 (.slice (some ⟨gg, 0, none⟩) (d.nb + 1) cap) (d.nb + 1) (xs ++ [.string (rowT (d.tx 0) (d.hf 0) (d.C 0))])) (hxs : ∀ j, j < d.nb → xs[j]? = some (.string (d.bk j))) (hl : xs.length = d.nb) (hF3 : Fr (fun k => bv.ownBlock = some k) V w3) (hA3 : bv.ownBlock = some gg ∨ V.heap.size ≤ gg)
    (Y : World) (hFY : Fr (fun k => k = F) w3 Y) (E5 : Ext Y W5) (ho5 : W5.ownsRow Y.heap.size 83 2 (.slice (some ⟨Y.heap.size, 0, none⟩) d.cols.toNat d.cols.toNat) d.cols.toNat (madeCells (Value.agg #[.string noB, .bool false]).cells (d.cols.toNat * 2)).toList)
    (o6 : OwnO w6 base 81 (.slice (some ⟨g6, k6, none⟩) (d.R - 1 + 1) cap6) (d.R - 1 + 1) (fun j => if j < d.R - 1 then rv (j + 1) else .slice (some ⟨Y.heap.size, 0, none⟩) d.cols.toNat d.cols.toNat)) (o : Obj) (F6 : Fr (fun q => T.ownBlock = some q) (W5.alloc o) w6) (hTb : T.ownBlock = some gb)
    (n6 : Value.ownBlock (.slice (some ⟨g6, k6, none⟩) (d.R - 1 + 1) cap6) = T.ownBlock ∨ Value.ownBlock (.slice (some ⟨g6, k6, none⟩) (d.R - 1 + 1) cap6) = some (W5.alloc o).heap.size)
    (b6 : w6.heap[F]? = some (.cells #[.int .i64 d.cols, .int .i64 d.rows, .slice (some ⟨gb, gk, none⟩) d.R gcap, .int .i64 d.row, .int .i64 d.col, .bool false, hv, .slice (some ⟨gg, 0, none⟩) (d.nb + 1) cap] 26 (0, 0))) :
    (∃ gv' rv' bv', ScrW (w6.setCell ⟨F, 2, none⟩ (.slice (some ⟨g6, k6, none⟩) (d.R - 1 + 1) cap6)) F base X (d.down rowT) gv' rv' hv bv') ∧ FrW F base X w (w6.setCell ⟨F, 2, none⟩ (.slice (some ⟨g6, k6, none⟩) (d.R - 1 + 1) cap6)) := by
  have hs := size_bd hk
  have hR := hk.R
  have eR : d.R - 1 + 1 = d.R := by omega
  rw [eR] at o6 n6 ⊢
  have hk2 : OkP { d with late := false } := ⟨hk.size, hk.R, hk.hold, hk.C, hk.half, hk.row, hk.col, fun e => by cases e⟩
  obtain ⟨Z, hZ⟩ : ∃ Z, Z = w6.setCell ⟨F, 2, none⟩ (.slice (some ⟨g6, k6, none⟩) d.R cap6) := ⟨_, rfl⟩
  rw [← hZ]
  have fZ : Fr (fun k => k = F) w6 Z := by rw [hZ]; exact Fr.setCell (S := fun k => k = F) (Fr.refl _ _) (a := ⟨F, 2, none⟩) rfl _
  have z3 := hF3.size
  have zY := hFY.size
  have z5 := E5.size
  have z6 := F6.size
  have zA : (W5.alloc o).heap.size = W5.heap.size + 1 := by simp
  have hgb := (hV.foot (g := gb) (.inl rfl)).2
  have hF := hV.below.1
  have hgF : gb ≠ F := fun e => hV.below.2 (.inl (by rw [← e]; rfl))
  have hggF : gg ≠ F := fun e => by
    rcases hA3 with x | x
    · exact hV.below.2 (.inr (.inr (by rw [← e]; exact x)))
    · omega
  have hgg : gg ≠ gb := fun e => by
    rcases hA3 with x | x
    · exact hV.gridBack x (by rw [e]; rfl)
    · omega
  have F6b : Fr (fun q => q = gb) (W5.alloc o) w6 := F6.mono (fun q hq => by rw [hTb] at hq; simpa using hq.symm)
  have g6F : g6 ≠ F := fun e => by
    rcases n6 with x | x
    · rw [hTb] at x
      have : g6 = gb := by simpa [Value.ownBlock] using x
      omega
    · have : g6 = (W5.alloc o).heap.size := by simpa [Value.ownBlock] using x
      omega
  have hall : Fr (fun k => k = F ∨ Value.ownBlock (.slice (some ⟨gb, gk, none⟩) d.R gcap) = some k ∨ bv.ownBlock = some k) V Z :=
    Fr.tr (Fr.tr (Fr.tr (Fr.tr (hF3.mono (fun k hk => .inr (.inr hk))) (hFY.mono (fun k hk => .inl hk))) (Fr.of_ext (E5.alloc o))) (F6b.mono (fun k hk => .inr (.inl (by rw [hk]; rfl))))) (fZ.mono (fun k hk => .inl hk))
  have hrow : Own2 Z base 83 (.slice (some ⟨Y.heap.size, 0, none⟩) d.cols.toNat d.cols.toNat) d.cols.toNat (fun _ => .string bz) (fun _ => .bool false) := by
    have h1 := (((made_row ho5).mono (by have := hV.top; omega : base ≤ Y.heap.size)).ext ((Ext.refl W5).alloc o)).fr F6b (fun g hg e => by have : Y.heap.size = g := (by simpa [Value.ownBlock] using hg); omega)
    exact h1.fr fZ (fun g hg e => by have : Y.heap.size = g := (by simpa [Value.ownBlock] using hg); omega)
  have hbk : Own1 Z base 9 (.slice (some ⟨gg, 0, none⟩) (d.nb + 1) cap) (d.nb + 1) (fun j => .string (if j = d.nb then rowT (d.tx 0) (d.hf 0) (d.C 0) else d.bk j)) := by
    have hne : ∀ (P : Nat), gg ≠ P → ∀ g, Value.ownBlock (.slice (some ⟨gg, 0, none⟩) (d.nb + 1) cap) = some g → ¬ g = P := fun P hP g hg e => by have : gg = g := (by simpa [Value.ownBlock] using hg); omega
    have h1 := fZ.owns (F6b.owns ((E5.alloc o).owns (hFY.owns hO3 (hne F hggF))) (hne gb hgg)) (hne F hggF)
    refine ⟨_, h1, fun j hj => ?_⟩
    show _ = some (Value.string (if j = d.nb then rowT (d.tx 0) (d.hf 0) (d.C 0) else d.bk j))
    by_cases e : j = d.nb
    · subst e
      rw [if_pos rfl, List.getElem?_append_right (by omega), hl]
      simp
    · rw [if_neg e, List.getElem?_append_left (by omega)]
      exact hxs j (by omega)
  have hgr : OwnO Z base 81 (.slice (some ⟨g6, k6, none⟩) d.R cap6) d.R (fun j => if j + 1 < d.R then rv (j + 1) else .slice (some ⟨Y.heap.size, 0, none⟩) d.cols.toNat d.cols.toNat) := by
    refine (o6.fr fZ (fun g hg e => by have : g6 = g := (by simpa [Value.ownBlock] using hg); omega)).congr (fun j hj => ?_)
    by_cases e : j + 1 < d.R
    · rw [if_pos e, if_pos (by omega)]
    · rw [if_neg e, if_neg (by omega)]
  have hbox : Z.heap[F]? = some (.cells #[.int .i64 d.cols, .int .i64 d.rows, .slice (some ⟨g6, k6, none⟩) d.R cap6, .int .i64 d.row, .int .i64 d.col, .bool false, hv, .slice (some ⟨gg, 0, none⟩) (d.nb + 1) cap] 26 (0, 0)) := by rw [hZ]; exact set_blk2 b6 rfl
  have hfin := hV.rolled hk2 hn (.slice (some ⟨g6, k6, none⟩) d.R cap6) (.slice (some ⟨Y.heap.size, 0, none⟩) d.cols.toNat d.cols.toNat) (.slice (some ⟨gg, 0, none⟩) (d.nb + 1) cap) hbox hgr hrow hbk hall
    (by
      rcases n6 with x | x
      · exact .inl (by rw [x, hTb]; rfl)
      · exact .inr (fun g hg => by rw [x] at hg; simp only [Option.some.injEq] at hg; omega))
    (by
      rcases hA3 with x | x
      · exact .inl (by rw [x]; rfl)
      · exact .inr (fun g hg => by have : gg = g := (by simpa [Value.ownBlock] using hg); omega))
    (fun g hg => by have : Y.heap.size = g := (by simpa [Value.ownBlock] using hg); omega)
  have ed : ({ d with late := false } : SD).down rowT = d.down rowT := by
    unfold SD.down
    rw [if_neg hn]
  rw [ed] at hfin
  refine ⟨⟨_, _, _, hfin⟩, Fr.tr (hFV.mono (fun k hk => .inl hk)) (hall.mono (fun k hk => ?_))⟩
  rcases hk with hk | hk | hk
  · exact .inl hk
  · exact .inr ⟨(hV.foot (.inl hk)).1, fun hx => (hV.kept k hx).2 (.inl hk)⟩
  · exact .inr ⟨(hV.foot (.inr (.inr hk))).1, fun hx => (hV.kept k hx).2 (.inr (.inr hk))⟩
set_option maxRecDepth 10000 in
set_option maxHeartbeats 4000000 in
theorem lineFeed_far (w : World) (h : ScrW w F base X d gv rv hv bv) (hk : OkP d) (hn : ¬ d.row < d.rows - 1) (hw : rsz (d.tx 0) (d.C 0) ≤ 1099511627776) (hnb : d.nb ≤ 16777216) :
    Calls Tryz.prog 103 #[.pointer (some ⟨F, 0, none⟩)] w fun e w' => e = .returned (.tuple #[]) ∧ (∃ gv' rv' bv', ScrW w' F base X (d.down rowT) gv' rv' hv bv') ∧ FrW F base X w w' := by
  have hs := size_bd hk
  have hR := hk.R
  have hr := hk.row
  obtain ⟨ic, hic, hc0, hc1, hc2⟩ := info_parts infoStrs
  have c5 := cells_of h.box 5 _ rfl
  have f5 : w.frozen? ⟨F, 5, none⟩ = false := Lib.frozen_of_heap h.box 5
  have w1 : IntKind.i64.wrap (d.rows - 1) = d.rows - 1 := by rw [IntKind.wrap_i64] <;> omega
  have HK := hide hk
  obtain ⟨U, hU⟩ : ∃ U, U = w.setCell ⟨F, 5, none⟩ (.bool false) := ⟨_, rfl⟩
  have fU : Fr (fun k => k = F) w U := by rw [hU]; exact Fr.setCell (S := fun k => k = F) (Fr.refl _ w) (a := ⟨F, 5, none⟩) rfl _
  have hU2 : ScrW U F base X { d with late := false } gv rv hv bv := h.head fU d.row d.col false (by rw [hU]; exact set_blk2 h.box rfl)
  have u1 : U.cell? ⟨F, 1, none⟩ = some (.int .i64 d.rows) := cells_of hU2.box 1 _ rfl
  have u3 : U.cell? ⟨F, 3, none⟩ = some (.int .i64 d.row) := cells_of hU2.box 3 _ rfl
  have HU := hide hU
  have HFU := hide fU
  have HSU := hide hU2
  have hnle : d.rows - 1 ≤ d.row := by omega
  clear h hk fU hU2 hU
  go_enter Tryz.func103, Tryz.ntmps103
  go_wp2_with fail
  rw [← unhide HU]
  clear c5 f5 HU
  go_region_held3 (fun W => W.cell? ⟨F, 3, none⟩ = some (.int .i64 d.row) ∧ W.cell? ⟨F, 1, none⟩ = some (.int .i64 d.rows)) (first | exact ⟨u3, u1⟩) (first | fail)
  have HV := hide ((unhide HSU).ext (Ext.refl U).drew)
  have HFV := hide (Fr.tr (unhide HFU) (Fr.of_ext (Ext.refl U).drew))
  generalize U.drew = V at *
  clear HSU HFU u1 u3
  obtain ⟨gb, gk, gcap, cur, rfl, hgb0, hgb, hgk, hgn, hgm, hgA⟩ := (unhide HV).grid
  have u2 : V.cell? ⟨F, 2, none⟩ = some (.slice (some ⟨gb, gk, none⟩) d.R gcap) := cells_of (unhide HV).box 2 _ rfl
  have u7 : V.cell? ⟨F, 7, none⟩ = some bv := cells_of (unhide HV).box 7 _ rfl
  have r0 : V.cell? ⟨gb, gk, none⟩ = some (rv 0) := cells_of hgb gk _ (by have := hgA 0 (by show 0 < d.R; omega); simpa using this)
  have hRp : 0 < d.rows := by omega
  have HRt := hide (fun W (hW : Ext V W) => rowText_any (rv 0) (d.C 0) (d.tx 0) (d.hf 0) W (((unhide HV).ext hW).row 0 (by show 0 < d.R; omega)).reads (by have := (unhide HK).C 0 (by omega); omega) hw)
  obtain ⟨xs, hown, hxs⟩ := (unhide HV).back
  have hl : xs.length = d.nb := by have := hown.1; simpa using this
  have HOWN := hide hown
  have HXS := hide hxs
  have hbz := (unhide HV).top
  clear hgA hgb hown hxs
  go_wp2_with fail
  go_region_law (first
    | (refine step_append_lies _ (by rfl) _ _ _ (by rfl) base 9 ic _ 1 16 Tryz.underlying24 hic hc0 hc1 hc2 rfl (by omega) bv d.nb xs (by rfl) (by first | exact (E'.owns (unhide HOWN)).alloc _ | exact ((E'.owns (unhide HOWN)).alloc _).drew | exact (E'.owns (unhide HOWN)).drew.alloc _ | exact ((E'.owns (unhide HOWN)).drew.alloc _).drew)
         ⟨w'.heap.size, 0, none⟩ 1 1 [.string (rowT (d.tx 0) (d.hf 0) (d.C 0))] (by rfl) (by rfl) (World.news_of_block (cs := #[.string (rowT (d.tx 0) (d.hf 0) (d.C 0))]) (t := 9) (fr := (0, 0)) (heap_alloc_new w' _)) (by simp [Value.oneCell'])
         (by omega) (by unfold maxLen; omega) (by omega) (by simp; omega) (w'.heap.size + 1) (by simp) ?_
       intro gg cap w3 hown3 hgrow hat hlt3
       have fr3 : Fr (fun k => bv.ownBlock = some k) V w3 := Fr.grown (S := fun k => bv.ownBlock = some k) (w := V) (Fr.of_ext (by first | exact E'.alloc _ | exact (E'.alloc _).drew | exact E'.drew.alloc _ | exact (E'.drew.alloc _).drew)) hgrow (fun k hk => hk)
       have b3 := fr3.kept (unhide HV).box (fun e => (unhide HV).below.2 (.inr (.inr e)))
       have c3 : w3.cell? ⟨F, 7, none⟩ = some bv := cells_of b3 7 _ rfl
       have f3 : w3.frozen? ⟨F, 7, none⟩ = false := Lib.frozen_of_heap b3 7
       have hat2 : bv.ownBlock = some gg ∨ V.heap.size ≤ gg := hat.imp id (fun e => by omega)
       have HO3 := hide hown3
       have HF3 := hide fr3
       have HB3 := hide b3
       have HA3 := hide hat2
       clear b3 hown3 hgrow fr3 hat hat2)
    | (go_simp; go_at_call 79; refine ((unhide HRt) V.drew (Ext.refl _).drew).mono ?_; rintro e w' ⟨rfl, E0⟩; have E' : Ext V w' := (Ext.refl V).drew.trans E0; have hsz' := E'.size; have c7 := E'.cell u7; have c7n : ∀ o, (w'.alloc o).cell? ⟨F, 7, none⟩ = some bv := fun o => ((Ext.refl w').alloc o).cell c7; clear E0))
  all_goals
    go_wp2_with fail
    obtain ⟨Y, hY⟩ : ∃ Y, Y = w3.setCell ⟨F, 7, none⟩ (.slice (some ⟨gg, 0, none⟩) (d.nb + 1) cap) := ⟨_, rfl⟩
    rw [← hY]
    have fY : Fr (fun k => k = F) w3 Y := by rw [hY]; exact Fr.setCell (S := fun k => k = F) (Fr.refl _ _) (a := ⟨F, 7, none⟩) rfl _
    have bY : Y.heap[F]? = some (.cells #[.int .i64 d.cols, .int .i64 d.rows, .slice (some ⟨gb, gk, none⟩) d.R gcap, .int .i64 d.row, .int .i64 d.col, .bool false, hv, .slice (some ⟨gg, 0, none⟩) (d.nb + 1) cap] 26 (0, 0)) := by rw [hY]; exact set_blk2 (unhide HB3) rfl
    have gY := ((unhide HV).grid.fr (unhide HF3) (fun g hg e => (unhide HV).gridBack e hg)).fr fY (fun g hg e => (unhide HV).below.2 (.inl (e ▸ hg)))
    have y0 := cells_of bY 0 _ rfl
    have y2 := cells_of bY 2 _ rfl
    have g2 : Y.frozen? ⟨F, 2, none⟩ = false := Lib.frozen_of_heap bY 2
    have hzY : V.heap.size ≤ Y.heap.size := Nat.le_trans (unhide HF3).size fY.size
    obtain ⟨icc, hicc, hcc0, hcc1, hcc2⟩ := info_parts infoCell
    obtain ⟨W5, hmk, hown5, hgr5⟩ := run_make_full (P := Tryz.prog) Y.drew Y.heap.size 81 83 icc (.agg #[.string noB, .bool false]) 2 Tryz.underlying81 hicc hcc0 hcc1 .i64 .i64 d.cols.toNat (by rw [hcc2]; omega) (by unfold maxLen; omega) (Nat.le_refl _)
    rw [Int.toNat_of_nonneg (show 0 ≤ d.cols by omega)] at hmk
    have HY := hide hY
    have HFY := hide fY
    have HBY := hide bY
    have HGY := hide gY
    have HO5 := hide hown5
    have HG5 := hide hgr5
    have bR : (1 : Int) ≤ d.rows := by omega
    clear hY fY bY gY hown5 hgr5 c3 f3
    obtain ⟨n, hn1⟩ : ∃ n, d.R = n + 1 := ⟨d.R - 1, by omega⟩
    have hT0 : OwnO Y base 81 (.slice (if gcap = 1 then some ⟨gb, gk, none⟩ else some ⟨gb, gk + 1, none⟩) (d.R - 1) (gcap - 1)) (d.R - 1) (fun j => rv (j + 1)) := by
      have h1 : OwnO Y base 81 (.slice (some ⟨gb, gk, none⟩) d.R gcap) d.R rv := unhide HGY
      rw [hn1] at h1
      have h2 := h1.tail
      rw [show d.R - 1 = n by omega]
      exact h2
    have hTb : Value.ownBlock (.slice (if gcap = 1 then some ⟨gb, gk, none⟩ else some ⟨gb, gk + 1, none⟩) (d.R - 1) (gcap - 1)) = some gb := by split <;> rfl
    have HT0 := hide hT0
    have HTb := hide hTb
    have E5 : Ext Y W5 := Ext.grown ((Ext.refl Y).drew) (unhide HG5) (fun k hk => by cases hk)
    have z5 := E5.size
    have e0 := cells_of (E5.kept (unhide HBY)) 0 _ rfl
    have e2 := cells_of (E5.kept (unhide HBY)) 2 _ rfl
    have e2n : ∀ o, (W5.alloc o).cell? ⟨F, 2, none⟩ = some (.slice (some ⟨gb, gk, none⟩) d.R gcap) := fun o => ((Ext.refl W5).alloc o).cell e2
    have hR101 : d.R ≤ 100 := by omega
    clear hT0 hTb hn1 n
    obtain ⟨ir, hir, hr0, hr1, hr2⟩ := info_parts infoRow
    go_region_law (first
      | (refine step_appO (by rfl) _ _ _ (by rfl) (base := base) (T := 81) (A := fun j => rv (j + 1)) ((unhide HT0).ext (E5.alloc _)) ir _ 24 Tryz.underlying23 hir hr0 hr1 hr2 rfl (by rfl) ⟨W5.heap.size, 0, none⟩ 1 (.slice (some ⟨Y.heap.size, 0, none⟩) d.cols.toNat d.cols.toNat) (by rfl) (cells_of (new_block W5 _) 0 _ rfl) rfl (by simp; omega) (by omega) (by omega) ?_
         intro v6 w6 o6 F6 n6
         obtain ⟨g6, k6, cap6, cur6, rfl, hx6⟩ := id o6
         clear hx6
         have b6 := F6.kept (((Ext.refl W5).alloc (.cells #[.slice (some ⟨Y.heap.size, 0, none⟩) d.cols.toNat d.cols.toNat] 81)).kept (E5.kept (unhide HBY))) (fun e => (unhide HV).below.2 (.inl (by rw [unhide HTb] at e; simp only [Option.some.injEq] at e; rw [← e]; rfl)))
         have c6 := cells_of b6 2 _ rfl
         have f6 : w6.frozen? ⟨F, 2, none⟩ = false := Lib.frozen_of_heap b6 2
         have HO6 := hide o6
         have HF6 := hide F6
         have HN6 := hide n6
         have HB6 := hide b6
         clear o6 F6 n6 b6))
    all_goals
      go_wp2
      all_goals go_end0
      all_goals exact ⟨rfl, far_end (unhide HFV) (unhide HV) (unhide HK) (by omega) (unhide HO3) (unhide HXS) hl (unhide HF3) (unhide HA3) Y (unhide HFY) E5 (unhide HO5) (unhide HO6) _ (unhide HF6) (unhide HTb) (unhide HN6) (unhide HB6)⟩
end
end Go.Proofs.YtinfdhbnljnifaaGreatDoor

namespace Go.Proofs.YtinfdhbnljnifaaGreatDoor
open Go.RowKit
section
variable {F base : Nat} {X : Nat → Prop} {d : SD} {gv : Value} {rv : Nat → Value} {hv bv : Value}
set_option maxHeartbeats 2000000 in
theorem join_none (w : World) (h : ScrW w F base X d gv rv hv bv) (hk : OkP d) (r : Int) (hm : d.mkAt < 0) :
    Calls Tryz.prog 105 #[.pointer (some ⟨F, 0, none⟩), .int .i32 r] w fun e w' => e = .returned (.tuple #[]) ∧ ScrW w' F base X (d.mark (toBA (encR r))) gv rv hv bv ∧ FrW F base X w w' := by
  have hc := hk.col
  have hs := size_bd hk
  have hl : d.late = false := by
    unfold SD.mkAt at hm
    cases e : d.late with
    | false => rfl
    | true => rw [e, if_pos rfl] at hm; omega
  have h0 : d.col = 0 := by
    unfold SD.mkAt at hm
    rw [hl] at hm
    simp at hm
    omega
  have c4 : w.cell? ⟨F, 4, none⟩ = some (.int .i64 0) := by rw [← h0]; exact cells_of h.box 4 _ rfl
  have c5 : w.cell? ⟨F, 5, none⟩ = some (.bool false) := by rw [← hl]; exact cells_of h.box 5 _ rfl
  have em : d.mark (toBA (encR r)) = d := by unfold SD.mark; rw [if_pos hm]
  rw [em]
  have H := hide h
  clear h hk em
  go_enter Tryz.func105, Tryz.ntmps105
  go_wp2
  exact bodyPost_ret (v := .tuple #[]) (by simp [results, Tryz.results105, go_sem]) rfl ⟨rfl, unhide H, Fr.refl _ _⟩
set_option maxRecDepth 10000 in
set_option maxHeartbeats 4000000 in
theorem join_some (w : World) (h : ScrW w F base X d gv rv hv bv) (hk : OkP d) (r : Int) (hm : ¬ d.mkAt < 0) :
    Calls Tryz.prog 105 #[.pointer (some ⟨F, 0, none⟩), .int .i32 r] w fun e w' => e = .returned (.tuple #[]) ∧ ScrW w' F base X (d.mark (toBA (encR r))) gv rv hv bv ∧ FrW F base X w w' := by
  have hc := hk.col
  have hs := size_bd hk
  obtain ⟨i, ei⟩ : ∃ i : Nat, d.row = i := ⟨d.row.toNat, by have := hk.row; omega⟩
  obtain ⟨k, ek⟩ : ∃ k : Nat, d.mkAt = k := ⟨d.mkAt.toNat, by omega⟩
  have hiR : i < d.R := by have := hk.R; have := hk.row; omega
  have hCi := hk.C i hiR
  have hkC : k < d.C i := by
    have : d.mkAt ≤ d.col := by unfold SD.mkAt; split <;> omega
    omega
  have hhk := hk.half i k hiR hkC
  obtain ⟨g, cap, hg, _, _, _, _⟩ := h.cellOf i k hiR hkC
  have c3 : w.cell? ⟨F, 3, none⟩ = some (.int .i64 (i : Int)) := by rw [← ei]; exact cells_of h.box 3 _ rfl
  have c4 : w.cell? ⟨F, 4, none⟩ = some (.int .i64 d.col) := cells_of h.box 4 _ rfl
  have c5 : w.cell? ⟨F, 5, none⟩ = some (.bool d.late) := cells_of h.box 5 _ rfl
  have wm : IntKind.i64.wrap (d.col - 1) = d.col - 1 := by rw [IntKind.wrap_i64] <;> omega
  have hkm := ek
  unfold SD.mkAt at hkm
  have HCn := hide (fun W (hW : Ext w W) => cell_any W (h.ext hW) i k g cap hiR hkC hg)
  have H := hide h
  have HK := hide hk
  have HG := hide hg
  have hk0 : ¬ (k : Int) < 0 := by omega
  clear h hk hg
  cases hl : d.late with
  | true =>
    rw [hl] at hkm c5
    rw [if_pos rfl] at hkm
    rw [hkm] at c4 wm
    go_enter Tryz.func105, Tryz.ntmps105
    go_wp2_with fail
    refine ((unhide HCn) w (Ext.refl _)).mono ?_
    rintro e w1 ⟨rfl, E1⟩
    have H1 := hide ((unhide H).ext E1)
    have HE1 := hide E1
    have c3' := E1.cell c3
    clear E1 c4 c5
    obtain ⟨g', cap', e', a1, a2, a3, a4⟩ := (unhide H1).cellOf i k hiR hkC
    rw [unhide HG] at e'
    simp only [Value.slice.injEq, Option.some.injEq, Addr.mk.injEq, and_true] at e'
    rw [← e'.1] at a1 a2 a3 a4
    clear e'
    cases hh : d.hf i k with
    | true =>
      rw [hh] at a2
      have hk1 := (hhk hh).2.1
      have wk : IntKind.i64.wrap ((k : Int) - 1) = (k : Int) - 1 := by rw [IntKind.wrap_i64] <;> omega
      have HC2 := hide (cell_any w1 (unhide H1) i (k - 1) g cap hiR (by omega) (unhide HG))
      rw [show ((k - 1 : Nat) : Int) = (k : Int) - 1 by omega] at HC2
      go_wp2_with fail
      refine (unhide HC2).mono ?_
      rintro e w2 ⟨rfl, E2⟩
      have H2 := hide ((unhide H1).ext E2)
      have HE2 := hide ((unhide HE1).trans E2)
      clear HC2 E2 a1 a2 a3 a4 c3'
      obtain ⟨g', cap', e', b1, b2, b3, b4⟩ := (unhide H2).cellOf i (k - 1) hiR (by omega)
      rw [unhide HG] at e'
      simp only [Value.slice.injEq, Option.some.injEq, Addr.mk.injEq, and_true] at e'
      rw [← e'.1] at b1 b2 b3 b4
      clear e'
      have em2 : d.mkAt2 = (k - 1) := by unfold SD.mkAt2; rw [ei, ek, Int.toNat_natCast, Int.toNat_natCast, if_pos hh]
      by_cases ht : (d.tx i (k - 1)).toList = []
      · have em : d.mark (toBA (encR r)) = d := by unfold SD.mark; rw [if_neg (show ¬ d.mkAt < 0 by omega), em2, ei, Int.toNat_natCast, if_neg (fun x => x.1 ht)]
        have HEM := hide em
        clear HCn em
        go_wp2
        go_end0
        rw [unhide HEM]
        exact ⟨rfl, unhide H2, Fr.of_ext (unhide HE2)⟩
      · by_cases hz : (d.tx i (k - 1)).size ≤ 6000
        · have em : d.mark (toBA (encR r)) = d.setT i (k - 1) (d.tx i (k - 1) ++ toBA (encR r)) := by unfold SD.mark; rw [if_neg (show ¬ d.mkAt < 0 by omega), em2, ei, Int.toNat_natCast, if_pos ⟨ht, hz⟩]
          have HEM := hide em
          have hte : (d.tx i (k - 1)).toList.isEmpty = false := by cases e9 : (d.tx i (k - 1)).toList with | nil => exact absurd e9 ht | cons _ _ => rfl
          have hzi : ((d.tx i (k - 1)).size : Int) ≤ 6000 := by omega
          have hov : ¬ 9223372036854775807 < (d.tx i (k - 1)).size + (Utf8.encode r).size := by rw [encode_is, toBA_size]; have := encR_len r; omega
          clear HCn em
          go_wp2
          go_end0
          rw [unhide HEM, encode_is]
          have hfin := (unhide H2).setT1 i (k - 1) g cap hiR (by omega) (unhide HG) (d.tx i (k - 1) ++ toBA (encR r))
          exact ⟨rfl, hfin.1, Fr.tr (Fr.of_ext (unhide HE2)) ((unhide H2).rowFr i hiR hfin.2)⟩
        · have em : d.mark (toBA (encR r)) = d := by unfold SD.mark; rw [if_neg (show ¬ d.mkAt < 0 by omega), em2, ei, Int.toNat_natCast, if_neg (fun x => hz x.2)]
          have HEM := hide em
          clear HCn em
          go_wp2
          go_end0
          rw [unhide HEM]
          exact ⟨rfl, unhide H2, Fr.of_ext (unhide HE2)⟩
    | false =>
      rw [hh] at a2
      have HC2 := hide (cell_any w1 (unhide H1) i k g cap hiR hkC (unhide HG))
      go_wp2_with fail
      refine (unhide HC2).mono ?_
      rintro e w2 ⟨rfl, E2⟩
      have H2 := hide ((unhide H1).ext E2)
      have HE2 := hide ((unhide HE1).trans E2)
      clear HC2 E2 a1 a2 a3 a4 c3'
      obtain ⟨g', cap', e', b1, b2, b3, b4⟩ := (unhide H2).cellOf i k hiR hkC
      rw [unhide HG] at e'
      simp only [Value.slice.injEq, Option.some.injEq, Addr.mk.injEq, and_true] at e'
      rw [← e'.1] at b1 b2 b3 b4
      clear e'
      have em2 : d.mkAt2 = k := by unfold SD.mkAt2; rw [ei, ek, Int.toNat_natCast, Int.toNat_natCast, if_neg (by rw [hh]; simp)]
      by_cases ht : (d.tx i k).toList = []
      · have em : d.mark (toBA (encR r)) = d := by unfold SD.mark; rw [if_neg (show ¬ d.mkAt < 0 by omega), em2, ei, Int.toNat_natCast, if_neg (fun x => x.1 ht)]
        have HEM := hide em
        clear HCn em
        go_wp2
        go_end0
        rw [unhide HEM]
        exact ⟨rfl, unhide H2, Fr.of_ext (unhide HE2)⟩
      · by_cases hz : (d.tx i k).size ≤ 6000
        · have em : d.mark (toBA (encR r)) = d.setT i k (d.tx i k ++ toBA (encR r)) := by unfold SD.mark; rw [if_neg (show ¬ d.mkAt < 0 by omega), em2, ei, Int.toNat_natCast, if_pos ⟨ht, hz⟩]
          have HEM := hide em
          have hte : (d.tx i k).toList.isEmpty = false := by cases e9 : (d.tx i k).toList with | nil => exact absurd e9 ht | cons _ _ => rfl
          have hzi : ((d.tx i k).size : Int) ≤ 6000 := by omega
          have hov : ¬ 9223372036854775807 < (d.tx i k).size + (Utf8.encode r).size := by rw [encode_is, toBA_size]; have := encR_len r; omega
          clear HCn em
          go_wp2
          go_end0
          rw [unhide HEM, encode_is]
          have hfin := (unhide H2).setT1 i k g cap hiR hkC (unhide HG) (d.tx i k ++ toBA (encR r))
          exact ⟨rfl, hfin.1, Fr.tr (Fr.of_ext (unhide HE2)) ((unhide H2).rowFr i hiR hfin.2)⟩
        · have em : d.mark (toBA (encR r)) = d := by unfold SD.mark; rw [if_neg (show ¬ d.mkAt < 0 by omega), em2, ei, Int.toNat_natCast, if_neg (fun x => hz x.2)]
          have HEM := hide em
          clear HCn em
          go_wp2
          go_end0
          rw [unhide HEM]
          exact ⟨rfl, unhide H2, Fr.of_ext (unhide HE2)⟩
  | false =>
    rw [hl] at hkm c5
    rw [if_neg (by simp)] at hkm
    rw [hkm] at wm
    go_enter Tryz.func105, Tryz.ntmps105
    go_wp2_with fail
    refine ((unhide HCn) w (Ext.refl _)).mono ?_
    rintro e w1 ⟨rfl, E1⟩
    have H1 := hide ((unhide H).ext E1)
    have HE1 := hide E1
    have c3' := E1.cell c3
    clear E1 c4 c5
    obtain ⟨g', cap', e', a1, a2, a3, a4⟩ := (unhide H1).cellOf i k hiR hkC
    rw [unhide HG] at e'
    simp only [Value.slice.injEq, Option.some.injEq, Addr.mk.injEq, and_true] at e'
    rw [← e'.1] at a1 a2 a3 a4
    clear e'
    cases hh : d.hf i k with
    | true =>
      rw [hh] at a2
      have hk1 := (hhk hh).2.1
      have wk : IntKind.i64.wrap ((k : Int) - 1) = (k : Int) - 1 := by rw [IntKind.wrap_i64] <;> omega
      have HC2 := hide (cell_any w1 (unhide H1) i (k - 1) g cap hiR (by omega) (unhide HG))
      rw [show ((k - 1 : Nat) : Int) = (k : Int) - 1 by omega] at HC2
      go_wp2_with fail
      refine (unhide HC2).mono ?_
      rintro e w2 ⟨rfl, E2⟩
      have H2 := hide ((unhide H1).ext E2)
      have HE2 := hide ((unhide HE1).trans E2)
      clear HC2 E2 a1 a2 a3 a4 c3'
      obtain ⟨g', cap', e', b1, b2, b3, b4⟩ := (unhide H2).cellOf i (k - 1) hiR (by omega)
      rw [unhide HG] at e'
      simp only [Value.slice.injEq, Option.some.injEq, Addr.mk.injEq, and_true] at e'
      rw [← e'.1] at b1 b2 b3 b4
      clear e'
      have em2 : d.mkAt2 = (k - 1) := by unfold SD.mkAt2; rw [ei, ek, Int.toNat_natCast, Int.toNat_natCast, if_pos hh]
      by_cases ht : (d.tx i (k - 1)).toList = []
      · have em : d.mark (toBA (encR r)) = d := by unfold SD.mark; rw [if_neg (show ¬ d.mkAt < 0 by omega), em2, ei, Int.toNat_natCast, if_neg (fun x => x.1 ht)]
        have HEM := hide em
        clear HCn em
        go_wp2
        go_end0
        rw [unhide HEM]
        exact ⟨rfl, unhide H2, Fr.of_ext (unhide HE2)⟩
      · by_cases hz : (d.tx i (k - 1)).size ≤ 6000
        · have em : d.mark (toBA (encR r)) = d.setT i (k - 1) (d.tx i (k - 1) ++ toBA (encR r)) := by unfold SD.mark; rw [if_neg (show ¬ d.mkAt < 0 by omega), em2, ei, Int.toNat_natCast, if_pos ⟨ht, hz⟩]
          have HEM := hide em
          have hte : (d.tx i (k - 1)).toList.isEmpty = false := by cases e9 : (d.tx i (k - 1)).toList with | nil => exact absurd e9 ht | cons _ _ => rfl
          have hzi : ((d.tx i (k - 1)).size : Int) ≤ 6000 := by omega
          have hov : ¬ 9223372036854775807 < (d.tx i (k - 1)).size + (Utf8.encode r).size := by rw [encode_is, toBA_size]; have := encR_len r; omega
          clear HCn em
          go_wp2
          go_end0
          rw [unhide HEM, encode_is]
          have hfin := (unhide H2).setT1 i (k - 1) g cap hiR (by omega) (unhide HG) (d.tx i (k - 1) ++ toBA (encR r))
          exact ⟨rfl, hfin.1, Fr.tr (Fr.of_ext (unhide HE2)) ((unhide H2).rowFr i hiR hfin.2)⟩
        · have em : d.mark (toBA (encR r)) = d := by unfold SD.mark; rw [if_neg (show ¬ d.mkAt < 0 by omega), em2, ei, Int.toNat_natCast, if_neg (fun x => hz x.2)]
          have HEM := hide em
          clear HCn em
          go_wp2
          go_end0
          rw [unhide HEM]
          exact ⟨rfl, unhide H2, Fr.of_ext (unhide HE2)⟩
    | false =>
      rw [hh] at a2
      have HC2 := hide (cell_any w1 (unhide H1) i k g cap hiR hkC (unhide HG))
      go_wp2_with fail
      refine (unhide HC2).mono ?_
      rintro e w2 ⟨rfl, E2⟩
      have H2 := hide ((unhide H1).ext E2)
      have HE2 := hide ((unhide HE1).trans E2)
      clear HC2 E2 a1 a2 a3 a4 c3'
      obtain ⟨g', cap', e', b1, b2, b3, b4⟩ := (unhide H2).cellOf i k hiR hkC
      rw [unhide HG] at e'
      simp only [Value.slice.injEq, Option.some.injEq, Addr.mk.injEq, and_true] at e'
      rw [← e'.1] at b1 b2 b3 b4
      clear e'
      have em2 : d.mkAt2 = k := by unfold SD.mkAt2; rw [ei, ek, Int.toNat_natCast, Int.toNat_natCast, if_neg (by rw [hh]; simp)]
      by_cases ht : (d.tx i k).toList = []
      · have em : d.mark (toBA (encR r)) = d := by unfold SD.mark; rw [if_neg (show ¬ d.mkAt < 0 by omega), em2, ei, Int.toNat_natCast, if_neg (fun x => x.1 ht)]
        have HEM := hide em
        clear HCn em
        go_wp2
        go_end0
        rw [unhide HEM]
        exact ⟨rfl, unhide H2, Fr.of_ext (unhide HE2)⟩
      · by_cases hz : (d.tx i k).size ≤ 6000
        · have em : d.mark (toBA (encR r)) = d.setT i k (d.tx i k ++ toBA (encR r)) := by unfold SD.mark; rw [if_neg (show ¬ d.mkAt < 0 by omega), em2, ei, Int.toNat_natCast, if_pos ⟨ht, hz⟩]
          have HEM := hide em
          have hte : (d.tx i k).toList.isEmpty = false := by cases e9 : (d.tx i k).toList with | nil => exact absurd e9 ht | cons _ _ => rfl
          have hzi : ((d.tx i k).size : Int) ≤ 6000 := by omega
          have hov : ¬ 9223372036854775807 < (d.tx i k).size + (Utf8.encode r).size := by rw [encode_is, toBA_size]; have := encR_len r; omega
          clear HCn em
          go_wp2
          go_end0
          rw [unhide HEM, encode_is]
          have hfin := (unhide H2).setT1 i k g cap hiR hkC (unhide HG) (d.tx i k ++ toBA (encR r))
          exact ⟨rfl, hfin.1, Fr.tr (Fr.of_ext (unhide HE2)) ((unhide H2).rowFr i hiR hfin.2)⟩
        · have em : d.mark (toBA (encR r)) = d := by unfold SD.mark; rw [if_neg (show ¬ d.mkAt < 0 by omega), em2, ei, Int.toNat_natCast, if_neg (fun x => hz x.2)]
          have HEM := hide em
          clear HCn em
          go_wp2
          go_end0
          rw [unhide HEM]
          exact ⟨rfl, unhide H2, Fr.of_ext (unhide HE2)⟩
end
end Go.Proofs.YtinfdhbnljnifaaGreatDoor

namespace Go.Proofs.YtinfdhbnljnifaaGreatDoor
open Go.RowKit
section
variable {F base : Nat} {X : Nat → Prop} {d : SD} {gv : Value} {rv : Nat → Value} {hv bv : Value}
def ScrE (w : World) (F base : Nat) (X : Nat → Prop) (d : SD) (hv : Value) : Prop := ∃ gv rv bv, ScrW w F base X d gv rv hv bv
def DownOk (d : SD) : Prop := OkP d ∧ rsz (d.tx 0) (d.C 0) ≤ 1099511627776 ∧ d.nb ≤ 16777216
theorem lineFeed_any (w : World) (h : ScrE w F base X d hv) (hk : DownOk d) :
    Calls Tryz.prog 103 #[.pointer (some ⟨F, 0, none⟩)] w fun e w' => e = .returned (.tuple #[]) ∧ ScrE w' F base X (d.down rowT) hv ∧ FrW F base X w w' := by
  obtain ⟨gv, rv, bv, h⟩ := h
  by_cases hn : d.row < d.rows - 1
  · exact (lineFeed_near w h hk.1 hn).mono (fun e w' ⟨h1, h2, h3⟩ => ⟨h1, ⟨_, _, _, h2⟩, h3⟩)
  · exact lineFeed_far w h hk.1 hn hk.2.1 hk.2.2
theorem carriageReturn_e (w : World) (h : ScrE w F base X d hv) :
    Calls Tryz.prog 102 #[.pointer (some ⟨F, 0, none⟩)] w fun e w' => e = .returned (.tuple #[]) ∧ ScrE w' F base X { d with col := 0, late := false } hv ∧ FrW F base X w w' := by
  obtain ⟨gv, rv, bv, h⟩ := h
  exact (carriageReturn_any w h).mono (fun e w' ⟨h1, h2, h3⟩ => ⟨h1, ⟨_, _, _, h2⟩, h3.mono (fun k hk => .inl hk)⟩)
theorem down_col0 (d : SD) : ({ d with col := 0, late := false } : SD).down rowT = { d.down rowT with col := 0 } := by
  unfold SD.down
  by_cases e : d.row < d.rows - 1
  · rw [if_pos e, if_pos e]
  · rw [if_neg e, if_neg e]
theorem clrTo_pos (d : SD) (i j k : Nat) : (d.clrTo i j k).row = d.row ∧ (d.clrTo i j k).col = d.col := by
  unfold SD.clrTo
  split <;> exact ⟨rfl, rfl⟩
theorem DownOk.col0 (h : DownOk d) : DownOk { d with col := 0, late := false } := ⟨ok_col0 h.1, h.2.1, h.2.2⟩
end
end Go.Proofs.YtinfdhbnljnifaaGreatDoor

namespace Go.Proofs.YtinfdhbnljnifaaGreatDoor
open Go.RowKit
section
variable {F base : Nat} {X : Nat → Prop} {d : SD} {gv : Value} {rv : Nat → Value} {hv bv : Value}
set_option maxRecDepth 10000 in
set_option maxHeartbeats 16000000 in
theorem put_1 (w : World) (h : ScrE w F base X d hv) (hk : DownOk d) (r : Int) :
    Calls Tryz.prog 106 #[.pointer (some ⟨F, 0, none⟩), .int .i32 r, .int .i64 1] w fun e w' => e = .returned (.tuple #[]) ∧ ScrE w' F base X (d.put rowT (toBA (encR r)) 1) hv ∧ FrW F base X w w' := by
  have hs := size_bd hk.1
  obtain ⟨gv, rv, bv, h⟩ := h
  have c0 : w.cell? ⟨F, 0, none⟩ = some (.int .i64 d.cols) := cells_of h.box 0 _ rfl
  have c4 : w.cell? ⟨F, 4, none⟩ = some (.int .i64 d.col) := cells_of h.box 4 _ rfl
  have c5 : w.cell? ⟨F, 5, none⟩ = some (.bool d.late) := cells_of h.box 5 _ rfl
  have wc : IntKind.i64.wrap (d.cols - 1) = d.cols - 1 := by rw [IntKind.wrap_i64] <;> omega
  obtain ⟨d1, hd1⟩ : ∃ x, x = d.wrapL rowT 1 := ⟨_, rfl⟩
  have hok1 := ok_wrapL rowT hk.1 1 (by omega)
  rw [← hd1] at hok1
  have HD1 : Hid (OkP d1 ∧ d1.col + 1 ≤ d1.cols) := hide ⟨hok1.1, hok1.2.2⟩
  have HDE := hide hd1
  have H := hide h
  have HK := hide hk
  clear h hk hok1
  cases hl : d.late with
  | true =>
    rw [hl] at c5
    go_enter Tryz.func106, Tryz.ntmps106
    go_wp2_with fail
    go_region
    have HR := hide (carriageReturn_e w.drew ⟨_, _, _, (unhide H).ext (Ext.refl w).drew⟩)
    clear c0 c4 c5 H
    go_wp2_with fail
    refine (unhide HR).mono ?_
    rintro e w5 ⟨rfl, h5, f5⟩
    have HL := hide (lineFeed_any w5 h5 (unhide HK).col0)
    rw [down_col0] at HL
    have HF5 := hide f5
    clear h5 f5 HR
    go_wp2_with fail
    refine (unhide HL).mono ?_
    rintro e wa ⟨rfl, ⟨gva, rva, bva, ha⟩, fa⟩
    have HFA := hide (Fr.tr (Fr.of_ext (Ext.refl w).drew) (Fr.tr (unhide HF5) fa))
    have HA : Hid (ScrW wa F base X d1 gva rva hv bva) := hide (by rw [hd1]; unfold SD.wrapL; rw [if_pos (.inl hl)]; exact ha)
    clear ha fa HL HF5 hd1
    have ok1 := (unhide HD1).1
    have hs1 := size_bd ok1
    have hrow1 := ok1.row
    have hcol1 := ok1.col
    have hle1 := (unhide HD1).2
    obtain ⟨i0, ei0⟩ : ∃ i0 : Nat, d1.row = i0 := ⟨d1.row.toNat, by omega⟩
    obtain ⟨j0, ej0⟩ : ∃ j0 : Nat, d1.col = j0 := ⟨d1.col.toNat, by omega⟩
    have hiR : i0 < d1.R := by have := ok1.R; omega
    have hCi := ok1.C i0 hiR
    have hjC : j0 + 1 ≤ d1.C i0 := by omega
    have HLoop : Hid (ScrW wa F base X (d1.clrTo i0 j0 (j0 + 0)) gva rva hv bva) := hide (by unfold SD.clrTo; rw [if_pos (by omega)]; exact unhide HA)
    obtain ⟨g, cap, hg, _, _, _, _⟩ := (unhide HA).cellOf i0 j0 hiR (by omega)
    have HG := hide hg
    have HOK1 := hide ok1
    have hC200 : d1.C i0 ≤ 200 := by omega
    clear hg ok1
    go_wp2_with fail
    go_loopw [32] (fun i wr => ∃ k : Nat, k ≤ 1 ∧ i = .int .i64 k ∧ Hid (ScrW wr F base X (d1.clrTo i0 j0 (j0 + k)) gva rva hv bva) ∧ Hid (FrW F base X w wr)) (fun i _ => 1 - (intOf i).toNat)
    case atStart => exact ⟨0, Nat.zero_le _, rfl, HLoop, HFA⟩
    case round =>
      clear HLoop HFA
      obtain ⟨k, hk1, rfl, HK, HF⟩ := hrel
      obtain ⟨q1, q2, q3⟩ := clrTo_rest d1 i0 j0 (j0 + k)
      have c3 : wr.cell? ⟨F, 3, none⟩ = some (.int .i64 (i0 : Int)) := by have h9 := cells_of (unhide HK).box 3 _ rfl; rw [← ei0, ← (clrTo_pos d1 i0 j0 (j0 + k)).1]; exact h9
      have c4 : wr.cell? ⟨F, 4, none⟩ = some (.int .i64 (j0 : Int)) := by have h9 := cells_of (unhide HK).box 4 _ rfl; rw [← ej0, ← (clrTo_pos d1 i0 j0 (j0 + k)).2]; exact h9
      by_cases hlt : k < 1
      · have b1 : (k : Int) < 1 := by omega
        have wjk : IntKind.i64.wrap ((j0 : Int) + (k : Int)) = (j0 : Int) + (k : Int) := by rw [IntKind.wrap_i64] <;> omega
        have hcall : ∀ W9, Ext wr W9 → Calls Tryz.prog 164 #[.pointer (some ⟨F, 0, none⟩), .int .i64 (i0 : Int), .int .i64 ((j0 : Int) + (k : Int))] W9 fun e w' => e = .returned (.tuple #[]) ∧ ScrW w' F base X (d1.clrTo i0 j0 (j0 + k + 1)) gva rva hv bva ∧ Fr (fun q => (rva i0).ownBlock = some q) W9 w' := fun W9 hW9 => by
          have h9 := blank_any W9 ((unhide HK).ext hW9) i0 (j0 + k) (by rw [q1]; exact hiR) (by rw [q2]; omega) (by rw [q2, q3]; exact hCi) (fun hh => by
            rcases Nat.eq_zero_or_pos k with e | e
            · subst e
              unfold SD.clrTo at hh
              rw [if_pos (by omega)] at hh
              exact ((unhide HOK1).half i0 (j0 + 0) hiR (by omega) hh).2.1
            · omega) (by rw [q2]; exact hC200)
          rw [clrTo_snoc d1 i0 j0 (j0 + k) (by omega) (by omega), show ((j0 + k : Nat) : Int) = (j0 : Int) + (k : Int) by omega] at h9
          exact h9
        have HCall := hide hcall
        clear hcall q1 q2 q3
        go_wp2_with fail
        go_region_held3 (fun W => W.cell? ⟨F, 3, none⟩ = some (.int .i64 (i0 : Int)) ∧ W.cell? ⟨F, 4, none⟩ = some (.int .i64 (j0 : Int))) (first | exact ⟨c3, c4⟩ | exact ⟨e3, e4⟩) (first
          | (go_at_call 164
             refine ((unhide HCall) _ (Ext.refl wr).drew).mono ?_
             rintro e w1 ⟨rfl, h1, f1⟩
             have e3 : w1.cell? ⟨F, 3, none⟩ = some (.int .i64 (i0 : Int)) := (by have h9 := cells_of h1.box 3 _ rfl; rw [← ei0, ← (clrTo_pos d1 i0 j0 (j0 + k + 1)).1]; exact h9)
             have e4 : w1.cell? ⟨F, 4, none⟩ = some (.int .i64 (j0 : Int)) := (by have h9 := cells_of h1.box 4 _ rfl; rw [← ej0, ← (clrTo_pos d1 i0 j0 (j0 + k + 1)).2]; exact h9)
             have HS2 := hide h1
             have HF2 := hide (Fr.tr (unhide HF) (Fr.tr (Fr.of_ext (Ext.refl wr).drew) (((unhide HK).ext (Ext.refl wr).drew).rowFr i0 (by rw [(clrTo_rest d1 i0 j0 (j0 + k)).1]; exact hiR) f1)))
             clear h1 f1))
        go_wp2
        go_roundw
        case rel => exact ⟨k + 1, by omega, by go_num, HS2, HF2⟩
        case measure => simp [intOf]; omega
      · obtain rfl : k = 1 := by omega
        have hb : ¬ ((1 : Nat) : Int) < 1 := by omega
        clear q1 q2 q3
        have HB : Hid (ScrW wr F base X (d1.clr i0 j0 (j0 + 1)) gva rva hv bva) := hide (by have := unhide HK; unfold SD.clrTo at this; rw [if_neg (by omega)] at this; exact this)
        clear HK
        have HCn := hide (fun W9 (hW9 : Ext wr W9) => cell_any W9 ((unhide HB).ext hW9) i0 j0 g cap hiR (by show j0 < d1.C i0; omega) (unhide HG))
        go_wp2_with fail
        first
          | (go_region_held3 (fun W => W.cell? ⟨F, 3, none⟩ = some (.int .i64 (i0 : Int)) ∧ W.cell? ⟨F, 4, none⟩ = some (.int .i64 (j0 : Int))) (first | exact ⟨c3, c4⟩ | exact ⟨e3, e4⟩ | exact ⟨p3, p4⟩) (first
              | (go_at_call 163
                 refine ((unhide HCn) _ (Ext.refl wr).drew).mono ?_
                 rintro e w2 ⟨rfl, E2⟩
                 have H2 := hide ((unhide HB).ext ((Ext.refl wr).drew.trans E2))
                 have HF2 := hide (Fr.tr (unhide HF) (Fr.of_ext ((Ext.refl wr).drew.trans E2)))
                 obtain ⟨g', cap', e', b1, b2, b3, b4⟩ := (unhide H2).cellOf i0 j0 hiR (by show j0 < d1.C i0; omega)
                 rw [unhide HG] at e'
                 simp only [Value.slice.injEq, Option.some.injEq, Addr.mk.injEq, and_true] at e'
                 rw [← e'.1] at b1 b2 b3 b4
                 clear e' E2
                 have e3 : w2.cell? ⟨F, 3, none⟩ = some (.int .i64 (i0 : Int)) := (by rw [← ei0]; exact cells_of (unhide H2).box 3 _ rfl)
                 have e4 : w2.cell? ⟨F, 4, none⟩ = some (.int .i64 (j0 : Int)) := (by rw [← ej0]; exact cells_of (unhide H2).box 4 _ rfl)
                 have hset := (unhide H2).setT1 i0 j0 g cap hiR (by show j0 < d1.C i0; omega) (unhide HG) (Utf8.encode r)
                 have p3 : (w2.setCell ⟨g, j0 * 2, none⟩ (.string (Utf8.encode r))).cell? ⟨F, 3, none⟩ = some (.int .i64 (i0 : Int)) := (by rw [← ei0]; exact cells_of hset.1.box 3 _ rfl)
                 have p4 : (w2.setCell ⟨g, j0 * 2, none⟩ (.string (Utf8.encode r))).cell? ⟨F, 4, none⟩ = some (.int .i64 (j0 : Int)) := (by rw [← ej0]; exact cells_of hset.1.box 4 _ rfl)
                 have HP1 := hide hset
                 clear hset))
             )
          | fail
        obtain ⟨W3, hW3⟩ : ∃ W3, W3 = w2.setCell ⟨g, j0 * 2, none⟩ (.string (Utf8.encode r)) := ⟨_, rfl⟩
        rw [← hW3] at HP1 p3 p4 ⊢
        have H3 := hide (unhide HP1).1
        have HF3 := hide (Fr.tr (unhide HF2) ((unhide H2).rowFr i0 hiR (unhide HP1).2))
        clear HP1 hW3 b1 b2 b3 b4 e3 e4 H2 HF2 HCn HB HF c3 c4 p3 p4
        have c0 : W3.cell? ⟨F, 0, none⟩ = some (.int .i64 d1.cols) := cells_of (unhide H3).box 0 _ rfl
        have c4 : W3.cell? ⟨F, 4, none⟩ = some (.int .i64 (j0 : Int)) := by rw [← ej0]; exact cells_of (unhide H3).box 4 _ rfl
        have f4 : W3.frozen? ⟨F, 4, none⟩ = false := Lib.frozen_of_heap (unhide H3).box 4
        have wjw : IntKind.i64.wrap ((j0 : Int) + 1) = (j0 : Int) + 1 := by rw [IntKind.wrap_i64] <;> omega
        have wcm : IntKind.i64.wrap (d1.cols - 1) = d1.cols - 1 := by rw [IntKind.wrap_i64] <;> omega
        obtain ⟨d2, hd2⟩ : ∃ x, x = d1.put2 (Utf8.encode r) 1 := ⟨_, rfl⟩
        have HS2 : Hid (ScrW W3 F base X d2 gva rva hv bva) := hide (by
          have h9 := unhide H3
          rw [hd2]
          unfold SD.put2 SD.put1
          rw [if_neg (by decide), ei0, ej0, Int.toNat_natCast, Int.toNat_natCast]
          exact h9)
        have hrest := put2_rest d1 (Utf8.encode r) 1
        rw [← hd2] at hrest
        obtain ⟨U, hU⟩ : ∃ U, U = W3.setCell ⟨F, 4, none⟩ (.int .i64 ((j0 : Int) + 1)) := ⟨_, rfl⟩
        have fU : Fr (fun k => k = F) W3 U := by rw [hU]; exact Fr.setCell (S := fun k => k = F) (Fr.refl _ _) (a := ⟨F, 4, none⟩) rfl _
        have hSU := (unhide HS2).head fU d2.row ((j0 : Int) + 1) d2.late (by rw [hU]; exact set_blk2 (unhide HS2).box rfl)
        have HU := hide hU
        have HSU := hide hSU
        have HFU := hide (Fr.tr (unhide HF3) (fU.mono (fun k hk => .inl hk)))
        have u0 : U.cell? ⟨F, 0, none⟩ = some (.int .i64 d1.cols) := by rw [← hrest.1]; exact cells_of hSU.box 0 _ rfl
        have u4 : U.cell? ⟨F, 4, none⟩ = some (.int .i64 ((j0 : Int) + 1)) := cells_of hSU.box 4 _ rfl
        clear hU fU hSU H3 HF3
        go_wp2_with fail
        rw [← unhide HU]
        clear c0 c4 f4 HU
        go_region_held3 (fun W => W.cell? ⟨F, 4, none⟩ = some (.int .i64 ((j0 : Int) + 1)) ∧ W.cell? ⟨F, 0, none⟩ = some (.int .i64 d1.cols)) (first | exact ⟨u4, u0⟩) (first | fail)
        have HSV := hide ((unhide HSU).ext (Ext.refl U).drew)
        have HFV := hide (Fr.tr (unhide HFU) (Fr.of_ext (Ext.refl U).drew))
        generalize U.drew = V at *
        clear HSU HFU u0 u4
        have v0 : V.cell? ⟨F, 0, none⟩ = some (.int .i64 d1.cols) := by rw [← hrest.1]; exact cells_of (unhide HSV).box 0 _ rfl
        have v4 := cells_of (unhide HSV).box 4 _ rfl
        have v5 := cells_of (unhide HSV).box 5 _ rfl
        have x4 : V.frozen? ⟨F, 4, none⟩ = false := Lib.frozen_of_heap (unhide HSV).box 4
        have x5 : V.frozen? ⟨F, 5, none⟩ = false := Lib.frozen_of_heap (unhide HSV).box 5
        by_cases hfull : d1.cols ≤ (j0 : Int) + 1
        · have HE3 : Hid (d1.put3 (Utf8.encode r) 1 = { d2 with col := d1.cols - 1, late := true }) := hide (by unfold SD.put3; rw [if_pos (by rw [ej0]; exact hfull), ← hd2])
          go_wp2
          go_end0
          have fs : Fr (fun k => k = F) V ((V.setCell ⟨F, 4, none⟩ (.int .i64 (d1.cols - 1))).setCell ⟨F, 5, none⟩ (.bool true)) := Fr.setCell (S := fun k => k = F) (Fr.setCell (S := fun k => k = F) (Fr.refl _ V) (a := ⟨F, 4, none⟩) rfl _) (a := ⟨F, 5, none⟩) rfl _
          have hfin := (unhide HSV).head fs d2.row (d1.cols - 1) true (set_blk2 (set_blk2 (unhide HSV).box rfl) rfl)
          refine ⟨rfl, ⟨gva, rva, bva, ?_⟩, Fr.tr (unhide HFV) (fs.mono (fun k hk => .inl hk))⟩
          unfold SD.put
          rw [← encode_is, ← unhide HDE, unhide HE3]
          exact hfin
        · have HE3 : Hid (d1.put3 (Utf8.encode r) 1 = { d2 with col := d1.col + 1 }) := hide (by unfold SD.put3; rw [if_neg (by rw [ej0]; exact hfull), ← hd2])
          go_wp2
          go_end0
          refine ⟨rfl, ⟨gva, rva, bva, ?_⟩, unhide HFV⟩
          unfold SD.put
          rw [← encode_is, ← unhide HDE, unhide HE3, ej0]
          exact unhide HSV
  | false =>
    rw [hl] at c5
    go_enter Tryz.func106, Tryz.ntmps106
    go_wp2_with fail
    go_region
    obtain ⟨wa, hwa⟩ : ∃ wa, wa = w.drew := ⟨_, rfl⟩
    have HA : Hid (ScrW wa F base X d1 gv rv hv bv) := hide (by rw [hd1, hwa]; unfold SD.wrapL; rw [if_neg (by rw [hl]; simp)]; exact (unhide H).ext (Ext.refl w).drew)
    have HFA : Hid (FrW F base X w wa) := hide (by rw [hwa]; exact Fr.of_ext (Ext.refl w).drew)
    rw [← hwa]
    generalize gv = gva at *
    generalize rv = rva at *
    generalize bv = bva at *
    clear c0 c4 c5 H hd1 hwa
    have ok1 := (unhide HD1).1
    have hs1 := size_bd ok1
    have hrow1 := ok1.row
    have hcol1 := ok1.col
    have hle1 := (unhide HD1).2
    obtain ⟨i0, ei0⟩ : ∃ i0 : Nat, d1.row = i0 := ⟨d1.row.toNat, by omega⟩
    obtain ⟨j0, ej0⟩ : ∃ j0 : Nat, d1.col = j0 := ⟨d1.col.toNat, by omega⟩
    have hiR : i0 < d1.R := by have := ok1.R; omega
    have hCi := ok1.C i0 hiR
    have hjC : j0 + 1 ≤ d1.C i0 := by omega
    have HLoop : Hid (ScrW wa F base X (d1.clrTo i0 j0 (j0 + 0)) gva rva hv bva) := hide (by unfold SD.clrTo; rw [if_pos (by omega)]; exact unhide HA)
    obtain ⟨g, cap, hg, _, _, _, _⟩ := (unhide HA).cellOf i0 j0 hiR (by omega)
    have HG := hide hg
    have HOK1 := hide ok1
    have hC200 : d1.C i0 ≤ 200 := by omega
    clear hg ok1
    go_wp2_with fail
    go_loopw [32] (fun i wr => ∃ k : Nat, k ≤ 1 ∧ i = .int .i64 k ∧ Hid (ScrW wr F base X (d1.clrTo i0 j0 (j0 + k)) gva rva hv bva) ∧ Hid (FrW F base X w wr)) (fun i _ => 1 - (intOf i).toNat)
    case atStart => exact ⟨0, Nat.zero_le _, rfl, HLoop, HFA⟩
    case round =>
      clear HLoop HFA
      obtain ⟨k, hk1, rfl, HK, HF⟩ := hrel
      obtain ⟨q1, q2, q3⟩ := clrTo_rest d1 i0 j0 (j0 + k)
      have c3 : wr.cell? ⟨F, 3, none⟩ = some (.int .i64 (i0 : Int)) := by have h9 := cells_of (unhide HK).box 3 _ rfl; rw [← ei0, ← (clrTo_pos d1 i0 j0 (j0 + k)).1]; exact h9
      have c4 : wr.cell? ⟨F, 4, none⟩ = some (.int .i64 (j0 : Int)) := by have h9 := cells_of (unhide HK).box 4 _ rfl; rw [← ej0, ← (clrTo_pos d1 i0 j0 (j0 + k)).2]; exact h9
      by_cases hlt : k < 1
      · have b1 : (k : Int) < 1 := by omega
        have wjk : IntKind.i64.wrap ((j0 : Int) + (k : Int)) = (j0 : Int) + (k : Int) := by rw [IntKind.wrap_i64] <;> omega
        have hcall : ∀ W9, Ext wr W9 → Calls Tryz.prog 164 #[.pointer (some ⟨F, 0, none⟩), .int .i64 (i0 : Int), .int .i64 ((j0 : Int) + (k : Int))] W9 fun e w' => e = .returned (.tuple #[]) ∧ ScrW w' F base X (d1.clrTo i0 j0 (j0 + k + 1)) gva rva hv bva ∧ Fr (fun q => (rva i0).ownBlock = some q) W9 w' := fun W9 hW9 => by
          have h9 := blank_any W9 ((unhide HK).ext hW9) i0 (j0 + k) (by rw [q1]; exact hiR) (by rw [q2]; omega) (by rw [q2, q3]; exact hCi) (fun hh => by
            rcases Nat.eq_zero_or_pos k with e | e
            · subst e
              unfold SD.clrTo at hh
              rw [if_pos (by omega)] at hh
              exact ((unhide HOK1).half i0 (j0 + 0) hiR (by omega) hh).2.1
            · omega) (by rw [q2]; exact hC200)
          rw [clrTo_snoc d1 i0 j0 (j0 + k) (by omega) (by omega), show ((j0 + k : Nat) : Int) = (j0 : Int) + (k : Int) by omega] at h9
          exact h9
        have HCall := hide hcall
        clear hcall q1 q2 q3
        go_wp2_with fail
        go_region_held3 (fun W => W.cell? ⟨F, 3, none⟩ = some (.int .i64 (i0 : Int)) ∧ W.cell? ⟨F, 4, none⟩ = some (.int .i64 (j0 : Int))) (first | exact ⟨c3, c4⟩ | exact ⟨e3, e4⟩) (first
          | (go_at_call 164
             refine ((unhide HCall) _ (Ext.refl wr).drew).mono ?_
             rintro e w1 ⟨rfl, h1, f1⟩
             have e3 : w1.cell? ⟨F, 3, none⟩ = some (.int .i64 (i0 : Int)) := (by have h9 := cells_of h1.box 3 _ rfl; rw [← ei0, ← (clrTo_pos d1 i0 j0 (j0 + k + 1)).1]; exact h9)
             have e4 : w1.cell? ⟨F, 4, none⟩ = some (.int .i64 (j0 : Int)) := (by have h9 := cells_of h1.box 4 _ rfl; rw [← ej0, ← (clrTo_pos d1 i0 j0 (j0 + k + 1)).2]; exact h9)
             have HS2 := hide h1
             have HF2 := hide (Fr.tr (unhide HF) (Fr.tr (Fr.of_ext (Ext.refl wr).drew) (((unhide HK).ext (Ext.refl wr).drew).rowFr i0 (by rw [(clrTo_rest d1 i0 j0 (j0 + k)).1]; exact hiR) f1)))
             clear h1 f1))
        go_wp2
        go_roundw
        case rel => exact ⟨k + 1, by omega, by go_num, HS2, HF2⟩
        case measure => simp [intOf]; omega
      · obtain rfl : k = 1 := by omega
        have hb : ¬ ((1 : Nat) : Int) < 1 := by omega
        clear q1 q2 q3
        have HB : Hid (ScrW wr F base X (d1.clr i0 j0 (j0 + 1)) gva rva hv bva) := hide (by have := unhide HK; unfold SD.clrTo at this; rw [if_neg (by omega)] at this; exact this)
        clear HK
        have HCn := hide (fun W9 (hW9 : Ext wr W9) => cell_any W9 ((unhide HB).ext hW9) i0 j0 g cap hiR (by show j0 < d1.C i0; omega) (unhide HG))
        go_wp2_with fail
        first
          | (go_region_held3 (fun W => W.cell? ⟨F, 3, none⟩ = some (.int .i64 (i0 : Int)) ∧ W.cell? ⟨F, 4, none⟩ = some (.int .i64 (j0 : Int))) (first | exact ⟨c3, c4⟩ | exact ⟨e3, e4⟩ | exact ⟨p3, p4⟩) (first
              | (go_at_call 163
                 refine ((unhide HCn) _ (Ext.refl wr).drew).mono ?_
                 rintro e w2 ⟨rfl, E2⟩
                 have H2 := hide ((unhide HB).ext ((Ext.refl wr).drew.trans E2))
                 have HF2 := hide (Fr.tr (unhide HF) (Fr.of_ext ((Ext.refl wr).drew.trans E2)))
                 obtain ⟨g', cap', e', b1, b2, b3, b4⟩ := (unhide H2).cellOf i0 j0 hiR (by show j0 < d1.C i0; omega)
                 rw [unhide HG] at e'
                 simp only [Value.slice.injEq, Option.some.injEq, Addr.mk.injEq, and_true] at e'
                 rw [← e'.1] at b1 b2 b3 b4
                 clear e' E2
                 have e3 : w2.cell? ⟨F, 3, none⟩ = some (.int .i64 (i0 : Int)) := (by rw [← ei0]; exact cells_of (unhide H2).box 3 _ rfl)
                 have e4 : w2.cell? ⟨F, 4, none⟩ = some (.int .i64 (j0 : Int)) := (by rw [← ej0]; exact cells_of (unhide H2).box 4 _ rfl)
                 have hset := (unhide H2).setT1 i0 j0 g cap hiR (by show j0 < d1.C i0; omega) (unhide HG) (Utf8.encode r)
                 have p3 : (w2.setCell ⟨g, j0 * 2, none⟩ (.string (Utf8.encode r))).cell? ⟨F, 3, none⟩ = some (.int .i64 (i0 : Int)) := (by rw [← ei0]; exact cells_of hset.1.box 3 _ rfl)
                 have p4 : (w2.setCell ⟨g, j0 * 2, none⟩ (.string (Utf8.encode r))).cell? ⟨F, 4, none⟩ = some (.int .i64 (j0 : Int)) := (by rw [← ej0]; exact cells_of hset.1.box 4 _ rfl)
                 have HP1 := hide hset
                 clear hset))
             )
          | fail
        obtain ⟨W3, hW3⟩ : ∃ W3, W3 = w2.setCell ⟨g, j0 * 2, none⟩ (.string (Utf8.encode r)) := ⟨_, rfl⟩
        rw [← hW3] at HP1 p3 p4 ⊢
        have H3 := hide (unhide HP1).1
        have HF3 := hide (Fr.tr (unhide HF2) ((unhide H2).rowFr i0 hiR (unhide HP1).2))
        clear HP1 hW3 b1 b2 b3 b4 e3 e4 H2 HF2 HCn HB HF c3 c4 p3 p4
        have c0 : W3.cell? ⟨F, 0, none⟩ = some (.int .i64 d1.cols) := cells_of (unhide H3).box 0 _ rfl
        have c4 : W3.cell? ⟨F, 4, none⟩ = some (.int .i64 (j0 : Int)) := by rw [← ej0]; exact cells_of (unhide H3).box 4 _ rfl
        have f4 : W3.frozen? ⟨F, 4, none⟩ = false := Lib.frozen_of_heap (unhide H3).box 4
        have wjw : IntKind.i64.wrap ((j0 : Int) + 1) = (j0 : Int) + 1 := by rw [IntKind.wrap_i64] <;> omega
        have wcm : IntKind.i64.wrap (d1.cols - 1) = d1.cols - 1 := by rw [IntKind.wrap_i64] <;> omega
        obtain ⟨d2, hd2⟩ : ∃ x, x = d1.put2 (Utf8.encode r) 1 := ⟨_, rfl⟩
        have HS2 : Hid (ScrW W3 F base X d2 gva rva hv bva) := hide (by
          have h9 := unhide H3
          rw [hd2]
          unfold SD.put2 SD.put1
          rw [if_neg (by decide), ei0, ej0, Int.toNat_natCast, Int.toNat_natCast]
          exact h9)
        have hrest := put2_rest d1 (Utf8.encode r) 1
        rw [← hd2] at hrest
        obtain ⟨U, hU⟩ : ∃ U, U = W3.setCell ⟨F, 4, none⟩ (.int .i64 ((j0 : Int) + 1)) := ⟨_, rfl⟩
        have fU : Fr (fun k => k = F) W3 U := by rw [hU]; exact Fr.setCell (S := fun k => k = F) (Fr.refl _ _) (a := ⟨F, 4, none⟩) rfl _
        have hSU := (unhide HS2).head fU d2.row ((j0 : Int) + 1) d2.late (by rw [hU]; exact set_blk2 (unhide HS2).box rfl)
        have HU := hide hU
        have HSU := hide hSU
        have HFU := hide (Fr.tr (unhide HF3) (fU.mono (fun k hk => .inl hk)))
        have u0 : U.cell? ⟨F, 0, none⟩ = some (.int .i64 d1.cols) := by rw [← hrest.1]; exact cells_of hSU.box 0 _ rfl
        have u4 : U.cell? ⟨F, 4, none⟩ = some (.int .i64 ((j0 : Int) + 1)) := cells_of hSU.box 4 _ rfl
        clear hU fU hSU H3 HF3
        go_wp2_with fail
        rw [← unhide HU]
        clear c0 c4 f4 HU
        go_region_held3 (fun W => W.cell? ⟨F, 4, none⟩ = some (.int .i64 ((j0 : Int) + 1)) ∧ W.cell? ⟨F, 0, none⟩ = some (.int .i64 d1.cols)) (first | exact ⟨u4, u0⟩) (first | fail)
        have HSV := hide ((unhide HSU).ext (Ext.refl U).drew)
        have HFV := hide (Fr.tr (unhide HFU) (Fr.of_ext (Ext.refl U).drew))
        generalize U.drew = V at *
        clear HSU HFU u0 u4
        have v0 : V.cell? ⟨F, 0, none⟩ = some (.int .i64 d1.cols) := by rw [← hrest.1]; exact cells_of (unhide HSV).box 0 _ rfl
        have v4 := cells_of (unhide HSV).box 4 _ rfl
        have v5 := cells_of (unhide HSV).box 5 _ rfl
        have x4 : V.frozen? ⟨F, 4, none⟩ = false := Lib.frozen_of_heap (unhide HSV).box 4
        have x5 : V.frozen? ⟨F, 5, none⟩ = false := Lib.frozen_of_heap (unhide HSV).box 5
        by_cases hfull : d1.cols ≤ (j0 : Int) + 1
        · have HE3 : Hid (d1.put3 (Utf8.encode r) 1 = { d2 with col := d1.cols - 1, late := true }) := hide (by unfold SD.put3; rw [if_pos (by rw [ej0]; exact hfull), ← hd2])
          go_wp2
          go_end0
          have fs : Fr (fun k => k = F) V ((V.setCell ⟨F, 4, none⟩ (.int .i64 (d1.cols - 1))).setCell ⟨F, 5, none⟩ (.bool true)) := Fr.setCell (S := fun k => k = F) (Fr.setCell (S := fun k => k = F) (Fr.refl _ V) (a := ⟨F, 4, none⟩) rfl _) (a := ⟨F, 5, none⟩) rfl _
          have hfin := (unhide HSV).head fs d2.row (d1.cols - 1) true (set_blk2 (set_blk2 (unhide HSV).box rfl) rfl)
          refine ⟨rfl, ⟨gva, rva, bva, ?_⟩, Fr.tr (unhide HFV) (fs.mono (fun k hk => .inl hk))⟩
          unfold SD.put
          rw [← encode_is, ← unhide HDE, unhide HE3]
          exact hfin
        · have HE3 : Hid (d1.put3 (Utf8.encode r) 1 = { d2 with col := d1.col + 1 }) := hide (by unfold SD.put3; rw [if_neg (by rw [ej0]; exact hfull), ← hd2])
          go_wp2
          go_end0
          refine ⟨rfl, ⟨gva, rva, bva, ?_⟩, unhide HFV⟩
          unfold SD.put
          rw [← encode_is, ← unhide HDE, unhide HE3, ej0]
          exact unhide HSV
end
end Go.Proofs.YtinfdhbnljnifaaGreatDoor
