import Derived.Test.YtinfdhbnljnifaaGreatDoorApp
import Derived.Test.YtinfdhbnljnifaaGreatDoorSzB
import Derived.Test.YtinfdhbnljnifaaGreatDoorShelfB
import Derived.Shelf.Strings.Builder1
namespace Go.Proofs.YtinfdhbnljnifaaGreatDoor
open Go.RowKit
abbrev BldAt (B b : Nat) (p : Value) (bs : List Value) (w : World) : Prop := Lib.BuilderAt 169 5 B b p bs w
abbrev IsBld (B b : Nat) (bs : List Value) (w : World) : Prop := Lib.IsBuilder 169 5 B b bs w
def r240 : Go.Shelf.Ren := ⟨fun | 240 => 180 | 276 => 193 | n => n, fun | 72 => 169 | 70 => 167 | 164 => 221 | 37 => 22 | n => n, fun | n => n⟩
theorem l240 : Lays.n240 Tryz.prog r240 := { mixed := by kernel_rfl, f240 := Tryz.func180.trans (congrArg some (by kernel_rfl)), f276 := Tryz.func193.trans (congrArg some (by kernel_rfl)), t0 := Tryz.underlying0, a0 := Tryz.isAgg0, z0 := Tryz.sizeOf0, v0 := Tryz.zeroValue0, t4 := Tryz.underlying4, a4 := Tryz.isAgg4, z4 := Tryz.sizeOf4, v4 := Tryz.zeroValue4, t9 := Tryz.underlying9, a9 := Tryz.isAgg9, z9 := Tryz.sizeOf9, v9 := Tryz.zeroValue9, t20 := Tryz.underlying20, a20 := Tryz.isAgg20, z20 := Tryz.sizeOf20, v20 := Tryz.zeroValue20, t70 := Tryz.underlying167, a70 := Tryz.isAgg167, z70 := Tryz.sizeOf167, v70 := Tryz.zeroValue167, t72 := Tryz.underlying169, a72 := Tryz.isAgg169, z72 := Tryz.sizeOf169, v72 := Tryz.zeroValue169, t164 := Tryz.underlying221, a164 := Tryz.isAgg221, z164 := Tryz.sizeOf221, v164 := Tryz.zeroValue221 }
theorem bld_ext {B b : Nat} {p : Value} {bs : List Value} {w w' : World} (h : BldAt B b p bs w) (he : Ext w w') : BldAt B b p bs w' := by
  have hlt := Lib.BuilderAt.lt h
  obtain ⟨h1, v, h2, h3, h4⟩ := h
  exact ⟨h1, v, (he.heap hlt).trans h2, he.owns h3, h4⟩
theorem isBld_ext {B b : Nat} {bs : List Value} {w w' : World} (h : IsBld B b bs w) (he : Ext w w') : IsBld B b bs w' := by
  rcases h with h | h
  · exact .inl (bld_ext h he)
  · exact .inr (bld_ext h he)
theorem bldInfo : (Tryz.prog.info? 169).map (fun i => i.size) = some 2 := by kernel_rfl
theorem bldLies : liesAt Tryz.prog Tryz.prog.depth 169 (2 / Tryz.prog.cellsOf 169) 0 169 1 = true := by kernel_rfl
set_option maxRecDepth 100000 in
set_option maxHeartbeats 1000000 in
theorem copyCheck_any (B b : Nat) (bs : List Value) (w : World) (h : IsBld B b bs w) :
    Calls Tryz.prog 180 #[.pointer (some ⟨b, 0, none⟩)] w fun e w' => e = .returned (.tuple #[]) ∧ BldAt B b (.pointer (some ⟨b, 0, none⟩)) bs w' ∧ Below B w w' := Any.Builder_copyCheck l240 ⟨by kernel_rfl, by kernel_rfl⟩ B b bs w h
theorem bld_put {B b : Nat} {v v' : Value} {bs' : List Value} {w1 w2 : World} (hB : B ≤ b) (hbk : w1.heap[b]? = some (.cells #[.pointer (some ⟨b, 0, none⟩), v] 169 (0, 0))) (hne : v.ownBlock ≠ some b)
    (ho : w2.ownsRow B 5 1 v' bs'.length bs') (hg : ∀ k, k < w1.heap.size → v.ownBlock ≠ some k → w2.heap[k]? = w1.heap[k]?) :
    w2.heap[b]? = some (.cells #[.pointer (some ⟨b, 0, none⟩), v] 169 (0, 0)) ∧ BldAt B b (.pointer (some ⟨b, 0, none⟩)) bs' (w2.setCell ⟨b, 1, none⟩ v') := by
  have hlt : b < w1.heap.size := (Array.getElem?_eq_some_iff.1 hbk).1
  have h2 := (hg b hlt hne).trans hbk
  exact ⟨h2, Lib.BuilderAt.put hB h2 ho (by decide)⟩
set_option maxRecDepth 100000 in
set_option maxHeartbeats 2000000 in
theorem writeByte_any (B b : Nat) (bs : List Value) (c : Int) (w : World) (h : IsBld B b bs w) (hlen : bs.length + 1 ≤ 140737488355328) (hBw : B ≤ w.heap.size) :
    Calls Tryz.prog 147 #[.pointer (some ⟨b, 0, none⟩), .int .u8 c] w fun e w' => e = .returned .nilIface ∧ BldAt B b (.pointer (some ⟨b, 0, none⟩)) (bs ++ [.int .u8 c]) w' ∧ Below B w w' := by
  obtain ⟨i0, hi, hz0, hz1, hz2⟩ := info_parts infoU8
  have hcon := hide (copyCheck_any B b bs w h)
  clear h
  go_enter Tryz.func147, Tryz.ntmps147
  go_wp2_with fail
  refine (unhide hcon).mono ?_
  rintro e w1 ⟨rfl, ⟨hB, v, hbk, hown, hne⟩, hb1⟩
  have c1 := cells_of hbk 1 _ rfl
  have s1 := hb1.size
  have HO := hide hown
  have HBK := hide hbk
  clear hown hbk hcon
  go_wp2_with (at_builtin; go_must (refine wpList_app rfl _ _ 22 rfl B 5 i0 (.int .u8 0) 1 1 Tryz.underlying22 hi hz0 hz1 hz2 rfl (by decide) _ _ _ rfl ((unhide HO).alloc _) _ 1 [.int .u8 c] rfl (Src.made _ _ _ rfl (by simp [Value.oneCell'])) (by unfold maxLen; omega) (by omega) (by simp; omega) ?_))
  intro v' w2 ho' hg _
  have hP := bld_put hB (unhide HBK) hne (w2 := w2) (v' := v') (bs' := bs ++ [.int .u8 c]) (by simpa using ho') (fun k hk hn => (hg.block k (by simp; omega) (fun e => hn e.symm)).trans (((Ext.refl w1).alloc _).heap hk))
  obtain ⟨hb2, hP2⟩ := hP
  have d1 := cells_of hb2 1 _ rfl
  have f1 : w2.frozen? ⟨b, 1, none⟩ = false := Lib.frozen_of_heap hb2 1
  obtain ⟨g, cap, rfl⟩ : ∃ g cap, v' = .slice (some ⟨g, 0, none⟩) (bs.length + 1) cap := by
    rcases ho'.2 with ⟨_, h0⟩ | ⟨g, cap, cur, hv, _⟩
    · omega
    · exact ⟨g, cap, hv⟩
  have HP := hide hP2
  have hBB : Below B w (w2.setCell ⟨b, 1, none⟩ (.slice (some ⟨g, 0, none⟩) (bs.length + 1) cap)) := ((hb1.alloc (by omega) _).grown hg (by simp; omega) (fun k hk => ((unhide HO).lt k hk).1)).setCell (p := ⟨b, 1, none⟩) hB _
  have HBB := hide hBB
  clear hP2 ho' hg hBB hb2
  go_wp2
  go_ret
  exact ⟨rfl, unhide HP, unhide HBB⟩
set_option maxRecDepth 100000 in
set_option maxHeartbeats 2000000 in
theorem writeString_any (B b : Nat) (bs : List Value) (s : ByteArray) (w : World) (h : IsBld B b bs w) (hlen : bs.length + s.size ≤ 140737488355328) (hBw : B ≤ w.heap.size) :
    Calls Tryz.prog 148 #[.pointer (some ⟨b, 0, none⟩), .string s] w fun e w' => e = .returned (.tuple #[.int .i64 s.size, .nilIface]) ∧ BldAt B b (.pointer (some ⟨b, 0, none⟩)) (bs ++ Lib.strCells s) w' ∧ Below B w w' := by
  obtain ⟨i0, hi, hz0, hz1, hz2⟩ := info_parts infoU8
  have hcon := hide (copyCheck_any B b bs w h)
  clear h
  go_enter Tryz.func148, Tryz.ntmps148
  go_wp2_with fail
  refine (unhide hcon).mono ?_
  rintro e w1 ⟨rfl, ⟨hB, v, hbk, hown, hne⟩, hb1⟩
  have c1 := cells_of hbk 1 _ rfl
  have s1 := hb1.size
  have HO := hide hown
  have HBK := hide hbk
  clear hown hbk hcon
  go_wp2_with (at_builtin; go_must (refine Lib.wpList_append_own_string _ rfl _ _ 22 9 rfl B 5 i0 Tryz.underlying22 Tryz.underlying9 hi hz0 hz1 hz2 _ _ _ rfl (unhide HO) s rfl (by unfold maxLen; omega) (by omega) (by omega) ?_))
  intro v' w2 ho' hg _
  have hP := bld_put hB (unhide HBK) hne (w2 := w2) (v' := v') (bs' := bs ++ Lib.strCells s) (by simpa [Lib.strCells_length] using ho') (fun k hk hn => hg.block k hk (fun e => hn e.symm))
  obtain ⟨hb2, hP2⟩ := hP
  have d1 := cells_of hb2 1 _ rfl
  have f1 : w2.frozen? ⟨b, 1, none⟩ = false := Lib.frozen_of_heap hb2 1
  obtain ⟨ao, n', cap, rfl⟩ : ∃ ao n' cap, v' = .slice ao n' cap := by
    rcases ho'.2 with ⟨hv, _⟩ | ⟨g, cap, cur, hv, _⟩
    · exact ⟨_, _, _, hv⟩
    · exact ⟨_, _, _, hv⟩
  have HP := hide hP2
  have hBB : Below B w (w2.setCell ⟨b, 1, none⟩ (.slice ao n' cap)) := (hb1.grown hg (by omega) (fun k hk => ((unhide HO).lt k hk).1)).setCell (p := ⟨b, 1, none⟩) hB _
  have HBB := hide hBB
  clear hP2 ho' hg hBB hb2
  go_wp2
  go_ret2
  exact ⟨rfl, unhide HP, unhide HBB⟩
end Go.Proofs.YtinfdhbnljnifaaGreatDoor
