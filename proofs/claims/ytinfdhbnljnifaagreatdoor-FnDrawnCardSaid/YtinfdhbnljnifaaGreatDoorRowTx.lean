import Derived.Test.YtinfdhbnljnifaaGreatDoorEdW2
import Derived.Test.YtinfdhbnljnifaaGreatDoorShowable
import Derived.Test.YtinfdhbnljnifaaGreatDoorShelfB
import Derived.Shelf.Strings.Builder1
import Derived.Test.YtinfdhbnljnifaaGreatDoorRsz
import Derived.Test.YtinfdhbnljnifaaGreatDoorRd
import Derived.Test.YtinfdhbnljnifaaGreatDoorKys
import Derived.Shelf.Strings.Trim
namespace Go.Proofs.YtinfdhbnljnifaaGreatDoor
open Go.RowKit
abbrev zim (B b : Nat) (p : Value) (bs : List Value) (w : World) : Prop := Lib.BuilderAt 169 5 B b p bs w
abbrev zfb (B b : Nat) (bs : List Value) (w : World) : Prop := Lib.IsBuilder 169 5 B b bs w
def r240 : Go.Shelf.Ren := ⟨fun | 240 => 180 | 276 => 193 | n => n, fun | 72 => 169 | 70 => 167 | 164 => 221 | 37 => 22 | n => n, fun | n => n⟩
theorem l240 : Lays.n240 Tryz.prog r240 := { mixed := by kernel_rfl, f240 := Tryz.func180.trans (congrArg some (by kernel_rfl)), f276 := Tryz.func193.trans (congrArg some (by kernel_rfl)), t0 := Tryz.underlying0, a0 := Tryz.isAgg0, z0 := Tryz.sizeOf0, v0 := Tryz.zeroValue0, t4 := Tryz.underlying4, a4 := Tryz.isAgg4, z4 := Tryz.sizeOf4, v4 := Tryz.zeroValue4, t9 := Tryz.underlying9, a9 := Tryz.isAgg9, z9 := Tryz.sizeOf9, v9 := Tryz.zeroValue9, t20 := Tryz.underlying20, a20 := Tryz.isAgg20, z20 := Tryz.sizeOf20, v20 := Tryz.zeroValue20, t70 := Tryz.underlying167, a70 := Tryz.isAgg167, z70 := Tryz.sizeOf167, v70 := Tryz.zeroValue167, t72 := Tryz.underlying169, a72 := Tryz.isAgg169, z72 := Tryz.sizeOf169, v72 := Tryz.zeroValue169, t164 := Tryz.underlying221, a164 := Tryz.isAgg221, z164 := Tryz.sizeOf221, v164 := Tryz.zeroValue221 }
theorem zmg {B b : Nat} {p : Value} {bs : List Value} {w w' : World} (h : zim B b p bs w) (he : Ext w w') : zim B b p bs w' := by
 have hlt := Lib.BuilderAt.lt h
 obtain ⟨h1, v, h2, h3, h4⟩ := h
 exact ⟨h1, v, (he.heap hlt).trans h2, he.owns h3, h4⟩
theorem zfO {B b : Nat} {bs : List Value} {w w' : World} (h : zfb B b bs w) (he : Ext w w') : zfb B b bs w' := by
 rcases h with h | h
 ·exact .inl (zmg h he)
 ·exact .inr (zmg h he)
theorem bldInfo : (Tryz.prog.info? 169).map (fun i => i.size) = some 2 := by kernel_rfl
theorem bldLies : liesAt Tryz.prog Tryz.prog.depth 169 (2 / Tryz.prog.cellsOf 169) 0 169 1 = true := by kernel_rfl
set_option maxRecDepth 100000 in
set_option maxHeartbeats 1000000 in
theorem zey (B b : Nat) (bs : List Value) (w : World) (h : zfb B b bs w) :
    Calls Tryz.prog 180 #[.pointer (some ⟨b, 0, none⟩)] w fun e w' => e = .returned (.tuple #[]) ∧ zim B b (.pointer (some ⟨b, 0, none⟩)) bs w' ∧ Below B w w' := Any.Builder_copyCheck l240 ⟨by kernel_rfl, by kernel_rfl⟩ B b bs w h
theorem zmj {B b : Nat} {v v' : Value} {bs' : List Value} {w1 w2 : World} (hB : B ≤ b) (hbk : w1.heap[b]? = some (.cells #[.pointer (some ⟨b, 0, none⟩), v] 169 (0, 0))) (hne : v.ownBlock ≠ some b)
  (ho : w2.ownsRow B 5 1 v' bs'.length bs') (hg : ∀ k, k < w1.heap.size → v.ownBlock ≠ some k → w2.heap[k]? = w1.heap[k]?) :
  w2.heap[b]? = some (.cells #[.pointer (some ⟨b, 0, none⟩), v] 169 (0, 0)) ∧ zim B b (.pointer (some ⟨b, 0, none⟩)) bs' (w2.setCell ⟨b, 1, none⟩ v') := by
 have hlt : b < w1.heap.size := (Array.getElem?_eq_some_iff.1 hbk).1
 have h2 := (hg b hlt hne).trans hbk
 exact ⟨h2, Lib.BuilderAt.put hB h2 ho (by decide)⟩
set_option maxRecDepth 100000 in
set_option maxHeartbeats 2000000 in
theorem zhN (B b : Nat) (bs : List Value) (c : Int) (w : World) (h : zfb B b bs w) (hlen : bs.length + 1 ≤ 140737488355328) (hBw : B ≤ w.heap.size) :
  Calls Tryz.prog 147 #[.pointer (some ⟨b, 0, none⟩), .int .u8 c] w fun e w' => e = .returned .nilIface ∧ zim B b (.pointer (some ⟨b, 0, none⟩)) (bs ++ [.int .u8 c]) w' ∧ Below B w w' := by
 obtain ⟨i0, hi, hz0, hz1, hz2⟩ := info_parts zkT
 have hcon := zh (zey B b bs w h)
 clear h
 go_enter Tryz.func147, Tryz.ntmps147
 go_wp2_with fail
 refine (zu hcon).mono ?_
 rintro e w1 ⟨rfl, ⟨hB, v, hbk, hown, hne⟩, hb1⟩
 have c1 := zg hbk 1 _ rfl
 have s1 := hb1.size
 have HO := zh hown
 have HBK := zh hbk
 clear hown hbk hcon
 go_wp2_with (at_builtin; go_must (refine zd rfl _ _ 22 rfl B 5 i0 (.int .u8 0) 1 1 Tryz.underlying22 hi hz0 hz1 hz2 rfl (by decide) _ _ _ rfl ((zu HO).alloc _) _ 1 [.int .u8 c] rfl (Src.made _ _ _ rfl (by simp [Value.oneCell'])) (by unfold maxLen; omega) (by omega) (by simp; omega) ?_))
 intro v' w2 ho' hg _
 have hP := zmj hB (zu HBK) hne (w2 := w2) (v' := v') (bs' := bs ++ [.int .u8 c]) (by simpa using ho') (fun k hk hn => (hg.block k (by simp; omega) (fun e => hn e.symm)).trans (((Ext.refl w1).alloc _).heap hk))
 obtain ⟨hb2, hP2⟩ := hP
 have d1 := zg hb2 1 _ rfl
 have f1 : w2.frozen? ⟨b, 1, none⟩ = false := Lib.frozen_of_heap hb2 1
 obtain ⟨g, cap, rfl⟩ : ∃ g cap, v' = .slice (some ⟨g, 0, none⟩) (bs.length + 1) cap := by
  rcases ho'.2 with ⟨_, h0⟩ | ⟨g, cap, cur, hv, _⟩
  ·omega
  ·exact ⟨g, cap, hv⟩
 have HP := zh hP2
 have hBB : Below B w (w2.setCell ⟨b, 1, none⟩ (.slice (some ⟨g, 0, none⟩) (bs.length + 1) cap)) := ((hb1.alloc (by omega) _).grown hg (by simp; omega) (fun k hk => ((zu HO).lt k hk).1)).setCell (p := ⟨b, 1, none⟩) hB _
 have HBB := zh hBB
 clear hP2 ho' hg hBB hb2
 go_wp2
 go_ret
 exact ⟨rfl, zu HP, zu HBB⟩
set_option maxRecDepth 100000 in
set_option maxHeartbeats 2000000 in
theorem zgc (B b : Nat) (bs : List Value) (s : ByteArray) (w : World) (h : zfb B b bs w) (hlen : bs.length + s.size ≤ 140737488355328) (hBw : B ≤ w.heap.size) :
  Calls Tryz.prog 148 #[.pointer (some ⟨b, 0, none⟩), .string s] w fun e w' => e = .returned (.tuple #[.int .i64 s.size, .nilIface]) ∧ zim B b (.pointer (some ⟨b, 0, none⟩)) (bs ++ Lib.strCells s) w' ∧ Below B w w' := by
 obtain ⟨i0, hi, hz0, hz1, hz2⟩ := info_parts zkT
 have hcon := zh (zey B b bs w h)
 clear h
 go_enter Tryz.func148, Tryz.ntmps148
 go_wp2_with fail
 refine (zu hcon).mono ?_
 rintro e w1 ⟨rfl, ⟨hB, v, hbk, hown, hne⟩, hb1⟩
 have c1 := zg hbk 1 _ rfl
 have s1 := hb1.size
 have HO := zh hown
 have HBK := zh hbk
 clear hown hbk hcon
 go_wp2_with (at_builtin; go_must (refine Lib.wpList_append_own_string _ rfl _ _ 22 9 rfl B 5 i0 Tryz.underlying22 Tryz.underlying9 hi hz0 hz1 hz2 _ _ _ rfl (zu HO) s rfl (by unfold maxLen; omega) (by omega) (by omega) ?_))
 intro v' w2 ho' hg _
 have hP := zmj hB (zu HBK) hne (w2 := w2) (v' := v') (bs' := bs ++ Lib.strCells s) (by simpa [Lib.strCells_length] using ho') (fun k hk hn => hg.block k hk (fun e => hn e.symm))
 obtain ⟨hb2, hP2⟩ := hP
 have d1 := zg hb2 1 _ rfl
 have f1 : w2.frozen? ⟨b, 1, none⟩ = false := Lib.frozen_of_heap hb2 1
 obtain ⟨ao, n', cap, rfl⟩ : ∃ ao n' cap, v' = .slice ao n' cap := by
  rcases ho'.2 with ⟨hv, _⟩ | ⟨g, cap, cur, hv, _⟩
  ·exact ⟨_, _, _, hv⟩
  ·exact ⟨_, _, _, hv⟩
 have HP := zh hP2
 have hBB : Below B w (w2.setCell ⟨b, 1, none⟩ (.slice ao n' cap)) := (hb1.grown hg (by omega) (fun k hk => ((zu HO).lt k hk).1)).setCell (p := ⟨b, 1, none⟩) hB _
 have HBB := zh hBB
 clear hP2 ho' hg hBB hb2
 go_wp2
 go_ret2
 exact ⟨rfl, zu HP, zu HBB⟩
def zcC (t : ByteArray) (h : Bool) : List Int := if h = true then [] else if t.toList = [] then [32] else baL t
def zbm (tx : Nat → ByteArray) (hf : Nat → Bool) : Nat → List Int
 | 0 => []
 | k + 1 => zbm tx hf k ++ zcC (tx k) (hf k)
theorem zkf (t : ByteArray) (h : Bool) : zv (zcC t h) := by
 unfold zcC
 split
 ·intro n hn; cases hn
 ·split
  ·intro n hn; simp at hn; omega
  ·exact zf t
theorem zhu (tx : Nat → ByteArray) (hf : Nat → Bool) : ∀ k, zv (zbm tx hf k)
 | 0 => by intro n hn; cases hn
 | k + 1 => (zhu tx hf k).app (zkf _ _)
theorem zmJ (t : ByteArray) (h : Bool) : (zcC t h).length ≤ t.size + 1 := by
 unfold zcC
 split
 ·simp
 ·split
  ·simp
  ·rw [zw]; omega
theorem zhj (tx : Nat → ByteArray) (hf : Nat → Bool) : ∀ k, (zbm tx hf k).length ≤ rsz tx k
 | 0 => Nat.le_refl _
 | k + 1 => by
  have h1 := zhj tx hf k
  have h2 := zmJ (tx k) (hf k)
  rw [zbm, List.length_append, rsz]
  omega
def zp (tx : Nat → ByteArray) (hf : Nat → Bool) (n : Nat) : ByteArray := zaR (zo (zbm tx hf n))
theorem ziQ (s : ByteArray) : Lib.strCells s = (baL s).map (Value.int .u8) := by
 simp [Lib.strCells, baL]
theorem zhb {L : List Int} (h : zv L) : Lib.byteCells (zo L).data.toList = L.map (Value.int .u8) := by
 rw [← congrArg (List.map (Value.int .u8)) (zdp h)]
 simp [Lib.byteCells, baL]
set_option maxRecDepth 10000 in
set_option maxHeartbeats 2000000 in
theorem zd9 (v : Value) (n : Nat) (tx : Nat → ByteArray) (hf : Nat → Bool) (w : World) (hv : zag w v n (fun j => .string (tx j)) (fun j => .bool (hf j))) (hn : n ≤ 1048576) (hs : rsz tx n ≤ 1099511627776) :
  Calls Tryz.prog 79 #[v] w fun e w' => e = .returned (.string (zp tx hf n)) ∧ Ext w w' := by
 obtain ⟨ao, ca, rfl, hca, hxa⟩ := hv
 have HX := zh hxa
 clear hxa
 have HB0 : Hid (zfb w.heap.size w.heap.size [] (w.alloc (.cells #[.pointer none, .slice none 0 0] 169))) :=
  zh (.inl ⟨Nat.le_refl _, _, zk w _, ⟨rfl, .inl ⟨rfl, rfl⟩⟩, by simp [Value.ownBlock]⟩)
 go_enter Tryz.func79, Tryz.ntmps79
 go_wp2
 go_loopw [8] (fun i wr => ∃ k : Nat, k ≤ n ∧ i = .int .i64 k ∧ Hid (zfb w.heap.size w.heap.size ((zbm tx hf k).map (Value.int .u8)) wr) ∧ Ext w wr) (fun i _ => n - (intOf i).toNat)
 case atStart => exact ⟨0, Nat.zero_le _, rfl, HB0, (Ext.refl w).alloc _⟩
 case round =>
  clear HB0
  obtain ⟨k, hk, rfl, HB, hext⟩ := hrel
  have hsz := hext.size
  by_cases hlt : k < n
  ·obtain ⟨b, off, hao, hc⟩ := (zu HX) (by omega)
   subst hao
   have g1 := hext.cell (hc k hlt).1
   have g2 := hext.cell (hc k hlt).2
   clear hc
   have bk : (k : Int) < (n : Int) := by omega
   have hl1 := zhj tx hf k
   have hl2 := rsz_le tx n (k + 1) (by omega)
   rw [rsz] at hl2
   have hstep : Hid (zbm tx hf (k + 1) = zbm tx hf k ++ zcC (tx k) (hf k)) := rfl
   obtain ⟨t, ht⟩ : ∃ t, t = tx k := ⟨_, rfl⟩
   obtain ⟨h, hh⟩ : ∃ h, h = hf k := ⟨_, rfl⟩
   rw [← ht] at g1 hstep hl2
   rw [← hh] at g2 hstep
   clear ht hh
   have E1 : ∀ o, Ext wr (wr.alloc o) := fun o => (Ext.refl wr).alloc o
   cases h with
   | true =>
    have hst : Hid (zbm tx hf (k + 1) = zbm tx hf k) := zh ((zu hstep).trans (by simp [zcC]))
    go_wp2
    go_roundw
    case rel => exact ⟨k + 1, by omega, by go_num, by rw [zu hst]; exact zh (zfO (zu HB) (E1 _)), hext.trans (E1 _)⟩
    case measure => simp [intOf]; omega
   | false =>
    by_cases he : t.toList = []
    ·have hst : Hid (zbm tx hf (k + 1) = zbm tx hf k ++ [32]) := zh ((zu hstep).trans (by simp [zcC, he]))
     have hcon := zh (fun U (hU : Ext wr U) => zhN w.heap.size w.heap.size _ 32 U (zfO (zu HB) hU) (by rw [List.length_map]; omega) (by have := hU.size; omega))
     go_wp2_with fail
     refine ((zu hcon) _ (E1 _)).mono ?_
     rintro e w2 ⟨rfl, hb2, hB2⟩
     have E2 : Ext w w2 := Ext.of_below ((hext.trans (E1 _)).below.trans hB2)
     have HB2 : Hid (zfb w.heap.size w.heap.size ((zbm tx hf (k + 1)).map (Value.int .u8)) w2) := zh (by rw [zu hst, List.map_append]; exact .inr hb2)
     clear hb2 hB2
     go_wp2
     go_roundw
     case rel => exact ⟨k + 1, by omega, by go_num, HB2, E2⟩
     case measure => simp [intOf]; omega
    ·have hst : Hid (zbm tx hf (k + 1) = zbm tx hf k ++ baL t) := zh ((zu hstep).trans (by simp [zcC, he]))
     have hcon := zh (fun U (hU : Ext wr U) => zgc w.heap.size w.heap.size _ t U (zfO (zu HB) hU) (by rw [List.length_map]; omega) (by have := hU.size; omega))
     have he' : t.toList.isEmpty = false := by simpa using he
     go_wp2_with fail
     refine ((zu hcon) _ (E1 _)).mono ?_
     rintro e w2 ⟨rfl, hb2, hB2⟩
     have E2 : Ext w w2 := Ext.of_below ((hext.trans (E1 _)).below.trans hB2)
     have HB2 : Hid (zfb w.heap.size w.heap.size ((zbm tx hf (k + 1)).map (Value.int .u8)) w2) := zh (by rw [zu hst, List.map_append, ← ziQ]; exact .inr hb2)
     clear hb2 hB2
     go_wp2
     go_roundw
     case rel => exact ⟨k + 1, by omega, by go_num, HB2, E2⟩
     case measure => simp [intOf]; omega
  ·obtain rfl : k = n := by omega
   have hb9 : ¬ (k : Int) < (k : Int) := by omega
   have hl1 := zhj tx hf k
   have hcon := zh (Any.Builder_String_any Tryz.lays169 Tryz.Builder_Extra_169 w.heap.size w.heap.size (zo (zbm tx hf k)).data.toList wr (by rw [zhb (zhu _ _ _)]; exact zu HB) hsz)
   go_wp2_with fail
   refine (zu hcon).mono ?_
   rintro e w2 ⟨rfl, hB2⟩
   have E2 : Ext w w2 := Ext.of_below (hext.below.trans hB2)
   have hcon2 := zh (Any.strings_TrimRight_one Tryz.lays162 (zo (zbm tx hf k)) 32 (by decide) w2 (by rw [zai]; omega))
   clear hB2 hcon
   go_wp2_with fail
   refine (zu hcon2).mono ?_
   rintro e w3 ⟨rfl, rfl⟩
   go_wp2
   go_ret
   exact ⟨zl9 (zea _), E2⟩
end Go.Proofs.YtinfdhbnljnifaaGreatDoor
