import Derived.Test.YtinfdhbnljnifaaGreatDoorRkE
import Derived.Test.YtinfdhbnljnifaaGreatDoorPiece
import Derived.Test.YtinfdhbnljnifaaGreatDoorOkImpl
import Derived.Test.YtinfdhbnljnifaaGreatDoorRd
import Derived.Test.YtinfdhbnljnifaaGreatDoorKys
import Derived.Test.YtinfdhbnljnifaaGreatDoorFdE
import Derived.Test.YtinfdhbnljnifaaGreatDoorKmU
import Derived.Test.YtinfdhbnljnifaaGreatDoorWhole
namespace Go.Proofs.YtinfdhbnljnifaaGreatDoor
open Go.RowKit
def ziP : List ByteArray := [{ data := #[13] }, { data := #[127] }, { data := #[127] }, { data := #[4] }, { data := #[2] }, { data := #[2] }, { data := #[6] }, { data := #[1] }, { data := #[5] }, { data := #[16] }, { data := #[14] }, { data := #[11] }, { data := #[21] }, { data := #[23] }, { data := #[25] }, { data := #[20] }, { data := #[31] }, { data := #[18] }, { data := #[3] }, { data := #[27, 98] }, { data := #[27, 102] }, { data := #[27, 91, 65] }, { data := #[27, 91, 66] }, { data := #[27, 91, 67] }, { data := #[27, 91, 68] }, { data := #[27, 91, 51, 126] }, { data := #[27, 79, 72] }, { data := #[27, 91, 52, 126] }, { data := #[27, 91, 50, 48, 48, 126, 97, 9, 98, 255, 27, 91, 50, 48, 49, 126] }, { data := #[27, 91, 50, 48, 48, 126, 204, 129, 120] }, { data := #[27, 91, 50, 48, 49, 126] }, { data := #[27] }, { data := #[27, 27] }, { data := #[27, 91, 53] }, { data := #[27, 91, 49, 59, 50, 65] }, { data := #[27, 91, 1] }, { data := #[27, 122] }, { data := #[27, 79] }, { data := #[228, 184] }, { data := #[10] }, { data := #[16] }, { data := #[14] }, { data := #[18] }, { data := #[31] }, { data := #[25] }, { data := #[13] }, { data := #[119, 111, 114, 100, 32, 116, 119, 111, 32] }, { data := #[194, 128] }]
theorem zhF : ∀ t ∈ ziP, t.size ≤ 24 := by decide
theorem zmd {w : World} {p : Nat} {T : TypeId} {xs : List ByteArray} (h : w.heap[p]? = some (.cells (xs.map Value.string).toArray T (0, 0))) : ∀ j, j < xs.length → ∃ t ∈ xs, w.cell? ⟨p, j, none⟩ = some (.string t) := fun j hj => ⟨xs[j], List.getElem_mem hj, zg h j _ (by simp [hj])⟩
set_option maxRecDepth 20000 in
set_option maxHeartbeats 4000000 in
theorem zeW (k : Nat) (hk : k ≤ 255) (w : World) :
  Calls Tryz.prog 127 #[.int .i64 (k : Int)] w fun e w' => (∃ ps, e = .returned (.string (zo ps)) ∧ zv ps ∧ ps.length ≤ 24) ∧ Ext w w' := by
 by_cases h1 : k < 120
 ·have h1I : (k : Int) < 120 := by omega
  have hP := zh (zjK k w)
  go_enter Tryz.func127, Tryz.ntmps127
  go_wp2_with fail
  refine (zu hP).mono ?_
  rintro e w1 ⟨⟨zs, rfl, hzb, _, h4⟩, E1⟩
  go_wp2
  exact bodyPost_ret (v := .string (zo zs)) (by simp [results, Tryz.results127, go_sem]) rfl ⟨⟨zs, rfl, hzb, by omega⟩, E1⟩
 ·have h1I : ¬ (k : Int) < 120 := by omega
  obtain ⟨V, hV⟩ : ∃ V, V = w.alloc (.cells (ziP.map Value.string).toArray 9) := ⟨_, rfl⟩
  have E0 : Ext w V := by rw [hV]; exact (Ext.refl w).alloc _
  obtain ⟨t, ht, hc⟩ := zmd (xs := ziP) (p := w.heap.size) (w := V) (by rw [hV]; exact zk w _) (k % 48) (Nat.mod_lt _ (by decide))
  have hs := zhF t ht
  have HV := zh (show V = w.alloc (.cells #[.string { data := #[13] }, .string { data := #[127] }, .string { data := #[127] }, .string { data := #[4] }, .string { data := #[2] }, .string { data := #[2] }, .string { data := #[6] }, .string { data := #[1] }, .string { data := #[5] }, .string { data := #[16] }, .string { data := #[14] }, .string { data := #[11] }, .string { data := #[21] }, .string { data := #[23] }, .string { data := #[25] }, .string { data := #[20] }, .string { data := #[31] }, .string { data := #[18] }, .string { data := #[3] }, .string { data := #[27, 98] }, .string { data := #[27, 102] }, .string { data := #[27, 91, 65] }, .string { data := #[27, 91, 66] }, .string { data := #[27, 91, 67] }, .string { data := #[27, 91, 68] }, .string { data := #[27, 91, 51, 126] }, .string { data := #[27, 79, 72] }, .string { data := #[27, 91, 52, 126] }, .string { data := #[27, 91, 50, 48, 48, 126, 97, 9, 98, 255, 27, 91, 50, 48, 49, 126] }, .string { data := #[27, 91, 50, 48, 48, 126, 204, 129, 120] }, .string { data := #[27, 91, 50, 48, 49, 126] }, .string { data := #[27] }, .string { data := #[27, 27] }, .string { data := #[27, 91, 53] }, .string { data := #[27, 91, 49, 59, 50, 65] }, .string { data := #[27, 91, 1] }, .string { data := #[27, 122] }, .string { data := #[27, 79] }, .string { data := #[228, 184] }, .string { data := #[10] }, .string { data := #[16] }, .string { data := #[14] }, .string { data := #[18] }, .string { data := #[31] }, .string { data := #[25] }, .string { data := #[13] }, .string { data := #[119, 111, 114, 100, 32, 116, 119, 111, 32] }, .string { data := #[194, 128] }] 9) from hV)
  have htm : (k : Int).tmod 48 = ((k % 48 : Nat) : Int) := by rw [Int.tmod_eq_emod_of_nonneg (by omega)]; omega
  have hm0 : (k % 48 : Nat) < 48 := Nat.mod_lt _ (by decide)
  obtain ⟨m, hm⟩ : ∃ m, m = k % 48 := ⟨_, rfl⟩
  rw [← hm] at hc htm hm0
  have hmI : (m : Int) < 48 := by omega
  have HE := zh E0
  clear hm ht hV E0
  have hc2 := hc
  rw [zu HV] at hc2
  go_enter Tryz.func127, Tryz.ntmps127
  go_wp2
  rw [← zu HV]
  exact bodyPost_ret (v := .string t) (by simp [results, Tryz.results127, go_sem]) rfl ⟨⟨baL t, by rw [zat], zf t, by rw [zw]; exact hs⟩, zu HE⟩
set_option maxRecDepth 10000 in
set_option maxHeartbeats 1000000 in
theorem ziz (D : Nat) (v : Value) (bs : List Int) (p0 n : Nat) (w : World) (h : zbw w D v bs p0) (hB : zv bs) (hl : bs.length ≤ 16777216) (hn : n ≤ 1048576) :
  Calls Tryz.prog 129 #[.pointer (some ⟨D, 0, none⟩), .int .i64 (n : Int)] w fun e w' => ∃ v' zs, e = .returned v' ∧ (w'.ownsRow w.heap.size 5 1 v' zs.length (zs.map (Value.int .u8)) ∧ zv zs ∧ zs.length ≤ 24 * n) ∧ (∃ p, zbw w' D v bs p) ∧ Fr (fun k => k = D) w w' := by
 obtain ⟨i0, hi, hz0, hz1, hz2⟩ := info_parts zbP
 have HR := zh h
 have hDw : D < w.heap.size := zaj h.1
 clear h
 go_enter Tryz.func129, Tryz.ntmps129
 go_wp2
 go_loopw [5, 6] (fun o i wr => ∃ (k p : Nat) (zs : List Int), k ≤ n ∧ i = .int .i64 k ∧ Hid (wr.ownsRow w.heap.size 5 1 o zs.length (zs.map (Value.int .u8))) ∧ Hid (zv zs) ∧ zs.length ≤ 24 * k ∧ Hid (zbw wr D v bs p) ∧ Hid (Fr (fun q => q = D) w wr)) (fun _ i _ => n - (intOf i).toNat)
 case atStart => exact ⟨0, p0, [], Nat.zero_le _, rfl, zh (World.ownsRow_made w #[] 0 (Nat.le_refl _) (by unfold maxLen; omega) (by simp)), zh (fun x hx => by simp at hx), by simp, zh ((zu HR).ext ((Ext.refl _).alloc _)), zh (Fr.of_ext ((Ext.refl _).alloc _))⟩
 case round =>
  obtain ⟨k, p, zs, hk, rfl, HO, HB, hlz, HRD, HF⟩ := hrel
  by_cases hlt : k < n
  ·have bk : (k : Int) < (n : Int) := by omega
   have hb := hB.at0 p
   obtain ⟨x, hx⟩ : ∃ x : Nat, at0 bs p = (x : Int) := ⟨(at0 bs p).toNat, by omega⟩
   have hx255 : x ≤ 255 := by omega
   have hnx := zh (zb9 D v bs p wr (zu HRD) hB hl)
   rw [hx] at hnx
   clear hx hb
   go_wp2_with fail
   refine (zu hnx).mono ?_
   rintro e w1 ⟨rfl, hr1, fr1⟩
   have HR1 := zh hr1
   have HO1 := zh (fr1.owns (zu HO) (fun g hg e => by have := ((zu HO).lt g hg).1; omega))
   have HF1 : Hid (Fr (fun q => q = D) w w1) := by
    have h1 := zu HF
    exact zh ⟨fr1.os.trans h1.os, fr1.tape.trans h1.tape, fr1.output.trans h1.output, Nat.le_trans h1.size fr1.size, fun q hq hn => (fr1.block q (Nat.lt_of_lt_of_le hq h1.size) hn).trans (h1.block q hq hn)⟩
   clear hr1 fr1
   go_wp2_with fail
   refine (zeW x hx255 w1).mono ?_
   rintro e w2 ⟨⟨ps, rfl, hpb, hp4⟩, F2⟩
   obtain ⟨capb, w3, hrun, he3, hsz3, hcells⟩ := zgd (P := Tryz.prog) w2 _ _ _ Tryz.underlying9 Tryz.underlying22 Tryz.underlying5 ps hpb
   have E3 := F2.trans he3
   have HO3 := zh (E3.owns (zu HO1))
   have HCE := zh hcells
   have z1 := (zu HF1).size
   have z3 := E3.size
   clear hcells
   go_wp2_with (at_builtin; go_must (refine wpList_append_own _ rfl _ _ 22 rfl w.heap.size 5 i0 (.int .u8 0) 1 1 Tryz.underlying22 hi hz0 hz1 hz2 rfl (by decide) _ _ _ rfl (zu HO3) ⟨w2.heap.size, 0, none⟩ ps.length capb (ps.map (Value.int .u8)) rfl (by simp) (zu HCE) (ints_oneCell _ _) ?_ ?_ ?_ ?_))
   ·unfold maxLen; omega
   ·omega
   ·omega
   ·intro v' w4 hown' hgrow _
    have hO4 : Hid (w4.ownsRow w.heap.size 5 1 v' (zs ++ ps).length ((zs ++ ps).map (Value.int .u8))) := by
     refine zh ?_
     rw [List.length_append, List.map_append]
     exact hown'
    have hB4 : Hid (zv (zs ++ ps)) := zh (fun y hy => by
     rcases List.mem_append.1 hy with h | h
     ·exact (zu HB) y h
     ·exact hpb y h)
    have hrow : ∀ q, u5.ownBlock = some q → w.heap.size ≤ q := fun q hq => ((zu HO).lt q hq).1
    have E14 : ∀ q, q < w1.heap.size → q < w.heap.size → w4.heap[q]? = w1.heap[q]? := fun q hq hq2 => (hgrow.block q (by omega) (fun e => by have := hrow q e.symm; omega)).trans (E3.heap hq)
    have HF4 : Hid (Fr (fun q => q = D) w w4) := by
     have h1 := zu HF1
     refine zh ⟨hgrow.os.trans (E3.os.trans h1.os), hgrow.tape.trans (E3.tape.trans h1.tape), hgrow.output.trans (E3.output.trans h1.output), by have := hgrow.size; omega, fun q hq hn => (E14 q (by omega) hq).trans (h1.block q hq hn)⟩
    have HR4 : Hid (zbw w4 D v bs (if p < bs.length then p + 1 else p)) := by
     exact zh ((zu HR).keep (zu HR1) (zu HF4) (E14 D (by omega) hDw))
    clear hown' hgrow hrun
    go_wp2
    go_roundw
    case rel => exact ⟨k + 1, _, zs ++ ps, by omega, by go_num, hO4, hB4, by simp; omega, HR4, HF4⟩
    case measure => simp [intOf]; omega
  ·obtain rfl : k = n := by omega
   go_wp2
   go_ret
   exact ⟨_, zs, rfl, ⟨zu HO, zu HB, hlz⟩, ⟨_, zu HRD⟩, zu HF⟩
theorem Fr.upon {S : Nat → Prop} {b : Nat} {w w1 w2 : World} (h2 : Fr (fun q => q = b) w1 w2) (h1 : Fr S w w1) (hb : ∀ q, q = b → w.heap.size ≤ q) : Fr S w w2 :=
 ⟨h2.os.trans h1.os, h2.tape.trans h1.tape, h2.output.trans h1.output, Nat.le_trans h1.size h2.size, fun q hq hn => (h2.block q (Nat.lt_of_lt_of_le hq h1.size) (fun e => by have := hb q e; omega)).trans (h1.block q hq hn)⟩
def KeyOut (base : Nat) (w : World) (e : Ending) : Prop :=
 ∃ (kd : Int) (v : Value) (rs : List Int), e = .returned (.agg #[.int .i64 kd, v]) ∧ w.ownsRow base 21 1 v rs.length (rs.map (Value.int .i32)) ∧ zdv rs ∧ rs.length ≤ 1000
theorem zfj (v : Value) (bs : List Int) (w : World) (hv : zx w .u8 v bs) (hB : zv bs) (hl : bs.length ≤ 8000000) :
  Calls Tryz.prog 126 #[.agg #[.slice none 0 0, .bool false], v] w fun e w' => (∃ (ha : Option Addr) (hn hc : Nat) (kv : Value) (rs : List Value) (q : Bool), e = .returned (.tuple #[.agg #[.slice ha hn hc, .bool q], kv]) ∧ zaA w' w.heap.size kv rs (rk bs false).1) ∧ Ext w w' := by
 have h0 : zx w .u8 (.slice none 0 0) [] := ⟨none, 0, rfl, Nat.le_refl _, fun h => by simp at h⟩
 have h := zfU none 0 [] bs false v w h0 hv (fun n hn => by simp at hn) hB (by simpa using hl)
 rw [List.nil_append] at h
 refine Calls.mono h ?_
 rintro e w' ⟨⟨hv, kv, rs, rfl, oh, o⟩, E⟩
 obtain ⟨ha, hc, rfl⟩ : ∃ a c, hv = .slice a (bs.drop (rk bs false).2.1).length c := by
  rcases oh.2 with ⟨e, h0⟩ | ⟨g, cap9, cur, e, _⟩
  ·exact ⟨none, 0, by rw [h0]; exact e⟩
  ·exact ⟨_, _, e⟩
 exact ⟨⟨ha, _, hc, kv, rs, _, rfl, o⟩, E⟩
set_option maxRecDepth 10000 in
set_option maxHeartbeats 4000000 in
theorem zmB (D : Nat) (v : Value) (bs : List Int) (p : Nat) (w : World) (h : zbw w D v bs p) (hB : zv bs) (hl : bs.length ≤ 16777216) :
  Calls Tryz.prog 73 #[.pointer (some ⟨D, 0, none⟩)] w fun e w' => KeyOut w.heap.size w' e ∧ (∃ p', zbw w' D v bs p') ∧ Fr (fun k => k = D) w w' := by
 have HR := zh h
 have hDw : D < w.heap.size := zaj h.1
 have infoK : (Tryz.prog.info? 95).map (·.size) = some 2 := by kernel_rfl
 have hb := hB.at0 p
 obtain ⟨x, hx⟩ : ∃ x : Nat, at0 bs p = (x : Int) := ⟨(at0 bs p).toNat, by omega⟩
 have hx255 : x ≤ 255 := by omega
 have hnx := zh (fun W (hr : zbw W D v bs p) => zb9 D v bs p W hr hB hl)
 rw [hx] at hnx
 clear hx hb h
 go_enter Tryz.func73, Tryz.ntmps73
 go_wp2_with fail
 refine ((zu hnx) _ ((zu HR).ext ((Ext.refl _).alloc _))).mono ?_
 rintro e w1 ⟨rfl, hr1, fr1⟩
 obtain ⟨p1, hp1⟩ : ∃ q, q = (if p < bs.length then p + 1 else p) := ⟨_, rfl⟩
 rw [← hp1] at hr1
 have HB0 := zh (fr1.kept (zk w (.cells #[.int .i64 0, .slice none 0 0] 95)) (by omega))
 have HF := zh ((Fr.of_ext (S := fun k => k = D) ((Ext.refl w).alloc (.cells #[.int .i64 0, .slice none 0 0] 95))).tr fr1)
 have HR1 := zh hr1
 clear hp1 hr1 fr1 hnx
 have hb := hB.at0 p1
 obtain ⟨y, hy⟩ : ∃ y : Nat, at0 bs p1 = (y : Int) := ⟨(at0 bs p1).toNat, by omega⟩
 have hy255 : y ≤ 255 := by omega
 have hny := zh (zb9 D v bs p1 w1 (zu HR1) hB hl)
 rw [hy] at hny
 clear hy hb HR1
 go_wp2_with fail
 refine (zu hny).mono ?_
 rintro e w2 ⟨rfl, hr2, fr2⟩
 obtain ⟨p2, hp2⟩ : ∃ q, q = (if p1 < bs.length then p1 + 1 else p1) := ⟨_, rfl⟩
 rw [← hp2] at hr2
 replace HB0 := zh (fr2.kept (zu HB0) (by omega))
 replace HF := zh ((zu HF).tr fr2)
 have HR2 := zh hr2
 clear hp2 hr2 fr2 hny
 go_wp2_with fail
 refine (zeW y hy255 w2).mono ?_
 rintro e w3 ⟨⟨ps, rfl, hpb, hp24⟩, E3⟩
 obtain ⟨v4, w4, hrun, h4, E4⟩ := zec (P := Tryz.prog) w3 _ _ _ Tryz.underlying9 Tryz.underlying22 Tryz.underlying5 ps hpb
 have HK4 := zh (zfj v4 ps w4 h4 hpb (by omega))
 have E24 := E3.trans E4
 replace HB0 := E24.hk HB0
 replace HF := zh ((zu HF).tr (Fr.of_ext E24))
 replace HR2 := zh ((zu HR2).ext E24)
 clear E3 E4 E24 h4
 go_wp2_with fail
 refine (zu HK4).mono ?_
 rintro e w5 ⟨⟨h5a, h5n, h5c, kv, rs, q5, rfl, oK⟩, E5⟩
 obtain ⟨ka, kc, rfl⟩ := oK.slice
 have hz4 : w.heap.size ≤ w4.heap.size := (zu HF).size
 have HOK := zh (oK.down hz4)
 have HPre : Hid (∀ g, (rV rs 0).ownBlock = some g → ¬ g = w.heap.size) := zh (fun g hg e9 => by
  by_cases h0 : 0 < (rk ps false).1.length
  ·have h9 := (oK.2.2.1 0 h0).lt g hg
   have h8 := zq (zu HB0)
   omega
  ·have h7 : rs.length = (rk ps false).1.length := oK.1
   have h6 : rs = [] := List.eq_nil_of_length_eq_zero (by omega)
   rw [h6] at hg
   simp [rV, Value.ownBlock] at hg)
 replace HB0 := E5.hk HB0
 replace HF := zh ((zu HF).tr (Fr.of_ext E5))
 replace HR2 := zh ((zu HR2).ext E5)
 have hz5 : w.heap.size < w5.heap.size := zq (zu HB0)
 obtain ⟨hkl, hki⟩ := rk_ok ps false
 obtain ⟨ks, hks⟩ : ∃ ks, ks = (rk ps false).1 := ⟨_, rfl⟩
 rw [← hks] at hkl hki HOK ⊢
 have HKI := zh hki
 have infoKR : (Tryz.prog.info? 145).map (·.size) = some 2 := by kernel_rfl
 have HN5 := zh (heap_alloc_new w5 (.cells #[.slice none 0 0, .bool false] 145))
 clear oK E5 HK4 hrun hks hki
 go_wp2_with (first | (refine zi rfl 145 _ _ rfl rfl (w5.heap.size) rfl _ _ #[.slice h5a h5n h5c, .bool q5] rfl (zu HN5) infoKR rfl (by simp [Value.oneCell']) ?_; intro U hb9 hf9; have HEU := zh (hf9.ext ((Ext.refl w5).alloc _) (fun q hq => by omega)); clear hb9 hf9; refine zaS.intro ?_))
 show wpList _ _ _ _ _ _
 have EU := zu HEU
 have zU := EU.size
 replace HOK := zh ((zu HOK).ext EU)
 replace HB0 := EU.hk HB0
 replace HF := zh ((zu HF).tr (Fr.of_ext EU))
 replace HR2 := zh ((zu HR2).ext EU)
 clear EU HEU HN5
 by_cases h15 : x % 16 = 15
 ·have hq : (x : Int) % 16 = 15 := by omega
  have EW : Hid (Ext U (U.alloc (.cells #[.int .i32 55296, .int .i32 97] 21))) := zh ((Ext.refl U).alloc _)
  have HN6 := zh ((zu EW).kept (zu HB0))
  have OW : Hid ((U.alloc (.cells #[.int .i32 55296, .int .i32 97] 21)).ownsRow w.heap.size 21 1 (.slice (some ⟨U.heap.size, 0, none⟩) 2 2) ([55296, 97]).length (([55296, 97]).map (Value.int .i32))) := zh (zei (w := U) .i32 [55296, 97] 21 w.heap.size 2 rfl (by omega) (by unfold maxLen; simp))
  have OD : Hid (∀ g, (Value.slice (some ⟨U.heap.size, 0, none⟩) 2 2).ownBlock = some g → ¬ g = w.heap.size) := zh (fun g hg e9 => by have h9 : U.heap.size = g := Option.some.inj hg; omega)
  go_wp2_with (first | (refine zi rfl 95 _ _ rfl rfl (w.heap.size) rfl _ _ _ rfl (zu HN6) infoK rfl (by simp [Value.oneCell']) ?_; intro Z hy9 hf9; have HY := zh hy9; have FY := zh hf9; clear hy9 hf9))
  have v0 := zg (zu HY) 0 _ rfl
  have v1 := zg (zu HY) 1 _ rfl
  have FZ : Fr (fun k => k = D) w Z := (zu FY).upon ((zu HF).tr (Fr.of_ext (zu EW))) (fun q hq => by omega)
  have zW := (zu EW).size
  exact bodyPost_ret (v := .agg #[.int .i64 ((x : Int) / 16 * 2 - 3), .slice (some ⟨U.heap.size, 0, none⟩) 2 2]) (by simp [results, Tryz.results73, go_sem, v0, v1]) rfl ⟨⟨_, _, [55296, 97], rfl, (zu FY).owns (zu OW) (zu OD), fun z hz => by simp at hz; omega, by decide⟩, ⟨p2, (zu HR).keep ((zu HR2).ext (zu EW)) FZ ((zu FY).block D (by omega) (by omega))⟩, FZ⟩
 have hqb : ((x : Int) % 16 == 15) = false := by rw [beq_eq_false_iff_ne]; omega
 by_cases h14 : x % 32 = 14
 ·have hq : (x : Int) % 32 = 14 := by omega
  obtain ⟨N, hN⟩ : ∃ N : Nat, (N : Int) = 298 + (x : Int) / 32 := ⟨298 + x / 32, by omega⟩
  have hN2 : N ≤ 400 := by omega
  have hwN : IntKind.i64.wrap (298 + (x : Int) / 32) = (N : Int) := by rw [IntKind.wrap_i64]; omega
  obtain ⟨ic, hic, hc0, hc1, hc2⟩ := info_parts infoI32
  obtain ⟨V, hV⟩ : ∃ V, V = (U.alloc (.cells #[] 21)).alloc (.cells #[.int .i64 2, .slice (some ⟨U.heap.size, 0, none⟩) 0 0] 95) := ⟨_, rfl⟩
  have EV : Ext U V := by rw [hV]; exact ((Ext.refl U).alloc _).alloc _
  have HV0 : Hid (V.heap[U.heap.size + 1]? = some (.cells #[.int .i64 2, .slice (some ⟨U.heap.size, 0, none⟩) 0 0] 95 (0, 0))) := zh (by rw [hV]; have h := zk (U.alloc (.cells #[] 21)) (.cells #[.int .i64 2, .slice (some ⟨U.heap.size, 0, none⟩) 0 0] 95); rw [show (U.alloc (.cells #[] 21)).heap.size = U.heap.size + 1 by simp] at h; exact h)
  have HV1 : Hid (V.ownsRow U.heap.size 21 1 (.slice (some ⟨U.heap.size, 0, none⟩) 0 0) 0 ((List.replicate 0 (97 : Int)).map (Value.int .i32))) := zh (by rw [hV]; exact ((Ext.refl _).alloc _).owns (zaD U 21 1))
  have HVV := zh hV
  have HEV := zh EV
  clear hV EV hN
  go_wp2_with fail
  rw [← zu HVV]
  clear HVV hq hqb h14 h15
  go_loopw [7] (fun i9 wr => ∃ (j : Nat) (ra : Option Addr) (rc : Nat), j ≤ N ∧ i9 = .int .i64 j ∧ Hid (wr.heap[U.heap.size + 1]? = some (.cells #[.int .i64 2, .slice ra j rc] 95 (0, 0))) ∧ Hid (wr.ownsRow U.heap.size 21 1 (.slice ra j rc) j ((List.replicate j (97 : Int)).map (Value.int .i32))) ∧ Hid (∀ g, (Value.slice ra j rc).ownBlock = some g → g ≠ U.heap.size + 1) ∧ Hid (Ext U wr)) (fun i9 _ => N - (intOf i9).toNat)
  case atStart => exact ⟨0, _, _, Nat.zero_le _, rfl, HV0, HV1, zh (fun g hg => by have h9 : U.heap.size = g := Option.some.inj hg; omega), HEV⟩
  case round =>
   obtain ⟨j, ra, rc, hj, rfl, HX, HO, HD, HE⟩ := hrel
   have hzr := zq (zu HX)
   by_cases hlt : j < N
   ·have hltI : (j : Int) < (N : Int) := by omega
    have c1 := zg (zu HX) 1 _ rfl
    have HO6 := zh ((zu HO).alloc (.cells #[.int .i32 97] 21))
    have HS6 := zh (Src.made (w := wr) (size := 1) [.int .i32 97] 1 21 rfl (by simp [Value.oneCell']))
    go_wp2_with (at_builtin; refine zaS.intro ?_)
    show wpList _ _ _ _ _ _
    refine zd rfl _ _ 93 rfl U.heap.size 21 ic (.int .i32 0) 1 4 Tryz.underlying93 hic hc0 hc1 hc2 rfl (by decide) _ _ _ rfl (zu HO6) _ 1 [.int .i32 97] rfl (zu HS6) (by unfold maxLen; omega) (by omega) (by simp; omega) ?_
    intro v9 w9 o9 G9 _
    obtain ⟨a9, c9, rfl⟩ : ∃ a c, v9 = .slice a (j + 1) c := by
     rcases o9.2 with ⟨e, h0⟩ | ⟨g, cap9, cur, e, _⟩
     ·omega
     ·exact ⟨_, _, e⟩
    have E9 : Ext U w9 := ((zu HE).alloc _).grown G9 (fun q hq => ((zu HO).lt q hq).1)
    have HX9 : Hid (w9.heap[U.heap.size + 1]? = some (.cells #[.int .i64 2, .slice ra j rc] 95 (0, 0))) := zh ((G9.block _ (by simp; omega) (fun e9 => (zu HD) _ e9.symm rfl)).trans (((Ext.refl wr).alloc _).kept (zu HX)))
    have HO9 : Hid (w9.ownsRow U.heap.size 21 1 (.slice a9 (j + 1) c9) (j + 1) ((List.replicate (j + 1) (97 : Int)).map (Value.int .i32))) := zh (by rw [List.replicate_succ', List.map_append]; exact o9)
    have HD9 : Hid (∀ g, (Value.slice a9 (j + 1) c9).ownBlock = some g → g ≠ U.heap.size + 1) := zh (fun g hg e9 => by
     subst e9
     rcases (zu HO9).2 with ⟨e, h0⟩ | ⟨g, cap9, cur, e, _, hb9, _⟩
     ·omega
     ·rw [e] at hg
      have h9 : g = U.heap.size + 1 := Option.some.inj hg
      rw [h9, zu HX9] at hb9
      simp at hb9)
    have HE9 := zh E9
    have d1 := zg (zu HX9) 1 _ rfl
    have d2 : w9.frozen? ⟨U.heap.size + 1, 1, none⟩ = false := Lib.frozen_of_heap (zu HX9) 1
    have HXs : Hid ((w9.setCell ⟨U.heap.size + 1, 1, none⟩ (.slice a9 (j + 1) c9)).heap[U.heap.size + 1]? = some (.cells #[.int .i64 2, .slice a9 (j + 1) c9] 95 (0, 0))) := zh (zj (zu HX9) rfl)
    have HOs := zh (zbW (zu HO9) (a := ⟨U.heap.size + 1, 1, none⟩) (fun e9 => (zu HD9) _ e9 rfl) (.slice a9 (j + 1) c9))
    have HEs := zh (Ext.setCell (zu HE9) (a := ⟨U.heap.size + 1, 1, none⟩) (by dsimp only; omega) (.slice a9 (j + 1) c9))
    clear o9 G9 E9 HO6 HS6 HX9 HO9 HE9
    go_wp2
    go_roundw
    case rel => exact ⟨j + 1, a9, c9, by omega, by go_num, HXs, HOs, HD9, HEs⟩
    case measure => simp [intOf]; omega
   ·obtain rfl : j = N := by omega
    have hnl : ¬ (j : Int) < (j : Int) := by omega
    have c0 := zg (zu HX) 0 _ rfl
    have c1 := zg (zu HX) 1 _ rfl
    have EW := HE
    have HN6 := zh ((zu EW).kept (zu HB0))
    have OW : Hid (wr.ownsRow w.heap.size 21 1 (.slice ra j rc) (List.replicate j (97 : Int)).length ((List.replicate j (97 : Int)).map (Value.int .i32))) := zh (by rw [List.length_replicate]; exact zah (zu HO) (by omega))
    have OD : Hid (∀ g, (Value.slice ra j rc).ownBlock = some g → ¬ g = w.heap.size) := zh (fun g hg e9 => by have := ((zu HO).lt g hg).1; omega)
    go_wp2_with (first | (refine zi rfl 95 _ _ rfl rfl (w.heap.size) rfl _ _ _ rfl (zu HN6) infoK rfl (by simp [Value.oneCell']) ?_; intro Z hy9 hf9; have HY := zh hy9; have FY := zh hf9; clear hy9 hf9))
    have v0 := zg (zu HY) 0 _ rfl
    have v1 := zg (zu HY) 1 _ rfl
    have FZ : Fr (fun k => k = D) w Z := (zu FY).upon ((zu HF).tr (Fr.of_ext (zu EW))) (fun q hq => by omega)
    have zW := (zu EW).size
    exact bodyPost_ret (v := .agg #[.int .i64 (2), .slice ra j rc]) (by simp [results, Tryz.results73, go_sem, v0, v1]) rfl ⟨⟨_, _, (List.replicate j (97 : Int)), rfl, (zu FY).owns (zu OW) (zu OD), fun z hz => by have := List.eq_of_mem_replicate hz; omega, by simp; omega⟩, ⟨p2, (zu HR).keep ((zu HR2).ext (zu EW)) FZ ((zu FY).block D (by omega) (by omega))⟩, FZ⟩
 have hqc : ((x : Int) % 32 == 14) = false := by rw [beq_eq_false_iff_ne]; omega
 by_cases hC : ks.length = 0 ∨ x % 16 < 8
 ·have hw9 : IntKind.i64.wrap (4 + (x : Int) % 16 * 2 + (x : Int) / 128) = 4 + (x : Int) % 16 * 2 + (x : Int) / 128 := by rw [IntKind.wrap_i64]; omega
  rcases Nat.eq_zero_or_pos ks.length with hz0 | hz0
  ·have hk0 : ((ks.length : Int) == 0) = true := by simp [hz0]
   have EW : Hid (Ext U (U.alloc (.cells #[] 21))) := zh ((Ext.refl U).alloc _)
   have HN6 := zh ((zu EW).kept (zu HB0))
   have OW : Hid ((U.alloc (.cells #[] 21)).ownsRow w.heap.size 21 1 (.slice (some ⟨U.heap.size, 0, none⟩) 0 0) (([] : List Int)).length ((([] : List Int)).map (Value.int .i32))) := zh (zei (w := U) .i32 ([] : List Int) 21 w.heap.size 0 rfl (by omega) (by unfold maxLen; simp))
   have OD : Hid (∀ g, (Value.slice (some ⟨U.heap.size, 0, none⟩) 0 0).ownBlock = some g → ¬ g = w.heap.size) := zh (fun g hg e9 => by have h9 : U.heap.size = g := Option.some.inj hg; omega)
   go_wp2_with (first | (refine zi rfl 95 _ _ rfl rfl (w.heap.size) rfl _ _ _ rfl (zu HN6) infoK rfl (by simp [Value.oneCell']) ?_; intro Z hy9 hf9; have HY := zh hy9; have FY := zh hf9; clear hy9 hf9))
   have v0 := zg (zu HY) 0 _ rfl
   have v1 := zg (zu HY) 1 _ rfl
   have FZ : Fr (fun k => k = D) w Z := (zu FY).upon ((zu HF).tr (Fr.of_ext (zu EW))) (fun q hq => by omega)
   have zW := (zu EW).size
   exact bodyPost_ret (v := .agg #[.int .i64 (4 + (x : Int) % 16 * 2 + (x : Int) / 128), .slice (some ⟨U.heap.size, 0, none⟩) 0 0]) (by simp [results, Tryz.results73, go_sem, v0, v1]) rfl ⟨⟨_, _, [], rfl, (zu FY).owns (zu OW) (zu OD), fun z hz => by simp at hz, by decide⟩, ⟨p2, (zu HR).keep ((zu HR2).ext (zu EW)) FZ ((zu FY).block D (by omega) (by omega))⟩, FZ⟩
  ·have hk0 : ((ks.length : Int) == 0) = false := by rw [beq_eq_false_iff_ne]; omega
   have hq8 : (x : Int) % 16 < 8 := by omega
   have EW : Hid (Ext U (U.alloc (.cells #[] 21))) := zh ((Ext.refl U).alloc _)
   have HN6 := zh ((zu EW).kept (zu HB0))
   have OW : Hid ((U.alloc (.cells #[] 21)).ownsRow w.heap.size 21 1 (.slice (some ⟨U.heap.size, 0, none⟩) 0 0) (([] : List Int)).length ((([] : List Int)).map (Value.int .i32))) := zh (zei (w := U) .i32 ([] : List Int) 21 w.heap.size 0 rfl (by omega) (by unfold maxLen; simp))
   have OD : Hid (∀ g, (Value.slice (some ⟨U.heap.size, 0, none⟩) 0 0).ownBlock = some g → ¬ g = w.heap.size) := zh (fun g hg e9 => by have h9 : U.heap.size = g := Option.some.inj hg; omega)
   go_wp2_with (first | (refine zi rfl 95 _ _ rfl rfl (w.heap.size) rfl _ _ _ rfl (zu HN6) infoK rfl (by simp [Value.oneCell']) ?_; intro Z hy9 hf9; have HY := zh hy9; have FY := zh hf9; clear hy9 hf9))
   have v0 := zg (zu HY) 0 _ rfl
   have v1 := zg (zu HY) 1 _ rfl
   have FZ : Fr (fun k => k = D) w Z := (zu FY).upon ((zu HF).tr (Fr.of_ext (zu EW))) (fun q hq => by omega)
   have zW := (zu EW).size
   exact bodyPost_ret (v := .agg #[.int .i64 (4 + (x : Int) % 16 * 2 + (x : Int) / 128), .slice (some ⟨U.heap.size, 0, none⟩) 0 0]) (by simp [results, Tryz.results73, go_sem, v0, v1]) rfl ⟨⟨_, _, [], rfl, (zu FY).owns (zu OW) (zu OD), fun z hz => by simp at hz, by decide⟩, ⟨p2, (zu HR).keep ((zu HR2).ext (zu EW)) FZ ((zu FY).block D (by omega) (by omega))⟩, FZ⟩
 ·have hk0 : ((ks.length : Int) == 0) = false := by rw [beq_eq_false_iff_ne]; omega
  have hq8 : ¬ (x : Int) % 16 < 8 := by omega
  have hkp : (0 : Int) < (ks.length : Int) := by omega
  obtain ⟨hrl, ⟨ys, hy, hyy⟩, h3, _⟩ := id (zu HOK)
  obtain ⟨g, cap9, e9, hcA⟩ : ∃ g cap9, Value.slice ka ks.length kc = .slice (some ⟨g, 0, none⟩) ks.length cap9 ∧ (U.cell? ⟨g, 0, none⟩ = some (.int .i64 (cW ks 0)) ∧ U.cell? ⟨g, 1, none⟩ = some (rV rs 0)) := by
   rcases hy.2 with ⟨_, h0⟩ | ⟨g, cap9, cur, e, _⟩
   ·omega
   ·refine ⟨g, cap9, e, ?_⟩
    rw [e] at hy
    have h9 := hyy 0 (by omega)
    rw [hy.cellAt _ (by omega), hy.cellAt _ (by omega)]
    exact ⟨h9.2, h9.1⟩
  obtain ⟨e1, _, e2⟩ := Value.slice.inj e9
  subst e1
  subst e2
  obtain ⟨c0, c1⟩ := hcA
  have hro := h3 0 (by omega)
  obtain ⟨ra, rc, hrv⟩ : ∃ a c, rV rs 0 = .slice a (cR ks 0).length c := by
   rcases hro.2 with ⟨e, h0⟩ | ⟨g, cap9, cur, e, _⟩
   ·exact ⟨none, 0, by rw [h0]; exact e⟩
   ·exact ⟨_, _, e⟩
  rw [hrv] at hro c1
  have hk9 := (zu HKI) (cR ks 0, cW ks 0) (by
   have h8 : ks[0]? = some ks[0] := List.getElem?_eq_getElem (by omega)
   have h7 : (cR ks 0, cW ks 0) = ks[0] := by simp [cR, cW, h8]
   rw [h7]
   exact List.getElem_mem _)
  have EW : Hid (Ext U U) := zh (Ext.refl U)
  have OW := zh hro
  have HPO := zh (zu HPre)
  have OD : Hid (∀ g, (Value.slice ra (cR ks 0).length rc).ownBlock = some g → ¬ g = w.heap.size) := zh (fun g hg e9 => (zu HPO) g (by rw [hrv]; exact hg) e9)
  clear hro hy hyy h3 hrl hrv
  go_wp2_with (first | (refine zi rfl 95 _ _ rfl rfl (w.heap.size) rfl _ _ _ rfl (zu HB0) infoK rfl (by simp [Value.oneCell']) ?_; intro Z hy9 hf9; have HY := zh hy9; have FY := zh hf9; clear hy9 hf9))
  have v0 := zg (zu HY) 0 _ rfl
  have v1 := zg (zu HY) 1 _ rfl
  have FZ : Fr (fun k => k = D) w Z := (zu FY).upon ((zu HF).tr (Fr.of_ext (zu EW))) (fun q hq => by omega)
  have zW := (zu EW).size
  exact bodyPost_ret (v := .agg #[.int .i64 (cW ks 0), .slice ra (cR ks 0).length rc]) (by simp [results, Tryz.results73, go_sem, v0, v1]) rfl ⟨⟨_, _, (cR ks 0), rfl, (zu FY).owns (zu OW) (zu OD), hk9.1, by have := hk9.2; omega⟩, ⟨p2, (zu HR).keep ((zu HR2).ext (zu EW)) FZ ((zu FY).block D (by omega) (by omega))⟩, FZ⟩
end Go.Proofs.YtinfdhbnljnifaaGreatDoor
