import Derived.Test.YtinfdhbnljnifaaGreatDoorRowTx
import Derived.Test.YtinfdhbnljnifaaGreatDoorOkImpl
import Derived.Test.YtinfdhbnljnifaaGreatDoorWhole
namespace Go.Proofs.YtinfdhbnljnifaaGreatDoor
open Go.RowKit
def zca (d : SD) (i : Nat) : ByteArray := zp (d.tx i) (d.hf i) (d.C i)
def shN (d : SD) : Nat → Nat
 | 0 => 0
 | k + 1 => if d.row + 1 < ((k + 1 : Nat) : Int) ∧ (zca d k).toList = [] then shN d k else k + 1
theorem zlB (d : SD) : ∀ k, shN d k ≤ k
 | 0 => Nat.le_refl _
 | k + 1 => by
  have := zlB d k
  rw [shN]
  split <;> omega
theorem zjz {d : SD} {k : Nat} (h0 : 0 < k) (h : ¬ d.row + 1 < (k : Int)) : shN d k = k := by
 obtain ⟨j, rfl⟩ : ∃ j, k = j + 1 := ⟨k - 1, by omega⟩
 rw [shN, if_neg (fun e => h e.1)]
theorem zjI {d : SD} {k : Nat} (h : (zca d k).toList ≠ []) : shN d (k + 1) = k + 1 := by rw [shN, if_neg (fun e => h e.2)]
theorem zkk {d : SD} {k : Nat} (h1 : d.row + 1 < ((k + 1 : Nat) : Int)) (h : (zca d k).toList = []) : shN d (k + 1) = shN d k := by rw [shN, if_pos ⟨h1, h⟩]
def zdN (d : SD) (r : Nat) : Nat → Nat
 | 0 => r
 | k + 1 => if (zca d k).toList ≠ [] ∧ zdN d r k < k then k else zdN d r k
theorem zfC (d : SD) (r : Nat) : ∀ k, k ≤ r + 1 → zdN d r k = r
 | 0, _ => rfl
 | k + 1, h => by
  have ih := zfC d r k (by omega)
  rw [zdN, ih, if_neg (fun e => by omega)]
theorem znc (d : SD) (r : Nat) (hr : d.row = (r : Int)) : ∀ k, r + 1 ≤ k → zdN d r k + 1 = shN d k := by
 intro k
 induction k with
 | zero => intro h; omega
 | succ k ih =>
  intro h
  by_cases e : k = r
  ·subst e
   rw [zfC d k _ (Nat.le_refl _), zjz (by omega) (by omega)]
  ·have ih' := ih (by omega)
   have hle := zlB d k
   have hlt : zdN d r k < k := by omega
   by_cases ht : (zca d k).toList = []
   ·rw [zdN, if_neg (fun x => x.1 ht), zkk (by omega) ht]
    exact ih'
   ·rw [zdN, if_pos ⟨ht, hlt⟩, zjI ht]
def zfL (d : SD) : Nat := d.nb + shN d d.R
def zdt (d : SD) (j : Nat) : ByteArray := if j < d.nb then d.bk j else zca d (j - d.nb)
theorem zm6 (d : SD) : zbC d.bk d.nb = zbC (zdt d) d.nb := zhk (fun j hj => by rw [zdt, if_pos hj])
theorem zob (d : SD) (k : Nat) : zdt d (d.nb + k) = zca d k := by rw [zdt, if_neg (by omega), show d.nb + k - d.nb = k by omega]
def SD.Texts (d : SD) : Prop := ∀ i, i < d.R → rsz (d.tx i) (d.C i) ≤ 1048576
set_option maxRecDepth 10000 in
set_option maxHeartbeats 2000000 in
theorem zhA (d : SD) (gv hv bv : Value) (w : World) (h : zbY w d gv hv bv) (hOK : OkP d) (hF : d.Fits) (hT : d.Texts) :
  Calls Tryz.prog 78 #[zbT d gv hv bv] w fun e w' => e = .returned (.int .i64 (shN d d.R)) ∧ Ext w w' := by
 obtain ⟨cn, rn, ec, er, c2, c200, r1, r100⟩ := zds hOK.size
 have hr := hOK.R
 obtain ⟨hrow0, hrow1⟩ := hOK.row
 have hR100 : d.R ≤ 100 := by omega
 obtain ⟨rv, ⟨ao, ca, rfl, hca, hxa⟩, hrw⟩ := h.1
 obtain ⟨b, off, rfl, hcell⟩ := hxa (by omega)
 have HX := zh hcell
 have HRW := zh hrw
 have HF2 := zh hF.2
 clear hcell hrw hxa h hF hOK
 unfold zbT
 rw [← hr] at *
 have EW := (Ext.refl w).alloc (.cells #[.int .i64 d.cols, .int .i64 d.R, .slice (some ⟨b, off, none⟩) d.R ca, .int .i64 d.row, .int .i64 d.col, .bool d.late, hv, bv] 26)
 have hbk := zk w (.cells #[.int .i64 d.cols, .int .i64 d.R, .slice (some ⟨b, off, none⟩) d.R ca, .int .i64 d.row, .int .i64 d.col, .bool d.late, hv, bv] 26)
 obtain ⟨W1, hW1⟩ : ∃ W1, W1 = w.alloc (.cells #[.int .i64 d.cols, .int .i64 d.R, .slice (some ⟨b, off, none⟩) d.R ca, .int .i64 d.row, .int .i64 d.col, .bool d.late, hv, bv] 26) := ⟨_, rfl⟩
 rw [← hW1] at EW hbk
 have p2 := zg hbk 2 _ rfl
 have p3 := zg hbk 3 _ rfl
 have HW := zh hW1
 clear hW1 hbk hr er ec
 go_enter Tryz.func78, Tryz.ntmps78
 go_wp2
 rw [← zu HW]
 clear HW
 go_loopw [3] (fun i wr => ∃ k : Nat, k ≤ d.R ∧ d.row + 1 ≤ (k : Int) ∧ i = .int .i64 k ∧ Hid (shN d d.R = shN d k) ∧ Ext W1 wr) (fun i _ => (intOf i).toNat)
 case atStart => exact ⟨d.R, Nat.le_refl _, by omega, rfl, zh rfl, Ext.refl _⟩
 case round =>
  obtain ⟨k, hk, hk2, rfl, HJ, hext⟩ := hrel
  have c2 := hext.cell p2
  have c3 := hext.cell p3
  by_cases hlt : d.row + 1 < (k : Int)
  ·obtain ⟨j, rfl⟩ : ∃ j, k = j + 1 := ⟨k - 1, by omega⟩
   have hw1 : IntKind.i64.wrap (((j + 1 : Nat) : Int) - 1) = (j : Int) := by rw [IntKind.wrap_i64]; omega
   have bj : (j : Int) < (d.R : Int) := by omega
   have g1 := (EW.trans hext).cell ((zu HX) j (by omega))
   have hcon := zh (zd9 (rv j) (d.C j) (d.tx j) (d.hf j) wr (((zu HRW) j (by omega)).ext (EW.trans hext)) ((zu HF2) j (by omega)) (Nat.le_trans (hT j (by omega)) (by omega)))
   by_cases ht : (zca d j).toList = []
   ·have HJ2 : Hid (shN d d.R = shN d j) := zh ((zu HJ).trans (zkk hlt ht))
    unfold zca at ht
    go_wp2_with fail
    refine (zu hcon).mono ?_
    rintro e w2 ⟨rfl, F2⟩
    go_wp2
    go_roundw
    case rel => exact ⟨j, by omega, by omega, rfl, HJ2, hext.trans F2⟩
    case measure => simp [intOf]
   ·have hfin : Hid (shN d d.R = j + 1) := zh ((zu HJ).trans (zjI ht))
    unfold zca at ht
    have ht' : (zp (d.tx j) (d.hf j) (d.C j)).toList.isEmpty = false := by simpa using ht
    go_wp2_with fail
    refine (zu hcon).mono ?_
    rintro e w2 ⟨rfl, F2⟩
    go_wp2
    go_ret
    exact ⟨zbF (by rw [zu hfin]; omega), EW.trans (hext.trans F2)⟩
  ·have hfin : Hid (shN d d.R = k) := zh ((zu HJ).trans (zjz (by omega) hlt))
   go_wp2
   go_ret
   exact ⟨zbF (by rw [zu hfin]), EW.trans hext⟩
theorem zmY (w : World) (B : Nat) (T : TypeId) (A : Nat → Value) : za4 w B T (.slice none 0 0) 0 A := ⟨[], zd8 w B T 1, fun j hj => absurd hj (Nat.not_lt_zero j)⟩
set_option maxRecDepth 10000 in
set_option maxHeartbeats 4000000 in
theorem zeD (d : SD) (gv hv bv : Value) (ok : Bool) (hok : ok = true ↔ OkP d) (w : World) (h : zbY w d gv hv bv) (hF : d.Fits) (hT : d.Texts) :
  Calls Tryz.prog 25 #[zbT d gv hv bv] w fun e w' => ∃ v, e = .returned v ∧ za4 w' w.heap.size 9 v (if ok = true then zfL d else 0) (fun j => .string (zdt d j)) ∧ Ext w w' := by
 obtain ⟨ic, hic, hc0, hc1, hc2⟩ := info_parts zfa
 have hcO := zh (fun U (hU : Ext w U) => zdi d gv hv bv ok hok U (h.ext hU) hF)
 cases ok with
 | false =>
  clear hok
  obtain ⟨ga, gc, ha, hc, ba, bc, rfl, rfl, rfl⟩ := h.forms
  unfold zbT at *
  clear h
  go_enter Tryz.func25, Tryz.ntmps25
  go_wp2_with fail
  refine ((zu hcO) _ ((Ext.refl w).alloc _)).mono ?_
  rintro e w1 ⟨rfl, F1⟩
  go_wp2
  go_ret
  exact ⟨_, rfl, zmY _ _ _ _, ((Ext.refl w).alloc _).trans F1⟩
 | true =>
  have hOK := hok.1 rfl
  have hcS := zh (fun U (hU : Ext w U) => zhA d gv hv bv U (h.ext hU) hOK hF hT)
  obtain ⟨cn, rn, ec, er, c2, c200, r1, r100⟩ := zds hOK.size
  have hr := hOK.R
  have hR100 : d.R ≤ 100 := by omega
  have hR1 : 1 ≤ d.R := by omega
  have hbk2 := zh h.2.2
  have hnb := hF.4
  obtain ⟨ha, hc, ba, bc, rfl, rfl⟩ : ∃ ha hc ba bc, hv = .slice ha d.hold.length hc ∧ bv = .slice ba d.nb bc := by
   obtain ⟨_, _, ha, hc, ba, bc, _, e2, e3⟩ := h.forms
   exact ⟨ha, hc, ba, bc, e2, e3⟩
  obtain ⟨rv, ⟨ao, ca, rfl, hca, hxa⟩, hrw⟩ := h.1
  obtain ⟨b, off, rfl, hcell⟩ := hxa (by omega)
  have HX := zh hcell
  have HRW := zh hrw
  have HF2 := zh hF.2
  clear hcell hrw hxa h hF hOK hok ec er c2 c200 r1 r100 hr
  obtain ⟨n, hn⟩ : ∃ n, n = shN d d.R := ⟨_, rfl⟩
  have hnR := zlB d d.R
  have hlin : Hid (zfL d = d.nb + n) := by rw [hn]; exact rfl
  rw [← hn] at hcS hnR
  clear hn
  rw [if_pos rfl]
  unfold zbT at *
  have EW := (Ext.refl w).alloc (.cells #[.int .i64 d.cols, .int .i64 d.rows, .slice (some ⟨b, off, none⟩) d.R ca, .int .i64 d.row, .int .i64 d.col, .bool d.late, .slice ha d.hold.length hc, .slice ba d.nb bc] 26)
  have hbk := zk w (.cells #[.int .i64 d.cols, .int .i64 d.rows, .slice (some ⟨b, off, none⟩) d.R ca, .int .i64 d.row, .int .i64 d.col, .bool d.late, .slice ha d.hold.length hc, .slice ba d.nb bc] 26)
  obtain ⟨W1, hW1⟩ : ∃ W1, W1 = w.alloc (.cells #[.int .i64 d.cols, .int .i64 d.rows, .slice (some ⟨b, off, none⟩) d.R ca, .int .i64 d.row, .int .i64 d.col, .bool d.late, .slice ha d.hold.length hc, .slice ba d.nb bc] 26) := ⟨_, rfl⟩
  rw [← hW1] at EW hbk
  have HBK := zh hbk
  have HW := zh hW1
  clear hW1 hbk
  go_enter Tryz.func25, Tryz.ntmps25
  go_wp2_with fail
  rw [← zu HW]
  clear HW
  refine ((zu hcO) _ EW).mono ?_
  rintro e w1 ⟨rfl, F1⟩
  have hb1 := F1.kept (zu HBK)
  have p7 := zg hb1 7 _ rfl
  have hs1 := F1.size
  have HS := zh (Src.strs ((zu hbk2).ext (EW.trans F1)))
  clear hb1 hcO
  go_wp2_with (at_builtin; go_must (refine zd rfl _ _ 24 rfl W1.heap.size 9 ic (.string { data := #[] }) 1 16 Tryz.underlying24 hic hc0 hc1 hc2 rfl (by decide) (.slice none 0 0) 0 [] rfl (zd8 _ _ _ _) _ d.nb (zbC d.bk d.nb) rfl (zu HS) (by unfold maxLen; omega) (by omega) (by omega) ?_); intro v2 w2 o2 G2 _; rw [List.nil_append, zm6, Nat.zero_add] at o2; have HO2 := zh o2; have E2 : Ext W1 w2 := F1.trans G2; have hs2 := E2.size; clear o2 G2)
  have hb2 := E2.kept (zu HBK)
  have q0 := zg hb2 0 _ rfl
  have q1 := zg hb2 1 _ rfl
  have q2 := zg hb2 2 _ rfl
  have q3 := zg hb2 3 _ rfl
  have q4 := zg hb2 4 _ rfl
  have q5 := zg hb2 5 _ rfl
  have q6 := zg hb2 6 _ rfl
  have q7 := zg hb2 7 _ rfl
  clear hb2
  have hnn : (n : Int) ≤ (ca : Int) := by omega
  have hn0 : (0 : Int) ≤ (n : Int) := by omega
  go_region_held3 (fun W => W.cell? ⟨w.heap.size, 0, none⟩ = some (.int .i64 d.cols) ∧ W.cell? ⟨w.heap.size, 1, none⟩ = some (.int .i64 d.rows) ∧ W.cell? ⟨w.heap.size, 2, none⟩ = some (.slice (some ⟨b, off, none⟩) d.R ca) ∧ W.cell? ⟨w.heap.size, 3, none⟩ = some (.int .i64 d.row) ∧ W.cell? ⟨w.heap.size, 4, none⟩ = some (.int .i64 d.col) ∧ W.cell? ⟨w.heap.size, 5, none⟩ = some (.bool d.late) ∧ W.cell? ⟨w.heap.size, 6, none⟩ = some (.slice ha d.hold.length hc) ∧ W.cell? ⟨w.heap.size, 7, none⟩ = some (.slice ba d.nb bc)) (first | exact ⟨q0, q1, q2, q3, q4, q5, q6, q7⟩ | exact ⟨he'.cell q0, he'.cell q1, he'.cell q2, he'.cell q3, he'.cell q4, he'.cell q5, he'.cell q6, he'.cell q7⟩ | go_keep)
   (first | (go_at_call 78; refine ((zu hcS) _ (EW.trans E2).drew).mono ?_; rintro e w3 ⟨rfl, F3⟩; have he' := (Ext.refl w2).drew.trans F3))
  have E3 := E2.trans he'
  have HO3 := zh (he'.owns (zu HO2))
  clear he' HO2 q0 q1 q2 q3 q4 q5 q6 q7 p7 F3 hcS
  go_wp2
  go_loopw [3, 18] (fun o i wr => ∃ k : Nat, k ≤ n ∧ i = .int .i64 k ∧ Hid (wr.ownsRow W1.heap.size 9 1 o (d.nb + k) (zbC (zdt d) (d.nb + k))) ∧ Ext W1 wr) (fun _ i _ => n - (intOf i).toNat)
  case atStart => exact ⟨0, Nat.zero_le _, rfl, HO3, E3⟩
  case round =>
   clear HO3 E3
   obtain ⟨k, hk, rfl, HO, hext⟩ := hrel
   have hs3 := hext.size
   by_cases hlt : k < n
   ·have g1 := (EW.trans hext).cell ((zu HX) k (by omega))
    have bk : (k : Int) < (n : Int) := by omega
    have hcon := zh (zd9 (rv k) (d.C k) (d.tx k) (d.hf k) wr (((zu HRW) k (by omega)).ext (EW.trans hext)) ((zu HF2) k (by omega)) (Nat.le_trans (hT k (by omega)) (by omega)))
    have hst : Hid (zbC (zdt d) (d.nb + (k + 1)) = zbC (zdt d) (d.nb + k) ++ [.string (zp (d.tx k) (d.hf k) (d.C k))]) := by
     refine zh ?_
     rw [← Nat.add_assoc, zfz, zob]
     rfl
    go_wp2_with (first
     | (go_at_call 79; refine (zu hcon).mono ?_; rintro e w4 ⟨rfl, F4⟩; have HO4 := zh (F4.owns (zu HO)); have E4 := hext.trans F4; have hs4 := E4.size; clear F4)
     | (at_builtin; go_must (refine zd rfl _ _ 24 rfl W1.heap.size 9 ic (.string { data := #[] }) 1 16 Tryz.underlying24 hic hc0 hc1 hc2 rfl (by decide) _ _ _ rfl ((zu HO4).alloc _) _ 1 [.string (zp (d.tx k) (d.hf k) (d.C k))] rfl (Src.made _ _ _ rfl (by simp [Value.oneCell'])) (by unfold maxLen; omega) (by omega) (by simp; omega) ?_); intro v5 w5 o5 G5 _; rw [← zu hst] at o5; have HO5 := zh o5; have E5 := zh ((E4.alloc _).grown G5 (fun q hq => ((zu HO4).lt q hq).1)); clear o5 G5))
    go_roundw
    case rel => exact ⟨k + 1, by omega, by go_num, HO5, zu E5⟩
    case measure => simp [intOf]; omega
   ·obtain rfl : k = n := by omega
    have hb9 : ¬ (k : Int) < (k : Int) := by omega
    go_wp2
    go_ret
    exact ⟨_, rfl, by rw [zu hlin]; exact (zdg (zu HO)).mono EW.size, EW.trans hext⟩
end Go.Proofs.YtinfdhbnljnifaaGreatDoor
