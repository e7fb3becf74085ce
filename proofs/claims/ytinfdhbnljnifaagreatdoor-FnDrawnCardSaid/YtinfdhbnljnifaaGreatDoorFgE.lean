import Derived.Test.YtinfdhbnljnifaaGreatDoorFdY
import Derived.Test.YtinfdhbnljnifaaGreatDoorShF
import Derived.Test.YtinfdhbnljnifaaGreatDoorShG
import Derived.Test.YtinfdhbnljnifaaGreatDoorShowable
import Derived.Test.YtinfdhbnljnifaaGreatDoorEdN
import Derived.Deep.RegionLaw
namespace Go.Proofs.YtinfdhbnljnifaaGreatDoor
open Go.RowKit
section
variable {F base : Nat} {X : Nat → Prop} {d : SD} {hv : Value}
theorem zcm.down {n : Nat} (h : zcm d (n + 1)) : zeT d := by
 obtain ⟨h1, ⟨M, h2, h3, h4⟩, h5⟩ := h
 have hs := zae h1
 have := h1.R
 have := h2 0 (by omega)
 exact ⟨h1, by omega, by omega⟩
theorem join_e (w : World) (h : zdP w F base X d hv) (hk : OkP d) (r : Int) :
  Calls Tryz.prog 105 #[.pointer (some ⟨F, 0, none⟩), .int .i32 r] w fun e w' => e = .returned (.tuple #[]) ∧ zdP w' F base X (d.mark (zo (zac r))) hv ∧ FrW F base X w w' := by
 obtain ⟨gv, rv, bv, h⟩ := h
 by_cases hm : d.mkAt < 0
 ·exact (zmN w h hk r hm).mono (fun e w' ⟨h1, h2, h3⟩ => ⟨h1, ⟨_, _, _, h2⟩, h3⟩)
 ·exact (zmw w h hk r hm).mono (fun e w' ⟨h1, h2, h3⟩ => ⟨h1, ⟨_, _, _, h2⟩, h3⟩)
set_option maxRecDepth 10000 in
set_option maxHeartbeats 4000000 in
theorem zn4 (w : World) (h : zdP w F base X d hv) (hr : zcm d 1) (r : Int) (h0 : -2147483648 ≤ r) (h1 : r ≤ 2147483647) (hL : zi1 w) :
  Calls Tryz.prog 47 #[.pointer (some ⟨F, 0, none⟩), .int .i32 r] w fun e w' => e = .returned (.tuple #[]) ∧ zdP w' F base X (d.shw zp r) hv ∧ FrW F base X w w' := by
 have HW := zh (zlh r w h0 h1 hL)
 have HE := zh h
 have HR := zh hr
 have HC := zh (fun W => zhP r W)
 clear h hr hL
 by_cases h13 : r = 13
 ·have hbb : (r == 13) = true := by simp [h13]
  have HEq : Hid (d.shw zp r = { d with col := 0, late := false }) := zh (by unfold SD.shw; rw [if_pos h13])
  obtain ⟨wd, hwd⟩ : ∃ x, wid r = x := ⟨_, rfl⟩
  rw [hwd] at HW
  clear hwd hbb
  subst h13
  go_enter Tryz.func47, Tryz.ntmps47
  go_wp2_with fail
  refine (zu HW).mono ?_
  rintro e w1 ⟨rfl, hb1⟩
  have E1 := Ext.of_below hb1
  obtain ⟨gv, rv, bv, hs0⟩ := zu HE
  have HE1 : Hid (zdP w1 F base X d hv) := zh ⟨gv, rv, bv, hs0.ext E1⟩
  have HX1 := zh E1
  clear hb1 E1 hs0 HW HE
  have HN := zh (zbx w1 (zu HE1))
  clear HE1
  go_wp2_with fail
  refine (zu HN).mono ?_
  rintro e w2 ⟨rfl, h2, f2⟩
  have H2 := zh h2
  have F2 := zh (Fr.tr (Fr.of_ext (zu HX1)) f2)
  clear h2 f2 HN
  go_wp2
  go_end0
  refine ⟨rfl, ?_, zu F2⟩
  have hfin := zu H2
  rw [← zu HEq] at hfin
  exact hfin
 ·have hb13 : (r == 13) = false := by simp [h13]
  by_cases h10 : r = 10
  ·have hb10 : (r == 10) = true := by simp [h10]
   have HEq : Hid (d.shw zp r = d.down zp) := zh (by unfold SD.shw; rw [if_neg h13, if_pos h10])
   obtain ⟨wd, hwd⟩ : ∃ x, wid r = x := ⟨_, rfl⟩
   rw [hwd] at HW
   clear hwd hb10 hb13 h13
   subst h10
   go_enter Tryz.func47, Tryz.ntmps47
   go_wp2_with fail
   refine (zu HW).mono ?_
   rintro e w1 ⟨rfl, hb1⟩
   have E1 := Ext.of_below hb1
   obtain ⟨gv, rv, bv, hs0⟩ := zu HE
   have HE1 : Hid (zdP w1 F base X d hv) := zh ⟨gv, rv, bv, hs0.ext E1⟩
   have HX1 := zh E1
   clear hb1 E1 hs0 HW HE
   have HN := zh (zct w1 (zu HE1) (zu HR).down)
   clear HE1
   go_wp2_with fail
   refine (zu HN).mono ?_
   rintro e w2 ⟨rfl, h2, f2⟩
   have H2 := zh h2
   have F2 := zh (Fr.tr (Fr.of_ext (zu HX1)) f2)
   clear h2 f2 HN
   go_wp2
   go_end0
   refine ⟨rfl, ?_, zu F2⟩
   have hfin := zu H2
   rw [← zu HEq] at hfin
   exact hfin
  ·have hb10 : (r == 10) = false := by simp [h10]
   by_cases hct : r < 32 ∨ (127 ≤ r ∧ r ≤ 159)
   ·have HCT : Hid (zit r = true) := zh (by unfold zit; simp; omega)
    have HEq : Hid (d.shw zp r = d) := zh (by unfold SD.shw; rw [if_neg h13, if_neg h10, if_pos hct])
    clear hct
    go_enter Tryz.func47, Tryz.ntmps47
    go_wp2_with fail
    refine (zu HW).mono ?_
    rintro e w1 ⟨rfl, hb1⟩
    have E1 := Ext.of_below hb1
    obtain ⟨gv, rv, bv, hs0⟩ := zu HE
    have HE1 : Hid (zdP w1 F base X d hv) := zh ⟨gv, rv, bv, hs0.ext E1⟩
    have HX1 := zh E1
    clear hb1 E1 hs0 HW HE
    go_wp2_with fail
    refine ((zu HC) _).mono ?_
    rintro e w3 ⟨rfl, rfl⟩
    rw [zu HCT]
    go_wp2
    go_end0
    exact ⟨rfl, by rw [zu HEq]; exact zu HE1, Fr.of_ext (zu HX1)⟩
   ·have HCT : Hid (zit r = false) := zh (by unfold zit; simp; omega)
    by_cases hw0 : wid r = 0
    ·have hbw : (wid r == 0) = true := by simp [hw0]
     have HEq : Hid (d.shw zp r = d.mark (zo (zac r))) := zh (by unfold SD.shw; rw [if_neg h13, if_neg h10, if_neg hct, if_pos hw0])
     clear hct
     go_enter Tryz.func47, Tryz.ntmps47
     go_wp2_with fail
     refine (zu HW).mono ?_
     rintro e w1 ⟨rfl, hb1⟩
     have E1 := Ext.of_below hb1
     obtain ⟨gv, rv, bv, hs0⟩ := zu HE
     have HE1 : Hid (zdP w1 F base X d hv) := zh ⟨gv, rv, bv, hs0.ext E1⟩
     have HX1 := zh E1
     clear hb1 E1 hs0 HW HE
     go_wp2_with fail
     refine ((zu HC) _).mono ?_
     rintro e w3 ⟨rfl, rfl⟩
     rw [zu HCT]
     have HN := zh (join_e w3 (zu HE1) (zu HR).1 r)
     go_wp2_with fail
     refine (zu HN).mono ?_
     rintro e w2 ⟨rfl, h2, f2⟩
     have H2 := zh h2
     have F2 := zh (Fr.tr (Fr.of_ext (zu HX1)) f2)
     clear h2 f2 HN
     go_wp2
     go_end0
     refine ⟨rfl, ?_, zu F2⟩
     have hfin := zu H2
     rw [← zu HEq] at hfin
     exact hfin
    ·have HEq : Hid (d.shw zp r = d.put zp (zo (zac r)) (wid r)) := zh (by unfold SD.shw; rw [if_neg h13, if_neg h10, if_neg hct, if_neg hw0])
     have hbw : (wid r == 0) = false := by simp [hw0]
     rcases zbM r with hw | hw | hw
     ·exact absurd hw hw0
     ·rw [hw] at HEq HW
      clear hct hw0 hbw hw
      go_enter Tryz.func47, Tryz.ntmps47
      go_wp2_with fail
      refine (zu HW).mono ?_
      rintro e w1 ⟨rfl, hb1⟩
      have E1 := Ext.of_below hb1
      obtain ⟨gv, rv, bv, hs0⟩ := zu HE
      have HE1 : Hid (zdP w1 F base X d hv) := zh ⟨gv, rv, bv, hs0.ext E1⟩
      have HX1 := zh E1
      clear hb1 E1 hs0 HW HE
      go_wp2_with fail
      refine ((zu HC) _).mono ?_
      rintro e w3 ⟨rfl, rfl⟩
      rw [zu HCT]
      have HN := zh (put_1 w3 (zu HE1) (zu HR).down r)
      go_wp2_with fail
      refine (zu HN).mono ?_
      rintro e w2 ⟨rfl, h2, f2⟩
      have H2 := zh h2
      have F2 := zh (Fr.tr (Fr.of_ext (zu HX1)) f2)
      clear h2 f2 HN
      go_wp2
      go_end0
      refine ⟨rfl, ?_, zu F2⟩
      have hfin := zu H2
      rw [← zu HEq] at hfin
      exact hfin
     ·rw [hw] at HEq HW
      clear hct hw0 hbw hw
      go_enter Tryz.func47, Tryz.ntmps47
      go_wp2_with fail
      refine (zu HW).mono ?_
      rintro e w1 ⟨rfl, hb1⟩
      have E1 := Ext.of_below hb1
      obtain ⟨gv, rv, bv, hs0⟩ := zu HE
      have HE1 : Hid (zdP w1 F base X d hv) := zh ⟨gv, rv, bv, hs0.ext E1⟩
      have HX1 := zh E1
      clear hb1 E1 hs0 HW HE
      go_wp2_with fail
      refine ((zu HC) _).mono ?_
      rintro e w3 ⟨rfl, rfl⟩
      rw [zu HCT]
      have HN := zh (put_2 w3 (zu HE1) (zu HR).down r)
      go_wp2_with fail
      refine (zu HN).mono ?_
      rintro e w2 ⟨rfl, h2, f2⟩
      have H2 := zh h2
      have F2 := zh (Fr.tr (Fr.of_ext (zu HX1)) f2)
      clear h2 f2 HN
      go_wp2
      go_end0
      refine ⟨rfl, ?_, zu F2⟩
      have hfin := zu H2
      rw [← zu HEq] at hfin
      exact hfin
end
def zev (ds : List Int) (k : Nat) : Int := (ds.take k).foldl (fun n b => n * 10 + (b - 48)) 0
theorem zh4 (ds : List Int) (k : Nat) (h : k < ds.length) : zev ds (k + 1) = zev ds k * 10 + (at0 ds k - 48) := by
 unfold zev
 rw [zfd ds k h, List.foldl_append]
 rfl
theorem zml (ds : List Int) : ∀ k, k ≤ ds.length → (∀ j, j < k → 48 ≤ at0 ds j ∧ at0 ds j ≤ 57) → 0 ≤ zev ds k ∧ zev ds k + 1 ≤ ((10 ^ k : Nat) : Int)
 | 0, _, _ => by unfold zev; simp
 | k + 1, hk, hb => by
  have ih := zml ds k (by omega) (fun j hj => hb j (by omega))
  have := hb k (by omega)
  rw [zh4 ds k (by omega), Nat.pow_succ]
  omega
theorem zie (ds : List Int) (k : Nat) (hk : k ≤ ds.length) (h4 : k ≤ 4) (hb : ∀ j, j < k → 48 ≤ at0 ds j ∧ at0 ds j ≤ 57) : 0 ≤ zev ds k ∧ zev ds k ≤ 9999 := by
 have h1 := zml ds k hk hb
 have h2 : 10 ^ k ≤ 10 ^ 4 := Nat.pow_le_pow_right (by decide) h4
 have h3 : (10 : Nat) ^ 4 = 10000 := rfl
 omega
theorem zio (ds : List Int) (h : 4 < ds.length) : zbE ds = -1 := by unfold zbE; rw [if_pos (.inl h)]
theorem zgl (ds : List Int) (k : Nat) (h : k < ds.length) : at0 ds k ∈ ds := by
 have : at0 ds k = ds[k] := by simp [at0, h]
 rw [this]
 exact List.getElem_mem h
theorem zkm (ds : List Int) (k : Nat) (h : k < ds.length) (hb : 57 < at0 ds k) : zbE ds = -1 := by
 unfold zbE
 rw [if_pos (.inr (by rw [List.any_eq_true]; exact ⟨_, zgl ds k h, by simpa using hb⟩))]
theorem zh3 (ds : List Int) (h : ds.length ≤ 4) (hb : ∀ j, j < ds.length → at0 ds j ≤ 57) : zbE ds = zev ds ds.length := by
 unfold zbE zev
 rw [if_neg, List.take_length]
 rintro (h1 | h1)
 ·omega
 ·rw [List.any_eq_true] at h1
  obtain ⟨x, hx, hx2⟩ := h1
  obtain ⟨k, hk, rfl⟩ := List.mem_iff_getElem.1 hx
  have := hb k hk
  simp [at0, hk] at this
  simp at hx2
  omega
set_option maxRecDepth 10000 in
set_option maxHeartbeats 2000000 in
theorem zbj (w : World) (v : Value) (ds : List Int) (hv : zx w .u8 v ds) (hd : ∀ b ∈ ds, 48 ≤ b ∧ b ≤ 63) (hl : ds.length ≤ 1000) :
  Calls Tryz.prog 107 #[v] w fun e w' => ((zbE ds < 0 ∧ e = .returned (.tuple #[.int .i64 0, .bool false])) ∨ (0 ≤ zbE ds ∧ zbE ds ≤ 9999 ∧ e = .returned (.tuple #[.int .i64 (zbE ds), .bool true]))) ∧ w' = w := by
 obtain ⟨ao, cap, rfl, _, hr⟩ := hv
 by_cases h4 : 4 < ds.length
 ·have h5 : (4 : Int) < (ds.length : Int) := by omega
  have HN := zh (zio ds h4)
  go_enter Tryz.func107, Tryz.ntmps107
  go_wp2
  exact bodyPost_ret (v := .tuple #[.int .i64 0, .bool false]) (by simp [results, Tryz.results107, go_sem]) rfl ⟨.inl ⟨by rw [zu HN]; decide, rfl⟩, rfl⟩
 ·have h5 : ¬ (4 : Int) < (ds.length : Int) := by omega
  have HR := zh hr
  have HD := zh hd
  clear hr hd
  go_enter Tryz.func107, Tryz.ntmps107
  go_wp2_with fail
  go_loopw [4, 12] (fun n i wr => ∃ k : Nat, k ≤ ds.length ∧ i = .int .i64 k ∧ n = .int .i64 (zev ds k) ∧ wr = w ∧ Hid (∀ j, j < k → at0 ds j ≤ 57)) (fun _ i _ => ds.length - (intOf i).toNat)
  case atStart => exact ⟨0, Nat.zero_le _, rfl, rfl, rfl, zh (fun j hj => by omega)⟩
  case round =>
   obtain ⟨k, hk, rfl, rfl, rfl, HJ⟩ := hrel
   have h9 := zie ds k hk (by omega) (fun j hj => ⟨((zu HD) _ (zgl ds j (by omega))).1, (zu HJ) j hj⟩)
   by_cases hlt : k < ds.length
   ·have bk : (k : Int) < (ds.length : Int) := by omega
    obtain ⟨b, off, rfl, hc⟩ := (zu HR) (by omega)
    have g1 := hc k hlt
    have hb := (zu HD) _ (zgl ds k hlt)
    have b48 : ¬ at0 ds k < 48 := by omega
    have wu : IntKind.u8.wrap (at0 ds k - 48) = at0 ds k - 48 := by rw [IntKind.wrap_u8] <;> omega
    have wi : IntKind.i64.wrap (at0 ds k - 48) = at0 ds k - 48 := by rw [IntKind.wrap_i64] <;> omega
    clear hc
    by_cases h57 : 57 < at0 ds k
    ·have HN := zh (zkm ds k hlt h57)
     clear wu wi
     go_wp2
     exact bodyPost_ret (v := .tuple #[.int .i64 0, .bool false]) (by simp [results, Tryz.results107, go_sem]) rfl ⟨.inl ⟨by rw [zu HN]; decide, rfl⟩, rfl⟩
    ·have w10 : IntKind.i64.wrap (zev ds k * 10) = zev ds k * 10 := by rw [IntKind.wrap_i64] <;> omega
     have zkE : IntKind.i64.wrap (zev ds k * 10 + (at0 ds k - 48)) = zev ds k * 10 + (at0 ds k - 48) := by rw [IntKind.wrap_i64] <;> omega
     have HS := zh (zh4 ds k hlt)
     have HJ2 : Hid (∀ j, j < k + 1 → at0 ds j ≤ 57) := zh (fun j hj => by
      by_cases e : j = k
      ·subst e; omega
      ·exact (zu HJ) j (by omega))
     go_wp2
     go_roundw
     case rel => exact ⟨k + 1, by omega, by go_num, by rw [zu HS], by first | rfl | trivial, HJ2⟩
     case measure => simp [intOf]; omega
   ·obtain rfl : k = ds.length := by omega
    have HN := zh (zh3 ds (by omega) (zu HJ))
    have bk : ¬ (ds.length : Int) < (ds.length : Int) := by omega
    go_wp2
    exact bodyPost_ret (v := .tuple #[.int .i64 (zev ds ds.length), .bool true]) (by simp [results, Tryz.results107, go_sem]) rfl ⟨.inr ⟨by rw [zu HN]; omega, by rw [zu HN]; omega, by rw [zu HN]⟩, rfl⟩
section
variable {F base : Nat} {X : Nat → Prop} {d : SD} {gv : Value} {rv : Nat → Value} {hv bv : Value}
def ObR (F base : Nat) (X : Nat → Prop) (d' : SD) (gv : Value) (rv : Nat → Value) (hv bv : Value) (w : World) (e : Ending) (w' : World) : Prop := e = .returned (.tuple #[]) ∧ zab w' F base X d' gv rv hv bv ∧ FrW F base X w w'
set_option maxRecDepth 10000 in
set_option maxHeartbeats 2000000 in
theorem obey_no (w : World) (h : zab w F base X d gv rv hv bv) (v : Value) (ds : List Int) (hv9 : zx w .u8 v ds) (hd : ∀ b ∈ ds, 48 ≤ b ∧ b ≤ 63) (hl : ds.length ≤ 1000) (last : Int) (hn : zbE ds < 0) :
  Calls Tryz.prog 48 #[.pointer (some ⟨F, 0, none⟩), v, .int .u8 last] w (ObR F base X (d.oby ds last) gv rv hv bv w) := by
 have HS := zh (zbj w v ds hv9 hd hl)
 have HE : Hid (d.oby ds last = d) := zh (by unfold SD.oby; rw [if_pos hn])
 have H := zh h
 have HN := zh hn
 obtain ⟨ao, cap, rfl, _, _⟩ := hv9
 clear h hd hn
 go_enter Tryz.func48, Tryz.ntmps48
 go_wp2_with fail
 refine (zu HS).mono ?_
 rintro e w1 ⟨h1, rfl⟩
 rcases h1 with ⟨_, rfl⟩ | ⟨h0, _⟩
 ·go_wp2
  exact bodyPost_ret (v := .tuple #[]) (by simp [results, Tryz.results48, go_sem]) rfl ⟨rfl, by rw [zu HE]; exact zu H, Fr.refl _ _⟩
 ·have := zu HN
  omega
set_option maxRecDepth 10000 in
set_option maxHeartbeats 4000000 in
theorem obey_A (w : World) (h : zab w F base X d gv rv hv bv) (hk : OkP d) (v : Value) (ds : List Int) (hv9 : zx w .u8 v ds) (hd : ∀ b ∈ ds, 48 ≤ b ∧ b ≤ 63) (hl : ds.length ≤ 1000) (last : Int) (n : Int) (hn : zbE ds = n) (h0 : 0 ≤ n) (h9 : n ≤ 9999) (hlast : last = 65) :
  Calls Tryz.prog 48 #[.pointer (some ⟨F, 0, none⟩), v, .int .u8 last] w (ObR F base X (d.moveTo (d.row - max n 1) d.col) gv rv hv bv w) := by
 have hs := zae hk
 have hrow := hk.row
 have hcol := hk.col
 have HS := zh (zbj w v ds hv9 hd hl)
 rw [hn] at HS
 have HN : Hid (0 ≤ n) := zh h0
 obtain ⟨ao, cap, rfl, _, _⟩ := hv9
 have c3 := zg h.box 3 _ rfl
 have c4 := zg h.box 4 _ rfl
 have H := zh h
 have HK := zh hk
 clear h hk hd hn
 have w0 : IntKind.i64.wrap (d.row - max n 1) = d.row - max n 1 := by rw [IntKind.wrap_i64] <;> omega
 subst hlast
 go_enter Tryz.func48, Tryz.ntmps48
 go_wp2_with fail
 refine (zu HS).mono ?_
 rintro e w1 ⟨h1, rfl⟩
 rcases h1 with ⟨h1, _⟩ | ⟨_, _, rfl⟩
 ·exact absurd (zu HN) (by omega)
 clear HS
 have HMv := zh (fun W (hW : Ext w1 W) => zcK W ((zu H).ext hW) (zu HK) (d.row - max n 1) (d.col))
 go_wp2_with fail
 go_region_law (first
  | (go_simp; go_at_call 108; refine ((zu HMv) _ (by first | exact Ext.refl _ | exact (Ext.refl _).drew)).mono ?_; rintro e w2 ⟨rfl, h2, f2⟩; have H2 := zh h2; have F2 : Hid (FrW F base X w1 w2) := zh (Fr.tr (Fr.of_ext (by first | exact Ext.refl _ | exact (Ext.refl _).drew)) f2); clear h2 f2))
 all_goals
  go_wp2
  all_goals go_end0
  all_goals exact ⟨rfl, zu H2, zu F2⟩
set_option maxRecDepth 10000 in
set_option maxHeartbeats 4000000 in
theorem obey_B (w : World) (h : zab w F base X d gv rv hv bv) (hk : OkP d) (v : Value) (ds : List Int) (hv9 : zx w .u8 v ds) (hd : ∀ b ∈ ds, 48 ≤ b ∧ b ≤ 63) (hl : ds.length ≤ 1000) (last : Int) (n : Int) (hn : zbE ds = n) (h0 : 0 ≤ n) (h9 : n ≤ 9999) (hlast : last = 66) :
  Calls Tryz.prog 48 #[.pointer (some ⟨F, 0, none⟩), v, .int .u8 last] w (ObR F base X (d.moveTo (d.row + max n 1) d.col) gv rv hv bv w) := by
 have hs := zae hk
 have hrow := hk.row
 have hcol := hk.col
 have HS := zh (zbj w v ds hv9 hd hl)
 rw [hn] at HS
 have HN : Hid (0 ≤ n) := zh h0
 obtain ⟨ao, cap, rfl, _, _⟩ := hv9
 have c3 := zg h.box 3 _ rfl
 have c4 := zg h.box 4 _ rfl
 have H := zh h
 have HK := zh hk
 clear h hk hd hn
 have w0 : IntKind.i64.wrap (d.row + max n 1) = d.row + max n 1 := by rw [IntKind.wrap_i64] <;> omega
 subst hlast
 go_enter Tryz.func48, Tryz.ntmps48
 go_wp2_with fail
 refine (zu HS).mono ?_
 rintro e w1 ⟨h1, rfl⟩
 rcases h1 with ⟨h1, _⟩ | ⟨_, _, rfl⟩
 ·exact absurd (zu HN) (by omega)
 clear HS
 have HMv := zh (fun W (hW : Ext w1 W) => zcK W ((zu H).ext hW) (zu HK) (d.row + max n 1) (d.col))
 go_wp2_with fail
 go_region_law (first
  | (go_simp; go_at_call 108; refine ((zu HMv) _ (by first | exact Ext.refl _ | exact (Ext.refl _).drew)).mono ?_; rintro e w2 ⟨rfl, h2, f2⟩; have H2 := zh h2; have F2 : Hid (FrW F base X w1 w2) := zh (Fr.tr (Fr.of_ext (by first | exact Ext.refl _ | exact (Ext.refl _).drew)) f2); clear h2 f2))
 all_goals
  go_wp2
  all_goals go_end0
  all_goals exact ⟨rfl, zu H2, zu F2⟩
set_option maxRecDepth 10000 in
set_option maxHeartbeats 4000000 in
theorem obey_C (w : World) (h : zab w F base X d gv rv hv bv) (hk : OkP d) (v : Value) (ds : List Int) (hv9 : zx w .u8 v ds) (hd : ∀ b ∈ ds, 48 ≤ b ∧ b ≤ 63) (hl : ds.length ≤ 1000) (last : Int) (n : Int) (hn : zbE ds = n) (h0 : 0 ≤ n) (h9 : n ≤ 9999) (hlast : last = 67) :
  Calls Tryz.prog 48 #[.pointer (some ⟨F, 0, none⟩), v, .int .u8 last] w (ObR F base X (d.moveTo d.row (d.col + max n 1)) gv rv hv bv w) := by
 have hs := zae hk
 have hrow := hk.row
 have hcol := hk.col
 have HS := zh (zbj w v ds hv9 hd hl)
 rw [hn] at HS
 have HN : Hid (0 ≤ n) := zh h0
 obtain ⟨ao, cap, rfl, _, _⟩ := hv9
 have c3 := zg h.box 3 _ rfl
 have c4 := zg h.box 4 _ rfl
 have H := zh h
 have HK := zh hk
 clear h hk hd hn
 have w0 : IntKind.i64.wrap (d.col + max n 1) = d.col + max n 1 := by rw [IntKind.wrap_i64] <;> omega
 subst hlast
 go_enter Tryz.func48, Tryz.ntmps48
 go_wp2_with fail
 refine (zu HS).mono ?_
 rintro e w1 ⟨h1, rfl⟩
 rcases h1 with ⟨h1, _⟩ | ⟨_, _, rfl⟩
 ·exact absurd (zu HN) (by omega)
 clear HS
 have HMv := zh (fun W (hW : Ext w1 W) => zcK W ((zu H).ext hW) (zu HK) (d.row) (d.col + max n 1))
 go_wp2_with fail
 go_region_law (first
  | (go_simp; go_at_call 108; refine ((zu HMv) _ (by first | exact Ext.refl _ | exact (Ext.refl _).drew)).mono ?_; rintro e w2 ⟨rfl, h2, f2⟩; have H2 := zh h2; have F2 : Hid (FrW F base X w1 w2) := zh (Fr.tr (Fr.of_ext (by first | exact Ext.refl _ | exact (Ext.refl _).drew)) f2); clear h2 f2))
 all_goals
  go_wp2
  all_goals go_end0
  all_goals exact ⟨rfl, zu H2, zu F2⟩
set_option maxRecDepth 10000 in
set_option maxHeartbeats 4000000 in
theorem obey_D (w : World) (h : zab w F base X d gv rv hv bv) (hk : OkP d) (v : Value) (ds : List Int) (hv9 : zx w .u8 v ds) (hd : ∀ b ∈ ds, 48 ≤ b ∧ b ≤ 63) (hl : ds.length ≤ 1000) (last : Int) (n : Int) (hn : zbE ds = n) (h0 : 0 ≤ n) (h9 : n ≤ 9999) (hlast : last = 68) :
  Calls Tryz.prog 48 #[.pointer (some ⟨F, 0, none⟩), v, .int .u8 last] w (ObR F base X (d.moveTo d.row (d.col - max n 1)) gv rv hv bv w) := by
 have hs := zae hk
 have hrow := hk.row
 have hcol := hk.col
 have HS := zh (zbj w v ds hv9 hd hl)
 rw [hn] at HS
 have HN : Hid (0 ≤ n) := zh h0
 obtain ⟨ao, cap, rfl, _, _⟩ := hv9
 have c3 := zg h.box 3 _ rfl
 have c4 := zg h.box 4 _ rfl
 have H := zh h
 have HK := zh hk
 clear h hk hd hn
 have w0 : IntKind.i64.wrap (d.col - max n 1) = d.col - max n 1 := by rw [IntKind.wrap_i64] <;> omega
 subst hlast
 go_enter Tryz.func48, Tryz.ntmps48
 go_wp2_with fail
 refine (zu HS).mono ?_
 rintro e w1 ⟨h1, rfl⟩
 rcases h1 with ⟨h1, _⟩ | ⟨_, _, rfl⟩
 ·exact absurd (zu HN) (by omega)
 clear HS
 have HMv := zh (fun W (hW : Ext w1 W) => zcK W ((zu H).ext hW) (zu HK) (d.row) (d.col - max n 1))
 go_wp2_with fail
 go_region_law (first
  | (go_simp; go_at_call 108; refine ((zu HMv) _ (by first | exact Ext.refl _ | exact (Ext.refl _).drew)).mono ?_; rintro e w2 ⟨rfl, h2, f2⟩; have H2 := zh h2; have F2 : Hid (FrW F base X w1 w2) := zh (Fr.tr (Fr.of_ext (by first | exact Ext.refl _ | exact (Ext.refl _).drew)) f2); clear h2 f2))
 all_goals
  go_wp2
  all_goals go_end0
  all_goals exact ⟨rfl, zu H2, zu F2⟩
set_option maxRecDepth 10000 in
set_option maxHeartbeats 4000000 in
theorem obey_G (w : World) (h : zab w F base X d gv rv hv bv) (hk : OkP d) (v : Value) (ds : List Int) (hv9 : zx w .u8 v ds) (hd : ∀ b ∈ ds, 48 ≤ b ∧ b ≤ 63) (hl : ds.length ≤ 1000) (last : Int) (n : Int) (hn : zbE ds = n) (h0 : 0 ≤ n) (h9 : n ≤ 9999) (hlast : last = 71) :
  Calls Tryz.prog 48 #[.pointer (some ⟨F, 0, none⟩), v, .int .u8 last] w (ObR F base X (d.moveTo d.row (max n 1 - 1)) gv rv hv bv w) := by
 have hs := zae hk
 have hrow := hk.row
 have hcol := hk.col
 have HS := zh (zbj w v ds hv9 hd hl)
 rw [hn] at HS
 have HN : Hid (0 ≤ n) := zh h0
 obtain ⟨ao, cap, rfl, _, _⟩ := hv9
 have c3 := zg h.box 3 _ rfl
 have c4 := zg h.box 4 _ rfl
 have H := zh h
 have HK := zh hk
 clear h hk hd hn
 have w0 : IntKind.i64.wrap (max n 1 - 1) = max n 1 - 1 := by rw [IntKind.wrap_i64] <;> omega
 subst hlast
 go_enter Tryz.func48, Tryz.ntmps48
 go_wp2_with fail
 refine (zu HS).mono ?_
 rintro e w1 ⟨h1, rfl⟩
 rcases h1 with ⟨h1, _⟩ | ⟨_, _, rfl⟩
 ·exact absurd (zu HN) (by omega)
 clear HS
 have HMv := zh (fun W (hW : Ext w1 W) => zcK W ((zu H).ext hW) (zu HK) (d.row) (max n 1 - 1))
 go_wp2_with fail
 refine ((zu HMv) w1 (Ext.refl _)).mono ?_
 rintro e w2 ⟨rfl, h2, f2⟩
 have H2 := zh h2
 have F2 := zh f2
 clear h2 f2
 go_wp2
 all_goals go_end0
 all_goals exact ⟨rfl, zu H2, zu F2⟩
set_option maxRecDepth 10000 in
set_option maxHeartbeats 4000000 in
theorem obey_K (w : World) (h : zab w F base X d gv rv hv bv) (hk : OkP d) (v : Value) (ds : List Int) (hv9 : zx w .u8 v ds) (hd : ∀ b ∈ ds, 48 ≤ b ∧ b ≤ 63) (hl : ds.length ≤ 1000) (last : Int) (n : Int) (hn : zbE ds = n) (h0 : 0 ≤ n) (h9 : n ≤ 9999) (hlast : last = 75) (m : Int) (hm : m = max n 1) :
  Calls Tryz.prog 48 #[.pointer (some ⟨F, 0, none⟩), v, .int .u8 last] w (ObR F base X (if n = 0 then d.clr d.row.toNat d.col.toNat d.cols.toNat else d) gv rv hv bv w) := by
 have hs := zae hk
 have hrow := hk.row
 have hcol := hk.col
 have HS := zh (zbj w v ds hv9 hd hl)
 rw [hn] at HS
 have HN : Hid (0 ≤ n) := zh h0
 obtain ⟨ao, cap, rfl, _, _⟩ := hv9
 have c3 := zg h.box 3 _ rfl
 have c4 := zg h.box 4 _ rfl
 have H := zh h
 have HK := zh hk
 have HM := zh hm
 clear h hk hd hn
 by_cases hn1 : n < 1
 ·have hm1 : m = 1 := by omega
  have hn0 : n = 0 := by omega
  subst hm1
  subst hn0
  clear hn1 h0 h9 hm
  subst hlast
  go_enter Tryz.func48, Tryz.ntmps48
  go_wp2_with fail
  refine (zu HS).mono ?_
  rintro e w1 ⟨h1, rfl⟩
  rcases h1 with ⟨h1, _⟩ | ⟨_, _, rfl⟩
  ·exact absurd (zu HN) (by omega)
  clear HS
  obtain ⟨i0, ei0⟩ : ∃ i0 : Nat, d.row = i0 := ⟨d.row.toNat, by omega⟩
  obtain ⟨j0, ej0⟩ : ∃ j0 : Nat, d.col = j0 := ⟨d.col.toNat, by omega⟩
  have hiR : i0 < d.R := by have := (zu HK).R; omega
  have hCi := (zu HK).C i0 hiR
  rw [ei0] at c3
  rw [ej0] at c4
  have hcl : ∀ W, Ext w1 W → Calls Tryz.prog 109 #[.pointer (some ⟨F, 0, none⟩), .int .i64 (i0 : Int), .int .i64 (j0 : Int)] W fun e w' => e = .returned (.tuple #[]) ∧ zab w' F base X (d.clr i0 j0 d.cols.toNat) gv rv hv bv ∧ Fr (fun k => (rv i0).ownBlock = some k) W w' := fun W hW => zc5 W ((zu H).ext hW) i0 j0 hiR (by omega) hCi (fun e => ((zu HK).half i0 j0 hiR (by omega) e).2.1) (by omega)
  have HCl := zh hcl
  have HEi := zh ei0
  have HEj := zh ej0
  clear hcl ei0 ej0
  go_wp2_with fail
  go_region_law (first
   | (go_simp; go_at_call 109; refine ((zu HCl) _ (by first | exact Ext.refl _ | exact (Ext.refl _).drew)).mono ?_; rintro e w2 ⟨rfl, h2, f2⟩; have H2 := zh h2; have F2 : Hid (FrW F base X w1 w2) := zh (Fr.tr (Fr.of_ext (by first | exact Ext.refl _ | exact (Ext.refl _).drew)) ((((zu H).ext (by first | exact Ext.refl _ | exact (Ext.refl _).drew)).rowFr i0 hiR f2))); clear h2 f2))
  all_goals
   go_wp2
   all_goals go_end0
   all_goals exact ⟨rfl, by rw [zu HEi, zu HEj, Int.toNat_natCast, Int.toNat_natCast]; exact zu H2, zu F2⟩
 ·have hm1 : m = n := by omega
  subst hm1
  have hn0 : ¬ m = 0 := by omega
  have hnb : (m == 0) = false := by simp [hn0]
  clear hm
  subst hlast
  go_enter Tryz.func48, Tryz.ntmps48
  go_wp2_with fail
  refine (zu HS).mono ?_
  rintro e w1 ⟨h1, rfl⟩
  rcases h1 with ⟨h1, _⟩ | ⟨_, _, rfl⟩
  ·exact absurd (zu HN) (by omega)
  clear HS
  go_wp2
  go_end0
  exact ⟨rfl, zu H, Fr.refl _ _⟩
set_option maxRecDepth 10000 in
set_option maxHeartbeats 4000000 in
theorem obey_J (w : World) (h : zab w F base X d gv rv hv bv) (hk : OkP d) (v : Value) (ds : List Int) (hv9 : zx w .u8 v ds) (hd : ∀ b ∈ ds, 48 ≤ b ∧ b ≤ 63) (hl : ds.length ≤ 1000) (last : Int) (n : Int) (hn : zbE ds = n) (h0 : 0 ≤ n) (h9 : n ≤ 9999) (hlast : last = 74) (m : Int) (hm : m = max n 1) :
  Calls Tryz.prog 48 #[.pointer (some ⟨F, 0, none⟩), v, .int .u8 last] w (ObR F base X (if n = 0 then (d.clr d.row.toNat d.col.toNat d.cols.toNat).clrRows (d.row.toNat + 1) else d) gv rv hv bv w) := by
 have hs := zae hk
 have hrow := hk.row
 have hcol := hk.col
 have HS := zh (zbj w v ds hv9 hd hl)
 rw [hn] at HS
 have HN : Hid (0 ≤ n) := zh h0
 obtain ⟨ao, cap, rfl, _, _⟩ := hv9
 have c3 := zg h.box 3 _ rfl
 have c4 := zg h.box 4 _ rfl
 have H := zh h
 have HK := zh hk
 have HM := zh hm
 clear h hk hd hn
 by_cases hn1 : n < 1
 ·have hm1 : m = 1 := by omega
  have hn0 : n = 0 := by omega
  subst hm1
  subst hn0
  clear hn1 h0 h9 hm
  subst hlast
  go_enter Tryz.func48, Tryz.ntmps48
  go_wp2_with fail
  refine (zu HS).mono ?_
  rintro e w1 ⟨h1, rfl⟩
  rcases h1 with ⟨h1, _⟩ | ⟨_, _, rfl⟩
  ·exact absurd (zu HN) (by omega)
  clear HS
  have HCl := zh (zhg w1 (zu H) (zu HK))
  clear c3 c4
  go_wp2_with fail
  refine (zu HCl).mono ?_
  rintro e w2 ⟨rfl, h2, f2⟩
  have H2 := zh h2
  have F2 := zh f2
  clear h2 f2
  go_wp2
  go_end0
  exact ⟨rfl, zu H2, zu F2⟩
 ·have hm1 : m = n := by omega
  subst hm1
  have hn0 : ¬ m = 0 := by omega
  have hnb : (m == 0) = false := by simp [hn0]
  clear hm
  subst hlast
  go_enter Tryz.func48, Tryz.ntmps48
  go_wp2_with fail
  refine (zu HS).mono ?_
  rintro e w1 ⟨h1, rfl⟩
  rcases h1 with ⟨h1, _⟩ | ⟨_, _, rfl⟩
  ·exact absurd (zu HN) (by omega)
  clear HS
  go_wp2
  go_end0
  exact ⟨rfl, zu H, Fr.refl _ _⟩
set_option maxRecDepth 10000 in
set_option maxHeartbeats 4000000 in
theorem zlK (w : World) (h : zab w F base X d gv rv hv bv) (hk : OkP d) (v : Value) (ds : List Int) (hv9 : zx w .u8 v ds) (hd : ∀ b ∈ ds, 48 ≤ b ∧ b ≤ 63) (hl : ds.length ≤ 1000) (last : Int) (n : Int) (hn : zbE ds = n) (h0 : 0 ≤ n) (h9 : n ≤ 9999) (hlast : last ≠ 65 ∧ last ≠ 66 ∧ last ≠ 67 ∧ last ≠ 68 ∧ last ≠ 71 ∧ last ≠ 75 ∧ last ≠ 74) (m : Int) (hm : m = max n 1) :
  Calls Tryz.prog 48 #[.pointer (some ⟨F, 0, none⟩), v, .int .u8 last] w (ObR F base X (d) gv rv hv bv w) := by
 have hs := zae hk
 have hrow := hk.row
 have hcol := hk.col
 have HS := zh (zbj w v ds hv9 hd hl)
 rw [hn] at HS
 have HN : Hid (0 ≤ n) := zh h0
 obtain ⟨ao, cap, rfl, _, _⟩ := hv9
 have c3 := zg h.box 3 _ rfl
 have c4 := zg h.box 4 _ rfl
 have H := zh h
 have HK := zh hk
 have HM := zh hm
 clear h hk hd hn
 by_cases hn1 : n < 1
 ·have hm1 : m = 1 := by omega
  have hn0 : n = 0 := by omega
  subst hm1
  subst hn0
  clear hn1 h0 h9 hm
  have g1 : (last == 65) = false := by simp; omega
  have g2 : (last == 66) = false := by simp; omega
  have g3 : (last == 67) = false := by simp; omega
  have g4 : (last == 68) = false := by simp; omega
  have g5 : (last == 71) = false := by simp; omega
  have g6 : (last == 75) = false := by simp; omega
  have g7 : (last == 74) = false := by simp; omega
  go_enter Tryz.func48, Tryz.ntmps48
  go_wp2_with fail
  refine (zu HS).mono ?_
  rintro e w1 ⟨h1, rfl⟩
  rcases h1 with ⟨h1, _⟩ | ⟨_, _, rfl⟩
  ·exact absurd (zu HN) (by omega)
  clear HS
  obtain ⟨g11, g12, g13, g14, g15, g16, g17⟩ := hlast
  go_wp2
  go_end0
  exact ⟨rfl, zu H, Fr.refl _ _⟩
 ·have hm1 : m = n := by omega
  subst hm1
  have hn0 : ¬ m = 0 := by omega
  have hnb : (m == 0) = false := by simp [hn0]
  clear hm
  have g1 : (last == 65) = false := by simp; omega
  have g2 : (last == 66) = false := by simp; omega
  have g3 : (last == 67) = false := by simp; omega
  have g4 : (last == 68) = false := by simp; omega
  have g5 : (last == 71) = false := by simp; omega
  have g6 : (last == 75) = false := by simp; omega
  have g7 : (last == 74) = false := by simp; omega
  go_enter Tryz.func48, Tryz.ntmps48
  go_wp2_with fail
  refine (zu HS).mono ?_
  rintro e w1 ⟨h1, rfl⟩
  rcases h1 with ⟨h1, _⟩ | ⟨_, _, rfl⟩
  ·exact absurd (zu HN) (by omega)
  clear HS
  obtain ⟨g11, g12, g13, g14, g15, g16, g17⟩ := hlast
  go_wp2
  go_end0
  exact ⟨rfl, zu H, Fr.refl _ _⟩
theorem numS_le (ds : List Int) (hd : ∀ b ∈ ds, 48 ≤ b ∧ b ≤ 63) : zbE ds ≤ 9999 := by
 by_cases h4 : ds.length ≤ 4
 ·by_cases hb : ∀ j, j < ds.length → at0 ds j ≤ 57
  ·rw [zh3 ds h4 hb]
   exact (zie ds ds.length (Nat.le_refl _) h4 (fun j hj => ⟨(hd _ (zgl ds j hj)).1, hb j hj⟩)).2
  ·obtain ⟨j, hj⟩ : ∃ j, ¬ (j < ds.length → at0 ds j ≤ 57) := Classical.not_forall.1 hb
   have hj1 : j < ds.length := Classical.byContradiction (fun x => hj (fun y => absurd y x))
   rw [zkm ds j hj1 (by have : ¬ at0 ds j ≤ 57 := fun x => hj (fun _ => x); omega)]
   decide
 ·rw [zio ds (by omega)]
  decide
theorem zo6 (w : World) (h : zab w F base X d gv rv hv bv) (hk : OkP d) (v : Value) (ds : List Int) (hv9 : zx w .u8 v ds) (hd : ∀ b ∈ ds, 48 ≤ b ∧ b ≤ 63) (hl : ds.length ≤ 1000) (last : Int) :
  Calls Tryz.prog 48 #[.pointer (some ⟨F, 0, none⟩), v, .int .u8 last] w (ObR F base X (d.oby ds last) gv rv hv bv w) := by
 by_cases hn : zbE ds < 0
 ·exact obey_no w h v ds hv9 hd hl last hn
 ·have h0 : 0 ≤ zbE ds := by omega
  have h9 := numS_le ds hd
  unfold SD.oby
  rw [if_neg hn]
  by_cases e1 : last = 75
  ·rw [if_pos e1]; exact obey_K w h hk v ds hv9 hd hl last _ rfl h0 h9 e1 _ rfl
  ·rw [if_neg e1]
   by_cases e2 : last = 74
   ·rw [if_pos e2]; exact obey_J w h hk v ds hv9 hd hl last _ rfl h0 h9 e2 _ rfl
   ·rw [if_neg e2]
    by_cases e3 : last = 65
    ·rw [if_pos e3]; exact obey_A w h hk v ds hv9 hd hl last _ rfl h0 h9 e3
    ·rw [if_neg e3]
     by_cases e4 : last = 66
     ·rw [if_pos e4]; exact obey_B w h hk v ds hv9 hd hl last _ rfl h0 h9 e4
     ·rw [if_neg e4]
      by_cases e5 : last = 67
      ·rw [if_pos e5]; exact obey_C w h hk v ds hv9 hd hl last _ rfl h0 h9 e5
      ·rw [if_neg e5]
       by_cases e6 : last = 68
       ·rw [if_pos e6]; exact obey_D w h hk v ds hv9 hd hl last _ rfl h0 h9 e6
       ·rw [if_neg e6]
        by_cases e7 : last = 71
        ·rw [if_pos e7]; exact obey_G w h hk v ds hv9 hd hl last _ rfl h0 h9 e7
        ·rw [if_neg e7]
         exact zlK w h hk v ds hv9 hd hl last _ rfl h0 h9 ⟨e3, e4, e5, e6, e7, e1, e2⟩ _ rfl
end
end Go.Proofs.YtinfdhbnljnifaaGreatDoor

namespace Go.Proofs.YtinfdhbnljnifaaGreatDoor
open Go.RowKit Go.Deep
theorem zno (l : List Int) (hb : zv l) : 0 ≤ (zak l).1 ∧ (zak l).1 ≤ 1114111 := by
 have h0 := hb.at0 0
 unfold zak
 split
 ·dsimp only; omega
 ·split
  ·rename_i h1 h2
   have c1 := zbf h2.2
   split
   ·dsimp only; unfold v2; omega
   ·dsimp only; omega
  ·split
   ·split
    ·rename_i h5; exact zbV h5.2
    ·dsimp only; omega
   ·split
    ·split
     ·rename_i h5; exact zbV h5.2
     ·dsimp only; omega
    ·dsimp only; omega
theorem zoe (l : List Int) (hb : zv l) : -2147483648 ≤ (zak l).1 ∧ (zak l).1 ≤ 2147483647 := by
 have := zno l hb
 omega
set_option maxRecDepth 10000 in
set_option maxHeartbeats 4000000 in
theorem zlA (c : Fc) (b : Int) (h : List Int) (d : SD) (w : World) (k : FW w c h d) (hl : h.length ≤ 3) (hb : zv (h ++ [b])) (hn : zaP (h ++ [b]) = false) :
  Calls Tryz.prog 165 #[.int .u8 b, ptr c.r, ptr (c.r + 3), ptr (c.r + 2), ptr (c.r + 1)] w fun e w' => zeR c (h ++ [b]) d w (bgF c.r) e w' := by
 have d0 := k.sts.h.cell
 obtain ⟨_, _, _, _, k0⟩ := k.fk
 have HH := zh (zfe b w k0 (by omega))
 have HK := zh k
 clear k k0
 go_enter Tryz.func165, Tryz.ntmps165
 go_wp2_with fail
 refine (zu HH).mono ?_
 rintro e w1 ⟨rfl, ⟨hv, hd⟩, hf⟩
 have k1 := (zu HK).go hf ⟨_, _, _, _, hd⟩
 have e0 := k1.sts.h.cell
 have e1 := zg hd.blk 0 _ rfl
 have HFu := zh (ze6 (h ++ [b]) hb hv w1 (zz hd.held) (by simp) k1.tabs.2)
 rw [hn] at HFu
 have HK1 := zh k1
 have HF := zh hf
 clear hd hf k1 HH
 go_wp2_with fail
 refine (zu HFu).mono ?_
 rintro e w2 ⟨rfl, E2⟩
 have k2 : FW w2 c (h ++ [b]) d := (zu HK1).ext E2
 have e3 := k2.sts.b2.cell
 have HK2 := zh k2
 have HF2 : Hid (FrF c w w2) := zh (Fr.tr (zu HF) (Fr.of_ext E2))
 clear k2 E2 HFu HF HK1
 go_wp2
 exact bodyPost_ret (v := bgF c.r) (by simp [results, Tryz.results165, go_sem]) rfl ⟨rfl, zu HK2, zu HF2⟩
set_option maxRecDepth 10000 in
set_option maxHeartbeats 4000000 in
theorem zln (c : Fc) (b : Int) (h : List Int) (d : SD) (w : World) (k : FW w c h d) (hl : h.length ≤ 3) (hb : zv (h ++ [b])) (hn : zaP (h ++ [b]) = true) (hrm : zcm d (h.length + 1))
    (IH : ∀ (c' : Fc) (h' : List Int), h'.length < h.length → zar h' = none → ziE c' h') (t : List Int) (ht : t = (h ++ [b]).drop (zak (h ++ [b])).2) :
    Calls Tryz.prog 165 #[.int .u8 b, ptr c.r, ptr (c.r + 3), ptr (c.r + 2), ptr (c.r + 1)] w fun e w' => zeR c (fdH t) ((d.shw zp (zak (h ++ [b])).1).acts zp (fd t).1) w (c.mode (fdH t)) e w' := by
  have d0 := k.sts.h.cell
  obtain ⟨_, _, _, _, k0⟩ := k.fk
  have HH := zh (zfe b w k0 (by omega))
  have HKs := zh k.ks
  have HK := zh k
  have HIH := zh IH
  have HRm := zh hrm
  clear k k0 IH hrm
  obtain ⟨s, hs⟩ : ∃ s, s = h ++ [b] := ⟨_, rfl⟩
  have hsl : s.length = h.length + 1 := by rw [hs]; simp
  rw [← hs] at HH hb hn ht ⊢
  have hd1 := ze0 s (by omega)
  have hd2 := zb2 s
  have hd3 := zoe s hb
  obtain ⟨r, hr⟩ : ∃ r, r = (zak s).1 := ⟨_, rfl⟩
  obtain ⟨m, hm⟩ : ∃ m, m = (zak s).2 := ⟨_, rfl⟩
  rw [← hr] at hd3 ⊢
  rw [← hm] at ht hd1 hd2
  have htl : t.length = s.length - m := by rw [ht]; simp
  have hs1 : s.length ≤ h.length + 1 := by omega
  have hs2 : h.length + 1 ≤ s.length := by omega
  have HTL := zh htl
  clear hsl htl
  have HB := zh hb
  have HT := zh ht
  have HN := zh hn
  have HR := zh hr
  have HM := zh hm
  clear hs ht hb hn hr hm
  go_enter Tryz.func165, Tryz.ntmps165
  go_wp2_with fail
  refine (zu HH).mono ?_
  rintro e w1 ⟨rfl, ⟨hv, hd⟩, hf⟩
  have k1 := (zu HK).go hf ⟨_, _, _, _, hd⟩
  have e0 := k1.sts.h.cell
  have e1 := zg hd.blk 0 _ rfl
  have HFu := zh (ze6 s (zu HB) hv w1 (zz hd.held) (by omega) k1.tabs.2)
  rw [zu HN] at HFu
  have HK1 := zh k1
  have HD1 := zh hd
  have HF := zh hf
  clear hd hf k1 HH HK HN
  go_wp2_with fail
  refine (zu HFu).mono ?_
  rintro e w2 ⟨rfl, E2⟩
  have k2 : FW w2 c s d := (zu HK1).ext E2
  have e3 := k2.sts.h.cell
  have HRe := zh (zcM w2 ((zu HD1).ext E2))
  have HK2 := zh k2
  have HF2 : Hid (FrF c w w2) := zh (Fr.tr (zu HF) (Fr.of_ext E2))
  obtain ⟨g, cap, hhv, hcap⟩ := (zu HD1).row (by omega)
  subst hhv
  clear k2 E2 HFu HF HK1 HD1
  go_wp2_with fail
  refine (zu HRe).mono ?_
  rintro e w3 ⟨rfl, ho3, hd3', hf3⟩
  clear HRe
  have k3 := ((zu HK2).go hf3 ⟨_, _, _, _, hd3'.unkeep (fun q hq => .inl hq)⟩).keepY ⟨_, _, _, _, hd3'⟩ (fun q hq => .inl hq)
  have HF3 := zh (Fr.tr (zu HF2) hf3)
  have HDr := zh (zho s (zu HB) _ w3 (zz ho3) (by omega) k3.tabs.2)
  rw [← zu HR, ← zu HM] at HDr
  have HK3 := zh k3
  have HO3 := zh ho3
  have HD3 := zh hd3'
  clear hd3' hf3 k3 HK2 HF2 ho3
  go_wp2_with fail
  refine (zu HDr).mono ?_
  rintro e w4 ⟨rfl, E4⟩
  have k4 := (zu HK3).ext E4
  have f2 : w4.cell? ⟨c.r + 2, 0, none⟩ = some (.func (.func 47) #[ptr c.F] #[]) := k4.sts.fo.cell
  have hd4 := (zu HD3).ext E4
  have HPr := zh (zn4 w4 ⟨_, _, _, hd4.scr⟩ ((zu HRm).mono (by omega)) r hd3.1 hd3.2 k4.tabs.1)
  have HK4 := zh k4
  have HD4 := zh hd4
  have HO4 := zh (E4.owns (zu HO3))
  have HF4 := zh (Fr.tr (zu HF3) (Fr.of_ext E4))
  clear k4 hd4 E4 HDr HK3 HO3 HF3 e3 HD3
  go_wp2_with fail
  refine (zu HPr).mono ?_
  rintro e w5 ⟨rfl, ⟨gv5, rv5, bv5, hs5⟩, hf5⟩
  obtain ⟨hd5, hg5⟩ := (zu HD4).scrGo hs5 hf5
  have k5 := (zu HK4).go hg5 ⟨_, _, _, _, hd5⟩
  have g5 : w5.cell? ⟨c.r + 1, 0, none⟩ = some (grF c.q) := k5.sts.g2.cell
  have HO5 := zh (hf5.owns (zu HO4) (fun x hx e => by
    rcases e with e | ⟨_, e⟩
    · exact ((zu HD4).kp x (.inr hx)).2.1 e
    · exact e (.inl (.inr hx))))
  have HK5 := zh k5
  have HF5 := zh hg5
  have hgF : g ≠ c.D ∧ g ≠ c.F := ⟨(hd5.kp g (.inr rfl)).1, (hd5.kp g (.inr rfl)).2.1⟩
  clear hs5 hd5 hf5 hg5 k5 HPr HK4 HO4 f2 HD4
  have HRd := zh (zku (zu HK5))
  have hmd : Fc.mode { c with keep := fun k => c.keep k ∨ Value.ownBlock (.slice (some ⟨g, 0, none⟩) s.length cap) = some k } [] = grF c.q := by simp [Fc.mode]
  rw [hmd] at HRd
  clear hmd HK5
  obtain ⟨X, hX⟩ : ∃ X : Nat → Prop, X = fun k => c.keep k ∨ Value.ownBlock (.slice (some ⟨g, 0, none⟩) s.length cap) = some k := ⟨_, rfl⟩
  rw [← hX] at HRd HF5
  have hXg : X g := by rw [hX]; exact .inr rfl
  have hXk : ∀ k, c.keep k → X k := fun k hk => by rw [hX]; exact .inl hk
  clear hX
  have hrow : ∀ (wr : World) (k : Nat), FrF { c with keep := X } w5 wr → k < t.length → wr.cell? ⟨g, m + k, none⟩ = some (.int .u8 (at0 t k)) := fun wr k hf hk => by
    have ho := hf.owns (zu HO5) (fun x hx e => by
      have e2 : g = x := by simpa [Value.ownBlock] using hx
      subst e2
      rcases e with e | e | ⟨_, e⟩
      · exact hgF.1 e
      · exact hgF.2 e
      · exact e hXg)
    obtain ⟨ao, cp, e, _, hrr⟩ := zz ho
    obtain ⟨b', off, e2, hc⟩ := hrr (by omega)
    simp only [e2, Value.slice.injEq, Option.some.injEq, Addr.mk.injEq] at e
    obtain ⟨⟨e3, e4, _⟩, _, _⟩ := e
    subst e3
    subst e4
    have htl := zu HTL
    have := hc (m + k) (by omega)
    rw [Nat.zero_add] at this
    rw [this, zu HT, zaQ]
  have HROW := zh hrow
  clear hrow HO5
  have hmt : t.length = 0 ∨ m < cap := by have := zu HTL; omega
  have HMT := zh hmt
  clear hmt
  have HRm2 : Hid (zcm (d.shw zp r) (h.length)) := zh (zcm.act (zu HRm) (.shw r))
  go_wp2_with fail
  all_goals
    go_loopw [10, 38] (fun v i wr => ∃ k : Nat, k ≤ t.length ∧ i = .int .i64 k ∧ Hid (Rd { c with keep := X } (t.take k) (d.shw zp r) w5 wr v)) (fun _ i _ => t.length - (intOf i).toNat)
    case atStart => exact ⟨0, Nat.zero_le _, rfl, by rw [List.take_zero]; exact HRd⟩
    case round =>
      obtain ⟨k, hk, rfl, HRk⟩ := hrel
      by_cases hlt : k < t.length
      · have hmt := zu HMT
        have hmc : m < cap := by omega
        clear hmt
        first
        | (exfalso; omega)
        | (have bkn : k < s.length - m := by have := zu HTL; omega
           have bk : (k : Int) < ((s.length - m : Nat) : Int) := by omega
           have hcl := (zu HROW) wr k (zu HRk).2.2 hlt
           have hbt : zv (t.take k ++ [at0 t k]) := by
             rw [← zfd t k hlt, zu HT]
             exact fun n hn => (zu HB) n (List.mem_of_mem_drop (List.mem_of_mem_take hn))
           obtain ⟨F, caps, rfl, hcf, hcall⟩ := zlP (zu HRk) (at0 t k) hbt ((zu HRm2).mono (by simp; have := zu HTL; omega)) (fun h' hh hs => (zu HIH) _ h' (by have := zu HTL; simp at hh; omega) hs)
           rw [← zfd t k hlt] at hcall
           have HCall := zh hcall
           clear hcall hbt
           go_wp2_with fail
           refine (zu HCall).mono ?_
           rintro e w' ⟨v', rfl, hR'⟩
           have HR' := zh hR'
           clear hR' HCall hcf
           go_wp2
           go_roundw
           case rel => exact ⟨k + 1, by omega, by go_num, HR'⟩
           case measure => simp [intOf]; omega)
      · obtain rfl : k = t.length := by omega
        have bk : ¬ ((t.length : Nat) : Int) < ((s.length - m : Nat) : Int) := by have := zu HTL; omega
        have bkn : ¬ t.length < s.length - m := by have := zu HTL; omega
        rw [List.take_length] at HRk
        go_wp2
        obtain ⟨hv, hk, hf⟩ := zu HRk
        refine bodyPost_ret (v := c.mode (fdH t)) (by rw [hv]; simp [results, Tryz.results165, go_sem]; rfl) rfl ⟨rfl, ?_, Fr.tr (Fr.tr (zu HF4) (Fr.mono (zu HF5) (fun k hk => ?_))) (Fr.mono hf (fun k hk => ?_))⟩
        · exact hk.unkeep (zu HKs) hXk
        · exact hk.imp id (fun h => h.imp id (fun h => ⟨h.1, fun e => h.2 (hXk k e)⟩))
        · exact hk.imp id (fun h => h.imp id (fun h => ⟨h.1, fun e => h.2 (hXk k e)⟩))
section
variable (c : Fc)
theorem zel : c.mode [] = grF c.q := by simp [Fc.mode]
theorem zis : c.mode [27] = esF c.q := by simp [Fc.mode, at0]
theorem zha (ds : List Int) : c.mode (27 :: 91 :: ds) = beF c.q := by simp [Fc.mode, at0]
theorem zfZ (h : List Int) (h0 : 0 < h.length) (h27 : at0 h 0 ≠ 27) : c.mode h = bgF c.r := by
 have : h ≠ [] := by intro e; subst e; simp at h0
 simp [Fc.mode, this, h27]
end
theorem zhn (c : Fc) (b : Int) (h : List Int) (d : SD) (w : World) (k : FW w c h d) (hl : h.length ≤ 3) (hb : zv (h ++ [b])) (hrm : zcm d (h.length + 1)) (h27 : at0 (h ++ [b]) 0 ≠ 27) (IH : ∀ (c' : Fc) (h' : List Int), h'.length < h.length → zar h' = none → ziE c' h') :
  Calls Tryz.prog 165 #[.int .u8 b, ptr c.r, ptr (c.r + 3), ptr (c.r + 2), ptr (c.r + 1)] w (zeR c (fdH (h ++ [b])) (d.acts zp (fd (h ++ [b])).1) w (c.mode (fdH (h ++ [b])))) := by
 have hs0 : 0 < (h ++ [b]).length := by simp
 cases hf : zaP (h ++ [b]) with
 | true =>
  obtain ⟨e1, e2⟩ := zlS hs0 h27 hf
  have := zln c b h d w k hl hb hf hrm IH _ rfl
  rw [e1, e2]
  exact this
 | false =>
  obtain ⟨e1, e2⟩ := zod hs0 h27 hf
  have := zlA c b h d w k hl hb hf
  rw [e1, e2, zfZ c _ hs0 h27]
  exact this
theorem zjg {v : Value} {b : Int} {w : World} {Q : Ending → World → Prop} (F : FuncId) (caps : List Value) (hv : v = .func (.func F) #[] caps.toArray) (hc : ∀ (args : Array Value) (w : World), (callFunc F args).run Tryz.prog w = .ok (.enter F args) w) (h : Calls Tryz.prog F (Value.int .u8 b :: caps).toArray w Q) : StF v b w Q := ⟨F, caps, hv, hc, h⟩
theorem zn3 : ∀ (n : Nat) (c : Fc) (h : List Int), h.length = n → zar h = none → ziE c h := by
 intro n
 induction n using Nat.strongRecOn with
 | ind n ih =>
  intro c h hn hs b d w k hb hrm
  have hbb : zv [b] := fun x hx => hb x (List.mem_append_right _ hx)
  rcases zkM hs with rfl | rfl | ⟨ds, rfl, hds, hdl⟩ | ⟨h0, h27, hf⟩
  ·rw [zel]
   refine zjg 111 [ptr c.q, ptr (c.q + 2), ptr (c.q + 4)] rfl (fun _ _ => by kernel_rfl) ?_
   show Calls _ _ _ _ (zeR c (fdH [b]) (d.acts zp (fd [b]).1) w (c.mode (fdH [b])))
   by_cases e27 : b = 27
   ·subst e27
    rw [fd_27.1, fd_27.2, zis]
    exact gr_27 c d w k
   ·exact gr_else c b d w k e27 _ _ _ (zhn c b [] d w k (by simp) hbb hrm e27 (fun _ _ hh => by simp at hh))
  ·rw [zis]
   refine zjg 114 [ptr c.q, ptr (c.q + 1), ptr (c.q + 3)] rfl (fun _ _ => by kernel_rfl) ?_
   show Calls _ _ _ _ (zeR c (fdH [27, b]) (d.acts zp (fd [27, b]).1) w (c.mode (fdH [27, b])))
   by_cases b91 : b = 91
   ·subst b91
    rw [fd_91.1, fd_91.2, zha]
    exact es_91 c d w k
   ·rw [(zoh b91).1, (zoh b91).2, zel]
    exact es_else c b d w k b91
  ·rw [zha]
   refine zjg 116 [ptr c.q, ptr (c.q + 3), ptr (c.q + 1)] rfl (fun _ _ => by kernel_rfl) ?_
   have eA : 27 :: 91 :: ds ++ [b] = 27 :: 91 :: (ds ++ [b]) := rfl
   have hlen : (27 :: 91 :: ds : List Int).length = ds.length + 2 := by simp
   rw [eA]
   by_cases h1 : 48 ≤ b ∧ b ≤ 63
   ·by_cases h30 : ds.length < 30
    ·obtain ⟨e1, e2⟩ := zj7 hds h1 h30
     rw [e1, e2, zha]
     exact be_more c b (27 :: 91 :: ds) d w k (by omega) (by omega) h1.1 h1.2
    ·obtain ⟨e1, e2⟩ := zjO hds h1 (by omega)
     rw [e1, e2, zel]
     exact be_over c b (27 :: 91 :: ds) d w k (by omega) h1.1 h1.2
   ·obtain ⟨e1, e2⟩ := zhh hds h1 hdl
    rw [e1, e2, zel]
    by_cases h2 : 64 ≤ b ∧ b ≤ 126
    ·rw [if_pos h2]
     refine be_end c b ds d _ w k h2 (fun w1 X v gv rv bv hsw hi => ?_)
     exact (zo6 w1 hsw hrm.1 v ds hi hds (by omega) b).mono (fun e w' ⟨x1, x2, x3⟩ => ⟨x1, ⟨_, _, _, x2⟩, x3⟩)
    ·rw [if_neg h2]
     exact be_bad c b (27 :: 91 :: ds) d w k (by omega) h1 h2
  ·rw [zfZ c h h0 h27]
   refine zjg 165 [ptr c.r, ptr (c.r + 3), ptr (c.r + 2), ptr (c.r + 1)] rfl (fun _ _ => by kernel_rfl) ?_
   have hl3 : h.length ≤ 3 := by
    have h1 := ((zcw _).1 hf).1
    have h2 : nB (at0 h 0) ≤ 4 := by unfold nB; (repeat' split) <;> omega
    omega
   have e0 : at0 (h ++ [b]) 0 = at0 h 0 := by
    cases h with
    | nil => simp at h0
    | cons x xs => rfl
   exact zhn c b h d w k hl3 hb hrm (by rw [e0]; exact h27) (fun c' h' hh hs' => ih h'.length (by omega) c' h' rfl hs')
def dn (xs ys : List Int) (j : Nat) : List Int := if j = 0 then [] else if j = 1 then xs else xs ++ ys
set_option maxRecDepth 10000 in
set_option maxHeartbeats 4000000 in
theorem zjp (c : Fc) (xs ys : List Int) (P : Nat) (T : TypeId) (xv yv : Value) (d : SD) (w : World) (k : FW w c [] d) (hP : w.heap[P]? = some (.cells #[xv, yv] T (0, 0))) (hPk : c.keep P)
  (hx : ∀ w', FrF c w w' → zx w' .u8 xv xs) (hy : ∀ w', FrF c w w' → zx w' .u8 yv ys) (hbx : zv xs) (hby : zv ys) (hrm : zcm d (xs.length + ys.length)) (hl4 : xs.length + ys.length ≤ 4194303) (sv : Value) (hsv : sv = c.mode []) :
  Calls Tryz.prog 49 #[sv, .slice (some ⟨P, 0, none⟩) 2 2] w fun e w' => e = .returned (.tuple #[]) ∧ ∃ v, Rd c (xs ++ ys) d w w' v := by
 obtain ⟨xa, xc, rfl, _, _⟩ := hx w (Fr.refl _ _)
 obtain ⟨ya, yc, rfl, _, _⟩ := hy w (Fr.refl _ _)
 have HRd : Hid (Rd c [] d w w sv) := zh (by rw [hsv]; exact zku k)
 have hpc : ∀ (wr : World) (j : Nat), FrF c w wr → j < 2 → ∃ pa pc zs, wr.cell? ⟨P, j, none⟩ = some (.slice pa zs.length pc) ∧ dn xs ys (j + 1) = dn xs ys j ++ zs ∧ (∀ w', FrF c w w' → zx w' .u8 (.slice pa zs.length pc) zs) ∧ zv (dn xs ys j ++ zs) ∧ (dn xs ys j).length + zs.length ≤ xs.length + ys.length := fun wr j hf hj => by
  have hb := hf.kept hP (by
   obtain ⟨_, _, _, _, k0⟩ := k.fk
   rintro (e | e | e)
   ·exact (k0.kp P hPk).1 e
   ·exact (k0.kp P hPk).2.1 e
   ·exact e.2 hPk)
  rcases (show j = 0 ∨ j = 1 by omega) with rfl | rfl
  ·exact ⟨xa, xc, xs, zg hb 0 _ rfl, rfl, hx, hbx, by simp [dn]⟩
  ·exact ⟨ya, yc, ys, zg hb 1 _ rfl, rfl, hy, fun n hn => (List.mem_append.1 hn).elim (hbx n) (hby n), by simp [dn]⟩
 have HPC := zh hpc
 have HRm := zh hrm
 clear hx hy hbx hby hpc hP k hsv hrm
 go_enter Tryz.func49, Tryz.ntmps49
 go_wp2_with fail
 go_loopw [0, 10] (fun v i wr => ∃ j : Nat, j ≤ 2 ∧ i = .int .i64 j ∧ Hid (Rd c (dn xs ys j) d w wr v)) (fun _ i _ => 2 - (intOf i).toNat)
 case atStart => exact ⟨0, Nat.zero_le _, rfl, HRd⟩
 case round =>
  obtain ⟨j, hj, rfl, HRj⟩ := hrel
  by_cases hlt : j < 2
  ·obtain ⟨pa, pc, zs, hcj, hdn, hzs, hbz, hlz⟩ := (zu HPC) wr j (zu HRj).2.2 hlt
   have bj : (j : Int) < 2 := by omega
   have HZ := zh hzs
   have HBZ := zh hbz
   have HDN := zh hdn
   clear hzs hbz hdn
   obtain ⟨S, hS⟩ : ∃ S, S = dn xs ys j := ⟨_, rfl⟩
   rw [← hS] at HRj HBZ HDN hlz
   clear hS
   go_wp2_with fail
   go_loopw [0, 16] (fun v i wr => ∃ k : Nat, k ≤ zs.length ∧ i = .int .i64 k ∧ Hid (Rd c (S ++ zs.take k) d w wr v)) (fun _ i _ => zs.length - (intOf i).toNat)
   case atStart => exact ⟨0, Nat.zero_le _, rfl, by rw [List.take_zero, List.append_nil]; exact HRj⟩
   case round =>
    obtain ⟨k, hk, rfl, HRk⟩ := hrel
    by_cases hlt2 : k < zs.length
    ·have bk : (k : Int) < (zs.length : Int) := by omega
     obtain ⟨ao, cp, e, _, hrr⟩ := (zu HZ) wr (zu HRk).2.2
     obtain ⟨b', off, e2, hc⟩ := hrr (by omega)
     have e3 : pa = some ⟨b', off, none⟩ := by
      simp only [e2, Value.slice.injEq] at e
      exact e.1
     clear e e2
     subst e3
     have hcl := hc k hlt2
     have e9 : S ++ zs.take (k + 1) = S ++ zs.take k ++ [at0 zs k] := by rw [zfd zs k hlt2, List.append_assoc]
     have hbt : zv (S ++ zs.take k ++ [at0 zs k]) := by
      rw [← e9]
      exact fun n hn => (zu HBZ) n ((List.mem_append.1 hn).elim (fun h => List.mem_append_left _ h) (fun h => List.mem_append_right _ (List.mem_of_mem_take h)))
     obtain ⟨F, caps, rfl, hcf, hcall⟩ := zlP (zu HRk) (at0 zs k) hbt ((zu HRm).mono (by simp; omega)) (fun h' _ hs => zn3 h'.length c h' rfl hs)
     rw [← e9] at hcall
     have HCall := zh hcall
     clear hcall hbt hc e9 hrr
     go_wp2_with fail
     refine (zu HCall).mono ?_
     rintro e w' ⟨v', rfl, hR'⟩
     have HR' := zh hR'
     clear hR' HCall hcf
     go_wp2
     go_roundw
     case rel => exact ⟨k + 1, by omega, by go_num, HR'⟩
     case measure => simp [intOf]; omega
    ·obtain rfl : k = zs.length := by omega
     rw [List.take_length, ← zu HDN] at HRk
     go_wp2
     go_roundw
     case rel => exact ⟨j + 1, by omega, by go_num, HRk⟩
     case measure => simp [intOf]; omega
  ·obtain rfl : j = 2 := by omega
   go_wp2
   go_end0
   exact ⟨rfl, _, zu HRj⟩
end Go.Proofs.YtinfdhbnljnifaaGreatDoor

namespace Go.Proofs.YtinfdhbnljnifaaGreatDoor
open Go.RowKit Go.Deep Go.Maps
theorem za2 {P : Program} {w : World} {a : Addr} {old : Value} (hc : w.cell? a = some old) (hf : w.frozen? a = false) (fn : Fn) (first cap : Array Value) : (store a (.func fn first cap)).run P w = .ok () (w.setCell a (.func fn first cap)) := by
 rw [run_store P w a _ _ rfl, hc]
 simp [hf]
set_option maxRecDepth 10000 in
set_option maxHeartbeats 8000000 in
theorem zhT (D : Nat) (gf : FuncId) (gc : Array Value) (ff : FuncId) (f1 : Array Value) (w : World) :
  Calls Tryz.prog 113 #[ptr D, .func (.func gf) #[] gc, .func (.func ff) f1 #[]] w fun e w' => e = .returned (bgF w.heap.size) ∧ Ext w w' ∧ Bx w' w.heap.size 185 (ptr D) ∧ Bx w' (w.heap.size + 1) 79 (.func (.func gf) #[] gc) ∧ Bx w' (w.heap.size + 2) 71 (.func (.func ff) f1 #[]) ∧ Bx w' (w.heap.size + 3) 79 (bgF w.heap.size) := by
 have hmf : ∀ (fn : Fn) (first cap : Array Value) (w : World), (Instr.makeFunc fn first cap).run Tryz.prog w = .ok (.func fn first cap) w := fun _ _ _ _ => rfl
 obtain ⟨V1, hV1⟩ : ∃ V, V = w.alloc (.cells #[(ptr D)] 185) := ⟨_, rfl⟩
 obtain ⟨V2, hV2⟩ : ∃ V, V = V1.alloc (.cells #[(.func (.func gf) #[] gc)] 79) := ⟨_, rfl⟩
 obtain ⟨V3, hV3⟩ : ∃ V, V = V2.alloc (.cells #[(.func (.func ff) f1 #[])] 71) := ⟨_, rfl⟩
 obtain ⟨V4, hV4⟩ : ∃ V, V = V3.alloc (.cells #[.nilFunc] 79) := ⟨_, rfl⟩
 have s1 : V1.heap.size = w.heap.size + 1 := by rw [hV1]; simp
 have s2 : V2.heap.size = w.heap.size + 2 := by rw [hV2]; simp [s1]
 have s3 : V3.heap.size = w.heap.size + 3 := by rw [hV3]; simp [s2]
 have E1 : Ext w V1 := by rw [hV1]; exact (Ext.refl _).alloc _
 have E2 : Ext V1 V2 := by rw [hV2]; exact (Ext.refl _).alloc _
 have E3 : Ext V2 V3 := by rw [hV3]; exact (Ext.refl _).alloc _
 have E4 : Ext V3 V4 := by rw [hV4]; exact (Ext.refl _).alloc _
 have b1 : Bx V1 w.heap.size 185 ((ptr D)) := by rw [hV1]; exact zk w _
 have b2 : Bx V2 (w.heap.size + 1) 79 ((.func (.func gf) #[] gc)) := by rw [hV2, ← s1]; exact zk V1 _
 have b3 : Bx V3 (w.heap.size + 2) 71 ((.func (.func ff) f1 #[])) := by rw [hV3, ← s2]; exact zk V2 _
 have b4 : Bx V4 (w.heap.size + 3) 79 .nilFunc := by rw [hV4, ← s3]; exact zk V3 _
 have hVV : ((((w.alloc (.cells #[(ptr D)] 185)).alloc (.cells #[(.func (.func gf) #[] gc)] 79)).alloc (.cells #[(.func (.func ff) f1 #[])] 71)).alloc (.cells #[.nilFunc] 79)) = V4 := by rw [hV4, hV3, hV2, hV1]
 have c4 : V4.cell? ⟨w.heap.size + 1 + 1 + 1, 0, none⟩ = some .nilFunc := b4.cell
 have k4 : V4.frozen? ⟨w.heap.size + 1 + 1 + 1, 0, none⟩ = false := Lib.frozen_of_heap b4 0
 have hst := fun fn first cap => za2 (P := Tryz.prog) c4 k4 fn first cap
 have HV := zh hVV
 have HE := zh (((E1.trans E2).trans E3).trans E4)
 have HB1 := zh (((b1.ext E2).ext E3).ext E4)
 have HB2 := zh ((b2.ext E3).ext E4)
 have HB3 := zh (b3.ext E4)
 have HB4 := zh b4
 clear hVV b1 b2 b3 b4 E1 E2 E3 E4 hV1 hV2 hV3 hV4 s1 s2 s3 V1 V2 V3
 go_enter Tryz.func113, Tryz.ntmps113
 go_upto_region 2 with fail
 rw [zu HV]
 clear HV
 go_wp2
 have fs : Fr (fun q => q = w.heap.size + 3) V4 (V4.setCell ⟨w.heap.size + 3, 0, none⟩ (bgF w.heap.size)) := Fr.setCell (S := fun q => q = w.heap.size + 3) (Fr.refl _ _) (a := ⟨w.heap.size + 3, 0, none⟩) rfl _
 exact bodyPost_ret (v := bgF w.heap.size) (by simp [results, Tryz.results113, go_sem, bgF]) rfl ⟨rfl, fs.ext (zu HE) (fun q hq => by omega), (zu HB1).fr fs (by omega), (zu HB2).fr fs (by omega), (zu HB3).fr fs (by omega), zj (zu HB4) rfl⟩
def StartF (w w' : World) (D F : Nat) (e : Ending) : Prop :=
 ∃ q r, e = .returned (grF q) ∧ StsF w' D F q r ∧ w.heap.size ≤ q ∧ q + 4 < r ∧ r + 3 < w'.heap.size
set_option linter.unusedSimpArgs false in
set_option maxRecDepth 10000 in
set_option maxHeartbeats 8000000 in
theorem zlx (D F : Nat) (hv : Value) (w : World) (hB : w.heap[D]? = some (.cells #[hv, zgC F, zkG F] 76 (0, 0))) :
  Calls Tryz.prog 50 #[ptr D] w fun e w' => StartF w w' D F e ∧ Ext w w' := by
 have hmf : ∀ (fn : Fn) (first cap : Array Value) (w : World), (Instr.makeFunc fn first cap).run Tryz.prog w = .ok (.func fn first cap) w := fun _ _ _ _ => rfl
 have hD := zq hB
 obtain ⟨V1, hV1⟩ : ∃ V, V = w.alloc (.cells #[ptr D] 133) := ⟨_, rfl⟩
 obtain ⟨V2, hV2⟩ : ∃ V, V = V1.alloc (.cells #[.nilFunc] 79) := ⟨_, rfl⟩
 obtain ⟨V3, hV3⟩ : ∃ V, V = V2.alloc (.cells #[.nilFunc] 79) := ⟨_, rfl⟩
 obtain ⟨V4, hV4⟩ : ∃ V, V = V3.alloc (.cells #[.nilFunc] 79) := ⟨_, rfl⟩
 obtain ⟨V5, hV5⟩ : ∃ V, V = V4.alloc (.cells #[.nilFunc] 79) := ⟨_, rfl⟩
 have s1 : V1.heap.size = w.heap.size + 1 := by rw [hV1]; simp
 have s2 : V2.heap.size = w.heap.size + 2 := by rw [hV2]; simp [s1]
 have s3 : V3.heap.size = w.heap.size + 3 := by rw [hV3]; simp [s2]
 have s4 : V4.heap.size = w.heap.size + 4 := by rw [hV4]; simp [s3]
 have s5 : V5.heap.size = w.heap.size + 5 := by rw [hV5]; simp [s4]
 have E1 : Ext w V1 := by rw [hV1]; exact (Ext.refl _).alloc _
 have E2 : Ext V1 V2 := by rw [hV2]; exact (Ext.refl _).alloc _
 have E3 : Ext V2 V3 := by rw [hV3]; exact (Ext.refl _).alloc _
 have E4 : Ext V3 V4 := by rw [hV4]; exact (Ext.refl _).alloc _
 have E5 : Ext V4 V5 := by rw [hV5]; exact (Ext.refl _).alloc _
 have b1 : Bx V1 w.heap.size 133 (ptr D) := by rw [hV1]; exact zk w _
 have b2 : Bx V2 (w.heap.size + 1) 79 .nilFunc := by rw [hV2, ← s1]; exact zk V1 _
 have b3 : Bx V3 (w.heap.size + 2) 79 .nilFunc := by rw [hV3, ← s2]; exact zk V2 _
 have b4 : Bx V4 (w.heap.size + 3) 79 .nilFunc := by rw [hV4, ← s3]; exact zk V3 _
 have b5 : Bx V5 (w.heap.size + 4) 79 .nilFunc := by rw [hV5, ← s4]; exact zk V4 _
 have hVV : ((((w.alloc (.cells #[ptr D] 133)).alloc (.cells #[.nilFunc] 79)).alloc (.cells #[.nilFunc] 79)).alloc (.cells #[.nilFunc] 79)).alloc (.cells #[.nilFunc] 79) = V5 := by rw [hV5, hV4, hV3, hV2, hV1]
 have B1 := (((b1.ext E2).ext E3).ext E4).ext E5
 have B2 := ((b2.ext E3).ext E4).ext E5
 have B3 := (b3.ext E4).ext E5
 have B4 := b4.ext E5
 have HE := zh ((((E1.trans E2).trans E3).trans E4).trans E5)
 have c2 : V5.cell? ⟨w.heap.size + 1, 0, none⟩ = some .nilFunc := B2.cell
 have k2 : V5.frozen? ⟨w.heap.size + 1, 0, none⟩ = false := Lib.frozen_of_heap B2 0
 have HV := zh hVV
 obtain ⟨G, hG⟩ : ∃ G, G = grF w.heap.size := ⟨_, rfl⟩
 obtain ⟨U, hU⟩ : ∃ U, U = V5.setCell ⟨w.heap.size + 1, 0, none⟩ G := ⟨_, rfl⟩
 have fs : Fr (fun q => q = w.heap.size + 1) V5 U := by rw [hU]; exact Fr.setCell (S := fun q => q = w.heap.size + 1) (Fr.refl _ _) (a := ⟨w.heap.size + 1, 0, none⟩) rfl _
 have HU := zh (show V5.setCell ⟨w.heap.size + 1, 0, none⟩ (.func (.func 111) #[] #[.pointer (some ⟨w.heap.size, 0, none⟩), .pointer (some ⟨w.heap.size + 1 + 1, 0, none⟩), .pointer (some ⟨w.heap.size + 1 + 1 + 1 + 1, 0, none⟩)]) = U by rw [hU, hG]; rfl)
 have HU1 := zh (B1.fr fs (by omega))
 have HU2 : Hid (Bx U (w.heap.size + 1) 79 G) := zh (by rw [hU]; exact zj B2 rfl)
 have HU3 := zh (B3.fr fs (by omega))
 have HU4 := zh (B4.fr fs (by omega))
 have HU5 := zh (b5.fr fs (by omega))
 have HUE := zh (fs.ext (zu HE) (fun q hq => by omega))
 have HB := zh hB
 have zU : w.heap.size + 5 ≤ U.heap.size := by have := fs.size; omega
 clear hVV b1 b2 b3 b4 b5 B1 B2 B3 B4 E1 E2 E3 E4 E5 hV1 hV2 hV3 hV4 hV5 s1 s2 s3 s4 s5 V1 V2 V3 V4 fs hU hB HE
 go_enter Tryz.func50, Tryz.ntmps50
 go_upto_region 2 with fail
 rw [zu HV]
 clear HV
 go_upto_region 3 with fail
 rw [zu HU]
 clear HU c2 k2
 subst hG
 have u9 := zg ((zu HUE).kept (zu HB)) 1 _ rfl
 refine wp_region_held_drew (S := fun W => W.cell? ⟨w.heap.size, 0, none⟩ = some (ptr D) ∧ W.cell? ⟨w.heap.size + 1, 0, none⟩ = some (grF w.heap.size) ∧ W.cell? ⟨D, 1, none⟩ = some (.func (.func 47) #[ptr F] #[])) (by kernel_rfl) ⟨(zu HU1).cell, (zu HU2).cell, u9⟩ (fun hHeld => ?_)
 refine tk 0 ?_ rfl (by kernel_rfl) (fun _ _ _ h => h) (by rfl) ?_ (by assumption) ?_
 rotate_left
 ·intro w' hSw; obtain ⟨e1, e2, e3⟩ := hSw; go_simp <;> with_reducible rfl
 simp only [Act.put, qA, qB, qC, qD, qE, qF]
 refine tk 1 ?_ rfl (by kernel_rfl) (fun _ _ _ h => h) (by rfl) ?_ (by assumption) ?_
 rotate_left
 ·intro w' hSw; obtain ⟨e1, e2, e3⟩ := hSw; go_simp <;> with_reducible rfl
 simp only [Act.put, qA, qB, qC, qD, qE, qF]
 refine tk 2 ?_ rfl (by kernel_rfl) (fun _ _ _ h => h) (by rfl) ?_ (by assumption) ?_
 rotate_left
 ·intro w' hSw; obtain ⟨e1, e2, e3⟩ := hSw; go_simp <;> with_reducible rfl
 simp only [Act.put, qA, qB, qC, qD, qE, qF]
 refine tk 3 ?_ rfl (by kernel_rfl) (fun _ _ _ h => h) (by rfl) ?_ (by assumption) ?_
 rotate_left
 ·intro w' hSw; obtain ⟨e1, e2, e3⟩ := hSw; go_simp <;> with_reducible rfl
 simp only [Act.put, qA, qB, qC, qD, qE, qF]
 refine tk 4 ?_ rfl (by kernel_rfl) (fun _ _ _ h => h) (by rfl) ?_ (by assumption) ?_
 rotate_left
 ·intro w' hSw; obtain ⟨e1, e2, e3⟩ := hSw; go_simp <;> with_reducible rfl
 simp only [Act.put, qA, qB, qC, qD, qE, qF]
 refine tk 5 ?_ rfl (by kernel_rfl) (fun _ _ _ h => h) (by rfl) ?_ (by assumption) ?_
 rotate_left
 ·intro w' hSw; obtain ⟨e1, e2, e3⟩ := hSw; go_simp <;> with_reducible rfl
 simp only [Act.put, qA, qB, qC, qD, qE, qF]
 refine tk 6 ?_ rfl (by kernel_rfl) (fun _ _ _ h => h) (by rfl) ?_ (by assumption) ?_
 rotate_left
 ·intro w' hSw; obtain ⟨e1, e2, e3⟩ := hSw; go_simp <;> with_reducible rfl
 simp only [Act.put, qA, qB, qC, qD, qE, qF]
 refine tk 7 ?_ rfl (by kernel_rfl) (fun _ _ _ h => h) (by rfl) ?_ (by assumption) ?_
 rotate_left
 ·intro w' hSw; obtain ⟨e1, e2, e3⟩ := hSw; go_simp <;> with_reducible rfl
 simp only [Act.put, qA, qB, qC, qD, qE, qF]
 have GV := (Ext.refl U).drew
 replace HU1 := zh ((zu HU1).ext GV)
 replace HU2 := zh ((zu HU2).ext GV)
 replace HU3 := zh ((zu HU3).ext GV)
 replace HU4 := zh ((zu HU4).ext GV)
 replace HU5 := zh ((zu HU5).ext GV)
 replace HUE := zh ((zu HUE).trans GV)
 have zG := GV.size
 clear GV u9
 generalize U.drew = W0 at *
 refine rdy 8 (by kernel_rfl) rfl (fun K hK => ?_)
 go_simp
 refine (zhT D _ _ _ _ W0).mono ?_
 rintro e W1 ⟨rfl, F1, r1, r2, r3, r4⟩
 replace HU1 := zh ((zu HU1).ext F1)
 replace HU2 := zh ((zu HU2).ext F1)
 replace HU3 := zh ((zu HU3).ext F1)
 replace HU4 := zh ((zu HU4).ext F1)
 replace HU5 := zh ((zu HU5).ext F1)
 replace HUE := zh ((zu HUE).trans F1)
 have u9 := zg ((zu HUE).kept (zu HB)) 1 _ rfl
 have zr := r4.lt
 have HR := zh (And.intro r1 (And.intro r2 (And.intro r3 r4)))
 clear r1 r2 r3 r4 F1
 rw [show bgF W0.heap.size = .func (.func 165) #[] #[ptr W0.heap.size, ptr (W0.heap.size + 3), ptr (W0.heap.size + 2), ptr (W0.heap.size + 1)] from rfl]
 refine hK.out _ _ ⟨(zu HU1).cell, (zu HU2).cell, u9⟩ (fun hHeld => ?_)
 clear hK K
 have hst : W1.cell? ⟨w.heap.size + 1 + 1 + 1 + 1, 0, none⟩ = some .nilFunc := (zu HU5).cell
 have khst : W1.frozen? ⟨w.heap.size + 1 + 1 + 1 + 1, 0, none⟩ = false := Lib.frozen_of_heap (zu HU5) 0
 obtain ⟨X, hX⟩ : ∃ X, X = W1.setCell ⟨w.heap.size + 1 + 1 + 1 + 1, 0, none⟩ (bgF W0.heap.size) := ⟨_, rfl⟩
 have fs : Fr (fun q => q = w.heap.size + 4) W1 X := by rw [hX]; exact Fr.setCell (S := fun q => q = w.heap.size + 4) (Fr.refl _ _) (a := ⟨w.heap.size + 4, 0, none⟩) rfl _
 have HX5 : Hid (Bx X (w.heap.size + 4) 79 (bgF W0.heap.size)) := zh (by rw [hX]; exact zj (zu HU5) rfl)
 replace HU1 := zh ((zu HU1).fr fs (by omega))
 replace HU2 := zh ((zu HU2).fr fs (by omega))
 replace HU3 := zh ((zu HU3).fr fs (by omega))
 replace HU4 := zh ((zu HU4).fr fs (by omega))
 replace HUE := zh (fs.ext (zu HUE) (fun q hq => by omega))
 replace HR := zh (And.intro ((zu HR).1.fr fs (by omega)) (And.intro ((zu HR).2.1.fr fs (by omega)) (And.intro ((zu HR).2.2.1.fr fs (by omega)) ((zu HR).2.2.2.fr fs (by omega)))))
 have zX := fs.size
 have u8 := zg ((zu HUE).kept (zu HB)) 1 _ rfl
 have HXX := zh (show W1.setCell ⟨w.heap.size + 1 + 1 + 1 + 1, 0, none⟩ (.func (.func 165) #[] #[ptr W0.heap.size, ptr (W0.heap.size + 3), ptr (W0.heap.size + 2), ptr (W0.heap.size + 1)]) = X from hX.symm)
 clear fs hX HU5
 refine rdy 9 (by kernel_rfl) rfl (fun K hK => ?_)
 go_simp
 rw [zu HXX]
 refine hK.out _ _ ⟨(zu HU1).cell, (zu HU2).cell, u8⟩ (fun hHeld => ?_)
 clear hK K hst khst HXX u8 u9
 refine wpAnyH_done (by kernel_rfl) ?_ _
 have hst3 : X.cell? ⟨w.heap.size + 1 + 1, 0, none⟩ = some .nilFunc := (zu HU3).cell
 have khst3 : X.frozen? ⟨w.heap.size + 1 + 1, 0, none⟩ = false := Lib.frozen_of_heap (zu HU3) 0
 obtain ⟨Y, hY⟩ : ∃ Y, Y = X.setCell ⟨w.heap.size + 1 + 1, 0, none⟩ (esF w.heap.size) := ⟨_, rfl⟩
 have fs : Fr (fun q => q = w.heap.size + 2) X Y := by rw [hY]; exact Fr.setCell (S := fun q => q = w.heap.size + 2) (Fr.refl _ _) (a := ⟨w.heap.size + 2, 0, none⟩) rfl _
 have HX3 : Hid (Bx Y (w.heap.size + 2) 79 (esF w.heap.size)) := zh (by rw [hY]; exact zj (zu HU3) rfl)
 replace HU1 := zh ((zu HU1).fr fs (by omega))
 replace HU2 := zh ((zu HU2).fr fs (by omega))
 replace HU4 := zh ((zu HU4).fr fs (by omega))
 replace HX5 := zh ((zu HX5).fr fs (by omega))
 replace HUE := zh (fs.ext (zu HUE) (fun q hq => by omega))
 replace HR := zh (And.intro ((zu HR).1.fr fs (by omega)) (And.intro ((zu HR).2.1.fr fs (by omega)) (And.intro ((zu HR).2.2.1.fr fs (by omega)) ((zu HR).2.2.2.fr fs (by omega)))))
 have zY := fs.size
 have HYY := zh (show X.setCell ⟨w.heap.size + 1 + 1, 0, none⟩ (.func (.func 114) #[] #[.pointer (some ⟨w.heap.size, 0, none⟩), .pointer (some ⟨w.heap.size + 1, 0, none⟩), .pointer (some ⟨w.heap.size + 1 + 1 + 1, 0, none⟩)]) = Y from hY.symm)
 clear fs hY HU3
 go_upto_region 5 with fail
 rw [zu HYY]
 clear HYY hst3 khst3
 have hst4 : Y.cell? ⟨w.heap.size + 1 + 1 + 1, 0, none⟩ = some .nilFunc := (zu HU4).cell
 have khst4 : Y.frozen? ⟨w.heap.size + 1 + 1 + 1, 0, none⟩ = false := Lib.frozen_of_heap (zu HU4) 0
 obtain ⟨Z, hZ⟩ : ∃ Z, Z = Y.setCell ⟨w.heap.size + 1 + 1 + 1, 0, none⟩ (beF w.heap.size) := ⟨_, rfl⟩
 have fs : Fr (fun q => q = w.heap.size + 3) Y Z := by rw [hZ]; exact Fr.setCell (S := fun q => q = w.heap.size + 3) (Fr.refl _ _) (a := ⟨w.heap.size + 3, 0, none⟩) rfl _
 have HX4 : Hid (Bx Z (w.heap.size + 3) 79 (beF w.heap.size)) := zh (by rw [hZ]; exact zj (zu HU4) rfl)
 replace HU1 := zh ((zu HU1).fr fs (by omega))
 replace HU2 := zh ((zu HU2).fr fs (by omega))
 replace HX5 := zh ((zu HX5).fr fs (by omega))
 replace HX3 := zh ((zu HX3).fr fs (by omega))
 replace HUE := zh (fs.ext (zu HUE) (fun q hq => by omega))
 replace HR := zh (And.intro ((zu HR).1.fr fs (by omega)) (And.intro ((zu HR).2.1.fr fs (by omega)) (And.intro ((zu HR).2.2.1.fr fs (by omega)) ((zu HR).2.2.2.fr fs (by omega)))))
 have zZ := fs.size
 have HZZ := zh (show Y.setCell ⟨w.heap.size + 1 + 1 + 1, 0, none⟩ (.func (.func 116) #[] #[.pointer (some ⟨w.heap.size, 0, none⟩), .pointer (some ⟨w.heap.size + 1 + 1 + 1, 0, none⟩), .pointer (some ⟨w.heap.size + 1, 0, none⟩)]) = Z from hZ.symm)
 have d2 := (zu HU2).cell
 clear fs hZ HU4
 go_upto_region 6 with fail
 rw [zu HZZ]
 clear HZZ hst4 khst4
 go_wp2
 exact bodyPost_ret (v := grF w.heap.size) (by simp [results, Tryz.results50, go_sem]) rfl ⟨⟨w.heap.size, W0.heap.size, rfl, ⟨zu HU1, zu HU2, zu HX3, zu HX4, zu HX5, (zu HR).1, (zu HR).2.1, (zu HR).2.2.1, (zu HR).2.2.2⟩, Nat.le_refl _, by omega, by omega⟩, zu HUE⟩
end Go.Proofs.YtinfdhbnljnifaaGreatDoor
