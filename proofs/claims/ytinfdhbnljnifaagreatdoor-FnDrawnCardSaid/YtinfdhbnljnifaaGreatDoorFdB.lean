import Derived.Test.YtinfdhbnljnifaaGreatDoorRkE
import Derived.Test.YtinfdhbnljnifaaGreatDoorKmU
namespace Go.Proofs.YtinfdhbnljnifaaGreatDoor
open Go.RowKit
set_option maxRecDepth 10000 in
set_option maxHeartbeats 4000000 in
theorem zjk (bs : List Int) (hb : zv bs) (v : Value) (i : Nat) (w : World) (hv : zx w .u8 v bs) (hi : i < bs.length) (hl : bs.length ≤ 4398046511104) :
  Calls Tryz.prog 190 #[v, .int .i64 i] w fun e w' => e = .returned (tkV (zcr (bs.drop i))) ∧ Ext w w' := by
 have hv0 := zh hv
 obtain ⟨ao, cap, rfl, hcap, hr⟩ := hv
 obtain ⟨b, off, rfl, hc⟩ := hr (by omega)
 have HC := zh hc
 have HBy := zh hb
 have hd : ∀ j, at0 (bs.drop i) j = at0 bs (i + j) := fun j => by rw [zaQ]
 have HD := zh hd
 have hdl : (bs.drop i).length = bs.length - i := by simp
 have HDL := zh hdl
 clear hr hc hd hdl hb
 have infoT : (Tryz.prog.info? 197).map (·.size) = some 4 := by kernel_rfl
 have hw1 : IntKind.i64.wrap ((i : Int) + 1) = (i : Int) + 1 := by rw [IntKind.wrap_i64]; omega
 have hw2 : IntKind.i64.wrap ((i : Int) + 2) = (i : Int) + 2 := by rw [IntKind.wrap_i64]; omega
 by_cases h1 : i + 1 < bs.length
 ·have h1I : (i : Int) + 1 < (bs.length : Int) := by omega
  have h1J : ¬ (bs.length : Int) ≤ (i : Int) + 1 := by omega
  obtain ⟨x, hx⟩ : ∃ x, x = at0 bs (i + 1) := ⟨_, rfl⟩
  have HX : Hid (at0 (bs.drop i) 1 = x) := zh (by rw [(zu HD), hx])
  have gA : ∀ o, (w.alloc o).cell? ⟨b, off + (i + 1), none⟩ = some (.int .u8 x) := fun o => by rw [hx]; exact ((Ext.refl w).alloc o).cell ((zu HC) _ h1)
  have hS0 : Hid (¬ (bs.drop i).length ≤ 1) := zh (by rw [zu HDL]; omega)
  clear hx
  by_cases h27 : x = 27
  ·subst h27
   have HT := zh (show zcr (bs.drop i) = ⟨1, 22, 0, false⟩ by unfold zcr; rw [if_neg (zu hS0), zu HX]; rfl)
   go_enter Tryz.func190, Tryz.ntmps190
   go_wp2_with (refine zi rfl 197 _ _ rfl rfl (w.heap.size) rfl _ _ #[.int .i64 (1), .int .i64 (22), .int .i64 (0), .bool false] rfl (zk w _) infoT rfl (by simp [Value.oneCell']) ?_; intro Z hy hf9; have HY := zh hy; have FY := zh hf9; clear hy hf9)
   have v0 := zg (zu HY) 0 _ rfl
   have v1 := zg (zu HY) 1 _ rfl
   have v2 := zg (zu HY) 2 _ rfl
   have v3 := zg (zu HY) 3 _ rfl
   exact bodyPost_ret (v := .agg #[.int .i64 (1), .int .i64 (22), .int .i64 (0), .bool false]) (by simp [results, Tryz.results190, go_sem, v0, v1, v2, v3]) rfl ⟨by rw [zu HT]; rfl, (zu FY).ext ((Ext.refl w).alloc _) (fun q hq => by omega)⟩
  have n27 : (x == 27) = false := by simpa using h27
  by_cases h91 : x = 91
  ·subst h91
   have HT := zh (show zcr (bs.drop i) = zcS (bs.drop i) by unfold zcr; rw [if_neg (zu hS0), zu HX]; rfl)
   have hBr := zh (fun W (hW : Ext w W) => zhO bs (zu HBy) _ i W ((zu hv0).ext hW) (by omega) hl)
   obtain ⟨t, ht⟩ : ∃ t, t = zcS (bs.drop i) := ⟨_, rfl⟩
   rw [← ht] at hBr HT
   clear ht
   go_enter Tryz.func190, Tryz.ntmps190
   go_wp2_with fail
   refine ((zu hBr) _ ((Ext.refl w).alloc _)).mono ?_
   rintro e w3 ⟨he, E3⟩
   simp only [tkV] at he
   subst he
   have HB3 := zh (E3.kept (zk w _))
   have z3 := E3.size
   have HE3 := zh (((Ext.refl w).alloc _).trans E3)
   clear E3
   go_wp2_with (refine zi rfl 197 _ _ rfl rfl (w.heap.size) rfl _ _ #[.int .i64 ((t.n : Int)), .int .i64 (t.kind), .int .i64 (t.r), .bool t.p] rfl (zu HB3) infoT rfl (by simp [Value.oneCell']) ?_; intro Z hy hf9; have HY := zh hy; have FY := zh hf9; clear hy hf9)
   have v0 := zg (zu HY) 0 _ rfl
   have v1 := zg (zu HY) 1 _ rfl
   have v2 := zg (zu HY) 2 _ rfl
   have v3 := zg (zu HY) 3 _ rfl
   exact bodyPost_ret (v := .agg #[.int .i64 ((t.n : Int)), .int .i64 (t.kind), .int .i64 (t.r), .bool t.p]) (by simp [results, Tryz.results190, go_sem, v0, v1, v2, v3]) rfl ⟨by rw [zu HT]; rfl, (zu FY).ext (zu HE3) (fun q hq => by omega)⟩
  have n91 : (x == 91) = false := by simpa using h91
  by_cases h79 : x = 79
  ·subst h79
   by_cases h2 : i + 2 < bs.length
   ·have h2J : ¬ (bs.length : Int) ≤ (i : Int) + 2 := by omega
    have h2I : (i : Int) + 2 < (bs.length : Int) := by omega
    obtain ⟨y, hy⟩ : ∃ y, y = at0 bs (i + 2) := ⟨_, rfl⟩
    have gB : ∀ o, (w.alloc o).cell? ⟨b, off + (i + 2), none⟩ = some (.int .u8 y) := fun o => by rw [hy]; exact ((Ext.refl w).alloc o).cell ((zu HC) _ h2)
    have HT := zh (show zcr (bs.drop i) = ⟨3, zdX y, 0, false⟩ by unfold zcr; rw [if_neg (zu hS0), zu HX, (zu HD), ← hy]; rw [if_neg (by decide), if_neg (by decide), if_pos rfl, if_neg (by rw [zu HDL]; omega)])
    clear hy
    have hL := zh (fun W => ze2 y W)
    go_enter Tryz.func190, Tryz.ntmps190
    go_wp2_with fail
    refine ((zu hL) _).mono ?_
    rintro e w3 ⟨rfl, E3⟩
    have HB3 := zh (E3.kept (zk w _))
    have z3 := E3.size
    have HE3 := zh (((Ext.refl w).alloc _).trans E3)
    clear E3
    go_wp2_with (refine zi rfl 197 _ _ rfl rfl (w.heap.size) rfl _ _ #[.int .i64 (3), .int .i64 (zdX y), .int .i64 (0), .bool false] rfl (zu HB3) infoT rfl (by simp [Value.oneCell']) ?_; intro Z hy hf9; have HY := zh hy; have FY := zh hf9; clear hy hf9)
    have v0 := zg (zu HY) 0 _ rfl
    have v1 := zg (zu HY) 1 _ rfl
    have v2 := zg (zu HY) 2 _ rfl
    have v3 := zg (zu HY) 3 _ rfl
    exact bodyPost_ret (v := .agg #[.int .i64 (3), .int .i64 (zdX y), .int .i64 (0), .bool false]) (by simp [results, Tryz.results190, go_sem, v0, v1, v2, v3]) rfl ⟨by rw [zu HT]; rfl, (zu FY).ext (zu HE3) (fun q hq => by omega)⟩
   ·have h2J : (bs.length : Int) ≤ (i : Int) + 2 := by omega
    have HT := zh (show zcr (bs.drop i) = tk0 by unfold zcr; rw [if_neg (zu hS0), zu HX]; rw [if_neg (by decide), if_neg (by decide), if_pos rfl, if_pos (by rw [zu HDL]; omega)])
    go_enter Tryz.func190, Tryz.ntmps190
    go_wp2_with (refine zi rfl 197 _ _ rfl rfl (w.heap.size) rfl _ _ #[.int .i64 (0), .int .i64 (0), .int .i64 (0), .bool false] rfl (zk w _) infoT rfl (by simp [Value.oneCell']) ?_; intro Z hy hf9; have HY := zh hy; have FY := zh hf9; clear hy hf9)
    have v0 := zg (zu HY) 0 _ rfl
    have v1 := zg (zu HY) 1 _ rfl
    have v2 := zg (zu HY) 2 _ rfl
    have v3 := zg (zu HY) 3 _ rfl
    exact bodyPost_ret (v := .agg #[.int .i64 (0), .int .i64 (0), .int .i64 (0), .bool false]) (by simp [results, Tryz.results190, go_sem, v0, v1, v2, v3]) rfl ⟨by rw [zu HT]; rfl, (zu FY).ext ((Ext.refl w).alloc _) (fun q hq => by omega)⟩
  have n79 : (x == 79) = false := by simpa using h79
  by_cases h98 : x = 98
  ·subst h98
   have HT := zh (show zcr (bs.drop i) = ⟨2, 18, 0, false⟩ by unfold zcr; rw [if_neg (zu hS0), zu HX]; rfl)
   go_enter Tryz.func190, Tryz.ntmps190
   go_wp2_with (refine zi rfl 197 _ _ rfl rfl (w.heap.size) rfl _ _ #[.int .i64 (2), .int .i64 (18), .int .i64 (0), .bool false] rfl (zk w _) infoT rfl (by simp [Value.oneCell']) ?_; intro Z hy hf9; have HY := zh hy; have FY := zh hf9; clear hy hf9)
   have v0 := zg (zu HY) 0 _ rfl
   have v1 := zg (zu HY) 1 _ rfl
   have v2 := zg (zu HY) 2 _ rfl
   have v3 := zg (zu HY) 3 _ rfl
   exact bodyPost_ret (v := .agg #[.int .i64 (2), .int .i64 (18), .int .i64 (0), .bool false]) (by simp [results, Tryz.results190, go_sem, v0, v1, v2, v3]) rfl ⟨by rw [zu HT]; rfl, (zu FY).ext ((Ext.refl w).alloc _) (fun q hq => by omega)⟩
  have n98 : (x == 98) = false := by simpa using h98
  by_cases h102 : x = 102
  ·subst h102
   have HT := zh (show zcr (bs.drop i) = ⟨2, 19, 0, false⟩ by unfold zcr; rw [if_neg (zu hS0), zu HX]; rfl)
   go_enter Tryz.func190, Tryz.ntmps190
   go_wp2_with (refine zi rfl 197 _ _ rfl rfl (w.heap.size) rfl _ _ #[.int .i64 (2), .int .i64 (19), .int .i64 (0), .bool false] rfl (zk w _) infoT rfl (by simp [Value.oneCell']) ?_; intro Z hy hf9; have HY := zh hy; have FY := zh hf9; clear hy hf9)
   have v0 := zg (zu HY) 0 _ rfl
   have v1 := zg (zu HY) 1 _ rfl
   have v2 := zg (zu HY) 2 _ rfl
   have v3 := zg (zu HY) 3 _ rfl
   exact bodyPost_ret (v := .agg #[.int .i64 (2), .int .i64 (19), .int .i64 (0), .bool false]) (by simp [results, Tryz.results190, go_sem, v0, v1, v2, v3]) rfl ⟨by rw [zu HT]; rfl, (zu FY).ext ((Ext.refl w).alloc _) (fun q hq => by omega)⟩
  have n102 : (x == 102) = false := by simpa using h102
  have HT := zh (show zcr (bs.drop i) = ⟨2, 23, 0, false⟩ by unfold zcr; rw [if_neg (zu hS0), zu HX]; simp [h27, h91, h79, h98, h102])
  clear h27 h91 h79 h98 h102
  go_enter Tryz.func190, Tryz.ntmps190
  go_wp2_with (refine zi rfl 197 _ _ rfl rfl (w.heap.size) rfl _ _ #[.int .i64 (2), .int .i64 (23), .int .i64 (0), .bool false] rfl (zk w _) infoT rfl (by simp [Value.oneCell']) ?_; intro Z hy hf9; have HY := zh hy; have FY := zh hf9; clear hy hf9)
  have v0 := zg (zu HY) 0 _ rfl
  have v1 := zg (zu HY) 1 _ rfl
  have v2 := zg (zu HY) 2 _ rfl
  have v3 := zg (zu HY) 3 _ rfl
  exact bodyPost_ret (v := .agg #[.int .i64 (2), .int .i64 (23), .int .i64 (0), .bool false]) (by simp [results, Tryz.results190, go_sem, v0, v1, v2, v3]) rfl ⟨by rw [zu HT]; rfl, (zu FY).ext ((Ext.refl w).alloc _) (fun q hq => by omega)⟩
 ·have h1J : (bs.length : Int) ≤ (i : Int) + 1 := by omega
  have HT := zh (show zcr (bs.drop i) = tk0 by unfold zcr; rw [if_pos (by rw [zu HDL]; omega)])
  go_enter Tryz.func190, Tryz.ntmps190
  go_wp2_with (refine zi rfl 197 _ _ rfl rfl (w.heap.size) rfl _ _ #[.int .i64 (0), .int .i64 (0), .int .i64 (0), .bool false] rfl (zk w _) infoT rfl (by simp [Value.oneCell']) ?_; intro Z hy hf9; have HY := zh hy; have FY := zh hf9; clear hy hf9)
  have v0 := zg (zu HY) 0 _ rfl
  have v1 := zg (zu HY) 1 _ rfl
  have v2 := zg (zu HY) 2 _ rfl
  have v3 := zg (zu HY) 3 _ rfl
  exact bodyPost_ret (v := .agg #[.int .i64 (0), .int .i64 (0), .int .i64 (0), .bool false]) (by simp [results, Tryz.results190, go_sem, v0, v1, v2, v3]) rfl ⟨by rw [zu HT]; rfl, (zu FY).ext ((Ext.refl w).alloc _) (fun q hq => by omega)⟩
def zdc (s : List Int) : Tk :=
 if at0 s 0 = 27 then zcr s else if at0 s 0 = 9 then ⟨1, 1, 32, false⟩ else if 0 < zf2 (at0 s 0) then ⟨1, zf2 (at0 s 0), 0, false⟩
 else if zbS s = true then tk0 else ⟨(zak s).2, 1, zaa (zak s).1, false⟩
set_option maxRecDepth 10000 in
set_option maxHeartbeats 4000000 in
theorem znt (bs : List Int) (hb : zv bs) (v : Value) (i : Nat) (w : World) (hv : zx w .u8 v bs) (hi : i < bs.length) (hl : bs.length ≤ 4398046511104) :
  Calls Tryz.prog 173 #[v, .int .i64 i] w fun e w' => e = .returned (tkV (zdc (bs.drop i))) ∧ Ext w w' := by
 have hE := zh (fun W (hW : Ext w W) => zjk bs hb v i W (hv.ext hW) hi hl)
 have hBg := zh (fun W (hW : Ext w W) => zkI bs hb v i W (hv.ext hW) hi hl)
 have hRn := zh (fun W (hW : Ext w W) => zeO bs hb v i W (hv.ext hW) hi hl)
 obtain ⟨ao, cap, rfl, hcap, hr⟩ := hv
 obtain ⟨b, off, rfl, hc⟩ := hr (by omega)
 have HC := zh hc
 have hat : at0 (bs.drop i) 0 = at0 bs i := by rw [zaQ]; rfl
 have infoT : (Tryz.prog.info? 197).map (·.size) = some 4 := by kernel_rfl
 have hiI : (i : Int) < (bs.length : Int) := by omega
 obtain ⟨x, hx⟩ : ∃ x, x = at0 bs i := ⟨_, rfl⟩
 have hx0 : 0 ≤ x ∧ x ≤ 255 := by rw [hx]; exact hb.at0 _
 have HX : Hid (at0 (bs.drop i) 0 = x) := zh (by rw [hat, hx])
 have gA : ∀ o, (w.alloc o).cell? ⟨b, off + i, none⟩ = some (.int .u8 x) := fun o => by rw [hx]; exact ((Ext.refl w).alloc o).cell (hc i hi)
 obtain ⟨s, hs⟩ : ∃ s, s = bs.drop i := ⟨_, rfl⟩
 rw [← hs] at HX hE hBg hRn ⊢
 clear hr hc hat hx hs hb
 by_cases h27 : x = 27
 ·subst h27
  have HT := zh (show zdc s = zcr s by unfold zdc; rw [zu HX, if_pos rfl])
  obtain ⟨t, ht⟩ : ∃ t, t = zcr s := ⟨_, rfl⟩
  rw [← ht] at hE HT
  clear ht hBg hRn
  go_enter Tryz.func173, Tryz.ntmps173
  go_wp2_with fail
  refine ((zu hE) _ ((Ext.refl w).alloc _)).mono ?_
  rintro e w3 ⟨he, E3⟩
  simp only [tkV] at he
  subst he
  have HB3 := zh (E3.kept (zk w _))
  have z3 := E3.size
  have HE3 := zh (((Ext.refl w).alloc _).trans E3)
  clear E3
  go_wp2_with (refine zi rfl 197 _ _ rfl rfl (w.heap.size) rfl _ _ #[.int .i64 ((t.n : Int)), .int .i64 (t.kind), .int .i64 (t.r), .bool t.p] rfl (zu HB3) infoT rfl (by simp [Value.oneCell']) ?_; intro Z hy hf9; have HY := zh hy; have FY := zh hf9; clear hy hf9)
  have v0 := zg (zu HY) 0 _ rfl
  have v1 := zg (zu HY) 1 _ rfl
  have v2 := zg (zu HY) 2 _ rfl
  have v3 := zg (zu HY) 3 _ rfl
  exact bodyPost_ret (v := .agg #[.int .i64 ((t.n : Int)), .int .i64 (t.kind), .int .i64 (t.r), .bool t.p]) (by simp [results, Tryz.results173, go_sem, v0, v1, v2, v3]) rfl ⟨by rw [zu HT]; rfl, (zu FY).ext (zu HE3) (fun q hq => by omega)⟩
 have n27 : (x == 27) = false := by simpa using h27
 clear hE
 by_cases h9 : x = 9
 ·subst h9
  have HT := zh (show zdc s = ⟨1, 1, 32, false⟩ by unfold zdc; rw [zu HX]; rfl)
  go_enter Tryz.func173, Tryz.ntmps173
  go_wp2_with (refine zi rfl 197 _ _ rfl rfl (w.heap.size) rfl _ _ #[.int .i64 (1), .int .i64 (1), .int .i64 (32), .bool false] rfl (zk w _) infoT rfl (by simp [Value.oneCell']) ?_; intro Z hy hf9; have HY := zh hy; have FY := zh hf9; clear hy hf9)
  have v0 := zg (zu HY) 0 _ rfl
  have v1 := zg (zu HY) 1 _ rfl
  have v2 := zg (zu HY) 2 _ rfl
  have v3 := zg (zu HY) 3 _ rfl
  exact bodyPost_ret (v := .agg #[.int .i64 (1), .int .i64 (1), .int .i64 (32), .bool false]) (by simp [results, Tryz.results173, go_sem, v0, v1, v2, v3]) rfl ⟨by rw [zu HT]; rfl, (zu FY).ext ((Ext.refl w).alloc _) (fun q hq => by omega)⟩
 have n9 : (x == 9) = false := by simpa using h9
 have hCt := zh (fun W => zhK x W)
 obtain ⟨c, hc⟩ : ∃ c, c = zf2 x := ⟨_, rfl⟩
 rw [← hc] at hCt
 by_cases h0 : 0 < c
 ·have HT := zh (show zdc s = ⟨1, c, 0, false⟩ by unfold zdc; rw [zu HX, if_neg h27, if_neg h9, ← hc, if_pos h0])
  clear hc hBg hRn h27 h9
  go_enter Tryz.func173, Tryz.ntmps173
  go_wp2_with fail
  refine ((zu hCt) _).mono ?_
  rintro e w3 ⟨rfl, E3⟩
  have HB3 := zh (E3.kept (zk w _))
  have z3 := E3.size
  have HE3 := zh (((Ext.refl w).alloc _).trans E3)
  have g3 : w3.cell? ⟨b, off + i, none⟩ = some (.int .u8 x) := E3.cell (gA _)
  clear E3
  go_wp2_with fail
  refine ((zu hCt) _).mono ?_
  rintro e w4 ⟨rfl, E4⟩
  have HB4 := E4.hk HB3
  have z4 := E4.size
  have HE4 := Hid.ht HE3 E4
  clear E4
  go_wp2_with (refine zi rfl 197 _ _ rfl rfl (w.heap.size) rfl _ _ #[.int .i64 (1), .int .i64 (c), .int .i64 (0), .bool false] rfl (zu HB4) infoT rfl (by simp [Value.oneCell']) ?_; intro Z hy hf9; have HY := zh hy; have FY := zh hf9; clear hy hf9)
  have v0 := zg (zu HY) 0 _ rfl
  have v1 := zg (zu HY) 1 _ rfl
  have v2 := zg (zu HY) 2 _ rfl
  have v3 := zg (zu HY) 3 _ rfl
  exact bodyPost_ret (v := .agg #[.int .i64 (1), .int .i64 (c), .int .i64 (0), .bool false]) (by simp [results, Tryz.results173, go_sem, v0, v1, v2, v3]) rfl ⟨by rw [zu HT]; rfl, (zu FY).ext (zu HE4) (fun q hq => by omega)⟩
 obtain ⟨bg, hbg⟩ : ∃ g, g = zbS s := ⟨_, rfl⟩
 rw [← hbg] at hBg
 cases bg
 ·have HT := zh (show zdc s = ⟨(zak s).2, 1, zaa (zak s).1, false⟩ by unfold zdc; rw [zu HX, if_neg h27, if_neg h9, ← hc, if_neg h0, ← hbg]; rfl)
  clear hc hbg h27 h9
  obtain ⟨D, hD⟩ : ∃ D, D = zak s := ⟨_, rfl⟩
  rw [← hD] at HT hRn
  clear hD
  go_enter Tryz.func173, Tryz.ntmps173
  go_wp2_with fail
  refine ((zu hCt) _).mono ?_
  rintro e w3 ⟨rfl, E3⟩
  have HB3 := zh (E3.kept (zk w _))
  have z3 := E3.size
  have HE3 := zh (((Ext.refl w).alloc _).trans E3)
  clear E3 hCt
  go_wp2_with fail
  refine ((zu hBg) _ (zu HE3)).mono ?_
  rintro e w4 ⟨rfl, E4⟩
  have HB4 := E4.hk HB3
  have z4 := E4.size
  have HE4 := Hid.ht HE3 E4
  clear E4 hBg
  go_wp2_with fail
  refine ((zu hRn) _ (zu HE4)).mono ?_
  rintro e w5 ⟨rfl, E5⟩
  have HB5 := E5.hk HB4
  have z5 := E5.size
  have HE5 := Hid.ht HE4 E5
  clear E5 hRn
  go_wp2_with fail
  refine (zc3 _ _).mono ?_
  rintro e w6 ⟨rfl, rfl⟩
  go_wp2_with (refine zi rfl 197 _ _ rfl rfl (w.heap.size) rfl _ _ #[.int .i64 ((D.2 : Int)), .int .i64 (1), .int .i64 (zaa D.1), .bool false] rfl (zu HB5) infoT rfl (by simp [Value.oneCell']) ?_; intro Z hy hf9; have HY := zh hy; have FY := zh hf9; clear hy hf9)
  have v0 := zg (zu HY) 0 _ rfl
  have v1 := zg (zu HY) 1 _ rfl
  have v2 := zg (zu HY) 2 _ rfl
  have v3 := zg (zu HY) 3 _ rfl
  exact bodyPost_ret (v := .agg #[.int .i64 ((D.2 : Int)), .int .i64 (1), .int .i64 (zaa D.1), .bool false]) (by simp [results, Tryz.results173, go_sem, v0, v1, v2, v3]) rfl ⟨by rw [zu HT]; rfl, (zu FY).ext (zu HE5) (fun q hq => by omega)⟩
 ·have HT := zh (show zdc s = tk0 by unfold zdc; rw [zu HX, if_neg h27, if_neg h9, ← hc, if_neg h0, ← hbg]; rfl)
  clear hc hbg h27 h9 hRn
  go_enter Tryz.func173, Tryz.ntmps173
  go_wp2_with fail
  refine ((zu hCt) _).mono ?_
  rintro e w3 ⟨rfl, E3⟩
  have HB3 := zh (E3.kept (zk w _))
  have z3 := E3.size
  have HE3 := zh (((Ext.refl w).alloc _).trans E3)
  clear E3 hCt
  go_wp2_with fail
  refine ((zu hBg) _ (zu HE3)).mono ?_
  rintro e w4 ⟨rfl, E4⟩
  have HB4 := E4.hk HB3
  have z4 := E4.size
  have HE4 := Hid.ht HE3 E4
  clear E4 hBg
  go_wp2_with (refine zi rfl 197 _ _ rfl rfl (w.heap.size) rfl _ _ #[.int .i64 (0), .int .i64 (0), .int .i64 (0), .bool false] rfl (zu HB4) infoT rfl (by simp [Value.oneCell']) ?_; intro Z hy hf9; have HY := zh hy; have FY := zh hf9; clear hy hf9)
  have v0 := zg (zu HY) 0 _ rfl
  have v1 := zg (zu HY) 1 _ rfl
  have v2 := zg (zu HY) 2 _ rfl
  have v3 := zg (zu HY) 3 _ rfl
  exact bodyPost_ret (v := .agg #[.int .i64 (0), .int .i64 (0), .int .i64 (0), .bool false]) (by simp [results, Tryz.results173, go_sem, v0, v1, v2, v3]) rfl ⟨by rw [zu HT]; rfl, (zu FY).ext (zu HE4) (fun q hq => by omega)⟩
def PE : List Int := [27, 91, 50, 48, 49, 126]
def zfr : List Int → Option Nat
 | [] => none
 | x :: xs => if (x :: xs).take 6 = PE then some 0 else (zfr xs).map (· + 1)
def zdO (i : Nat) (s : List Int) : Int := match zfr s with | some k => (i : Int) + (k : Int) | none => -1
theorem zh5 {bs : List Int} {i : Nat} (hi : i < bs.length) (h : ¬ (bs.drop i).take 6 = PE) : zdO i (bs.drop i) = zdO (i + 1) (bs.drop (i + 1)) := by
 rw [List.drop_eq_getElem_cons hi] at h ⊢
 unfold zdO
 rw [zfr, if_neg h]
 cases zfr (bs.drop (i + 1)) with
 | none => rfl
 | some k => simp; omega
theorem zoR {bs : List Int} {i : Nat} (hi : i < bs.length) (h : (bs.drop i).take 6 = PE) : zdO i (bs.drop i) = (i : Int) := by
 rw [List.drop_eq_getElem_cons hi] at h ⊢
 unfold zdO
 rw [zfr, if_pos h]
 simp
set_option maxRecDepth 10000 in
set_option maxHeartbeats 4000000 in
theorem zoO (bs : List Int) (hb : zv bs) (v : Value) (i : Nat) (w : World) (hv : zx w .u8 v bs) (hi : i < bs.length) (hl : bs.length ≤ 4398046511104) :
  Calls Tryz.prog 188 #[v, .int .i64 i, .string { data := #[27, 91, 50, 48, 49, 126] }] w fun e w' => e = .returned (.bool (decide ((bs.drop i).take 6 = PE))) ∧ Ext w w' := by
 obtain ⟨ao, cap, rfl, hcap, hr⟩ := hv
 obtain ⟨b, off, rfl, hc⟩ := hr (by omega)
 have HC := zh hc
 clear hr hc
 have hw1 : IntKind.i64.wrap ((i : Int) + 6) = (i : Int) + 6 := by rw [IntKind.wrap_i64]; omega
 by_cases h6 : i + 6 ≤ bs.length
 ·have h6I : (i : Int) + 6 ≤ (bs.length : Int) := by omega
  have hcm : ¬ cap = i := by omega
  have hcJ : (i : Int) + 6 ≤ (cap : Int) := by omega
  have hcK : (i : Int) ≤ (i : Int) + 6 := by omega
  have HCUT : Hid (∀ (W : World), Ext w W → (convert 22 9 (.slice (some ⟨b, off + i, none⟩) 6 (cap - i))).run Tryz.prog W = .ok (.string (zo ((bs.drop i).take 6))) W) := zh (fun W he => zeq (P := Tryz.prog) W _ _ _ Tryz.underlying22 Tryz.underlying5 Tryz.underlying9 _ _ (ze9 (cap := cap - i) i 6 (fun j hj => he.cell ((zu HC) j hj)) (by omega) (by omega)))
  have hcw := (zu HCUT) _ (Ext.refl w)
  have key : ((zo ((bs.drop i).take 6)).toList == [27, 91, 50, 48, 49, 126]) = decide ((bs.drop i).take 6 = PE) := by
   by_cases h : (bs.drop i).take 6 = PE
   ·rw [h, zcT]; rfl
   ·have h9 := ziC (xs := (bs.drop i).take 6) (ys := PE) (fun n hn => hb n (List.mem_of_mem_drop (List.mem_of_mem_take hn))) (by intro n hn; simp [PE] at hn; omega) h
    rw [zcT PE] at h9
    rw [show ([27, 91, 50, 48, 49, 126] : List UInt8) = PE.map (fun n => UInt8.ofNat n.toNat) from rfl, h9]
    simp [h]
  have HK := zh key
  obtain ⟨S, hS⟩ : ∃ S, S = zo ((bs.drop i).take 6) := ⟨_, rfl⟩
  rw [← hS] at hcw HK
  clear hS HCUT key
  go_enter Tryz.func188, Tryz.ntmps188
  go_wp2
  exact bodyPost_ret (v := .bool (S.toList == [27, 91, 50, 48, 49, 126])) (by simp [results, Tryz.results188, go_sem]) rfl ⟨by rw [zu HK], Ext.refl _⟩
 ·have h6I : ¬ (i : Int) + 6 ≤ (bs.length : Int) := by omega
  have HF := zh (show decide ((bs.drop i).take 6 = PE) = false by
   simp only [decide_eq_false_iff_not]
   intro e
   have := congrArg List.length e
   simp [PE] at this
   omega)
  go_enter Tryz.func188, Tryz.ntmps188
  go_wp2
  exact bodyPost_ret (v := .bool false) (by simp [results, Tryz.results188, go_sem]) rfl ⟨by rw [zu HF], Ext.refl _⟩
set_option maxRecDepth 10000 in
set_option maxHeartbeats 4000000 in
theorem zna (bs : List Int) (hb : zv bs) (v : Value) (i : Nat) (w : World) (hv : zx w .u8 v bs) (hi : i < bs.length) (hl : bs.length ≤ 4398046511104) :
  Calls Tryz.prog 171 #[v, .int .i64 i] w fun e w' => e = .returned (.int .i64 (zdO i (bs.drop i))) ∧ Ext w w' := by
 have HI := zh (fun (j : Nat) W (hW : Ext w W) (hj : j < bs.length) => zoO bs hb v j W (hv.ext hW) hj hl)
 obtain ⟨ao, cap, rfl, hcap, hr⟩ := hv
 obtain ⟨b, off, rfl, hc⟩ := hr (by omega)
 have HC := zh hc
 clear hr hc
 go_enter Tryz.func171, Tryz.ntmps171
 go_wp2
 go_loopw [1] (fun i9 wr => ∃ m : Nat, m ≤ bs.length ∧ i9 = .int .i64 m ∧ Hid (zdO i (bs.drop i) = zdO m (bs.drop m)) ∧ Ext w wr) (fun i9 _ => bs.length - (intOf i9).toNat)
 case atStart => exact ⟨i, by omega, rfl, zh rfl, Ext.refl _⟩
 case round =>
  obtain ⟨m, hm, rfl, HQ, hext⟩ := hrel
  by_cases hlt : m < bs.length
  ·have hltI : (m : Int) < (bs.length : Int) := by omega
   have g1 := hext.cell ((zu HC) m hlt)
   have hI := zh ((zu HI) m wr hext hlt)
   obtain ⟨q, hq⟩ : ∃ q, q = decide ((bs.drop m).take 6 = PE) := ⟨_, rfl⟩
   rw [← hq] at hI
   by_cases h27 : at0 bs m = 27
   ·have h27b : (at0 bs m == 27) = true := by simpa using h27
    cases q
    ·have HQ2 : Hid (zdO i (bs.drop i) = zdO (m + 1) (bs.drop (m + 1))) := zh (by rw [zu HQ, zh5 hlt (of_decide_eq_false hq.symm)])
     clear HQ hq
     go_wp2_with fail
     refine (zu hI).mono ?_
     rintro e w2 ⟨rfl, E2⟩
     go_wp2
     go_roundw
     case rel => exact ⟨m + 1, by omega, by go_num, HQ2, hext.trans E2⟩
     case measure => simp [intOf]; omega
    ·have HQ2 : Hid (zdO i (bs.drop i) = (m : Int)) := zh (by rw [zu HQ, zoR hlt (of_decide_eq_true hq.symm)])
     clear HQ hq
     go_wp2_with fail
     refine (zu hI).mono ?_
     rintro e w2 ⟨rfl, E2⟩
     go_wp2
     exact bodyPost_ret (v := .int .i64 (m : Int)) (by simp [results, Tryz.results171, go_sem]) rfl ⟨by rw [zu HQ2], hext.trans E2⟩
   ·have h27b : (at0 bs m == 27) = false := by simpa using h27
    have hno : ¬ (bs.drop m).take 6 = PE := by
     intro e
     have h0 : at0 (bs.drop m) 0 = 27 := by
      cases hd : bs.drop m with
      | nil => rw [hd] at e; simp [PE] at e
      | cons x xs => rw [hd] at e; simp [PE] at e; simp [at0, e.1]
     rw [zaQ] at h0
     exact h27 (by simpa using h0)
    have HQ2 : Hid (zdO i (bs.drop i) = zdO (m + 1) (bs.drop (m + 1))) := zh (by rw [zu HQ, zh5 hlt hno])
    clear HQ hq hno hI
    go_wp2
    go_roundw
    case rel => exact ⟨m + 1, by omega, by go_num, HQ2, hext⟩
    case measure => simp [intOf]; omega
  ·obtain rfl : m = bs.length := by omega
   have HQ2 : Hid (zdO i (bs.drop i) = -1) := zh (by rw [zu HQ, List.drop_length]; rfl)
   clear HQ
   go_wp2
   exact bodyPost_ret (v := .int .i64 (-1)) (by simp [results, Tryz.results171, go_sem]) rfl ⟨by rw [zu HQ2], hext⟩
theorem zlO : ∀ s : List Int, zaI s ≤ s.length
 | [] => Nat.le_refl _
 | x :: xs => by
  rw [zaI]
  have := zlO xs
  split <;> simp <;> omega
theorem brkF_n (s : List Int) : (zcS s).n ≤ s.length := by
 unfold zcS
 split
 ·simp [tk0]
 ·split
  ·show zaI (s.drop 2) + 2 ≤ s.length; omega
  ·rename_i h0 _
   have h3 : zaI (s.drop 2) + 3 ≤ s.length := by omega
   generalize (if at0 s (2 + zaI (s.drop 2)) = 126 then zdY ((s.drop 2).take (zaI (s.drop 2))) else if zaI (s.drop 2) = 0 then zdX (at0 s (2 + zaI (s.drop 2))) else 23) = K
   by_cases h9 : K < 0
   ·rw [if_pos h9]; exact h3
   ·rw [if_neg h9]; exact h3
theorem escF_n (s : List Int) : (zcr s).n ≤ s.length := by
 unfold zcr
 split
 ·simp [tk0]
 ·have hb := brkF_n s
  repeat' split
  all_goals first | exact hb | (simp [tk0]; done) | (simp only []; omega)
theorem zn1 (s : List Int) (h : 0 < s.length) : (zdc s).n ≤ s.length := by
 unfold zdc
 have he := escF_n s
 have hd := ze0 s h
 repeat' split
 all_goals first | exact he | exact hd | (simp [tk0]; done) | (simp only []; omega)
theorem brkF_r (s : List Int) : (zcS s).r = 0 := by
 unfold zcS
 repeat' split
 all_goals rfl
theorem escF_r (s : List Int) : (zcr s).r = 0 := by
 unfold zcr
 have hb := brkF_r s
 repeat' split
 all_goals first | rfl | exact hb
theorem zoX (s : List Int) : 0 ≤ (zdc s).r ∧ (zdc s).r ≤ 1114111 := by
 unfold zdc
 have he := escF_r s
 have hd := zdq (zak s).1
 repeat' split
 ·rw [he]; omega
 ·simp
 ·simp
 ·simp [tk0]
 ·exact hd
theorem ziK : ∀ (s : List Int) (k : Nat), zfr s = some k → k + 6 ≤ s.length
 | [], k, h => by simp [zfr] at h
 | x :: xs, k, h => by
  rw [zfr] at h
  split at h
  ·rename_i h6
   have := congrArg List.length h6
   simp [PE] at this
   simp at h
   simp
   omega
  ·cases he : zfr xs with
   | none => rw [he] at h; simp at h
   | some m =>
    rw [he] at h
    simp at h
    have := ziK xs m he
    simp
    omega
def keyT (t : Tk) : List (List Int × Int) := if t.kind = 1 then [([t.r], 1)] else if 0 < t.kind then [([], t.kind)] else []
def zbB (s : List Int) (p : Bool) : Option (List (List Int × Int) × Nat × Bool) :=
 if s.length = 0 then none
 else if p = true then (match zfr s with | none => none | some k => some ([(zm (s.take k), 2)], k + 6, false))
 else if (zdc s).n = 0 then none else some (keyT (zdc s), (zdc s).n, (zdc s).p)
theorem ze5 {s : List Int} {p : Bool} {ks : List (List Int × Int)} {m : Nat} {q : Bool} (h : zbB s p = some (ks, m, q)) : 0 < m ∧ m ≤ s.length := by
 unfold zbB at h
 split at h
 ·simp at h
 ·rename_i h0
  split at h
  ·cases he : zfr s with
   | none => rw [he] at h; simp at h
   | some k =>
    rw [he] at h
    simp at h
    have := ziK s k he
    omega
  ·split at h
   ·simp at h
   ·simp at h
    have := zn1 s (by omega)
    omega
def rkF : Nat → List Int → Bool → List (List Int × Int) × Nat × Bool
 | 0, _, p => ([], 0, p)
 | f + 1, s, p => match zbB s p with
  | none => ([], 0, p)
  | some (ks, m, q) => (ks ++ (rkF f (s.drop m) q).1, m + (rkF f (s.drop m) q).2.1, (rkF f (s.drop m) q).2.2)
theorem znW : ∀ (f g : Nat) (s : List Int) (p : Bool), s.length ≤ f → s.length ≤ g → rkF f s p = rkF g s p := by
 intro f
 induction f with
 | zero =>
  intro g s p hf _
  have hs : zbB s p = none := by unfold zbB; rw [if_pos (by omega)]
  cases g with
  | zero => rfl
  | succ g => rw [rkF, rkF, hs]
 | succ f ih =>
  intro g s p hf hg
  cases hst : zbB s p with
  | none =>
   cases g with
   | zero => rw [rkF, rkF, hst]
   | succ g => rw [rkF, rkF, hst]
  | some x =>
   obtain ⟨ks, m, q⟩ := x
   have hm := ze5 hst
   cases g with
   | zero => omega
   | succ g =>
    rw [rkF, rkF, hst]
    have hl : (s.drop m).length = s.length - m := by simp
    show (ks ++ (rkF f (s.drop m) q).1, m + (rkF f (s.drop m) q).2.1, (rkF f (s.drop m) q).2.2) = (ks ++ (rkF g (s.drop m) q).1, m + (rkF g (s.drop m) q).2.1, (rkF g (s.drop m) q).2.2)
    rw [ih g (s.drop m) q (by omega) (by omega)]
def rk (s : List Int) (p : Bool) : List (List Int × Int) × Nat × Bool := rkF s.length s p
theorem ziD {s : List Int} {p : Bool} (h : zbB s p = none) : rk s p = ([], 0, p) := by
 unfold rk
 cases hl : s.length with
 | zero => rfl
 | succ n => rw [rkF, h]
theorem zmm {s : List Int} {p : Bool} {ks : List (List Int × Int)} {m : Nat} {q : Bool} (h : zbB s p = some (ks, m, q)) : rk s p = (ks ++ (rk (s.drop m) q).1, m + (rk (s.drop m) q).2.1, (rk (s.drop m) q).2.2) := by
 have hm := ze5 h
 unfold rk
 cases hl : s.length with
 | zero => omega
 | succ n =>
  rw [rkF, h]
  have hd : (s.drop m).length = s.length - m := by simp
  show (ks ++ (rkF n (s.drop m) q).1, m + (rkF n (s.drop m) q).2.1, (rkF n (s.drop m) q).2.2) = _
  rw [znW n (s.drop m).length (s.drop m) q (by omega) (Nat.le_refl _)]
theorem zbD {s t : List Int} {i : Nat} (h : i < s.length) : at0 (s ++ t) i = at0 s i := by unfold at0; rw [List.getElem?_append_left h]
theorem zid : ∀ (s t : List Int), zaI s < s.length → zaI (s ++ t) = zaI s
 | [], t, h => by simp at h
 | x :: xs, t, h => by
  rw [List.cons_append, zaI, zaI]
  rw [zaI] at h
  split
  ·rename_i h1
   rw [if_pos h1] at h
   rw [zid xs t (by simpa using h)]
  ·rfl
theorem zif (l : List Int) : zak l = if at0 l 0 < 128 then (at0 l 0, 1)
  else if nB (at0 l 0) = 2 ∧ zaz l 1 = true then (v2 l, 2)
  else if nB (at0 l 0) = 3 ∧ zaz l 1 = true ∧ zaz l 2 = true ∧ loB (at0 l 0) ≤ at0 l 1 ∧ at0 l 1 ≤ hiB (at0 l 0) then (v3 l, 3)
  else if nB (at0 l 0) = 4 ∧ zaz l 1 = true ∧ zaz l 2 = true ∧ zaz l 3 = true ∧ loB (at0 l 0) ≤ at0 l 1 ∧ at0 l 1 ≤ hiB (at0 l 0) then (v4 l, 4)
  else (65533, 1) := by
 have k : ∀ j, zaz l j = true → 128 ≤ at0 l j ∧ at0 l j ≤ 191 := fun j hj => by
  unfold zaz at hj
  simp at hj
  exact ⟨hj.1.2, hj.2⟩
 have k1 := k 1
 have k2 := k 2
 have k3 := k 3
 clear k
 unfold zak v2 v3 v4
 simp only [zfp]
 generalize at0 l 0 = a at *
 generalize at0 l 1 = b at *
 generalize at0 l 2 = c at *
 generalize at0 l 3 = d at *
 generalize zaz l 1 = C1 at *
 generalize zaz l 2 = C2 at *
 generalize zaz l 3 = C3 at *
 by_cases h0 : a < 128
 ·rw [if_pos h0, if_pos h0]
 rw [if_neg h0, if_neg h0]
 have hn := zdh a
 cases C1 with
 | false => simp
 | true =>
  have b1 := k1 rfl
  by_cases h2 : 192 ≤ a ∧ a < 224
  ·rw [if_pos ⟨h2, rfl⟩]
   by_cases h3 : a < 194
   ·rw [if_neg (by omega), if_neg (by omega), if_neg (by omega), if_neg (by omega)]
   ·rw [if_pos (by omega), if_pos ⟨by omega, rfl⟩]
  ·rw [if_neg (by omega), if_neg (show ¬ (nB a = 2 ∧ true = true) by omega)]
   cases C2 with
   | false => simp
   | true =>
    have c1 := k2 rfl
    by_cases h3 : 224 ≤ a ∧ a < 240
    ·rw [if_pos ⟨h3, rfl, rfl⟩]
     by_cases h4 : loB a ≤ b ∧ b ≤ hiB a
     ·rw [if_pos (by unfold loB hiB at h4; (repeat' split at h4) <;> omega), if_pos ⟨by omega, rfl, rfl, h4⟩]
     ·rw [if_neg (by unfold loB hiB at h4; (repeat' split at h4) <;> omega), if_neg (fun x => h4 ⟨x.2.2.2.1, x.2.2.2.2⟩), if_neg (by omega)]
    ·rw [if_neg (by omega), if_neg (show ¬ (nB a = 3 ∧ true = true ∧ true = true ∧ loB a ≤ b ∧ b ≤ hiB a) by omega)]
     cases C3 with
     | false => simp
     | true =>
      have d1 := k3 rfl
      by_cases h5 : 240 ≤ a ∧ a < 248
      ·rw [if_pos ⟨h5, rfl, rfl, rfl⟩]
       by_cases h4 : a < 245 ∧ loB a ≤ b ∧ b ≤ hiB a
       ·rw [if_pos (by unfold loB hiB at h4; (repeat' split at h4) <;> omega), if_pos ⟨by omega, rfl, rfl, rfl, h4.2⟩]
       ·rw [if_neg (by unfold loB hiB at h4; (repeat' split at h4) <;> omega), if_neg (fun x => h4 ⟨by omega, x.2.2.2.2.1, x.2.2.2.2.2⟩)]
      ·rw [if_neg (by omega), if_neg (by omega)]
theorem zoa (l : List Int) (j : Nat) : zaz l j = true ↔ j < l.length ∧ 128 ≤ at0 l j ∧ at0 l j ≤ 191 := by
 unfold zaz
 simp
 omega
theorem zmp (s : List Int) : zaP s = true ↔ nB (at0 s 0) ≤ s.length ∨ (1 < s.length ∧ (at0 s 1 < loB (at0 s 0) ∨ hiB (at0 s 0) < at0 s 1)) ∨ (2 < s.length ∧ (at0 s 2 < 128 ∨ 191 < at0 s 2)) := by
 unfold zaP
 simp only [Bool.or_eq_true, Bool.and_eq_true, decide_eq_true_eq]
 omega
theorem zmT (s t : List Int) (h0 : 0 < s.length) (h : zaP s = true) : zaP (s ++ t) = true := by
 rw [zmp] at h ⊢
 rw [zbD h0, List.length_append]
 rcases h with h | ⟨h1, h⟩ | ⟨h1, h⟩
 ·left; omega
 ·right; left; rw [zbD h1]; exact ⟨by omega, h⟩
 ·right; right; rw [zbD h1]; exact ⟨by omega, h⟩
theorem zmy (s t : List Int) (h0 : 0 < s.length) (h : zaP s = true) : zak (s ++ t) = zak s := by
 rw [zmp] at h
 have hn := zdh (at0 s 0)
 have e0 := zbD (t := t) h0
 rw [zif, zif]
 simp only [zoa, e0]
 by_cases hA : at0 s 0 < 128
 ·rw [if_pos hA, if_pos hA]
 rw [if_neg hA, if_neg hA]
 by_cases l1 : 1 < s.length
 ·have e1 := zbD (t := t) l1
  by_cases l2 : 2 < s.length
  ·have e2 := zbD (t := t) l2
   by_cases l3 : 3 < s.length
   ·have e3 := zbD (t := t) l3
    have m1 : (1 < (s ++ t).length) = (1 < s.length) := by rw [List.length_append]; simp; omega
    have m2 : (2 < (s ++ t).length) = (2 < s.length) := by rw [List.length_append]; simp; omega
    have m3 : (3 < (s ++ t).length) = (3 < s.length) := by rw [List.length_append]; simp; omega
    unfold v2 v3 v4
    simp only [e0, e1, e2, e3, m1, m2, m3]
   ·unfold v2 v3
    simp only [e0, e1, e2]
    have m1 : (1 < (s ++ t).length) = (1 < s.length) := by rw [List.length_append]; simp; omega
    have m2 : (2 < (s ++ t).length) = (2 < s.length) := by rw [List.length_append]; simp; omega
    simp only [m1, m2]
    rw [if_neg (c := nB (at0 s 0) = 4 ∧ _) (by rintro ⟨q1, q2, q3, q4, q5, q6⟩; omega), if_neg (c := nB (at0 s 0) = 4 ∧ _) (by rintro ⟨q1, q2, q3, q4, q5, q6⟩; omega)]
  ·unfold v2
   simp only [e0, e1]
   have m1 : (1 < (s ++ t).length) = (1 < s.length) := by rw [List.length_append]; simp; omega
   simp only [m1]
   rw [if_neg (c := nB (at0 s 0) = 4 ∧ _) (by rintro ⟨q1, q2, q3, q4, q5, q6⟩; omega), if_neg (c := nB (at0 s 0) = 4 ∧ _) (by rintro ⟨q1, q2, q3, q4, q5, q6⟩; omega), if_neg (c := nB (at0 s 0) = 3 ∧ _) (by rintro ⟨q1, q2, q3, q4, q5⟩; omega), if_neg (c := nB (at0 s 0) = 3 ∧ _) (by rintro ⟨q1, q2, q3, q4, q5⟩; omega)]
 ·rw [if_neg (c := nB (at0 s 0) = 4 ∧ _) (by rintro ⟨q1, q2, q3, q4, q5, q6⟩; omega), if_neg (c := nB (at0 s 0) = 4 ∧ _) (by rintro ⟨q1, q2, q3, q4, q5, q6⟩; omega), if_neg (c := nB (at0 s 0) = 3 ∧ _) (by rintro ⟨q1, q2, q3, q4, q5⟩; omega), if_neg (c := nB (at0 s 0) = 3 ∧ _) (by rintro ⟨q1, q2, q3, q4, q5⟩; omega), if_neg (c := nB (at0 s 0) = 2 ∧ _) (by rintro ⟨q1, q2⟩; omega), if_neg (c := nB (at0 s 0) = 2 ∧ _) (by rintro ⟨q1, q2⟩; omega)]
section
variable {α : Type} (st : List Int → Option (List α × Nat))
def gF : Nat → List Int → List α × Nat
 | 0, _ => ([], 0)
 | f + 1, s => match st s with
  | none => ([], 0)
  | some (ks, m) => (ks ++ (gF f (s.drop m)).1, m + (gF f (s.drop m)).2)
def gR (s : List Int) : List α × Nat := gF st s.length s
def gH (s : List Int) : List Int := s.drop (gR st s).2
variable {st}
theorem gF_fuel (hn : ∀ s ks m, st s = some (ks, m) → 0 < m ∧ m ≤ s.length) : ∀ (f g : Nat) (s : List Int), s.length ≤ f → s.length ≤ g → gF st f s = gF st g s := by
 intro f
 induction f with
 | zero =>
  intro g s hf _
  have hs : st s = none := by
   cases h : st s with
   | none => rfl
   | some x => have := hn s x.1 x.2 h; omega
  cases g with
  | zero => rfl
  | succ g => rw [gF, gF, hs]
 | succ f ih =>
  intro g s hf hg
  cases hst : st s with
  | none =>
   cases g with
   | zero => rw [gF, gF, hst]
   | succ g => rw [gF, gF, hst]
  | some x =>
   obtain ⟨ks, m⟩ := x
   have hm := hn s ks m hst
   cases g with
   | zero => omega
   | succ g =>
    rw [gF, gF, hst]
    have hl : (s.drop m).length = s.length - m := by simp
    show (ks ++ (gF st f (s.drop m)).1, m + (gF st f (s.drop m)).2) = (ks ++ (gF st g (s.drop m)).1, m + (gF st g (s.drop m)).2)
    rw [ih g (s.drop m) (by omega) (by omega)]
theorem zdB {s : List Int} (h : st s = none) : gR st s = ([], 0) := by
 unfold gR
 cases hl : s.length with
 | zero => rfl
 | succ n => rw [gF, h]
theorem zcv (hn : ∀ s ks m, st s = some (ks, m) → 0 < m ∧ m ≤ s.length) {s : List Int} {ks : List α} {m : Nat} (h : st s = some (ks, m)) : gR st s = (ks ++ (gR st (s.drop m)).1, m + (gR st (s.drop m)).2) := by
 have hm := hn s ks m h
 unfold gR
 cases hl : s.length with
 | zero => omega
 | succ n =>
  rw [gF, h]
  have hd : (s.drop m).length = s.length - m := by simp
  show (ks ++ (gF st n (s.drop m)).1, m + (gF st n (s.drop m)).2) = _
  rw [gF_fuel hn n (s.drop m).length (s.drop m) (by omega) (Nat.le_refl _)]
theorem zg4 (hn : ∀ s ks m, st s = some (ks, m) → 0 < m ∧ m ≤ s.length) : ∀ (f : Nat) (s : List Int), s.length ≤ f → (gR st s).2 ≤ s.length := by
 intro f
 induction f with
 | zero =>
  intro s hf
  cases hst : st s with
  | none => rw [zdB hst]; simp
  | some x => have := hn s x.1 x.2 hst; omega
 | succ f ih =>
  intro s hf
  cases hst : st s with
  | none => rw [zdB hst]; simp
  | some x =>
   obtain ⟨ks, m⟩ := x
   have hm := hn s ks m hst
   rw [zcv hn hst]
   have hd : (s.drop m).length = s.length - m := by simp
   have := ih (s.drop m) (by omega)
   simp only []
   omega
theorem zfJ (hn : ∀ s ks m, st s = some (ks, m) → 0 < m ∧ m ≤ s.length) (hmore : ∀ s t x, st s = some x → st (s ++ t) = some x) (t : List Int) : ∀ (f : Nat) (s : List Int), s.length ≤ f → gR st (s ++ t) = ((gR st s).1 ++ (gR st (gH st s ++ t)).1, (gR st s).2 + (gR st (gH st s ++ t)).2) := by
 intro f
 induction f with
 | zero =>
  intro s hs
  have : s = [] := List.eq_nil_of_length_eq_zero (by omega)
  subst this
  have h0 : gR st [] = ([], 0) := rfl
  unfold gH
  rw [h0]
  simp
 | succ f ih =>
  intro s hs
  cases hst : st s with
  | none => unfold gH; rw [zdB hst]; simp
  | some x =>
   obtain ⟨ks, m⟩ := x
   have hm := hn s ks m hst
   have e := ih (s.drop m) (by rw [List.length_drop]; omega)
   unfold gH at e ⊢
   rw [zcv hn hst, zcv hn (hmore s t _ hst), List.drop_append_of_le_length hm.2, e]
   simp only [List.drop_drop]
   refine Prod.ext ?_ ?_
   ·simp [List.append_assoc]
   ·simp; omega
theorem gR_rest (hn : ∀ s ks m, st s = some (ks, m) → 0 < m ∧ m ≤ s.length) : ∀ (f : Nat) (s : List Int), s.length ≤ f → st (gH st s) = none := by
 intro f
 induction f with
 | zero =>
  intro s hs
  have : s = [] := List.eq_nil_of_length_eq_zero (by omega)
  subst this
  cases h : st (gH st []) with
  | none => rfl
  | some x =>
   have := hn _ x.1 x.2 h
   have h2 : (gH st []).length = 0 := rfl
   omega
 | succ f ih =>
  intro s hs
  unfold gH
  cases hst : st s with
  | none => rw [zdB hst]; simpa using hst
  | some x =>
   obtain ⟨ks, m⟩ := x
   have hm := hn s ks m hst
   rw [zcv hn hst]
   have := ih (s.drop m) (by rw [List.length_drop]; omega)
   unfold gH at this
   simpa [List.drop_drop] using this
theorem gR_snoc (hn : ∀ s ks m, st s = some (ks, m) → 0 < m ∧ m ≤ s.length) (hmore : ∀ s t x, st s = some x → st (s ++ t) = some x) (t : List Int) (x : Int) : (gR st (t ++ [x])).1 = (gR st t).1 ++ (gR st (gH st t ++ [x])).1 ∧ gH st (t ++ [x]) = gH st (gH st t ++ [x]) := by
 have e := zfJ hn hmore [x] t.length t (Nat.le_refl _)
 have hl := zg4 hn t.length t (Nat.le_refl _)
 refine ⟨by rw [e], ?_⟩
 conv => lhs; unfold gH
 rw [e]
 show (t ++ [x]).drop ((gR st t).2 + _) = _
 rw [← List.drop_drop, List.drop_append_of_le_length hl]
 rfl
theorem zoG (hn : ∀ s ks m, st s = some (ks, m) → 0 < m ∧ m ≤ s.length) (s : List Int) : (gH st s).length + (gR st s).2 = s.length := by
 have := zg4 hn s.length s (Nat.le_refl _)
 unfold gH
 rw [List.length_drop]
 omega
end
abbrev zby : Type := Sum Int (List Int × Int)
abbrev zby.shw (r : Int) : zby := .inl r
abbrev zby.oby (bs : List Int) (last : Int) : zby := .inr (bs, last)
def zar (s : List Int) : Option (List zby × Nat) :=
  if s.length = 0 then none
  else if at0 s 0 = 27 then
    (if s.length ≤ 1 then none
     else if at0 s 1 ≠ 91 then some ([], 2)
     else if 30 < zaI (s.drop 2) then some ([], 33)
     else if s.length ≤ 2 + zaI (s.drop 2) then none
     else if 64 ≤ at0 s (2 + zaI (s.drop 2)) ∧ at0 s (2 + zaI (s.drop 2)) ≤ 126 then some ([.oby ((s.drop 2).take (zaI (s.drop 2))) (at0 s (2 + zaI (s.drop 2)))], zaI (s.drop 2) + 3)
     else some ([], zaI (s.drop 2) + 3))
  else if zbS s = true then none
  else some ([.shw (zak s).1], (zak s).2)
theorem zl3 : ∀ (s t : List Int), zaI s ≤ zaI (s ++ t)
 | [], t => by simp [zaI]
 | x :: xs, t => by
  rw [List.cons_append, zaI, zaI]
  have := zl3 xs t
  split <;> omega
theorem zaZ (s : List Int) (ks : List zby) (m : Nat) (h : zar s = some (ks, m)) : 0 < m ∧ m ≤ s.length := by
 unfold zar at h
 have hr := zlO (s.drop 2)
 rw [List.length_drop] at hr
 by_cases h0 : s.length = 0
 ·rw [if_pos h0] at h; simp at h
 ·rw [if_neg h0] at h
  by_cases h1 : at0 s 0 = 27
  ·rw [if_pos h1] at h
   by_cases h2 : s.length ≤ 1
   ·rw [if_pos h2] at h; simp at h
   ·rw [if_neg h2] at h
    by_cases h3 : at0 s 1 ≠ 91
    ·rw [if_pos h3] at h; simp at h; omega
    ·rw [if_neg h3] at h
     by_cases h4 : 30 < zaI (s.drop 2)
     ·rw [if_pos h4] at h; simp at h; omega
     ·rw [if_neg h4] at h
      by_cases h5 : s.length ≤ 2 + zaI (s.drop 2)
      ·rw [if_pos h5] at h; simp at h
      ·rw [if_neg h5] at h
       split at h <;> simp at h <;> omega
  ·rw [if_neg h1] at h
   by_cases h2 : zbS s = true
   ·rw [if_pos h2] at h; simp at h
   ·rw [if_neg h2] at h
    simp at h
    have := ze0 s (by omega)
    have := zb2 s
    omega
theorem zd0 (s t : List Int) (x : List zby × Nat) (h : zar s = some x) : zar (s ++ t) = some x := by
 unfold zar at h ⊢
 by_cases h0 : s.length = 0
 ·rw [if_pos h0] at h; simp at h
 ·rw [if_neg h0] at h
  rw [if_neg (by rw [List.length_append]; omega), zbD (by omega)]
  by_cases h1 : at0 s 0 = 27
  ·rw [if_pos h1] at h
   rw [if_pos h1]
   by_cases h2 : s.length ≤ 1
   ·rw [if_pos h2] at h; simp at h
   ·rw [if_neg h2] at h
    rw [if_neg (by rw [List.length_append]; omega), zbD (by omega)]
    by_cases h3 : at0 s 1 ≠ 91
    ·rw [if_pos h3] at h; rw [if_pos h3]; exact h
    ·rw [if_neg h3] at h
     rw [if_neg h3]
     have hd : (s ++ t).drop 2 = s.drop 2 ++ t := by rw [List.drop_append_of_le_length (by omega)]
     rw [hd]
     have hge := zl3 (s.drop 2) t
     by_cases h4 : 30 < zaI (s.drop 2)
     ·rw [if_pos h4] at h; rw [if_pos (by omega)]; exact h
     ·rw [if_neg h4] at h
      by_cases h5 : s.length ≤ 2 + zaI (s.drop 2)
      ·rw [if_pos h5] at h; simp at h
      ·rw [if_neg h5] at h
       have hn : zaI (s.drop 2 ++ t) = zaI (s.drop 2) := zid _ _ (by rw [List.length_drop]; omega)
       rw [hn, if_neg h4, if_neg (by rw [List.length_append]; omega), zbD (by omega), List.take_append_of_le_length (by rw [List.length_drop]; omega)]
       exact h
  ·rw [if_neg h1] at h
   rw [if_neg h1]
   by_cases h2 : zbS s = true
   ·rw [if_pos h2] at h; simp at h
   ·rw [if_neg h2] at h
    have hb : zbS s = false := by simpa using h2
    have hf : zaP s = true := by rw [zde s (by omega)] at hb; simpa using hb
    have hb2 : zbS (s ++ t) = false := by rw [zde _ (by rw [List.length_append]; omega), zmT s t (by omega) hf]; rfl
    rw [hb2, zmy s t (by omega) hf]
    simpa using h
abbrev fd (s : List Int) : List zby × Nat := gR zar s
abbrev fdH (s : List Int) : List Int := gH zar s
theorem zee : ∀ (ds t : List Int), (∀ d ∈ ds, 48 ≤ d ∧ d ≤ 63) → zaI (ds ++ t) = ds.length + zaI t
 | [], t, _ => by simp
 | d :: ds, t, h => by
  rw [List.cons_append, zaI, if_pos (h d (by simp)), zee ds t (fun x hx => h x (by simp [hx]))]
  simp
  omega
theorem brk_at2 (ds : List Int) (b : Int) : at0 (27 :: 91 :: (ds ++ [b])) (2 + ds.length) = b := by
 have : at0 (27 :: 91 :: (ds ++ [b])) (2 + ds.length) = at0 (ds ++ [b]) ds.length := by
  unfold at0
  rw [show 2 + ds.length = ds.length + 1 + 1 by omega]
  rfl
 rw [this]
 unfold at0
 rw [List.getElem?_append_right (Nat.le_refl _)]
 simp
section
variable {ds : List Int} {b : Int}
theorem znB (h : ∀ d ∈ ds, 48 ≤ d ∧ d ≤ 63) (h1 : ¬ (48 ≤ b ∧ b ≤ 63)) : zaI ((27 :: 91 :: (ds ++ [b])).drop 2) = ds.length := by
 show zaI (ds ++ [b]) = _
 rw [zee ds [b] h, zaI, if_neg h1]
 rfl
end
theorem zgn {s : List Int} (h : zar s = none) : fd s = ([], 0) ∧ fdH s = s := by
 have e := zdB h
 refine ⟨e, ?_⟩
 show s.drop (gR zar s).2 = s
 rw [e]
 rfl
theorem zg1 {s : List Int} {ks : List zby} (h : zar s = some (ks, s.length)) : (fd s).1 = ks ∧ fdH s = [] := by
 have e := zcv zaZ h
 have e0 : gR zar (s.drop s.length) = ([], 0) := by
  rw [List.drop_eq_nil_of_le (Nat.le_refl _)]
  rfl
 rw [e0] at e
 refine ⟨?_, ?_⟩
 ·show (gR zar s).1 = ks
  rw [e]
  simp
 ·show s.drop (gR zar s).2 = []
  rw [e]
  simp
theorem fd_27 : fd [27] = ([], 0) ∧ fdH [27] = [27] := zgn rfl
theorem fd_91 : fd [27, 91] = ([], 0) ∧ fdH [27, 91] = [27, 91] := zgn rfl
theorem zoh {b : Int} (h : b ≠ 91) : (fd [27, b]).1 = [] ∧ fdH [27, b] = [] := by
 refine zg1 (s := [27, b]) ?_
 unfold zar
 have e1 : at0 [27, b] 1 = b := rfl
 have e0 : at0 [27, b] 0 = 27 := rfl
 rw [e0, e1, if_neg (by simp), if_pos rfl, if_neg (by simp), if_pos h]
 rfl
section
variable {ds : List Int} {b : Int}
theorem zj7 (h : ∀ d ∈ ds, 48 ≤ d ∧ d ≤ 63) (h1 : 48 ≤ b ∧ b ≤ 63) (hl : ds.length < 30) : fd (27 :: 91 :: (ds ++ [b])) = ([], 0) ∧ fdH (27 :: 91 :: (ds ++ [b])) = 27 :: 91 :: (ds ++ [b]) := by
 refine zgn ?_
 have hn : zaI ((27 :: 91 :: (ds ++ [b])).drop 2) = ds.length + 1 := by
  show zaI (ds ++ [b]) = _
  rw [zee ds [b] h, zaI, if_pos h1]
  rfl
 unfold zar
 have e1 : at0 (27 :: 91 :: (ds ++ [b])) 1 = 91 := rfl
 have e0 : at0 (27 :: 91 :: (ds ++ [b])) 0 = 27 := rfl
 rw [e0, e1, hn, if_neg (by simp), if_pos rfl, if_neg (by simp), if_neg (by simp), if_neg (by omega), if_pos (by simp; omega)]
theorem zjO (h : ∀ d ∈ ds, 48 ≤ d ∧ d ≤ 63) (h1 : 48 ≤ b ∧ b ≤ 63) (hl : ds.length = 30) : (fd (27 :: 91 :: (ds ++ [b]))).1 = [] ∧ fdH (27 :: 91 :: (ds ++ [b])) = [] := by
 refine zg1 ?_
 have hn : zaI ((27 :: 91 :: (ds ++ [b])).drop 2) = ds.length + 1 := by
  show zaI (ds ++ [b]) = _
  rw [zee ds [b] h, zaI, if_pos h1]
  rfl
 unfold zar
 have e1 : at0 (27 :: 91 :: (ds ++ [b])) 1 = 91 := rfl
 have e0 : at0 (27 :: 91 :: (ds ++ [b])) 0 = 27 := rfl
 have el : (27 :: 91 :: (ds ++ [b])).length = 33 := by simp [hl]
 rw [e0, e1, hn, el, if_neg (by omega), if_pos rfl, if_neg (by omega), if_neg (by simp), if_pos (by omega)]
theorem zhh (h : ∀ d ∈ ds, 48 ≤ d ∧ d ≤ 63) (h1 : ¬ (48 ≤ b ∧ b ≤ 63)) (hl : ds.length ≤ 30) : (fd (27 :: 91 :: (ds ++ [b]))).1 = (if 64 ≤ b ∧ b ≤ 126 then [.oby ds b] else []) ∧ fdH (27 :: 91 :: (ds ++ [b])) = [] := by
 refine zg1 ?_
 have hn := znB h h1
 unfold zar
 have e1 : at0 (27 :: 91 :: (ds ++ [b])) 1 = 91 := rfl
 have e0 : at0 (27 :: 91 :: (ds ++ [b])) 0 = 27 := rfl
 have el : (27 :: 91 :: (ds ++ [b])).length = ds.length + 3 := by simp
 have et : ((27 :: 91 :: (ds ++ [b])).drop 2).take ds.length = ds := by show (ds ++ [b]).take ds.length = ds; simp
 rw [e0, e1, hn, el, brk_at2, et, if_neg (by omega), if_pos rfl, if_neg (by omega), if_neg (by simp), if_neg (by omega), if_neg (by omega)]
 by_cases hb : 64 ≤ b ∧ b ≤ 126
 ·rw [if_pos hb, if_pos hb]
 ·rw [if_neg hb, if_neg hb]
end
theorem zod {s : List Int} (h0 : 0 < s.length) (h27 : at0 s 0 ≠ 27) (hf : zaP s = false) : fd s = ([], 0) ∧ fdH s = s := by
 refine zgn ?_
 unfold zar
 rw [if_neg (by omega), if_neg h27, if_pos (by rw [zde s h0, hf]; rfl)]
theorem zlS {s : List Int} (h0 : 0 < s.length) (h27 : at0 s 0 ≠ 27) (hf : zaP s = true) : (fd s).1 = .shw (zak s).1 :: (fd (s.drop (zak s).2)).1 ∧ fdH s = fdH (s.drop (zak s).2) := by
 have hs : zar s = some ([.shw (zak s).1], (zak s).2) := by
  unfold zar
  rw [if_neg (by omega), if_neg h27, if_neg (by rw [zde s h0, hf]; simp)]
 have e := zcv zaZ hs
 refine ⟨?_, ?_⟩
 ·show (gR zar s).1 = _
  rw [e]
  rfl
 ·show s.drop (gR zar s).2 = (s.drop (zak s).2).drop (gR zar (s.drop (zak s).2)).2
  rw [e, List.drop_drop]
theorem zgs : ∀ (r : List Int), r.length ≤ zaI r → ∀ d ∈ r, 48 ≤ d ∧ d ≤ 63
 | [], _, d, hd => by simp at hd
 | x :: xs, h, d, hd => by
  rw [zaI] at h
  by_cases hx : 48 ≤ x ∧ x ≤ 63
  ·rw [if_pos hx] at h
   simp at h
   rcases List.mem_cons.1 hd with rfl | hd
   ·exact hx
   ·exact zgs xs h d hd
  ·rw [if_neg hx] at h
   simp at h
theorem zkM {h : List Int} (hs : zar h = none) : h = [] ∨ h = [27] ∨ (∃ ds, h = 27 :: 91 :: ds ∧ (∀ d ∈ ds, 48 ≤ d ∧ d ≤ 63) ∧ ds.length ≤ 30) ∨ (0 < h.length ∧ at0 h 0 ≠ 27 ∧ zaP h = false) := by
 unfold zar at hs
 by_cases h0 : h.length = 0
 ·exact .inl (List.eq_nil_of_length_eq_zero h0)
 ·rw [if_neg h0] at hs
  by_cases h1 : at0 h 0 = 27
  ·rw [if_pos h1] at hs
   match h, h1, hs with
   | [], _, _ => exact .inl rfl
   | [x], h1, _ => exact .inr (.inl (by rw [show x = 27 from h1]))
   | x :: y :: r, h1, hs =>
    have hx : x = 27 := h1
    subst hx
    have e1 : at0 (27 :: y :: r) 1 = y := rfl
    have ed : (27 :: y :: r).drop 2 = r := rfl
    rw [e1, ed, if_neg (by simp)] at hs
    by_cases h3 : y ≠ 91
    ·rw [if_pos h3] at hs; simp at hs
    ·rw [if_neg h3] at hs
     have hy : y = 91 := by omega
     subst hy
     by_cases h4 : 30 < zaI r
     ·rw [if_pos h4] at hs; simp at hs
     ·rw [if_neg h4] at hs
      by_cases h5 : (27 :: 91 :: r).length ≤ 2 + zaI r
      ·have hl : r.length ≤ zaI r := by simp at h5; omega
       exact .inr (.inr (.inl ⟨r, rfl, zgs r hl, by omega⟩))
      ·rw [if_neg h5] at hs
       split at hs <;> simp at hs
  ·rw [if_neg h1] at hs
   by_cases h2 : zbS h = true
   ·refine .inr (.inr (.inr ⟨by omega, h1, ?_⟩))
    have := zde h (by omega)
    rw [h2] at this
    cases hq : zaP h
    ·rfl
    ·rw [hq] at this; simp at this
   ·rw [if_neg h2] at hs
    simp at hs
end Go.Proofs.YtinfdhbnljnifaaGreatDoor
