import Derived.Test.YtinfdhbnljnifaaGreatDoorWhole
import Derived.Test.YtinfdhbnljnifaaGreatDoorEdU
import Derived.Test.YtinfdhbnljnifaaGreatDoorRd
import Derived.Test.YtinfdhbnljnifaaGreatDoorLineS2
import Derived.Deep.RegionHeld3
namespace Go.Proofs.YtinfdhbnljnifaaGreatDoor
open Go.RowKit
set_option linter.unusedSimpArgs false in
set_option maxRecDepth 10000 in
set_option maxHeartbeats 8000000 in
theorem zlp (a b c : ByteArray) (v : Value) (un : List (ByteArray × ByteArray)) (rv : Value) (rs : List Int) (w : World) (hv : zb3 w v un) (hn : un.length ≤ 50) (za : a.size ≤ 1048576) (zb : b.size ≤ 1048576) (hr : zx w .i32 rv rs) (iR : zdv rs) (h0 : 0 < rs.length ∧ rs.length ≤ 300) (na : (zm (baL a)).length ≤ 300) (hb : 300 < (zaL (zaB (zm (baL a) ++ rs))).length + (zm (baL b)).length) :
    Calls Tryz.prog 134 #[.agg #[.string a, .string b, .string c, v], rv] w fun e w' => LnO w' w.heap.size ⟨a, b, c, un, 2⟩ e ∧ Ext w w' := by
  have infoL : (Tryz.prog.info? 99).map (·.size) = some 4 := by kernel_rfl
  obtain ⟨ao, ca, rfl, _, _⟩ := id hv
  obtain ⟨ra, rc, rfl, _⟩ := id hr
  have HC := zh (fun W (E : Ext w W) => zaq a b c (.slice ao un.length ca) un.length (lnT un) (lnH un) W (zag.ext hv E) (by omega))
  obtain ⟨ic, hic, hc0, hc1, hc2⟩ := info_parts zgQ
  have HS := zh (fun l r W (E : Ext w W) => zaT a b c l r (.slice ao un.length ca) un.length (lnT un) (lnH un) W (zag.ext hv E) hn)
  rw [zb4] at HS
  have HSr := zh (fun W (E : Ext w W) => Src.ints (hr.ext E))
  obtain ⟨h0, h1⟩ := h0
  have hN : (zm (baL a) ++ rs).length ≤ 600 := by rw [List.length_append]; omega
  have fl6 : (zaL (zaB (zm (baL a) ++ rs))).length ≤ 2000 := by
    rw [zj6]
    have := zeg (zm (baL a) ++ rs) (zm (baL a) ++ rs).length
    have h2 := zeb (zm (baL a) ++ rs) (zm (baL a) ++ rs).length
    unfold zaB
    omega
  obtain ⟨X, hX⟩ : ∃ X, X = zo (zy (zaB (zm (baL a) ++ rs))) := ⟨_, rfl⟩
  have HK := zh (fun v W (hv : zx W .i32 v (zm (baL a) ++ rs)) => zbv v _ W hv (fun z hz => (List.mem_append.1 hz).elim (zdu _ z) (iR z)) (by omega))
  have HTx := zh (fun v W (hv : zaF W v (zaB (zm (baL a) ++ rs))) => zaf v _ W hv (zfA _ (by omega)) (fun j _ => zeU _ _ j))
  have HCt := zh (fun W => zcl (zy (zaB (zm (baL a) ++ rs))) (zen _ _) W (by rw [zaC]; have := ze1 (zaL (zaB (zm (baL a) ++ rs))); omega))
  rw [zeJ] at HCt
  rw [← hX] at HTx HCt
  have HCb := zh (fun W => zdD b W zb)
  obtain ⟨f1, hf1⟩ : ∃ n, (zaL (zaB (zm (baL a) ++ rs))).length = n := ⟨_, rfl⟩
  obtain ⟨f2, hf2⟩ : ∃ n, (zm (baL b)).length = n := ⟨_, rfl⟩
  have z2 : f2 ≤ 1048576 := by rw [← hf2]; have := zaJ (baL b); rw [zw] at this; omega
  rw [hf1] at HCt fl6 hb
  rw [hf2] at HCb hb
  have hw : IntKind.i64.wrap ((f1 : Int) + (f2 : Int)) = (f1 : Int) + (f2 : Int) := by rw [IntKind.wrap_i64]; omega
  have HXX := zh hX
  have lcl := zaJ (baL a)
  rw [zw] at lcl
  have HL : Hid (zm (baL a) = zm (baL a)) := zh rfl
  clear hv hX hf1 hf2
  obtain ⟨m, hm⟩ : ∃ m, rs.length = m := ⟨_, rfl⟩
  have HM := zh hm
  rw [hm] at h0 h1 ⊢
  have g1 : ¬ (m : Int) = 0 := by omega
  have g2 : ¬ m = 0 := by omega
  have g3 : ¬ (300 : Int) < (m : Int) := by omega
  clear hm
  obtain ⟨V, hV⟩ : ∃ V, V = (w.alloc (.cells #[.string a, .string b, .string c, .slice ao un.length ca] 99)).alloc (.cells zL4 99) := ⟨_, rfl⟩
  have E0 : Ext w V := by rw [hV]; exact ((Ext.refl w).alloc _).alloc _
  have HB0 : Hid (V.heap[w.heap.size]? = some (.cells #[.string a, .string b, .string c, .slice ao un.length ca] 99 (0, 0))) := zh (by rw [hV]; exact ((Ext.refl _).alloc _).kept (zk w _))
  have HB1 : Hid (V.heap[w.heap.size + 1]? = some (.cells zL4 99 (0, 0))) := zh (by rw [hV]; have h := zk (w.alloc (.cells #[.string a, .string b, .string c, .slice ao un.length ca] 99)) (.cells zL4 99); rw [show (w.alloc (.cells #[.string a, .string b, .string c, .slice ao un.length ca] 99)).heap.size = w.heap.size + 1 by simp] at h; exact h)
  have sz0 : w.heap.size + 1 < V.heap.size := zq (zu HB1)
  obtain ⟨v0, w0, hrun, i0, E1⟩ := zec (P := Tryz.prog) V _ _ _ Tryz.underlying9 Tryz.underlying22 Tryz.underlying5 (baL a) (zf a)
  rw [zat] at hrun
  have HCl := zh (zbn (baL a) (zf a) v0 w0 i0 (by rw [zw]; omega))
  have q0 := zg (zu HB0) 0 _ rfl
  rw [hV] at hrun q0
  replace HB0 := E1.hk HB0
  replace HB1 := E1.hk HB1
  have HE0 := zh (E0.trans E1)
  have z0 := E1.size
  have HBz0 := HB0
  have HBz1 := HB1
  have HEz := HE0
  clear hV E0 E1 i0 hr
  go_enter Tryz.func134, Tryz.ntmps134
  go_wp2_with fail
  refine (zu HCl).mono ?_
  rintro e w1 ⟨v1, rfl, o1, E1⟩
  obtain ⟨a1, c1, rfl⟩ := zbi o1
  replace HB0 := E1.hk HB0
  replace HB1 := E1.hk HB1
  replace HE0 := Hid.ht HE0 E1
  have z1 := E1.size
  have HO1 := zh o1
  have HX1 := zh E1
  clear HCl E1 o1 hrun q0
  go_wp2_with (at_builtin; go_loud (
     refine zd rfl _ _ 93 rfl w0.heap.size 21 ic (.int .i32 0) 1 4 Tryz.underlying93 hic hc0 hc1 hc2 rfl (by decide) (.slice a1 (zm (baL a)).length c1) _ _ rfl (zu HO1) _ _ _ rfl (by have := (zu HSr) w1 (zu HE0); rw [zu HM] at this; exact this) (by unfold maxLen; omega) (by omega) z1 ?_
     intro v3 w3 o3 G3 _
     have E3 : Ext w0 w3 := (by exact Ext.grown (w := w0) (W := w1) (zu HX1) G3 (fun b hb => ((zu HO1).lt b hb).1))
     have i3 : zx w3 .i32 v3 (zm (baL a) ++ rs) := (by
       have e2 : (zm (baL a)).length + m = (zm (baL a) ++ rs).length := (by rw [List.length_append, zu HM])
       rw [← List.map_append, e2] at o3
       exact zz o3)
     obtain ⟨a3, c3, rfl⟩ := zbi o3
     have HI3 := zh i3
     have HE3 := zh E3
     clear o3 G3 E3 i3))
  refine ((zu HK) _ w3 (zu HI3)).mono ?_
  rintro e w4 ⟨v4, rs4, rfl, o4, E4⟩
  have HT4 := zh ((zu HTx) _ w4 o4.cls)
  obtain ⟨a4, c4, rfl⟩ : ∃ x y, v4 = .slice x (zaB (zm (baL a) ++ rs)).length y := by
    obtain ⟨_, ao, cc, e, _⟩ := o4.cls
    exact ⟨ao, cc, e⟩
  replace HE3 := Hid.ht HE3 E4
  clear HK HI3 E4 o4 HTx
  go_wp2_with fail
  refine (zu HT4).mono ?_
  rintro e w5 ⟨rfl, E5⟩
  replace HE3 := Hid.ht HE3 E5
  replace HB0 := zh ((zu HE3).kept (zu HBz0))
  replace HB1 := zh ((zu HE3).kept (zu HBz1))
  replace HE0 := zh ((zu HEz).trans (zu HE3))
  have z5 := (zu HE3).size
  have q0 : w5.cell? ⟨w.heap.size, 0, none⟩ = some (.string a) ∧ w5.cell? ⟨w.heap.size, 1, none⟩ = some (.string b) ∧ w5.cell? ⟨w.heap.size, 2, none⟩ = some (.string c) ∧ w5.cell? ⟨w.heap.size, 3, none⟩ = some (.slice ao un.length ca) := ⟨zg (zu HB0) 0 _ rfl, zg (zu HB0) 1 _ rfl, zg (zu HB0) 2 _ rfl, zg (zu HB0) 3 _ rfl⟩
  clear HT4 E5 HO1 HSr HE3 HBz0 HBz1 HEz
  go_wp2_with fail
  refine wp_region_held_drew (S := fun W => W.cell? ⟨w.heap.size, 0, none⟩ = some (.string a) ∧ W.cell? ⟨w.heap.size, 1, none⟩ = some (.string b) ∧ W.cell? ⟨w.heap.size, 2, none⟩ = some (.string c) ∧ W.cell? ⟨w.heap.size, 3, none⟩ = some (.slice ao un.length ca)) (by kernel_rfl) q0 (fun hHeld => ?_)
  refine tk 0 ?_ rfl (by kernel_rfl) (fun _ _ _ h => h) (by rfl) ?_ (by assumption) ?_
  rotate_left
  · intro w' hSw; go_simp <;> with_reducible rfl
  simp only [Act.put, qA, qB, qC, qD, qE, qF]
  refine tk 2 ?_ rfl (by kernel_rfl) (fun _ _ _ h => h) (by rfl) ?_ (by assumption) ?_
  rotate_left
  · intro w' hSw; go_simp <;> with_reducible rfl
  simp only [Act.put, qA, qB, qC, qD, qE, qF]
  refine tk 3 ?_ rfl (by kernel_rfl) (fun _ _ _ h => h) (by rfl) ?_ (by assumption) ?_
  rotate_left
  · intro w' hSw; go_simp <;> with_reducible rfl
  simp only [Act.put, qA, qB, qC, qD, qE, qF]
  refine rdy 1 (by kernel_rfl) rfl (fun K hK => ?_)
  go_simp
  go_wp2_with (go_at_call 140; refine ((zu HCt) _).mono ?_; rintro e w6 ⟨rfl, E6⟩; have F6 : Ext w5 w6 := (by first | exact E6 | exact (Ext.refl _).drew.trans E6); have d0 := F6.kept (zu HB0); clear E6)
  refine hK.out _ _ ⟨zg d0 0 _ rfl, zg d0 1 _ rfl, zg d0 2 _ rfl, zg d0 3 _ rfl⟩ (fun hHeld => ?_)
  clear hK K
  refine rdy 4 (by kernel_rfl) rfl (fun K hK => ?_)
  go_simp
  go_wp2_with (go_at_call 140; refine ((zu HCb) _).mono ?_; rintro e w7 ⟨rfl, E7⟩; have F7 : Ext w5 w7 := (by first | exact F6.trans E7 | exact F6.drew.trans E7); have d1 := F7.kept (zu HB0); clear E7)
  refine hK.out _ _ ⟨zg d1 0 _ rfl, zg d1 1 _ rfl, zg d1 2 _ rfl, zg d1 3 _ rfl⟩ (fun hHeld => ?_)
  clear hK K
  refine tk 5 ?_ rfl (by kernel_rfl) (fun _ _ _ h => h) (by rfl) ?_ (by assumption) ?_
  rotate_left
  · intro w' hSw; go_simp <;> with_reducible rfl
  simp only [Act.put, qA, qB, qC, qD, qE, qF]
  refine tk 6 ?_ rfl (by kernel_rfl) (fun _ _ _ h => h) (by rfl) ?_ (by assumption) ?_
  rotate_left
  · intro w' hSw; go_simp <;> with_reducible rfl
  simp only [Act.put, qA, qB, qC, qD, qE, qF]
  refine wpAnyH_done (by kernel_rfl) ?_ _
  replace HB0 := zh d1
  replace HB1 := F7.hk HB1
  replace HE0 := Hid.ht HE0 F7
  have z7 := F7.size
  clear F6 F7 d0 d1 q0
  have hbI : (300 : Int) < (f1 : Int) + (f2 : Int) := by omega
  have HCc := zh ((zu HC) w7 (zu HE0))
  clear HC
  go_wp2_with (first
    | (refine zl rfl 99 _ rfl (w.heap.size) rfl _ _ _ _ (zu HB0) Tryz.underlying99 rfl infoL ?_))
  refine (zu HCc).mono ?_
  rintro e w5 ⟨ua, uc, rfl, HO, E5⟩
  have z5 := (zu HE0).size
  replace HB1 := E5.hk HB1
  replace HE0 := Hid.ht HE0 E5
  clear E5 HB0 HCc
  go_wp2_with (first
    | (refine zi rfl 99 _ _ rfl rfl (w.heap.size + 1) rfl _ _ _ rfl (zu HB1) infoL rfl (by simp [Value.oneCell']) ?_; intro Z hy hf9; have HY := zh hy; have FY := zh hf9; clear hy hf9))
  have v0 := zg (zu HY) 0 _ rfl
  have v1 := zg (zu HY) 1 _ rfl
  have v2 := zg (zu HY) 2 _ rfl
  have v3 := zg (zu HY) 3 _ rfl
  exact bodyPost_ret (v := .tuple #[.agg #[.string a, .string b, .string c, .slice ua un.length uc], .int .i64 2]) (by simp [results, Tryz.results134, go_sem, v0, v1, v2, v3]) rfl (⟨⟨_, rfl, ((zu HO).fr (zu FY) (fun g hg e9 => by have := ((zu HO).lt g hg).1; omega)).mono (by omega)⟩, (zu FY).ext (zu HE0) (fun q hq => by omega)⟩)
set_option linter.unusedSimpArgs false in
set_option maxRecDepth 10000 in
set_option maxHeartbeats 8000000 in
theorem zmC (a b c : ByteArray) (v : Value) (un : List (ByteArray × ByteArray)) (rv : Value) (rs : List Int) (w : World) (hv : zb3 w v un) (hn : un.length ≤ 50) (za : a.size ≤ 1048576) (zb : b.size ≤ 1048576) (hr : zx w .i32 rv rs) (iR : zdv rs) (h0 : 0 < rs.length ∧ rs.length ≤ 300) (na : (zm (baL a)).length ≤ 300) (hb : ¬ 300 < (zaL (zaB (zm (baL a) ++ rs))).length + (zm (baL b)).length) :
    Calls Tryz.prog 134 #[.agg #[.string a, .string b, .string c, v], rv] w fun e w' => LnO w' w.heap.size (zcp a b c un (zo (zy (zaB (zm (baL a) ++ rs)))) b) e ∧ Ext w w' := by
  have infoL : (Tryz.prog.info? 99).map (·.size) = some 4 := by kernel_rfl
  obtain ⟨ao, ca, rfl, _, _⟩ := id hv
  obtain ⟨ra, rc, rfl, _⟩ := id hr
  have HC := zh (fun W (E : Ext w W) => zaq a b c (.slice ao un.length ca) un.length (lnT un) (lnH un) W (zag.ext hv E) (by omega))
  obtain ⟨ic, hic, hc0, hc1, hc2⟩ := info_parts zgQ
  have HS := zh (fun l r W (E : Ext w W) => zaT a b c l r (.slice ao un.length ca) un.length (lnT un) (lnH un) W (zag.ext hv E) hn)
  rw [zb4] at HS
  have HSr := zh (fun W (E : Ext w W) => Src.ints (hr.ext E))
  obtain ⟨h0, h1⟩ := h0
  have hN : (zm (baL a) ++ rs).length ≤ 600 := by rw [List.length_append]; omega
  have fl6 : (zaL (zaB (zm (baL a) ++ rs))).length ≤ 2000 := by
    rw [zj6]
    have := zeg (zm (baL a) ++ rs) (zm (baL a) ++ rs).length
    have h2 := zeb (zm (baL a) ++ rs) (zm (baL a) ++ rs).length
    unfold zaB
    omega
  obtain ⟨X, hX⟩ : ∃ X, X = zo (zy (zaB (zm (baL a) ++ rs))) := ⟨_, rfl⟩
  have HK := zh (fun v W (hv : zx W .i32 v (zm (baL a) ++ rs)) => zbv v _ W hv (fun z hz => (List.mem_append.1 hz).elim (zdu _ z) (iR z)) (by omega))
  have HTx := zh (fun v W (hv : zaF W v (zaB (zm (baL a) ++ rs))) => zaf v _ W hv (zfA _ (by omega)) (fun j _ => zeU _ _ j))
  have HCt := zh (fun W => zcl (zy (zaB (zm (baL a) ++ rs))) (zen _ _) W (by rw [zaC]; have := ze1 (zaL (zaB (zm (baL a) ++ rs))); omega))
  rw [zeJ] at HCt
  rw [← hX] at HTx HCt
  have HCb := zh (fun W => zdD b W zb)
  obtain ⟨f1, hf1⟩ : ∃ n, (zaL (zaB (zm (baL a) ++ rs))).length = n := ⟨_, rfl⟩
  obtain ⟨f2, hf2⟩ : ∃ n, (zm (baL b)).length = n := ⟨_, rfl⟩
  have z2 : f2 ≤ 1048576 := by rw [← hf2]; have := zaJ (baL b); rw [zw] at this; omega
  rw [hf1] at HCt fl6 hb
  rw [hf2] at HCb hb
  have hw : IntKind.i64.wrap ((f1 : Int) + (f2 : Int)) = (f1 : Int) + (f2 : Int) := by rw [IntKind.wrap_i64]; omega
  have HXX := zh hX
  have lcl := zaJ (baL a)
  rw [zw] at lcl
  have HL : Hid (zm (baL a) = zm (baL a)) := zh rfl
  clear hv hX hf1 hf2
  obtain ⟨m, hm⟩ : ∃ m, rs.length = m := ⟨_, rfl⟩
  have HM := zh hm
  rw [hm] at h0 h1 ⊢
  have g1 : ¬ (m : Int) = 0 := by omega
  have g2 : ¬ m = 0 := by omega
  have g3 : ¬ (300 : Int) < (m : Int) := by omega
  clear hm
  obtain ⟨V, hV⟩ : ∃ V, V = (w.alloc (.cells #[.string a, .string b, .string c, .slice ao un.length ca] 99)).alloc (.cells zL4 99) := ⟨_, rfl⟩
  have E0 : Ext w V := by rw [hV]; exact ((Ext.refl w).alloc _).alloc _
  have HB0 : Hid (V.heap[w.heap.size]? = some (.cells #[.string a, .string b, .string c, .slice ao un.length ca] 99 (0, 0))) := zh (by rw [hV]; exact ((Ext.refl _).alloc _).kept (zk w _))
  have HB1 : Hid (V.heap[w.heap.size + 1]? = some (.cells zL4 99 (0, 0))) := zh (by rw [hV]; have h := zk (w.alloc (.cells #[.string a, .string b, .string c, .slice ao un.length ca] 99)) (.cells zL4 99); rw [show (w.alloc (.cells #[.string a, .string b, .string c, .slice ao un.length ca] 99)).heap.size = w.heap.size + 1 by simp] at h; exact h)
  have sz0 : w.heap.size + 1 < V.heap.size := zq (zu HB1)
  obtain ⟨v0, w0, hrun, i0, E1⟩ := zec (P := Tryz.prog) V _ _ _ Tryz.underlying9 Tryz.underlying22 Tryz.underlying5 (baL a) (zf a)
  rw [zat] at hrun
  have HCl := zh (zbn (baL a) (zf a) v0 w0 i0 (by rw [zw]; omega))
  have q0 := zg (zu HB0) 0 _ rfl
  rw [hV] at hrun q0
  replace HB0 := E1.hk HB0
  replace HB1 := E1.hk HB1
  have HE0 := zh (E0.trans E1)
  have z0 := E1.size
  have HBz0 := HB0
  have HBz1 := HB1
  have HEz := HE0
  clear hV E0 E1 i0 hr
  go_enter Tryz.func134, Tryz.ntmps134
  go_wp2_with fail
  refine (zu HCl).mono ?_
  rintro e w1 ⟨v1, rfl, o1, E1⟩
  obtain ⟨a1, c1, rfl⟩ := zbi o1
  replace HB0 := E1.hk HB0
  replace HB1 := E1.hk HB1
  replace HE0 := Hid.ht HE0 E1
  have z1 := E1.size
  have HO1 := zh o1
  have HX1 := zh E1
  clear HCl E1 o1 hrun q0
  go_wp2_with (at_builtin; go_loud (
     refine zd rfl _ _ 93 rfl w0.heap.size 21 ic (.int .i32 0) 1 4 Tryz.underlying93 hic hc0 hc1 hc2 rfl (by decide) (.slice a1 (zm (baL a)).length c1) _ _ rfl (zu HO1) _ _ _ rfl (by have := (zu HSr) w1 (zu HE0); rw [zu HM] at this; exact this) (by unfold maxLen; omega) (by omega) z1 ?_
     intro v3 w3 o3 G3 _
     have E3 : Ext w0 w3 := (by exact Ext.grown (w := w0) (W := w1) (zu HX1) G3 (fun b hb => ((zu HO1).lt b hb).1))
     have i3 : zx w3 .i32 v3 (zm (baL a) ++ rs) := (by
       have e2 : (zm (baL a)).length + m = (zm (baL a) ++ rs).length := (by rw [List.length_append, zu HM])
       rw [← List.map_append, e2] at o3
       exact zz o3)
     obtain ⟨a3, c3, rfl⟩ := zbi o3
     have HI3 := zh i3
     have HE3 := zh E3
     clear o3 G3 E3 i3))
  refine ((zu HK) _ w3 (zu HI3)).mono ?_
  rintro e w4 ⟨v4, rs4, rfl, o4, E4⟩
  have HT4 := zh ((zu HTx) _ w4 o4.cls)
  obtain ⟨a4, c4, rfl⟩ : ∃ x y, v4 = .slice x (zaB (zm (baL a) ++ rs)).length y := by
    obtain ⟨_, ao, cc, e, _⟩ := o4.cls
    exact ⟨ao, cc, e⟩
  replace HE3 := Hid.ht HE3 E4
  clear HK HI3 E4 o4 HTx
  go_wp2_with fail
  refine (zu HT4).mono ?_
  rintro e w5 ⟨rfl, E5⟩
  replace HE3 := Hid.ht HE3 E5
  replace HB0 := zh ((zu HE3).kept (zu HBz0))
  replace HB1 := zh ((zu HE3).kept (zu HBz1))
  replace HE0 := zh ((zu HEz).trans (zu HE3))
  have z5 := (zu HE3).size
  have q0 : w5.cell? ⟨w.heap.size, 0, none⟩ = some (.string a) ∧ w5.cell? ⟨w.heap.size, 1, none⟩ = some (.string b) ∧ w5.cell? ⟨w.heap.size, 2, none⟩ = some (.string c) ∧ w5.cell? ⟨w.heap.size, 3, none⟩ = some (.slice ao un.length ca) := ⟨zg (zu HB0) 0 _ rfl, zg (zu HB0) 1 _ rfl, zg (zu HB0) 2 _ rfl, zg (zu HB0) 3 _ rfl⟩
  clear HT4 E5 HO1 HSr HE3 HBz0 HBz1 HEz
  go_wp2_with fail
  refine wp_region_held_drew (S := fun W => W.cell? ⟨w.heap.size, 0, none⟩ = some (.string a) ∧ W.cell? ⟨w.heap.size, 1, none⟩ = some (.string b) ∧ W.cell? ⟨w.heap.size, 2, none⟩ = some (.string c) ∧ W.cell? ⟨w.heap.size, 3, none⟩ = some (.slice ao un.length ca)) (by kernel_rfl) q0 (fun hHeld => ?_)
  refine tk 0 ?_ rfl (by kernel_rfl) (fun _ _ _ h => h) (by rfl) ?_ (by assumption) ?_
  rotate_left
  · intro w' hSw; go_simp <;> with_reducible rfl
  simp only [Act.put, qA, qB, qC, qD, qE, qF]
  refine tk 2 ?_ rfl (by kernel_rfl) (fun _ _ _ h => h) (by rfl) ?_ (by assumption) ?_
  rotate_left
  · intro w' hSw; go_simp <;> with_reducible rfl
  simp only [Act.put, qA, qB, qC, qD, qE, qF]
  refine tk 3 ?_ rfl (by kernel_rfl) (fun _ _ _ h => h) (by rfl) ?_ (by assumption) ?_
  rotate_left
  · intro w' hSw; go_simp <;> with_reducible rfl
  simp only [Act.put, qA, qB, qC, qD, qE, qF]
  refine rdy 1 (by kernel_rfl) rfl (fun K hK => ?_)
  go_simp
  go_wp2_with (go_at_call 140; refine ((zu HCt) _).mono ?_; rintro e w6 ⟨rfl, E6⟩; have F6 : Ext w5 w6 := (by first | exact E6 | exact (Ext.refl _).drew.trans E6); have d0 := F6.kept (zu HB0); clear E6)
  refine hK.out _ _ ⟨zg d0 0 _ rfl, zg d0 1 _ rfl, zg d0 2 _ rfl, zg d0 3 _ rfl⟩ (fun hHeld => ?_)
  clear hK K
  refine rdy 4 (by kernel_rfl) rfl (fun K hK => ?_)
  go_simp
  go_wp2_with (go_at_call 140; refine ((zu HCb) _).mono ?_; rintro e w7 ⟨rfl, E7⟩; have F7 : Ext w5 w7 := (by first | exact F6.trans E7 | exact F6.drew.trans E7); have d1 := F7.kept (zu HB0); clear E7)
  refine hK.out _ _ ⟨zg d1 0 _ rfl, zg d1 1 _ rfl, zg d1 2 _ rfl, zg d1 3 _ rfl⟩ (fun hHeld => ?_)
  clear hK K
  refine tk 5 ?_ rfl (by kernel_rfl) (fun _ _ _ h => h) (by rfl) ?_ (by assumption) ?_
  rotate_left
  · intro w' hSw; go_simp <;> with_reducible rfl
  simp only [Act.put, qA, qB, qC, qD, qE, qF]
  refine tk 6 ?_ rfl (by kernel_rfl) (fun _ _ _ h => h) (by rfl) ?_ (by assumption) ?_
  rotate_left
  · intro w' hSw; go_simp <;> with_reducible rfl
  simp only [Act.put, qA, qB, qC, qD, qE, qF]
  refine wpAnyH_done (by kernel_rfl) ?_ _
  replace HB0 := zh d1
  replace HB1 := F7.hk HB1
  replace HE0 := Hid.ht HE0 F7
  have z7 := F7.size
  clear F6 F7 d0 d1 q0
  have hbI : ¬ (300 : Int) < (f1 : Int) + (f2 : Int) := by omega
  have c0 := zg (zu HB0) 1 _ rfl
  have HSc := zh ((zu HS) X b w7 (zu HE0))
  clear HS HC
  go_wp2_with (first
    | (refine zl rfl 99 _ rfl (w.heap.size) rfl _ _ _ _ (zu HB0) Tryz.underlying99 rfl infoL ?_))
  refine (zu HSc).mono ?_
  rintro e w8 ⟨v8, rfl, hO, E8⟩
  obtain ⟨ua, uc, rfl⟩ : ∃ ua uc, v8 = .slice ua (zav un (a, b)).length uc := by
    obtain ⟨x, y, e, _⟩ := hO.reads
    exact ⟨x, y, e⟩
  have HO := zh hO
  replace HB1 := E8.hk HB1
  replace HE0 := Hid.ht HE0 E8
  clear E8 HB0 HSc hO c0
  go_wp2_with (first
    | (refine zi rfl 99 _ _ rfl rfl (w.heap.size + 1) rfl _ _ _ rfl (zu HB1) infoL rfl (by simp [Value.oneCell']) ?_; intro Z hy hf9; have HY := zh hy; have FY := zh hf9; clear hy hf9))
  have v0 := zg (zu HY) 0 _ rfl
  have v1 := zg (zu HY) 1 _ rfl
  have v2 := zg (zu HY) 2 _ rfl
  have v3 := zg (zu HY) 3 _ rfl
  exact bodyPost_ret (v := .tuple #[.agg #[.string X, .string b, .string c, .slice ua (zav un (a, b)).length uc], .int .i64 1]) (by simp [results, Tryz.results134, go_sem, v0, v1, v2, v3]) rfl (by rw [← zu HXX]; exact ⟨⟨_, rfl, ((zu HO).fr (zu FY) (fun g hg e9 => by have := ((zu HO).lt g hg).1; omega)).mono (by omega)⟩, (zu FY).ext (zu HE0) (fun q hq => by omega)⟩)
set_option maxRecDepth 10000 in
set_option maxHeartbeats 4000000 in
theorem zg9 (a b c : ByteArray) (v : Value) (n : Nat) (tx hf : Nat → ByteArray) (s : ByteArray) (w : World) (hv : zag w v n (fun j => .string (tx j)) (fun j => .string (hf j))) (ha : a.size ≤ 1048576) (hb : b.size ≤ 1048576) (hc : c.size ≤ 1048576) (hn : n ≤ 1048576) (hx : ∀ j, j < n → (tx j).size ≤ 1048576 ∧ (hf j).size ≤ 1048576) (hs : s.size ≤ 1048576) (hP : ¬ (zcJ a b c n tx hf ∧ zc1 (baL s))) :
  Calls Tryz.prog 128 #[.agg #[.string a, .string b, .string c, v], .string s] w fun e w' => ∃ v', e = .returned (.tuple #[.agg #[.string a, .string b, .string c, v'], .bool false]) ∧ zaG w' w.heap.size 201 v' n (fun j => .string (tx j)) (fun j => .string (hf j)) ∧ Ext w w' := by
 obtain ⟨ok, hok⟩ := zmq (zcJ a b c n tx hf)
 obtain ⟨ot, hot⟩ := zmq (zc1 (baL s))
 have hno : ok = true → ot = false := fun h => zla hot (fun h2 => hP ⟨hok.1 h, h2⟩)
 have infoL : (Tryz.prog.info? 99).map (·.size) = some 4 := by kernel_rfl
 obtain ⟨ao, ca, rfl, _, _⟩ := id hv
 have H1 := zh (fun W (E : Ext w W) => zb5 a b c ao n ca tx hf W (hv.ext E) ha hb hc hx ok hok)
 have H2 := zh (fun W => zbL s W hs ot hot)
 have H3 := zh (fun W (E : Ext w W) => zaq a b c (.slice ao n ca) n tx hf W (hv.ext E) hn)
 have HV := zh hv
 clear hok hot hP hv hx
 obtain ⟨V, hV⟩ : ∃ V, V = (w.alloc (.cells #[.string a, .string b, .string c, .slice ao n ca] 99)).alloc (.cells zL4 99) := ⟨_, rfl⟩
 have E0 : Ext w V := by rw [hV]; exact ((Ext.refl w).alloc _).alloc _
 have HB0 : Hid (V.heap[w.heap.size]? = some (.cells #[.string a, .string b, .string c, .slice ao n ca] 99 (0, 0))) := zh (by rw [hV]; exact ((Ext.refl _).alloc _).kept (zk w _))
 have HB1 : Hid (V.heap[w.heap.size + 1]? = some (.cells zL4 99 (0, 0))) := zh (by rw [hV]; have h := zk (w.alloc (.cells #[.string a, .string b, .string c, .slice ao n ca] 99)) (.cells zL4 99); rw [show (w.alloc (.cells #[.string a, .string b, .string c, .slice ao n ca] 99)).heap.size = w.heap.size + 1 by simp] at h; exact h)
 have sz0 : w.heap.size + 1 < V.heap.size := by rw [hV]; simp
 have HW := zh hV
 clear hV
 go_enter Tryz.func128, Tryz.ntmps128
 go_wp2_with fail
 rw [← zu HW]
 clear HW
 refine ((zu H1) _ E0).mono ?_
 rintro e w1 ⟨rfl, E1⟩
 have E01 := E0.trans E1
 replace HB0 := E1.hk HB0
 replace HB1 := E1.hk HB1
 have z1 := E1.size
 clear E0 E1 H1
 cases ok
 ·have c0 := zg (zu HB0) 0 _ rfl
  have c1 := zg (zu HB0) 1 _ rfl
  have c2 := zg (zu HB0) 2 _ rfl
  have c3 := zg (zu HB0) 3 _ rfl
  go_wp2_with fail
  refine ((zu H3) _ E01).mono ?_
  rintro e w2 ⟨ua, uc, rfl, HO, E2⟩
  replace HB1 := E2.hk HB1
  have HE := zh (E01.trans E2)
  clear E2 c0 c1 c2 c3
  go_wp2_with (first
   | (refine zi rfl 99 _ _ rfl rfl (w.heap.size + 1) rfl _ _ _ rfl (zu HB1) infoL rfl (by simp [Value.oneCell']) ?_; intro Z hy hf9; have HY := zh hy; have FY := zh hf9; clear hy hf9))
  have v0 := zg (zu HY) 0 _ rfl
  have v1 := zg (zu HY) 1 _ rfl
  have v2 := zg (zu HY) 2 _ rfl
  have v3 := zg (zu HY) 3 _ rfl
  exact bodyPost_ret (v := .tuple #[.agg #[.string a, .string b, .string c, .slice ua n uc], .bool false]) (by simp [results, Tryz.results128, go_sem, v0, v1, v2, v3]) rfl ⟨_, rfl, ((zu HO).fr (zu FY) (fun g hg e9 => by have := ((zu HO).lt g hg).1; omega)).mono (by omega), (zu FY).ext (zu HE) (fun q hq => by omega)⟩
 ·obtain rfl := hno rfl
  go_wp2_with fail
  refine ((zu H2) _).mono ?_
  rintro e w3 ⟨rfl, E3⟩
  replace HB0 := E3.hk HB0
  replace HB1 := E3.hk HB1
  have E03 := E01.trans E3
  have z3 := E3.size
  clear E3 E01
  have c0 := zg (zu HB0) 0 _ rfl
  have c1 := zg (zu HB0) 1 _ rfl
  have c2 := zg (zu HB0) 2 _ rfl
  have c3 := zg (zu HB0) 3 _ rfl
  go_wp2_with fail
  refine ((zu H3) _ E03).mono ?_
  rintro e w2 ⟨ua, uc, rfl, HO, E2⟩
  replace HB1 := E2.hk HB1
  have HE := zh (E03.trans E2)
  clear E2 c0 c1 c2 c3
  go_wp2_with (first
   | (refine zi rfl 99 _ _ rfl rfl (w.heap.size + 1) rfl _ _ _ rfl (zu HB1) infoL rfl (by simp [Value.oneCell']) ?_; intro Z hy hf9; have HY := zh hy; have FY := zh hf9; clear hy hf9))
  have v0 := zg (zu HY) 0 _ rfl
  have v1 := zg (zu HY) 1 _ rfl
  have v2 := zg (zu HY) 2 _ rfl
  have v3 := zg (zu HY) 3 _ rfl
  exact bodyPost_ret (v := .tuple #[.agg #[.string a, .string b, .string c, .slice ua n uc], .bool false]) (by simp [results, Tryz.results128, go_sem, v0, v1, v2, v3]) rfl ⟨_, rfl, ((zu HO).fr (zu FY) (fun g hg e9 => by have := ((zu HO).lt g hg).1; omega)).mono (by omega), (zu FY).ext (zu HE) (fun q hq => by omega)⟩
set_option maxRecDepth 10000 in
set_option maxHeartbeats 4000000 in
theorem zga (a b c : ByteArray) (v : Value) (n : Nat) (tx hf : Nat → ByteArray) (s : ByteArray) (w : World) (hv : zag w v n (fun j => .string (tx j)) (fun j => .string (hf j))) (ha : a.size ≤ 1048576) (hb : b.size ≤ 1048576) (hc : c.size ≤ 1048576) (_hn : n ≤ 1048576) (hx : ∀ j, j < n → (tx j).size ≤ 1048576 ∧ (hf j).size ≤ 1048576) (hs : s.size ≤ 1048576) (hP : zcJ a b c n tx hf) (hS : zc1 (baL s)) :
  Calls Tryz.prog 128 #[.agg #[.string a, .string b, .string c, v], .string s] w fun e w' => ∃ v', e = .returned (.tuple #[.agg #[.string s, .string noT, .string c, v'], .bool true]) ∧ zaG w' w.heap.size 201 v' (zav (unL tx hf n) (a, b)).length (fun j => .string (lnT (zav (unL tx hf n) (a, b)) j)) (fun j => .string (lnH (zav (unL tx hf n) (a, b)) j)) ∧ Ext w w' := by
 obtain ⟨uz, huz⟩ : ∃ uz, uz = zav (unL tx hf n) (a, b) := ⟨_, rfl⟩
 have infoL : (Tryz.prog.info? 99).map (·.size) = some 4 := by kernel_rfl
 obtain ⟨ao, ca, rfl, _, _⟩ := id hv
 have H1 := zh (fun W (E : Ext w W) => zb5 a b c ao n ca tx hf W (hv.ext E) ha hb hc hx true (by simp [hP]))
 have H2 := zh (fun W => zbL s W hs true (by simp [hS]))
 have H3 := zh (fun W (E : Ext w W) => zaT a b c s noT (.slice ao n ca) n tx hf W (hv.ext E) hP.1)
 rw [← huz] at H3 ⊢
 clear hP hS hv hx huz
 obtain ⟨V, hV⟩ : ∃ V, V = (w.alloc (.cells #[.string a, .string b, .string c, .slice ao n ca] 99)).alloc (.cells zL4 99) := ⟨_, rfl⟩
 have E0 : Ext w V := by rw [hV]; exact ((Ext.refl w).alloc _).alloc _
 have HB0 : Hid (V.heap[w.heap.size]? = some (.cells #[.string a, .string b, .string c, .slice ao n ca] 99 (0, 0))) := zh (by rw [hV]; exact ((Ext.refl _).alloc _).kept (zk w _))
 have HB1 : Hid (V.heap[w.heap.size + 1]? = some (.cells zL4 99 (0, 0))) := zh (by rw [hV]; have h := zk (w.alloc (.cells #[.string a, .string b, .string c, .slice ao n ca] 99)) (.cells zL4 99); rw [show (w.alloc (.cells #[.string a, .string b, .string c, .slice ao n ca] 99)).heap.size = w.heap.size + 1 by simp] at h; exact h)
 have sz0 : w.heap.size + 1 < V.heap.size := by rw [hV]; simp
 have HW := zh hV
 clear hV
 go_enter Tryz.func128, Tryz.ntmps128
 go_wp2_with fail
 rw [← zu HW]
 clear HW
 refine ((zu H1) _ E0).mono ?_
 rintro e w1 ⟨rfl, E1⟩
 have E01 := E0.trans E1
 replace HB0 := E1.hk HB0
 replace HB1 := E1.hk HB1
 have z1 := E1.size
 clear E0 E1 H1
 go_wp2_with fail
 refine ((zu H2) _).mono ?_
 rintro e w3 ⟨rfl, E3⟩
 replace HB0 := E3.hk HB0
 replace HB1 := E3.hk HB1
 have E03 := E01.trans E3
 have z3 := E3.size
 clear E3 E01
 have c0 := zg (zu HB0) 0 _ rfl
 have c1 := zg (zu HB0) 1 _ rfl
 have c2 := zg (zu HB0) 2 _ rfl
 have c3 := zg (zu HB0) 3 _ rfl
 go_wp2_with fail
 refine ((zu H3) _ E03).mono ?_
 rintro e w2 ⟨v2, rfl, hO, E2⟩
 obtain ⟨ua, un, uc, rfl⟩ : ∃ ua un uc, v2 = .slice ua un uc := by
  obtain ⟨g1, g2, e1, _⟩ := hO.reads
  exact ⟨_, _, _, e1⟩
 have HO := zh hO
 clear hO
 replace HB1 := E2.hk HB1
 have HE := zh (E03.trans E2)
 clear E2 c0 c1 c2 c3
 go_wp2_with (first
  | (refine zi rfl 99 _ _ rfl rfl (w.heap.size + 1) rfl _ _ _ rfl (zu HB1) infoL rfl (by simp [Value.oneCell']) ?_; intro Z hy hf9; have HY := zh hy; have FY := zh hf9; clear hy hf9))
 have v0 := zg (zu HY) 0 _ rfl
 have v1 := zg (zu HY) 1 _ rfl
 have v2 := zg (zu HY) 2 _ rfl
 have v3 := zg (zu HY) 3 _ rfl
 exact bodyPost_ret (v := .tuple #[.agg #[.string s, .string noT, .string c, .slice ua un uc], .bool true]) (by simp [results, Tryz.results128, go_sem, v0, v1, v2, v3]) rfl ⟨_, rfl, ((zu HO).fr (zu FY) (fun g hg e9 => by have := ((zu HO).lt g hg).1; omega)).mono (by omega), (zu FY).ext (zu HE) (fun q hq => by omega)⟩
end Go.Proofs.YtinfdhbnljnifaaGreatDoor
