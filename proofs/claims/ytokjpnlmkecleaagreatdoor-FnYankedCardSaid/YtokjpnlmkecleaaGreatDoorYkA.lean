import Derived.Test.YtokjpnlmkecleaaGreatDoorYkP
import Derived.Test.YtokjpnlmkecleaaGreatDoorYkU
import Derived.Test.YtokjpnlmkecleaaGreatDoorLineS2
namespace Go.Proofs.YtokjpnlmkecleaaGreatDoor
open Go.RowKit
section
variable {a b c : ByteArray} {un : List (ByteArray × ByteArray)}
def Yk (a b : ByteArray) (o : LD) : Prop := 0 < o.c.size ∧ o.c.size + o.a.size + o.b.size = a.size + b.size ∧ (cleanL (baL o.a)).length + (cleanL (baL o.c)).length + (cleanL (baL o.b)).length ≤ 300 ∧ o.a ++ o.c ++ o.b = a ++ b
theorem noT_app (x : ByteArray) : noT ++ x = x ∧ x ++ noT = x := by
  constructor
  · apply WideShapes.bytes_inj; rw [ByteArray.data_append]; simp
  · apply WideShapes.bytes_inj; rw [ByteArray.data_append]; simp
theorem app_size (x y : ByteArray) : (x ++ y).size = x.size + y.size := ByteArray.size_append
theorem size_pos {x : ByteArray} (h : baL x ≠ []) : 0 < x.size := by
  have := baL_len x
  have h2 := List.length_pos_iff.2 h
  omega
theorem edA_yk {kd : Int} {rs : List Int} (hk : kd = 12 ∨ kd = 13 ∨ kd = 14) (h : (edA a b c un kd rs).d = 1) : Yk a b (edA a b c un kd rs) := by
  have hP := edA_did h
  rw [edA_yes hP] at h ⊢
  obtain ⟨_, ⟨sa, sb, nab⟩, _, _⟩ := id hP
  have n0 : cleanL (baL noT) = [] := rfl
  have z0 : noT.size = 0 := rfl
  rcases hk with rfl | rfl | rfl
  · have e : edF a b c un 12 rs = edKe a b c un := by simp [edF]
    rw [e] at h ⊢; unfold edKe at h ⊢
    split at h
    · simp at h
    · rename_i h0
      rw [if_neg h0]
      rw [cut_nil sb] at h0
      refine ⟨size_pos h0, by simp only [z0]; omega, by simp only [n0, List.length_nil]; omega, ?_⟩
      show a ++ b ++ noT = _
      rw [(noT_app _).2]
  · have e : edF a b c un 13 rs = edKs a b c un := by simp [edF]
    rw [e] at h ⊢; unfold edKs at h ⊢
    split at h
    · simp at h
    · rename_i h0
      rw [if_neg h0]
      rw [cut_nil sa] at h0
      refine ⟨size_pos h0, by simp only [z0]; omega, by simp only [n0, List.length_nil]; omega, ?_⟩
      show noT ++ a ++ b = _
      rw [(noT_app _).1]
  · have e : edF a b c un 14 rs = edKw a b c un := by simp [edF]
    rw [e] at h ⊢; unfold edKw at h ⊢
    split at h
    · simp at h
    · rename_i h0
      rw [if_neg h0]
      have hw := wdL_le (cutC (baL a))
      obtain ⟨n, hn⟩ : ∃ n, n = (cutC (baL a)).length - wdL (cutC (baL a)) := ⟨_, rfl⟩
      rw [← hn]
      have gA := cut_good (baL a)
      have tA : textC (cutC (baL a)) = baL a := sa
      have g1 : ∀ x ∈ (cutC (baL a)).take n, GoodC x := fun x hx => gA x (List.mem_of_mem_take hx)
      have g2 : ∀ x ∈ (cutC (baL a)).drop n, GoodC x := fun x hx => gA x (List.mem_of_mem_drop hx)
      have h1 : textC ((cutC (baL a)).take n) ++ textC ((cutC (baL a)).drop n) = baL a := by rw [← textC_app, List.take_append_drop, tA]
      have h2 : toBA (textC ((cutC (baL a)).take n)) ++ toBA (textC ((cutC (baL a)).drop n)) = a := by rw [toBA_app, h1, toBA_baL]
      have h3 := congrArg ByteArray.size h2
      rw [app_size] at h3
      have ht := flat_td (cutC (baL a)) n
      rw [settled_flat sa] at ht
      refine ⟨size_pos ?_, by simp only []; omega, ?_, ?_⟩
      · rw [baL_text]
        exact textC_pos g2 (fun e => by have := congrArg List.length e; rw [List.length_drop] at this; simp at this; omega)
      · simp only []
        rw [baL_text, baL_text, (goods_text g1).2, (goods_text g2).2]
        omega
      · simp only []
        rw [h2]
theorem edA_yank {kd : Int} {rs : List Int} (hk : kd = 12 ∨ kd = 13 ∨ kd = 14) (h : (edA a b c un kd rs).d = 1) (o : LD) (ho : o = edA a b c un kd rs) :
    (edA o.a o.b o.c o.un 15 []).d = 1 ∧ (edA o.a o.b o.c o.un 15 []).a ++ (edA o.a o.b o.c o.un 15 []).b = a ++ b := by
  obtain ⟨y1, _, y3, y4⟩ := edA_yk hk h
  have hP := edA_did h
  have hO : OkL o := by rw [ho]; exact (edA_okL kd rs).2 hP
  rw [← ho] at y1 y3 y4
  have e : edF o.a o.b o.c o.un 15 [] = edYank o.a o.b o.c o.un := by simp [edF]
  rw [edA_yes hO, e]
  unfold edYank
  rw [if_neg (by rw [baL_len]; omega), if_neg (by omega)]
  refine ⟨rfl, ?_⟩
  show toBA (baL o.a ++ baL o.c) ++ o.b = _
  rw [← toBA_app, toBA_baL, toBA_baL, y4]
end
end Go.Proofs.YtokjpnlmkecleaaGreatDoor

namespace Go.Proofs.YtokjpnlmkecleaaGreatDoor
open Go.RowKit
set_option linter.unusedSimpArgs false in
set_option maxRecDepth 10000 in
set_option maxHeartbeats 4000000 in
theorem fnYanked_walk (v : Value) (code : List Int) (w : World) (hv : IntsAt w .u8 v code) (hB : Bytes code) (hT : Tabs3 w) :
    Calls Tryz.prog 3 #[v] w fun e w' => e = .returned (.bool true) ∧ Below w.heap.size w w' := by
  have HD := hide (fun (hl : code.length ≤ 1048576) => DrawEdit_any v code w hv hB hl)
  have HT := hide hT
  obtain ⟨va, vc, rfl, _⟩ := id hv
  clear hv hT
  by_cases hl : code.length ≤ 1048576
  · have hl2 : ¬ ((1048576 : Int) < (code.length : Int)) := by omega
    go_enter Tryz.func3, Tryz.ntmps3
    go_wp2_with fail
    refine ((unhide HD) hl).mono ?_
    rintro e w1 ⟨⟨a, b, c, un, ua, uc, kd, ra, rc, rs, rfl, hS, hU, hR, hI, hr⟩, E1⟩
    have HS := hide hS
    obtain ⟨s1, s2, s3, s4, s5⟩ := id hS
    obtain ⟨V, hV⟩ : ∃ V, V = (w1.alloc (.cells #[.string a, .string b, .string c, .slice ua un.length uc] 25)).alloc (.cells #[.int .i64 kd, .slice ra rs.length rc] 28) := ⟨_, rfl⟩
    have EV : Ext w1 V := by rw [hV]; exact ((Ext.refl w1).alloc _).alloc _
    have HBL : Hid (V.heap[w1.heap.size]? = some (.cells #[.string a, .string b, .string c, .slice ua un.length uc] 25 (0, 0))) := hide (by rw [hV]; exact ((Ext.refl _).alloc _).kept (new_block w1 _))
    have HV := hide hV
    have HUV := hide (Row2At.ext hU EV)
    have HEV := hide (E1.trans EV)
    obtain ⟨ok, hok⟩ := ex_bool (LineP a b c un.length (lnT un) (lnH un))
    have HLS := hide (specLineOk_all a b c ua un.length uc (lnT un) (lnH un) V (unhide HUV) (by omega) (by omega) (by omega) hS.each ok hok)
    have nilA : ∀ W : World, IntsAt W .i32 (.slice none 0 0) [] := fun W => ⟨none, 0, rfl, Nat.le_refl _, fun h => by simp at h⟩
    have HSE := hide (fun (k : Int) W (hW : Ext V W) => specEdit_all a b c (.slice ua un.length uc) un.length (lnT un) (lnH un) k (.slice none 0 0) [] W (Row2At.ext (unhide HUV) hW) (by omega) (by omega) (by omega) (by omega) hS.each (nilA W) (fun n hn => by simp at hn))
    have HIE := hide (fun (k : Int) W (hW : Ext V W) => implEdit_all a b c (.slice ua un.length uc) un.length (lnT un) (lnH un) k (.slice none 0 0) [] W (Row2At.ext (unhide HUV) hW) (by omega) (by omega) (by omega) (by omega) hS.each ((unhide HT).ext ((unhide HEV).trans hW)) (nilA W) (fun n hn => by simp at hn) (by simp))
    rw [unL_ln] at HSE HIE
    have HNil := hide nilA
    clear hU hR hI hr hS s5 HD E1 EV hV nilA
    go_wp2_with fail
    rw [← unhide HV]
    clear HV
    refine (unhide HLS).mono ?_
    rintro e w2 ⟨rfl, E2⟩
    have HE2 := hide E2
    have l0 := cells_of (E2.kept (unhide HBL)) 0 _ rfl
    have l1 := cells_of (E2.kept (unhide HBL)) 1 _ rfl
    have l2 := cells_of (E2.kept (unhide HBL)) 2 _ rfl
    have l3 := cells_of (E2.kept (unhide HBL)) 3 _ rfl
    clear HLS E2
    by_cases hP : LineP a b c un.length (lnT un) (lnH un)
    · obtain rfl : ok = true := hok.2 hP
      clear hok
      go_wp2
      go_loopw [7] (fun i wr => ∃ k : Nat, k ≤ 3 ∧ i = .int .i64 k ∧ Hid (Ext V wr)) (fun i _ => 3 - (intOf i).toNat)
      case atStart => exact ⟨0, by omega, rfl, HE2⟩
      case round =>
        obtain ⟨j, hj, rfl, HW⟩ := hrel
        clear l0 l1 l2 l3 HE2
        rename World => wr
        by_cases hlt : j < 3
        · have hjI : (j : Int) < 3 := by omega
          have hk3 : (12 + (j : Int)) = 12 ∨ (12 + (j : Int)) = 13 ∨ (12 + (j : Int)) = 14 := by omega
          obtain ⟨kk, hkk⟩ : ∃ kk, kk = 12 + (j : Int) := ⟨_, rfl⟩
          obtain ⟨o, ho⟩ : ∃ o, o = edA a b c un kk [] := ⟨_, rfl⟩
          have hSE := (unhide HSE) kk
          have hIE := (unhide HIE) kk
          rw [← ho] at hSE hIE
          have hw0 : IntKind.i64.wrap (12 + (j : Int)) = kk := by rw [hkk, IntKind.wrap_i64]; omega
          rw [← hkk] at hk3
          have HSk := hide hSE
          have HIk := hide hIE
          have kL := fun (p : Obj) => ((unhide HW).alloc p).kept (unhide HBL)
          have l0 := fun p => cells_of (kL p) 0 _ rfl
          have l1 := fun p => cells_of (kL p) 1 _ rfl
          have l2 := fun p => cells_of (kL p) 2 _ rfl
          have l3 := fun p => cells_of (kL p) 3 _ rfl
          have HKk := hide hkk
          have HHo := hide ho
          clear kL hSE hIE hkk ho
          go_wp2_with fail
          have bK := new_block wr (.cells #[.int .i64 kk, .slice none 0 0] 28)
          refine ((unhide HSk) _ ((unhide HW).alloc _)).mono ?_
          rintro e w3 ⟨⟨v3, rfl, o3⟩, F3⟩
          obtain ⟨ta, tc, rfl, _⟩ := o3.reads
          have HW3 := hide (((unhide HW).alloc _).trans F3)
          have kK := fun (p : Obj) => ((Ext.refl w3).alloc p).kept (F3.kept bK)
          have kL := fun (p : Obj) => ((unhide HW3).alloc p).kept (unhide HBL)
          replace l0 := fun p => cells_of (kL p) 0 _ rfl
          replace l1 := fun p => cells_of (kL p) 1 _ rfl
          replace l2 := fun p => cells_of (kL p) 2 _ rfl
          replace l3 := fun p => cells_of (kL p) 3 _ rfl
          have k0 := fun p => cells_of (kK p) 0 _ rfl
          have k1 := fun p => cells_of (kK p) 1 _ rfl
          clear kL kK bK o3 F3 HSk
          go_wp2_with fail
          refine ((unhide HIk) _ ((unhide HW3).alloc _)).mono ?_
          rintro e w4 ⟨⟨v4, rfl, o4⟩, F4⟩
          obtain ⟨na, nc, rfl, _⟩ := id o4.reads
          have HO4 := hide o4.reads
          have HW4 := hide (((unhide HW3).alloc _).trans F4)
          have kL := fun (p : Obj) => ((unhide HW4).alloc p).kept (unhide HBL)
          replace l0 := fun p => cells_of (kL p) 0 _ rfl
          replace l1 := fun p => cells_of (kL p) 1 _ rfl
          clear kL l2 l3 k0 k1 o4 F4 HIk HW3
          by_cases hd : o.d = 1
          · have ho := unhide HHo
            have hd2 : (edA a b c un kk []).d = 1 := by rw [← ho]; exact hd
            have hY := edA_yk hk3 hd2
            rw [← ho] at hY
            obtain ⟨y1, y2, _, _⟩ := hY
            obtain ⟨z1, z2⟩ := edA_yank hk3 hd2 o ho
            have HSo : Hid (Sm2 o.a o.b o.c o.un) := hide (by rw [ho]; exact edA_sm2 (unhide HS) kk [])
            obtain ⟨t1, t2, t3, t4, _⟩ := id (unhide HSo)
            have HIY := hide (fun W (hR : Row2At W (.slice na o.un.length nc) o.un.length (fun j => .string (lnT o.un j)) (fun j => .string (lnH o.un j))) (hW : Ext V W) => implEdit_all o.a o.b o.c _ o.un.length (lnT o.un) (lnH o.un) 15 (.slice none 0 0) [] W hR (by omega) (by omega) (by omega) (by omega) (unhide HSo).each ((unhide HT).ext ((unhide HEV).trans hW)) ((unhide HNil) W) (fun n hn => by simp at hn) (by simp))
            rw [unL_ln] at HIY
            obtain ⟨q, hq⟩ : ∃ q, q = edA o.a o.b o.c o.un 15 [] := ⟨_, rfl⟩
            rw [← hq] at HIY z1 z2
            have c0 : ¬ o.c.toList = [] := fun e => by
              rw [toList_data] at e
              have e1 : o.c.data.size = 0 := by rw [← Array.length_toList, e]; rfl
              have e2 : o.c.size = o.c.data.size := rfl
              omega
            have c0b : o.c.toList.isEmpty = false := by rw [List.isEmpty_eq_false_iff]; exact c0
            have c1 : IntKind.i64.wrap ((o.c.size : Int) + (o.a.size : Int)) = (o.c.size : Int) + (o.a.size : Int) := by rw [IntKind.wrap_i64]; omega
            have c2 : IntKind.i64.wrap ((o.c.size : Int) + (o.a.size : Int) + (o.b.size : Int)) = (a.size : Int) + (b.size : Int) := by rw [IntKind.wrap_i64]; omega
            have c3 : IntKind.i64.wrap ((a.size : Int) + (b.size : Int)) = (a.size : Int) + (b.size : Int) := by rw [IntKind.wrap_i64]; omega
            have j1 : ((q.a ++ q.b).toList == (a ++ b).toList) = true := by rw [z2]; simp
            have j2 : ((q.a ++ q.b).toList != (a ++ b).toList) = false := by rw [z2]; simp
            have j4 : (q.a ++ q.b).toList = (a ++ b).toList := by rw [z2]
            have zq : ¬ 9223372036854775807 < q.a.size + q.b.size := by have h9 := congrArg ByteArray.size z2; rw [app_size, app_size] at h9; omega
            have HDd := hide hd
            clear hd2 y1 y2 t1 t2 t3 t4 hq ho
            go_wp2_with fail
            refine ((unhide HIY) _ (Row2At.ext (unhide HO4) ((Ext.refl w4).alloc _)) ((unhide HW4).alloc _)).mono ?_
            rintro e w5 ⟨⟨v5, rfl, o5⟩, F5⟩
            obtain ⟨xa, xc, rfl, _⟩ := id o5.reads
            have HW5 := hide (((unhide HW4).alloc _).trans F5)
            have kL := fun (p : Obj) => ((unhide HW5).alloc p).kept (unhide HBL)
            replace l0 := fun p => cells_of (kL p) 0 _ rfl
            replace l1 := fun p => cells_of (kL p) 1 _ rfl
            clear kL o5 F5 HIY
            go_wp2
            go_roundw
            case rel => exact ⟨j + 1, by omega, by go_num, hide ((unhide HW5).alloc _)⟩
            case measure => simp [intOf]; omega
          · go_wp2
            go_roundw
            case rel => exact ⟨j + 1, by omega, by go_num, hide ((unhide HW4).alloc _)⟩
            case measure => simp [intOf]; omega
        · have hjI : ¬ (j : Int) < 3 := by omega
          go_wp2
          exact bodyPost_ret (v := .bool true) (by simp [results, Tryz.results3, go_sem]) rfl ⟨rfl, ((unhide HEV).trans (unhide HW)).below⟩
    · obtain rfl : ok = false := not_ok hok hP
      have hIE := (unhide HIE) 12
      rw [edA_not hP] at hIE
      have HIk := hide hIE
      clear hok hIE
      go_wp2_with fail
      refine ((unhide HIk) _ (unhide HE2)).mono ?_
      rintro e w4 ⟨⟨v4, rfl, o4⟩, F4⟩
      obtain ⟨na, nc, rfl, _⟩ := id o4.reads
      have HW4 := hide (((unhide HEV).trans (unhide HE2)).trans F4)
      clear o4 F4
      go_wp2
      exact bodyPost_ret (v := .bool true) (by simp [results, Tryz.results3, go_sem]) rfl ⟨rfl, ((unhide HW4).alloc _).below⟩
  · have hl2 : ((1048576 : Int) < (code.length : Int)) := by omega
    go_enter Tryz.func3, Tryz.ntmps3
    go_wp2
    exact bodyPost_ret (v := .bool true) (by simp [results, Tryz.results3, go_sem]) rfl ⟨rfl, (Ext.refl _).below⟩
end Go.Proofs.YtokjpnlmkecleaaGreatDoor
