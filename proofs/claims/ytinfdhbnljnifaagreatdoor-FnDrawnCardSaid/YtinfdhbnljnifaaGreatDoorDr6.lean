import Derived.Test.YtinfdhbnljnifaaGreatDoorDrK
import Derived.Test.YtinfdhbnljnifaaGreatDoorEdEZ
import Derived.Test.YtinfdhbnljnifaaGreatDoorSetS
import Derived.Deep.DeepCutAuto
namespace Go.Proofs.YtinfdhbnljnifaaGreatDoor
open Go.RowKit
def zdo (w : World) (B base : Nat) (a b c : ByteArray) (un : List (ByteArray × ByteArray)) : Prop :=
 ∃ (ua : Option Addr) (uc : Nat), w.heap[B]? = some (.cells #[.string a, .string b, .string c, .slice ua un.length uc] 99 (0, 0)) ∧ zaG w base 201 (.slice ua un.length uc) un.length (fun j => .string (lnT un j)) (fun j => .string (lnH un j))
def LnDr (base : Nat) (w : World) (e : Ending) : Prop :=
 ∃ (a b c : ByteArray) (un : List (ByteArray × ByteArray)) (v : Value), e = .returned (.agg #[.string a, .string b, .string c, v]) ∧ Sml a b c un ∧ zaG w base 201 v un.length (fun j => .string (lnT un j)) (fun j => .string (lnH un j))
theorem zdo.ext {w w' : World} {B base : Nat} {a b c : ByteArray} {un : List (ByteArray × ByteArray)} (h : zdo w B base a b c un) (E : Ext w w') : zdo w' B base a b c un := by
 obtain ⟨ua, uc, h1, h2⟩ := h
 exact ⟨ua, uc, E.kept h1, h2.ext E⟩
theorem zdo.fr {S : Nat → Prop} {w w' : World} {B base : Nat} {a b c : ByteArray} {un : List (ByteArray × ByteArray)} (h : zdo w B base a b c un) (F : Fr S w w') (hS : ∀ q, S q → q < base) (hb : ¬ S B) : zdo w' B base a b c un := by
 obtain ⟨ua, uc, h1, h2⟩ := h
 exact ⟨ua, uc, F.kept h1 hb, h2.fr F (fun g hg e => by have := (h2.lt g hg).1; have := hS g e; omega)⟩
theorem zgA {w : World} {base : Nat} {T : TypeId} {v : Value} {A B : Nat → Value} (h : w.ownsRow base T 2 v 0 []) : zaG w base T v 0 A B := ⟨[], h, fun j hj => by omega⟩
set_option linter.unusedSimpArgs false in
set_option maxRecDepth 10000 in
set_option maxHeartbeats 4000000 in
theorem zhe (D : Nat) (v : Value) (bs : List Int) (p : Nat) (w : World) (h : zbw w D v bs p) (hB : zv bs) (hl : bs.length ≤ 16777216) :
  Calls Tryz.prog 74 #[.pointer (some ⟨D, 0, none⟩)] w fun e w' => LnDr w.heap.size w' e ∧ (∃ p', zbw w' D v bs p') ∧ Fr (fun k => k = D) w w' := by
 have HR := zh h
 have hDw : D < w.heap.size := zaj h.1
 have infoL : (Tryz.prog.info? 99).map (·.size) = some 4 := by kernel_rfl
 have hb := hB.at0 p
 obtain ⟨x, hx⟩ : ∃ x : Nat, at0 bs p = (x : Int) := ⟨(at0 bs p).toNat, by omega⟩
 have hx255 : x ≤ 255 := by omega
 have hnx := zh (fun W (hr : zbw W D v bs p) => zb9 D v bs p W hr hB hl)
 rw [hx] at hnx
 clear hx hb h
 go_enter Tryz.func74, Tryz.ntmps74
 go_wp2_with fail
 refine ((zu hnx) _ ((zu HR).ext (by first | exact (Ext.refl _).alloc _ | exact Ext.refl _))).mono ?_
 rintro e w1 ⟨rfl, hr1, fr1⟩
 obtain ⟨p1, hp1⟩ : ∃ q, q = (if p < bs.length then p + 1 else p) := ⟨_, rfl⟩
 rw [← hp1] at hr1
 clear hp1
 have hz1 : w.heap.size < w1.heap.size := by have h1 := fr1.size; simp at h1; omega
 obtain ⟨V, hV⟩ : ∃ V, V = (w1.alloc (.cells #[] 201)).alloc (.cells #[.string { data := #[] }, .string { data := #[] }, .string { data := #[] }, .slice (some ⟨w1.heap.size, 0, none⟩) 0 0] 99) := ⟨_, rfl⟩
 have EV : Ext w1 V := by rw [hV]; exact ((Ext.refl w1).alloc _).alloc _
 have HLB : Hid (zdo V (w1.heap.size + 1) w1.heap.size noT noT noT []) := zh (by
  refine ⟨some ⟨w1.heap.size, 0, none⟩, 0, ?_, zgA ?_⟩
  ·rw [hV]; have h := zk (w1.alloc (.cells #[] 201)) (.cells #[.string { data := #[] }, .string { data := #[] }, .string { data := #[] }, .slice (some ⟨w1.heap.size, 0, none⟩) 0 0] 99); rw [show (w1.alloc (.cells #[] 201)).heap.size = w1.heap.size + 1 by simp] at h; exact h
  ·rw [hV]; exact ((Ext.refl _).alloc _).owns (zaD w1 201 2))
 have HB0 := zh (EV.kept (fr1.kept (zk w (.cells zL4 99)) (by omega)))
 have HF := zh ((Fr.of_ext (S := fun k => k = D) ((Ext.refl w).alloc (.cells zL4 99))).tr (fr1.tr (Fr.of_ext EV)))
 have HR1 := zh (hr1.ext EV)
 have HVV := zh hV
 have hzV : w1.heap.size + 1 < V.heap.size := by obtain ⟨_, _, h1, _⟩ := zu HLB; exact zq h1
 clear hV EV hr1 fr1 hnx
 go_upto_if 17 with fail
 rw [← zu HVV]
 clear HVV
 go_cut [4] (fun v4 wq => v4 = .pointer (some ⟨w1.heap.size + 1, 0, none⟩) ∧ ∃ (a b c : ByteArray) (un : List (ByteArray × ByteArray)), Hid (Sml a b c un) ∧ Hid (zdo wq (w1.heap.size + 1) w1.heap.size a b c un) ∧ Hid (wq.heap[w.heap.size]? = some (.cells zL4 99 (0, 0))) ∧ Hid (Fr (fun k => k = D) w wq) ∧ Hid (zbw wq D v bs p1))
 case first =>
  by_cases h15 : x % 16 = 15
  ·have hq : ((x : Int) % 16 == 15) = true := by rw [beq_iff_eq]; omega
   rw [hq]
   obtain ⟨N, hN⟩ : ∃ N : Nat, (N : Int) = 297 + (x : Int) / 16 % 6 := ⟨297 + x / 16 % 6, by omega⟩
   have hwN : IntKind.i64.wrap (297 + (x : Int) / 16 % 6) = (N : Int) := by rw [IntKind.wrap_i64]; omega
   have hN2 : N ≤ 310 := by omega
   obtain ⟨i0, hi0, hz0, hz1, hz2⟩ := info_parts zbP
   have HO0 := zh (zaD V 5 1)
   clear hN h15
   go_wp2_with fail
   clear hq
   go_loopw [5, 6] (fun l9 i9 wr => ∃ (j : Nat) (zs : List Int) (la : Option Addr) (lc : Nat), j ≤ N ∧ i9 = .int .i64 j ∧ l9 = .slice la j lc ∧ Hid (zs.length = j) ∧ Hid (zv zs) ∧ Hid (wr.ownsRow V.heap.size 5 1 (.slice la j lc) j (zs.map (Value.int .u8))) ∧ Hid (Ext V wr)) (fun _ i9 _ => N - (intOf i9).toNat)
   case atStart => exact ⟨0, [], _, _, Nat.zero_le _, rfl, rfl, zh rfl, zh (fun n hn => by simp at hn), HO0, zh ((Ext.refl V).alloc _)⟩
   case round =>
    obtain ⟨j, zs, la, lc, hj, rfl, rfl, HZL, HZB, HO, HE⟩ := hrel
    have hzr := (zu HE).size
    by_cases hlt : j < N
    ·have hltI : (j : Int) < (N : Int) := by omega
     have step : ∀ K : Int, 0 ≤ K ∧ K ≤ 255 → (zs ++ [K]).length = j + 1 ∧ zv (zs ++ [K]) := fun K hK => ⟨by simp [zu HZL], fun n hn => by
      rcases List.mem_append.1 hn with h9 | h9
      ·exact (zu HZB) n h9
      ·simp at h9; omega⟩
     have HStep := zh step
     clear step
     rcases (by omega : j % 4 = 0 ∨ j % 4 = 1 ∨ j % 4 = 2 ∨ j % 4 = 3) with hm | hm | hm | hm
     ·have hmI : (j : Int) % 4 = 0 := by omega
      have hval : (((({ data := #[97, 98, 32, 99] } : ByteArray)[0].toNat : Nat)) : Int) = 97 := rfl
      have HO6 := zh ((zu HO).alloc (.cells #[.int .u8 97] 5))
      have HS6 := zh (Src.made (w := wr) (size := 1) [.int .u8 97] 1 5 rfl (by simp [Value.oneCell']))
      go_wp2_with (at_builtin; refine zaS.intro ?_)
      show wpList _ _ _ _ _ _
      refine zd rfl _ _ 22 rfl V.heap.size 5 i0 (.int .u8 0) 1 1 Tryz.underlying22 hi0 hz0 hz1 hz2 rfl (by decide) _ _ _ rfl (zu HO6) _ 1 [.int .u8 97] rfl (zu HS6) (by unfold maxLen; omega) (by omega) (by simp; omega) ?_
      intro v9 w9 o9 G9 _
      obtain ⟨a9, c9, rfl⟩ : ∃ a c, v9 = .slice a (j + 1) c := by
       rcases o9.2 with ⟨e, h0⟩ | ⟨g, cap9, cur, e, _⟩
       ·omega
       ·exact ⟨_, _, e⟩
      have HE9 := zh (((zu HE).alloc _).grown G9 (fun q hq => ((zu HO).lt q hq).1))
      have HO9 : Hid (w9.ownsRow V.heap.size 5 1 (.slice a9 (j + 1) c9) (j + 1) ((zs ++ [97]).map (Value.int .u8))) := zh (by rw [List.map_append]; exact o9)
      have HZ9 := zh ((zu HStep) 97 (by omega))
      clear o9 G9 HO6 HS6 hmI hm
      go_wp2
      go_roundw
      case rel => exact ⟨j + 1, zs ++ [97], a9, c9, by omega, by go_num, rfl, zh (zu HZ9).1, zh (zu HZ9).2, HO9, HE9⟩
      case measure => simp [intOf]; omega
     ·have hmI : (j : Int) % 4 = 1 := by omega
      have hval : (((({ data := #[97, 98, 32, 99] } : ByteArray)[1].toNat : Nat)) : Int) = 98 := rfl
      have HO6 := zh ((zu HO).alloc (.cells #[.int .u8 98] 5))
      have HS6 := zh (Src.made (w := wr) (size := 1) [.int .u8 98] 1 5 rfl (by simp [Value.oneCell']))
      go_wp2_with (at_builtin; refine zaS.intro ?_)
      show wpList _ _ _ _ _ _
      refine zd rfl _ _ 22 rfl V.heap.size 5 i0 (.int .u8 0) 1 1 Tryz.underlying22 hi0 hz0 hz1 hz2 rfl (by decide) _ _ _ rfl (zu HO6) _ 1 [.int .u8 98] rfl (zu HS6) (by unfold maxLen; omega) (by omega) (by simp; omega) ?_
      intro v9 w9 o9 G9 _
      obtain ⟨a9, c9, rfl⟩ : ∃ a c, v9 = .slice a (j + 1) c := by
       rcases o9.2 with ⟨e, h0⟩ | ⟨g, cap9, cur, e, _⟩
       ·omega
       ·exact ⟨_, _, e⟩
      have HE9 := zh (((zu HE).alloc _).grown G9 (fun q hq => ((zu HO).lt q hq).1))
      have HO9 : Hid (w9.ownsRow V.heap.size 5 1 (.slice a9 (j + 1) c9) (j + 1) ((zs ++ [98]).map (Value.int .u8))) := zh (by rw [List.map_append]; exact o9)
      have HZ9 := zh ((zu HStep) 98 (by omega))
      clear o9 G9 HO6 HS6 hmI hm
      go_wp2
      go_roundw
      case rel => exact ⟨j + 1, zs ++ [98], a9, c9, by omega, by go_num, rfl, zh (zu HZ9).1, zh (zu HZ9).2, HO9, HE9⟩
      case measure => simp [intOf]; omega
     ·have hmI : (j : Int) % 4 = 2 := by omega
      have hval : (((({ data := #[97, 98, 32, 99] } : ByteArray)[2].toNat : Nat)) : Int) = 32 := rfl
      have HO6 := zh ((zu HO).alloc (.cells #[.int .u8 32] 5))
      have HS6 := zh (Src.made (w := wr) (size := 1) [.int .u8 32] 1 5 rfl (by simp [Value.oneCell']))
      go_wp2_with (at_builtin; refine zaS.intro ?_)
      show wpList _ _ _ _ _ _
      refine zd rfl _ _ 22 rfl V.heap.size 5 i0 (.int .u8 0) 1 1 Tryz.underlying22 hi0 hz0 hz1 hz2 rfl (by decide) _ _ _ rfl (zu HO6) _ 1 [.int .u8 32] rfl (zu HS6) (by unfold maxLen; omega) (by omega) (by simp; omega) ?_
      intro v9 w9 o9 G9 _
      obtain ⟨a9, c9, rfl⟩ : ∃ a c, v9 = .slice a (j + 1) c := by
       rcases o9.2 with ⟨e, h0⟩ | ⟨g, cap9, cur, e, _⟩
       ·omega
       ·exact ⟨_, _, e⟩
      have HE9 := zh (((zu HE).alloc _).grown G9 (fun q hq => ((zu HO).lt q hq).1))
      have HO9 : Hid (w9.ownsRow V.heap.size 5 1 (.slice a9 (j + 1) c9) (j + 1) ((zs ++ [32]).map (Value.int .u8))) := zh (by rw [List.map_append]; exact o9)
      have HZ9 := zh ((zu HStep) 32 (by omega))
      clear o9 G9 HO6 HS6 hmI hm
      go_wp2
      go_roundw
      case rel => exact ⟨j + 1, zs ++ [32], a9, c9, by omega, by go_num, rfl, zh (zu HZ9).1, zh (zu HZ9).2, HO9, HE9⟩
      case measure => simp [intOf]; omega
     ·have hmI : (j : Int) % 4 = 3 := by omega
      have hval : (((({ data := #[97, 98, 32, 99] } : ByteArray)[3].toNat : Nat)) : Int) = 99 := rfl
      have HO6 := zh ((zu HO).alloc (.cells #[.int .u8 99] 5))
      have HS6 := zh (Src.made (w := wr) (size := 1) [.int .u8 99] 1 5 rfl (by simp [Value.oneCell']))
      go_wp2_with (at_builtin; refine zaS.intro ?_)
      show wpList _ _ _ _ _ _
      refine zd rfl _ _ 22 rfl V.heap.size 5 i0 (.int .u8 0) 1 1 Tryz.underlying22 hi0 hz0 hz1 hz2 rfl (by decide) _ _ _ rfl (zu HO6) _ 1 [.int .u8 99] rfl (zu HS6) (by unfold maxLen; omega) (by omega) (by simp; omega) ?_
      intro v9 w9 o9 G9 _
      obtain ⟨a9, c9, rfl⟩ : ∃ a c, v9 = .slice a (j + 1) c := by
       rcases o9.2 with ⟨e, h0⟩ | ⟨g, cap9, cur, e, _⟩
       ·omega
       ·exact ⟨_, _, e⟩
      have HE9 := zh (((zu HE).alloc _).grown G9 (fun q hq => ((zu HO).lt q hq).1))
      have HO9 : Hid (w9.ownsRow V.heap.size 5 1 (.slice a9 (j + 1) c9) (j + 1) ((zs ++ [99]).map (Value.int .u8))) := zh (by rw [List.map_append]; exact o9)
      have HZ9 := zh ((zu HStep) 99 (by omega))
      clear o9 G9 HO6 HS6 hmI hm
      go_wp2
      go_roundw
      case rel => exact ⟨j + 1, zs ++ [99], a9, c9, by omega, by go_num, rfl, zh (zu HZ9).1, zh (zu HZ9).2, HO9, HE9⟩
      case measure => simp [intOf]; omega
    ·obtain rfl : j = N := by omega
     have hnl : ¬ (j : Int) < (j : Int) := by omega
     have hj9 := zu HZL
     subst hj9
     obtain ⟨ua, uc, hlb, hown⟩ := (zu HLB).ext (zu HE)
     have HLb := zh hlb
     have hLBr := zq hlb
     have hcv := zeq (P := Tryz.prog) wr _ _ _ Tryz.underlying22 Tryz.underlying5 Tryz.underlying9 _ zs (zz (zu HO))
     have hsz : (zo zs).size ≤ 310 := by rw [zai]; omega
     obtain ⟨S, hSS⟩ : ∃ S, S = zo zs := ⟨_, rfl⟩
     rw [← hSS] at hcv hsz
     obtain ⟨A', B', hsA, hsB, hST⟩ : ∃ A' B' : ByteArray, A'.size + B'.size ≤ 1400 ∧ B'.size ≤ 2000 ∧ Calls Tryz.prog 128 #[.agg #[.string { data := #[] }, .string { data := #[] }, .string { data := #[] }, .slice ua 0 uc], .string S] wr fun e w' => ∃ (ua' : Option Addr) (un' uc' : Nat) (q : Bool), e = .returned (.tuple #[.agg #[.string A', .string B', .string { data := #[] }, .slice ua' un' uc'], .bool q]) ∧ Ext wr w' := by
      have hr9 : zag wr (.slice ua 0 uc) 0 (fun j => .string (lnT [] j)) (fun j => .string (lnH [] j)) := hown.reads
      by_cases hP : zcJ noT noT noT 0 (lnT []) (lnH []) ∧ zc1 (baL S)
      ·refine ⟨S, noT, Nat.le_trans (Nat.add_le_add hsz (show noT.size ≤ 0 by decide)) (by decide), by decide, (zga noT noT noT (.slice ua 0 uc) 0 (lnT []) (lnH []) S wr hr9 (by decide) (by decide) (by decide) (by decide) (fun j hj => by omega) (by omega) hP.1 hP.2).mono ?_⟩
       rintro e w' ⟨v', rfl, o, E⟩
       obtain ⟨x1, y1, rfl, _⟩ := o.reads
       exact ⟨x1, _, y1, true, rfl, E⟩
      ·refine ⟨noT, noT, by decide, by decide, (zg9 noT noT noT (.slice ua 0 uc) 0 (lnT []) (lnH []) S wr hr9 (by decide) (by decide) (by decide) (by decide) (fun j hj => by omega) (by omega) hP).mono ?_⟩
       rintro e w' ⟨v', rfl, o, E⟩
       obtain ⟨x1, y1, rfl, _⟩ := o.reads
       exact ⟨x1, _, y1, false, rfl, E⟩
     have HST := zh hST
     clear hST hlb hown hSS
     go_wp2_with (first | (refine zl rfl 99 _ rfl (w1.heap.size + 1) rfl _ _ _ _ (zu HLb) Tryz.underlying99 rfl infoL ?_))
     refine (zu HST).mono ?_
     rintro e w7 ⟨u7a, u7n, u7c, q7, rfl, E7⟩
     have HL7 := E7.hk HLb
     have HE7 := Hid.ht HE E7
     have z7 := E7.size
     clear E7 HST hcv
     go_wp2_with (first | (refine zi rfl 99 _ _ rfl rfl (w1.heap.size + 1) rfl _ _ #[.string A', .string B', .string { data := #[] }, .slice u7a u7n u7c] rfl (zu HL7) infoL rfl (by simp [Value.oneCell']) ?_; intro Z hyZ hfZ; have HYZ := zh hyZ; have HfZ := zh hfZ; clear hyZ hfZ; refine zaS.intro ?_))
     show wpList _ _ _ _ _ _
     have hYA := ((Ext.refl Z).alloc (.cells #[] 201)).kept (zu HYZ)
     have hzZ := (zu HfZ).size
     have hLZ := zq (zu HYZ)
     have k3 := zg hYA 3 _ rfl
     have f3 : (Z.alloc (.cells #[] 201)).frozen? ⟨w1.heap.size + 1, 3, none⟩ = false := Lib.frozen_of_heap hYA 3
     obtain ⟨T, hT⟩ : ∃ T, T = (Z.setCell ⟨w1.heap.size + 1, 3, none⟩ (.slice (some ⟨Z.heap.size, 0, none⟩) 0 0)).alloc (.cells #[] 201) := ⟨_, rfl⟩
     have hsZ : (Z.setCell ⟨w1.heap.size + 1, 3, none⟩ (.slice (some ⟨Z.heap.size, 0, none⟩) 0 0)).heap.size = Z.heap.size := by simp
     have hoT := zaD (Z.setCell ⟨w1.heap.size + 1, 3, none⟩ (.slice (some ⟨Z.heap.size, 0, none⟩) 0 0)) 201 2
     rw [hsZ, ← hT] at hoT
     have HLT : Hid (zdo T (w1.heap.size + 1) w1.heap.size A' B' noT []) := zh (by
      exact ⟨some ⟨Z.heap.size, 0, none⟩, 0, by rw [hT]; exact ((Ext.refl _).alloc _).kept (zj (zu HYZ) rfl), zgA (zah hoT (by omega))⟩)
     have FT : Fr (fun q => q = w1.heap.size + 1) w7 T := by rw [hT]; exact (Fr.setCell (S := fun q => q = w1.heap.size + 1) (zu HfZ) (a := ⟨w1.heap.size + 1, 3, none⟩) rfl _).tr (Fr.of_ext ((Ext.refl _).alloc _))
     have HBT := zh (FT.kept ((zu HE7).kept (zu HB0)) (by omega))
     have FZ : Fr (fun k => k = D) w T := FT.upon ((zu HF).tr (Fr.of_ext (zu HE7))) (fun q hq => by omega)
     have HRT := zh ((zu HR).keep ((zu HR1).ext (zu HE7)) FZ (FT.block D (by have := (zu HF).size; have := (zu HE7).size; omega) (by omega)))
     have HFT := zh FZ
     have HTT := zh hT
     clear hT FT FZ hYA HYZ HfZ HL7 HE7 HLb hoT hsZ
     go_wp2
     rw [← zu HTT]
     go_meet
     exact ⟨rfl, A', B', noT, [], zh ⟨hsA, hsB, by decide, by simp, fun s hs => by simp at hs⟩, HLT, HBT, HFT, HRT⟩
  ·have hqb : ((x : Int) % 16 == 15) = false := by rw [beq_eq_false_iff_ne]; omega
   go_wp2
   go_meet
   exact ⟨rfl, noT, noT, noT, [], zh ⟨by decide, by decide, by decide, by simp, fun s hs => by simp at hs⟩, HLB, HB0, HF, HR1⟩
 case rest =>
  obtain ⟨rfl, a, b, c, un, HS, HLB2, HB2, HF2, HR2⟩ := hcut
  obtain ⟨n, hn⟩ : ∃ n : Nat, (n : Int) = 3 + (x : Int) % 12 := ⟨3 + x % 12, by omega⟩
  have hn15 : n ≤ 15 := by omega
  have hwn : IntKind.i64.wrap (3 + (x : Int) % 12) = (n : Int) := by rw [IntKind.wrap_i64]; omega
  have HSt := zh (ziz D v bs p1 n wc (zu HR2) hB hl (by omega))
  have hzc := (zu HF2).size
  clear HLB HB0 HF HR1 hn
  go_wp2_with fail
  refine (zu HSt).mono ?_
  rintro e w3 ⟨v3, zs, rfl, ⟨o3, hzb, hzl⟩, ⟨p3, hr3⟩, fr3⟩
  have hB1 : w1.heap.size + 1 < wc.heap.size := by obtain ⟨_, _, h1, _⟩ := zu HLB2; exact zq h1
  have HLB3 := zh ((zu HLB2).fr fr3 (fun q hq => by omega) (by omega))
  have HB3 := zh (fr3.kept (zu HB2) (by omega))
  have HF3 := zh ((zu HF2).tr fr3)
  have HR3 := zh hr3
  have HK3 := zh (zfj v3 zs w3 (zz o3) hzb (by omega))
  obtain ⟨z3a, z3c, rfl⟩ : ∃ a c, v3 = .slice a zs.length c := by
   rcases o3.2 with ⟨e, h0⟩ | ⟨g, cap9, cur, e, _⟩
   ·exact ⟨none, 0, by rw [h0]; exact e⟩
   ·exact ⟨_, _, e⟩
  have z3 := fr3.size
  clear o3 hr3 fr3 HSt HLB2 HB2 HF2 HR2
  go_wp2_with fail
  refine (zu HK3).mono ?_
  rintro e w5 ⟨⟨h5a, h5n, h5c, kv, rs, q5, rfl, oK⟩, E5⟩
  obtain ⟨ka, kc, rfl⟩ := oK.slice
  replace HLB3 := zh ((zu HLB3).ext E5)
  replace HB3 := E5.hk HB3
  replace HF3 := zh ((zu HF3).tr (Fr.of_ext E5))
  replace HR3 := zh ((zu HR3).ext E5)
  have z5 := E5.size
  obtain ⟨hkl, hki⟩ := rk_ok zs false
  have hkl2 : (rk zs false).1.length ≤ 1000 := by omega
  have hzl2 : zs.length ≤ 1000 := by omega
  obtain ⟨ks, hks⟩ : ∃ ks, ks = (rk zs false).1 := ⟨_, rfl⟩
  rw [← hks] at hkl2 hki oK ⊢
  have HKI : Hid (∀ k ∈ ks, zdv k.1 ∧ k.1.length ≤ 1000) := zh (fun k hk => ⟨(hki k hk).1, by have := (hki k hk).2; omega⟩)
  have HOK := zh oK
  have infoKR : (Tryz.prog.info? 145).map (·.size) = some 2 := by kernel_rfl
  have HN5 := zh (heap_alloc_new w5 (.cells #[.slice none 0 0, .bool false] 145))
  clear oK E5 HK3 hks hki hkl hzl
  go_wp2_with (first | (refine zi rfl 145 _ _ rfl rfl (w5.heap.size) rfl _ _ #[.slice h5a h5n h5c, .bool q5] rfl (zu HN5) infoKR rfl (by simp [Value.oneCell']) ?_; intro U hb9 hf9; have HEU := zh (hf9.ext ((Ext.refl w5).alloc _) (fun q hq => by omega)); clear hb9 hf9; refine zaS.intro ?_))
  show wpList _ _ _ _ _ _
  have EU := zu HEU
  have zU := EU.size
  replace HOK := zh ((zu HOK).ext EU)
  replace HLB3 := zh ((zu HLB3).ext EU)
  replace HB3 := EU.hk HB3
  replace HF3 := zh ((zu HF3).tr (Fr.of_ext EU))
  replace HR3 := zh ((zu HR3).ext EU)
  clear EU HEU HN5
  go_wp2_with fail
  go_loopw [9] (fun i9 wr => ∃ (j : Nat) (a b c : ByteArray) (un : List (ByteArray × ByteArray)), j ≤ ks.length ∧ i9 = .int .i64 j ∧ Hid (Sml a b c un) ∧ Hid (zdo wr (w1.heap.size + 1) w1.heap.size a b c un) ∧ Hid (zaA wr w3.heap.size (.slice ka ks.length kc) rs ks) ∧ Hid (wr.heap[w.heap.size]? = some (.cells zL4 99 (0, 0))) ∧ Hid (Fr (fun k => k = D) w wr) ∧ Hid (zbw wr D v bs p3)) (fun i9 _ => ks.length - (intOf i9).toNat)
  case atStart => exact ⟨0, a, b, c, un, Nat.zero_le _, rfl, HS, HLB3, HOK, HB3, HF3, HR3⟩
  case round =>
   clear HS HLB3 HOK HB3 HF3 HR3 a b c un
   obtain ⟨j, a, b, c, un, hj, rfl, HS, HLB3, HOK, HB3, HF3, HR3⟩ := hrel
   have hzr := (zu HF3).size
   by_cases hlt : j < ks.length
   ·have hltI : (j : Int) < (ks.length : Int) := by omega
    obtain ⟨ua, uc, hlb, hown⟩ := zu HLB3
    obtain ⟨hrl, ⟨ys, hy, hyy⟩, h3, _⟩ := id (zu HOK)
    obtain ⟨g, cap9, e9, hcA⟩ : ∃ g cap9, Value.slice ka ks.length kc = .slice (some ⟨g, 0, none⟩) ks.length cap9 ∧ (wr.cell? ⟨g, j * 2, none⟩ = some (.int .i64 (cW ks j)) ∧ wr.cell? ⟨g, j * 2 + 1, none⟩ = some (rV rs j)) := by
     rcases hy.2 with ⟨_, h0⟩ | ⟨g, cap9, cur, e, _⟩
     ·omega
     ·refine ⟨g, cap9, e, ?_⟩
      rw [e] at hy
      have h9 := hyy j (by omega)
      rw [hy.cellAt _ (by omega), hy.cellAt _ (by omega)]
      exact ⟨h9.2, h9.1⟩
    obtain ⟨e1, _, e2⟩ := Value.slice.inj e9
    subst e1
    subst e2
    have hro := h3 j (by omega)
    obtain ⟨ra, rc, hrv⟩ : ∃ a c, rV rs j = .slice a (cR ks j).length c := by
     rcases hro.2 with ⟨e, h0⟩ | ⟨g, cap9, cur, e, _⟩
     ·exact ⟨none, 0, by rw [h0]; exact e⟩
     ·exact ⟨_, _, e⟩
    rw [hrv] at hro hcA
    have hk9 := (zu HKI) (cR ks j, cW ks j) (by
     have h8 : ks[j]? = some ks[j] := List.getElem?_eq_getElem (by omega)
     have h7 : (cR ks j, cW ks j) = ks[j] := by simp [cR, cW, h8]
     rw [h7]
     exact List.getElem_mem _)
    obtain ⟨s1, s2, s3, s4, s5⟩ := id (zu HS)
    have hEd := zh (fun W (hW : Ext wr W) => zfc a b c (.slice ua un.length uc) un ra (cR ks j).length rc W (zag.ext hown.reads hW) (cW ks j) (cR ks j) ((zz hro).ext hW) hk9.1 (zu HS))
    obtain ⟨kd, hkd⟩ : ∃ kd, kd = cW ks j := ⟨_, rfl⟩
    rw [← hkd] at hEd hcA
    have HLb := zh hlb
    have HcA := zh hcA
    clear hro hy hyy h3 hrl hrv hkd hown hlb hcA s1 s2 s3 s4 s5 HS e9
    go_wp2_with fail
    refine wp_region_held_drew (S := fun W => W.cell? ⟨g, j * 2, none⟩ = some (.int .i64 kd) ∧ W.cell? ⟨g, j * 2 + 1, none⟩ = some (.slice ra (cR ks j).length rc)) (by kernel_rfl) (zu HcA) (fun hHeld => ?_)
    refine tk 1 ?_ rfl (by kernel_rfl) (fun _ _ _ h => h) (by rfl) ?_ (by assumption) ?_
    rotate_left
    ·intro w' hSw; go_simp <;> with_reducible rfl
    simp only [Act.put, qA, qB, qC, qD, qE, qF]
    refine tk 2 ?_ rfl (by kernel_rfl) (fun _ _ _ h => h) (by rfl) ?_ (by assumption) ?_
    rotate_left
    ·intro w' hSw; go_simp <;> with_reducible rfl
    simp only [Act.put, qA, qB, qC, qD, qE, qF]
    refine tk 3 ?_ rfl (by kernel_rfl) (fun _ _ _ h => h) (by rfl) ?_ (by assumption) ?_
    rotate_left
    ·intro w' hSw; go_simp <;> with_reducible rfl
    simp only [Act.put, qA, qB, qC, qD, qE, qF]
    refine tk 4 ?_ rfl (by kernel_rfl) (fun _ _ _ h => h) (by rfl) ?_ (by assumption) ?_
    rotate_left
    ·intro w' hSw; go_simp <;> with_reducible rfl
    simp only [Act.put, qA, qB, qC, qD, qE, qF]
    have G := zh ((Ext.refl wr).drew)
    generalize wr.drew = Wr0 at *
    refine rdy 0 (by kernel_rfl) rfl (fun K hK => ?_)
    refine zc8 rfl 99 _ rfl (w1.heap.size + 1) rfl _ _ _ _ ((zu G).kept (zu HLb)) Tryz.underlying99 rfl infoL ?_
    refine hK.out _ _ (by assumption) (fun hHeld => ?_)
    clear hK K
    refine rdy 5 (by kernel_rfl) rfl (fun K hK => ?_)
    go_simp
    refine ((zu hEd) _ (zu G)).mono ?_
    rintro e w7 ⟨⟨o, hs7, v7, rfl, o7⟩, E7⟩
    have HS2 := zh hs7
    clear hs7
    obtain ⟨u7a, u7c, rfl⟩ : ∃ ua uc, v7 = .slice ua o.un.length uc := by
     obtain ⟨x, y, e, _⟩ := o7.reads
     exact ⟨x, y, e⟩
    have z0 := (zu G).size
    have F7 : Ext wr w7 := (zu G).trans E7
    have z7 := F7.size
    have hLB7 : w1.heap.size + 1 < wr.heap.size := zq (zu HLb)
    refine hK.out _ _ ⟨F7.cell (zu HcA).1, F7.cell (zu HcA).2⟩ (fun hHeld => ?_)
    clear hK K
    refine tk 6 ?_ rfl (by kernel_rfl) (fun _ _ _ h => h) (by rfl) ?_ (by assumption) ?_
    rotate_left
    ·intro w' hSw; go_simp <;> with_reducible rfl
    simp only [Act.put, qA, qB, qC, qD, qE, qF]
    refine tk 7 ?_ rfl (by kernel_rfl) (fun _ _ _ h => h) (by rfl) ?_ (by assumption) ?_
    rotate_left
    ·intro w' hSw; go_simp <;> with_reducible rfl
    simp only [Act.put, qA, qB, qC, qD, qE, qF]
    refine tk 8 ?_ rfl (by kernel_rfl) (fun _ _ _ h => h) (by rfl) ?_ (by assumption) ?_
    rotate_left
    ·intro w' hSw; go_simp <;> with_reducible rfl
    simp only [Act.put, qA, qB, qC, qD, qE, qF]
    refine rdy 9 (by kernel_rfl) rfl (fun K hK => ?_)
    refine ze 99 _ _ rfl rfl (w1.heap.size + 1) rfl _ _ #[.string o.a, .string o.b, .string o.c, .slice u7a o.un.length u7c] rfl (F7.kept (zu HLb)) infoL rfl (by simp [Value.oneCell']) ?_
    intro Z hyZ hfZ
    have hgf := (zu HOK).foot (g := g) (.inl rfl)
    have hg9 := hfZ.block g (by omega) (by omega)
    refine hK.out _ _ ⟨by rw [zdf hg9]; exact F7.cell (zu HcA).1, by rw [zdf hg9]; exact F7.cell (zu HcA).2⟩ (fun hHeld => ?_)
    have HLBZ : Hid (zdo Z (w1.heap.size + 1) w1.heap.size o.a o.b o.c o.un) := zh ⟨u7a, u7c, hyZ, (o7.fr hfZ (fun q hq e9 => by have := (o7.lt q hq).1; omega)).mono (by omega)⟩
    have HOKZ := zh (zaA.fr ((zu HOK).ext F7) hfZ (fun q hq e9 => by have := ((zu HOK).foot hq).1; omega))
    have HBZ := zh (hfZ.kept (F7.kept (zu HB3)) (by omega))
    have FZ : Fr (fun k => k = D) w Z := hfZ.upon ((zu HF3).tr (Fr.of_ext F7)) (fun q hq => by omega)
    have HFZ := zh FZ
    have HRZ := zh ((zu HR).keep ((zu HR3).ext F7) FZ (hfZ.block D (by omega) (by omega)))
    clear hK K hyZ hfZ hg9 FZ hgf o7 E7 hHeld
    refine wpAnyH_done (by kernel_rfl) ?_ _
    go_wp2
    go_roundw
    case rel => exact ⟨j + 1, o.a, o.b, o.c, o.un, by omega, by go_num, HS2, HLBZ, HOKZ, HBZ, HFZ, HRZ⟩
    case measure => simp [intOf]; omega
   ·obtain rfl : j = ks.length := by omega
    have hnl : ¬ ((ks.length : Nat) : Int) < (ks.length : Int) := by omega
    clear HOK HKI
    obtain ⟨N, hN⟩ : ∃ N : Nat, (N : Int) = 50 + (x : Int) / 8 % 2 := ⟨50 + x / 8 % 2, by omega⟩
    have hwN : IntKind.i64.wrap (50 + (x : Int) / 8 % 2) = (N : Int) := by rw [IntKind.wrap_i64]; omega
    have hN2 : N ≤ 60 := by omega
    clear hN
    go_wp2_with fail
    rename World => wo
    go_loopw [10] (fun i9 wr => ∃ (j : Nat) (a b c : ByteArray) (un : List (ByteArray × ByteArray)), j ≤ N ∧ i9 = .int .i64 j ∧ Hid (Sml a b c un) ∧ Hid (zdo wr (w1.heap.size + 1) w1.heap.size a b c un) ∧ Hid (wr.heap[w.heap.size]? = some (.cells zL4 99 (0, 0))) ∧ Hid (Fr (fun k => k = D) w wr) ∧ Hid (zbw wr D v bs p3)) (fun i9 _ => N - (intOf i9).toNat)
    case atStart => exact ⟨0, a, b, c, un, Nat.zero_le _, rfl, HS, HLB3, HB3, HF3, HR3⟩
    case round =>
     clear HS HLB3 HB3 HF3 HR3 a b c un
     obtain ⟨j, a, b, c, un, hj, rfl, HS, HLB3, HB3, HF3, HR3⟩ := hrel
     have hzr := (zu HF3).size
     obtain ⟨ua, uc, hlb, hown⟩ := zu HLB3
     have hLB7 : w1.heap.size + 1 < wr.heap.size := zq hlb
     have HLb := zh hlb
     have HOw := zh hown
     have c0 := zg hlb 0 _ rfl
     have c1 := zg hlb 1 _ rfl
     clear hlb hown HLB3
     by_cases hgo : j < N ∧ x % 8 = 6
     ·have hltI : (j : Int) < (N : Int) := by omega
      have h8 : (x : Int) % 8 = 6 := by omega
      have hSt := zh (zaT a b c a b (.slice ua un.length uc) un.length (lnT un) (lnH un) wr (zu HOw).reads (zu HS).2.2.2.1)
      rw [zb4] at hSt
      have HS2 := zh (zfu (zu HS))
      clear hgo HS
      go_wp2_with (first | (refine zl rfl 99 _ rfl (w1.heap.size + 1) rfl _ _ _ _ (zu HLb) Tryz.underlying99 rfl infoL ?_))
      refine (zu hSt).mono ?_
      rintro e w7 ⟨v7, rfl, o7, F7⟩
      obtain ⟨u7a, u7c, rfl⟩ : ∃ ua uc, v7 = .slice ua (zav un (a, b)).length uc := by
       obtain ⟨x, y, e, _⟩ := o7.reads
       exact ⟨x, y, e⟩
      have HL7 := F7.hk HLb
      have HO7 := zh o7
      have HF7 := zh F7
      have z7 := F7.size
      clear o7 F7 hSt c0 c1
      go_wp2_with (first | (refine zi rfl 99 _ _ rfl rfl (w1.heap.size + 1) rfl _ _ #[.string a, .string b, .string c, .slice u7a (zav un (a, b)).length u7c] rfl (zu HL7) infoL rfl (by simp [Value.oneCell']) ?_; intro Z hyZ hfZ; have HYZ := zh hyZ; have HfZ := zh hfZ; clear hyZ hfZ; refine zaS.intro ?_))
      show wpList _ _ _ _ _ _
      have hfZ := zu HfZ
      have HLBZ : Hid (zdo Z (w1.heap.size + 1) w1.heap.size a b c (zav un (a, b))) := zh ⟨u7a, u7c, zu HYZ, ((zu HO7).fr hfZ (fun q hq e9 => by have := ((zu HO7).lt q hq).1; omega)).mono (by omega)⟩
      have HBZ := zh (hfZ.kept ((zu HF7).kept (zu HB3)) (by omega))
      have FZ : Fr (fun k => k = D) w Z := hfZ.upon ((zu HF3).tr (Fr.of_ext (zu HF7))) (fun q hq => by omega)
      have HFZ := zh FZ
      have HRZ := zh ((zu HR).keep ((zu HR3).ext (zu HF7)) FZ (hfZ.block D (by omega) (by omega)))
      clear hfZ HfZ HYZ FZ HO7 HF7 HL7 h8
      go_wp2
      go_roundw
      case rel => exact ⟨j + 1, a, b, c, zav un (a, b), by omega, by go_num, HS2, HLBZ, HBZ, HFZ, HRZ⟩
      case measure => simp [intOf]; omega
     ·by_cases hlt : j < N
      ·have hltI : (j : Int) < (N : Int) := by omega
       have h8 : ((x : Int) % 8 == 6) = false := by rw [beq_eq_false_iff_ne]; omega
       go_wp2_with (first | (refine zl rfl 99 _ rfl (w1.heap.size + 1) rfl _ _ _ _ (zu HLb) Tryz.underlying99 rfl infoL ?_) | (refine zi rfl 99 _ _ rfl rfl (w.heap.size) rfl _ _ #[.string a, .string b, .string c, .slice ua un.length uc] rfl (zu HB3) infoL rfl (by simp [Value.oneCell']) ?_; intro Z hyZ hfZ; have HYZ := zh hyZ; have HfZ := zh hfZ; clear hyZ hfZ))
       have y0 := zg (zu HYZ) 0 _ rfl
       have y1 := zg (zu HYZ) 1 _ rfl
       have y2 := zg (zu HYZ) 2 _ rfl
       have y3 := zg (zu HYZ) 3 _ rfl
       have FZ : Fr (fun k => k = D) w Z := (zu HfZ).upon (zu HF3) (fun q hq => by omega)
       exact bodyPost_ret (v := .agg #[.string a, .string b, .string c, .slice ua un.length uc]) (by simp [results, Tryz.results74, go_sem, y0, y1, y2, y3]) rfl ⟨⟨a, b, c, un, _, rfl, zu HS, ((zu HOw).fr (zu HfZ) (fun q hq e9 => by have := ((zu HOw).lt q hq).1; omega)).mono (by omega)⟩, ⟨p3, (zu HR).keep (zu HR3) FZ ((zu HfZ).block D (by omega) (by omega))⟩, FZ⟩
      ·have hltI : ¬ (j : Int) < (N : Int) := by omega
       go_wp2_with (first | (refine zl rfl 99 _ rfl (w1.heap.size + 1) rfl _ _ _ _ (zu HLb) Tryz.underlying99 rfl infoL ?_) | (refine zi rfl 99 _ _ rfl rfl (w.heap.size) rfl _ _ #[.string a, .string b, .string c, .slice ua un.length uc] rfl (zu HB3) infoL rfl (by simp [Value.oneCell']) ?_; intro Z hyZ hfZ; have HYZ := zh hyZ; have HfZ := zh hfZ; clear hyZ hfZ))
       have y0 := zg (zu HYZ) 0 _ rfl
       have y1 := zg (zu HYZ) 1 _ rfl
       have y2 := zg (zu HYZ) 2 _ rfl
       have y3 := zg (zu HYZ) 3 _ rfl
       have FZ : Fr (fun k => k = D) w Z := (zu HfZ).upon (zu HF3) (fun q hq => by omega)
       exact bodyPost_ret (v := .agg #[.string a, .string b, .string c, .slice ua un.length uc]) (by simp [results, Tryz.results74, go_sem, y0, y1, y2, y3]) rfl ⟨⟨a, b, c, un, _, rfl, zu HS, ((zu HOw).fr (zu HfZ) (fun q hq e9 => by have := ((zu HOw).lt q hq).1; omega)).mono (by omega)⟩, ⟨p3, (zu HR).keep (zu HR3) FZ ((zu HfZ).block D (by omega) (by omega))⟩, FZ⟩
theorem bnat {bs : List Int} (hB : zv bs) (p : Nat) : ∃ x : Nat, at0 bs p = (x : Int) ∧ x ≤ 255 := ⟨(at0 bs p).toNat, by have := hB.at0 p; omega, by have := hB.at0 p; omega⟩
set_option maxRecDepth 10000 in
set_option maxHeartbeats 1000000 in
theorem zmF (D : Nat) (v : Value) (bs : List Int) (p : Nat) (w : World) (h : zbw w D v bs p) (hB : zv bs) (hl : bs.length ≤ 16777216) :
  Calls Tryz.prog 71 #[.pointer (some ⟨D, 0, none⟩)] w fun e w' => (∃ c r : Int, e = .returned (.tuple #[.int .i64 c, .int .i64 r]) ∧ 2 ≤ c ∧ c ≤ 13 ∧ 1 ≤ r ∧ r ≤ 5) ∧ (∃ p', zbw w' D v bs p') ∧ Fr (fun k => k = D) w w' := by
 obtain ⟨x, hx, hx2⟩ := bnat hB p
 have HN := zh (zb9 D v bs p w h hB hl)
 rw [hx] at HN
 clear h hx
 have hw1 : IntKind.i64.wrap (2 + (x : Int) % 12) = 2 + (x : Int) % 12 := by rw [IntKind.wrap_i64]; omega
 have hw2 : IntKind.i64.wrap (1 + (x : Int) / 12 % 5) = 1 + (x : Int) / 12 % 5 := by rw [IntKind.wrap_i64]; omega
 go_enter Tryz.func71, Tryz.ntmps71
 go_wp2_with fail
 refine (zu HN).mono ?_
 rintro e w1 ⟨rfl, r1, f1⟩
 have HR1 := zh r1
 have HF1 := zh f1
 clear HN r1 f1
 go_wp2
 go_ret2
 exact ⟨⟨_, _, rfl, by omega, by omega, by omega, by omega⟩, ⟨_, zu HR1⟩, zu HF1⟩
def zi9 : List ByteArray := [{ data := #[62, 32] }, { data := #[] }, { data := #[110, 97, 109, 101, 58, 32] }, { data := #[228, 184, 150, 62, 32] }, { data := #[36, 204, 129] }, { data := #[97, 32, 108, 111, 110, 103, 32, 112, 114, 111, 109, 112, 116, 32, 35, 32] }]
theorem zhQ : ∀ t ∈ zi9, t.size ≤ 24 := by decide
set_option maxRecDepth 10000 in
set_option maxHeartbeats 1000000 in
theorem zj4 (D : Nat) (v : Value) (bs : List Int) (p : Nat) (w : World) (h : zbw w D v bs p) (hB : zv bs) (hl : bs.length ≤ 16777216) :
  Calls Tryz.prog 72 #[.pointer (some ⟨D, 0, none⟩)] w fun e w' => (∃ t, e = .returned (.string t) ∧ t.size ≤ 24) ∧ (∃ p', zbw w' D v bs p') ∧ Fr (fun k => k = D) w w' := by
 obtain ⟨x, hx, hx2⟩ := bnat hB p
 have HN := zh (zb9 D v bs p w h hB hl)
 rw [hx] at HN
 clear h hx
 go_enter Tryz.func72, Tryz.ntmps72
 go_wp2_with fail
 refine (zu HN).mono ?_
 rintro e w1 ⟨rfl, r1, f1⟩
 have HR1 := zh r1
 have HF1 := zh f1
 clear HN r1 f1
 obtain ⟨V, hV⟩ : ∃ V, V = w1.alloc (.cells (zi9.map Value.string).toArray 9) := ⟨_, rfl⟩
 have E0 : Ext w1 V := by rw [hV]; exact (Ext.refl w1).alloc _
 obtain ⟨t, ht, hc⟩ := zmd (xs := zi9) (p := w1.heap.size) (w := V) (by rw [hV]; exact zk w1 _) (x % 6) (Nat.mod_lt _ (by decide))
 have hs := zhQ t ht
 have HV := zh (show V = w1.alloc (.cells #[.string { data := #[62, 32] }, .string { data := #[] }, .string { data := #[110, 97, 109, 101, 58, 32] }, .string { data := #[228, 184, 150, 62, 32] }, .string { data := #[36, 204, 129] }, .string { data := #[97, 32, 108, 111, 110, 103, 32, 112, 114, 111, 109, 112, 116, 32, 35, 32] }] 9) from hV)
 have htm : (x : Int).tmod 6 = ((x % 6 : Nat) : Int) := by rw [Int.tmod_eq_emod_of_nonneg (by omega)]; omega
 have hm0 : (x % 6 : Nat) < 6 := Nat.mod_lt _ (by decide)
 obtain ⟨m, hm⟩ : ∃ m, m = x % 6 := ⟨_, rfl⟩
 rw [← hm] at hc htm hm0
 have hmI : (m : Int) < 6 := by omega
 have HE := zh E0
 have hc2 := hc
 rw [zu HV] at hc2
 have hem : (x : Int) % 6 = (m : Int) := by omega
 clear hm ht hV E0
 go_wp2
 rw [← zu HV]
 exact bodyPost_ret (v := .string t) (by simp [results, Tryz.results72, go_sem]) rfl ⟨⟨t, rfl, by omega⟩, ⟨_, (zu HR1).ext (zu HE)⟩, (zu HF1).tr (Fr.of_ext (zu HE))⟩
end Go.Proofs.YtinfdhbnljnifaaGreatDoor
