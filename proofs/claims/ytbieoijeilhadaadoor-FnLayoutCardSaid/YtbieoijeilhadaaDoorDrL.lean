import Derived.Test.YtbieoijeilhadaaDoorDrK
import Derived.Test.YtbieoijeilhadaaDoorEdO
import Derived.Test.YtbieoijeilhadaaDoorLawEd
import Derived.Test.YtbieoijeilhadaaDoorSetS
import Derived.Deep.DeepCutAuto
namespace Go.Proofs.YtbieoijeilhadaaDoor
open Go.RowKit
def Sml (a b c : ByteArray) (un : List (ByteArray × ByteArray)) : Prop := a.size ≤ 2000 ∧ b.size ≤ 2000 ∧ c.size ≤ 2000 ∧ un.length ≤ 50 ∧ ∀ s ∈ un, s.1.size ≤ 2000 ∧ s.2.size ≤ 2000
theorem okL_sml {o : LD} (h : OkL o) : Sml o.a o.b o.c o.un := by
  have h1 := snap_sz h.2.1
  have h2 := text_sz h.2.2.1
  exact ⟨by omega, by omega, by omega, h.1, fun s hs => by have := snap_sz (lineP_mem h s hs); omega⟩
theorem edA_sml {a b c : ByteArray} {un : List (ByteArray × ByteArray)} (h : Sml a b c un) (kd : Int) (rs : List Int) : Sml (edA a b c un kd rs).a (edA a b c un kd rs).b (edA a b c un kd rs).c (edA a b c un kd rs).un := by
  unfold edA
  split
  · rename_i hP
    exact okL_sml (edF_ok hP kd rs)
  · exact h
theorem undoN_sml {a b c : ByteArray} {un : List (ByteArray × ByteArray)} (h : Sml a b c un) : Sml a b c (undoN un (a, b)) := by
  obtain ⟨h1, h2, h3, h4, h5⟩ := h
  refine ⟨h1, h2, h3, undoN_len _ _ h4, fun s hs => ?_⟩
  rcases undoN_mem hs with h6 | rfl
  · exact h5 s h6
  · exact ⟨h1, h2⟩
theorem Sml.each {a b c : ByteArray} {un : List (ByteArray × ByteArray)} (h : Sml a b c un) : ∀ j, j < un.length → (lnT un j).size ≤ 1048576 ∧ (lnH un j).size ≤ 1048576 := fun j hj => by
  have := h.2.2.2.2 _ (ln_mem hj)
  simp only [] at this
  omega
def LnBox (w : World) (B base : Nat) (a b c : ByteArray) (un : List (ByteArray × ByteArray)) : Prop :=
  ∃ (ua : Option Addr) (uc : Nat), w.heap[B]? = some (.cells #[.string a, .string b, .string c, .slice ua un.length uc] 46 (0, 0)) ∧ Own2 w base 140 (.slice ua un.length uc) un.length (fun j => .string (lnT un j)) (fun j => .string (lnH un j))
def LnDr (base : Nat) (w : World) (e : Ending) : Prop :=
  ∃ (a b c : ByteArray) (un : List (ByteArray × ByteArray)) (v : Value), e = .returned (.agg #[.string a, .string b, .string c, v]) ∧ Sml a b c un ∧ Own2 w base 140 v un.length (fun j => .string (lnT un j)) (fun j => .string (lnH un j))
theorem LnBox.ext {w w' : World} {B base : Nat} {a b c : ByteArray} {un : List (ByteArray × ByteArray)} (h : LnBox w B base a b c un) (E : Ext w w') : LnBox w' B base a b c un := by
  obtain ⟨ua, uc, h1, h2⟩ := h
  exact ⟨ua, uc, E.kept h1, h2.ext E⟩
theorem LnBox.fr {S : Nat → Prop} {w w' : World} {B base : Nat} {a b c : ByteArray} {un : List (ByteArray × ByteArray)} (h : LnBox w B base a b c un) (F : Fr S w w') (hS : ∀ q, S q → q < base) (hb : ¬ S B) : LnBox w' B base a b c un := by
  obtain ⟨ua, uc, h1, h2⟩ := h
  exact ⟨ua, uc, F.kept h1 hb, h2.fr F (fun g hg e => by have := (h2.lt g hg).1; have := hS g e; omega)⟩
theorem own2_empty {w : World} {base : Nat} {T : TypeId} {v : Value} {A B : Nat → Value} (h : w.ownsRow base T 2 v 0 []) : Own2 w base T v 0 A B := ⟨[], h, fun j hj => by omega⟩
set_option linter.unusedSimpArgs false in
set_option maxRecDepth 10000 in
set_option maxHeartbeats 4000000 in
theorem l4Draw_any (D : Nat) (v : Value) (bs : List Int) (p : Nat) (w : World) (h : RdAt w D v bs p) (hB : Bytes bs) (hl : bs.length ≤ 16777216) :
    Calls Tryd.prog 80 #[.pointer (some ⟨D, 0, none⟩)] w fun e w' => LnDr w.heap.size w' e ∧ (∃ p', RdAt w' D v bs p') ∧ Fr (fun k => k = D) w w' := by
  have HR := hide h
  have hDw : D < w.heap.size := lt_of_cell h.1
  have infoL : (Tryd.prog.info? 46).map (·.size) = some 4 := by kernel_rfl
  have hb := hB.at0 p
  obtain ⟨x, hx⟩ : ∃ x : Nat, at0 bs p = (x : Int) := ⟨(at0 bs p).toNat, by omega⟩
  have hx255 : x ≤ 255 := by omega
  have hnx := hide (fun W (hr : RdAt W D v bs p) => next_any D v bs p W hr hB hl)
  rw [hx] at hnx
  clear hx hb h
  go_enter Tryd.func80, Tryd.ntmps80
  go_wp2_with fail
  refine ((unhide hnx) _ ((unhide HR).ext (by first | exact (Ext.refl _).alloc _ | exact Ext.refl _))).mono ?_
  rintro e w1 ⟨rfl, hr1, fr1⟩
  obtain ⟨p1, hp1⟩ : ∃ q, q = (if p < bs.length then p + 1 else p) := ⟨_, rfl⟩
  rw [← hp1] at hr1
  clear hp1
  have hz1 : w.heap.size < w1.heap.size := by have h1 := fr1.size; simp at h1; omega
  obtain ⟨V, hV⟩ : ∃ V, V = (w1.alloc (.cells #[] 140)).alloc (.cells #[.string { data := #[] }, .string { data := #[] }, .string { data := #[] }, .slice (some ⟨w1.heap.size, 0, none⟩) 0 0] 46) := ⟨_, rfl⟩
  have EV : Ext w1 V := by rw [hV]; exact ((Ext.refl w1).alloc _).alloc _
  have HLB : Hid (LnBox V (w1.heap.size + 1) w1.heap.size noT noT noT []) := hide (by
    refine ⟨some ⟨w1.heap.size, 0, none⟩, 0, ?_, own2_empty ?_⟩
    · rw [hV]; have h := new_block (w1.alloc (.cells #[] 140)) (.cells #[.string { data := #[] }, .string { data := #[] }, .string { data := #[] }, .slice (some ⟨w1.heap.size, 0, none⟩) 0 0] 46); rw [show (w1.alloc (.cells #[] 140)).heap.size = w1.heap.size + 1 by simp] at h; exact h
    · rw [hV]; exact ((Ext.refl _).alloc _).owns (owns_empty w1 140 2))
  have HB0 := hide (EV.kept (fr1.kept (new_block w (.cells #[.string { data := #[] }, .string { data := #[] }, .string { data := #[] }, .slice none 0 0] 46)) (by omega)))
  have HF := hide ((Fr.of_ext (S := fun k => k = D) ((Ext.refl w).alloc (.cells #[.string { data := #[] }, .string { data := #[] }, .string { data := #[] }, .slice none 0 0] 46))).tr (fr1.tr (Fr.of_ext EV)))
  have HR1 := hide (hr1.ext EV)
  have HVV := hide hV
  have hzV : w1.heap.size + 1 < V.heap.size := by obtain ⟨_, _, h1, _⟩ := unhide HLB; exact lt_of_block h1
  clear hV EV hr1 fr1 hnx
  go_upto_if 17 with fail
  rw [← unhide HVV]
  clear HVV
  go_cut [4] (fun v4 wq => v4 = .pointer (some ⟨w1.heap.size + 1, 0, none⟩) ∧ ∃ (a b c : ByteArray) (un : List (ByteArray × ByteArray)), Hid (Sml a b c un) ∧ Hid (LnBox wq (w1.heap.size + 1) w1.heap.size a b c un) ∧ Hid (wq.heap[w.heap.size]? = some (.cells #[.string { data := #[] }, .string { data := #[] }, .string { data := #[] }, .slice none 0 0] 46 (0, 0))) ∧ Hid (Fr (fun k => k = D) w wq) ∧ Hid (RdAt wq D v bs p1))
  case first =>
    by_cases h15 : x % 16 = 15
    · have hq : ((x : Int) % 16 == 15) = true := by rw [beq_iff_eq]; omega
      rw [hq]
      obtain ⟨N, hN⟩ : ∃ N : Nat, (N : Int) = 297 + (x : Int) / 16 % 6 := ⟨297 + x / 16 % 6, by omega⟩
      have hwN : IntKind.i64.wrap (297 + (x : Int) / 16 % 6) = (N : Int) := by rw [IntKind.wrap_i64]; omega
      have hN2 : N ≤ 310 := by omega
      obtain ⟨i0, hi0, hz0, hz1, hz2⟩ := info_parts infoByteA
      have HO0 := hide (owns_empty V 5 1)
      clear hN h15
      go_wp2_with fail
      clear hq
      go_loopw [5, 6] (fun l9 i9 wr => ∃ (j : Nat) (zs : List Int) (la : Option Addr) (lc : Nat), j ≤ N ∧ i9 = .int .i64 j ∧ l9 = .slice la j lc ∧ Hid (zs.length = j) ∧ Hid (Bytes zs) ∧ Hid (wr.ownsRow V.heap.size 5 1 (.slice la j lc) j (zs.map (Value.int .u8))) ∧ Hid (Ext V wr)) (fun _ i9 _ => N - (intOf i9).toNat)
      case atStart => exact ⟨0, [], _, _, Nat.zero_le _, rfl, rfl, hide rfl, hide (fun n hn => by simp at hn), HO0, hide ((Ext.refl V).alloc _)⟩
      case round =>
        obtain ⟨j, zs, la, lc, hj, rfl, rfl, HZL, HZB, HO, HE⟩ := hrel
        have hzr := (unhide HE).size
        by_cases hlt : j < N
        · have hltI : (j : Int) < (N : Int) := by omega
          have step : ∀ K : Int, 0 ≤ K ∧ K ≤ 255 → (zs ++ [K]).length = j + 1 ∧ Bytes (zs ++ [K]) := fun K hK => ⟨by simp [unhide HZL], fun n hn => by
            rcases List.mem_append.1 hn with h9 | h9
            · exact (unhide HZB) n h9
            · simp at h9; omega⟩
          have HStep := hide step
          clear step
          rcases (by omega : j % 4 = 0 ∨ j % 4 = 1 ∨ j % 4 = 2 ∨ j % 4 = 3) with hm | hm | hm | hm
          · have hmI : (j : Int) % 4 = 0 := by omega
            have hval : (((({ data := #[97, 98, 32, 99] } : ByteArray)[0].toNat : Nat)) : Int) = 97 := rfl
            have HO6 := hide ((unhide HO).alloc (.cells #[.int .u8 97] 5))
            have HS6 := hide (Src.made (w := wr) (size := 1) [.int .u8 97] 1 5 rfl (by simp [Value.oneCell']))
            go_wp2_with (at_builtin; refine StopQ.intro ?_)
            show wpList _ _ _ _ _ _
            refine wpList_app rfl _ _ 22 rfl V.heap.size 5 i0 (.int .u8 0) 1 1 Tryd.underlying22 hi0 hz0 hz1 hz2 rfl (by decide) _ _ _ rfl (unhide HO6) _ 1 [.int .u8 97] rfl (unhide HS6) (by unfold maxLen; omega) (by omega) (by simp; omega) ?_
            intro v9 w9 o9 G9 _
            obtain ⟨a9, c9, rfl⟩ : ∃ a c, v9 = .slice a (j + 1) c := by
              rcases o9.2 with ⟨e, h0⟩ | ⟨g, cap9, cur, e, _⟩
              · omega
              · exact ⟨_, _, e⟩
            have HE9 := hide (((unhide HE).alloc _).grown G9 (fun q hq => ((unhide HO).lt q hq).1))
            have HO9 : Hid (w9.ownsRow V.heap.size 5 1 (.slice a9 (j + 1) c9) (j + 1) ((zs ++ [97]).map (Value.int .u8))) := hide (by rw [List.map_append]; exact o9)
            have HZ9 := hide ((unhide HStep) 97 (by omega))
            clear o9 G9 HO6 HS6 hmI hm
            go_wp2
            go_roundw
            case rel => exact ⟨j + 1, zs ++ [97], a9, c9, by omega, by go_num, rfl, hide (unhide HZ9).1, hide (unhide HZ9).2, HO9, HE9⟩
            case measure => simp [intOf]; omega
          · have hmI : (j : Int) % 4 = 1 := by omega
            have hval : (((({ data := #[97, 98, 32, 99] } : ByteArray)[1].toNat : Nat)) : Int) = 98 := rfl
            have HO6 := hide ((unhide HO).alloc (.cells #[.int .u8 98] 5))
            have HS6 := hide (Src.made (w := wr) (size := 1) [.int .u8 98] 1 5 rfl (by simp [Value.oneCell']))
            go_wp2_with (at_builtin; refine StopQ.intro ?_)
            show wpList _ _ _ _ _ _
            refine wpList_app rfl _ _ 22 rfl V.heap.size 5 i0 (.int .u8 0) 1 1 Tryd.underlying22 hi0 hz0 hz1 hz2 rfl (by decide) _ _ _ rfl (unhide HO6) _ 1 [.int .u8 98] rfl (unhide HS6) (by unfold maxLen; omega) (by omega) (by simp; omega) ?_
            intro v9 w9 o9 G9 _
            obtain ⟨a9, c9, rfl⟩ : ∃ a c, v9 = .slice a (j + 1) c := by
              rcases o9.2 with ⟨e, h0⟩ | ⟨g, cap9, cur, e, _⟩
              · omega
              · exact ⟨_, _, e⟩
            have HE9 := hide (((unhide HE).alloc _).grown G9 (fun q hq => ((unhide HO).lt q hq).1))
            have HO9 : Hid (w9.ownsRow V.heap.size 5 1 (.slice a9 (j + 1) c9) (j + 1) ((zs ++ [98]).map (Value.int .u8))) := hide (by rw [List.map_append]; exact o9)
            have HZ9 := hide ((unhide HStep) 98 (by omega))
            clear o9 G9 HO6 HS6 hmI hm
            go_wp2
            go_roundw
            case rel => exact ⟨j + 1, zs ++ [98], a9, c9, by omega, by go_num, rfl, hide (unhide HZ9).1, hide (unhide HZ9).2, HO9, HE9⟩
            case measure => simp [intOf]; omega
          · have hmI : (j : Int) % 4 = 2 := by omega
            have hval : (((({ data := #[97, 98, 32, 99] } : ByteArray)[2].toNat : Nat)) : Int) = 32 := rfl
            have HO6 := hide ((unhide HO).alloc (.cells #[.int .u8 32] 5))
            have HS6 := hide (Src.made (w := wr) (size := 1) [.int .u8 32] 1 5 rfl (by simp [Value.oneCell']))
            go_wp2_with (at_builtin; refine StopQ.intro ?_)
            show wpList _ _ _ _ _ _
            refine wpList_app rfl _ _ 22 rfl V.heap.size 5 i0 (.int .u8 0) 1 1 Tryd.underlying22 hi0 hz0 hz1 hz2 rfl (by decide) _ _ _ rfl (unhide HO6) _ 1 [.int .u8 32] rfl (unhide HS6) (by unfold maxLen; omega) (by omega) (by simp; omega) ?_
            intro v9 w9 o9 G9 _
            obtain ⟨a9, c9, rfl⟩ : ∃ a c, v9 = .slice a (j + 1) c := by
              rcases o9.2 with ⟨e, h0⟩ | ⟨g, cap9, cur, e, _⟩
              · omega
              · exact ⟨_, _, e⟩
            have HE9 := hide (((unhide HE).alloc _).grown G9 (fun q hq => ((unhide HO).lt q hq).1))
            have HO9 : Hid (w9.ownsRow V.heap.size 5 1 (.slice a9 (j + 1) c9) (j + 1) ((zs ++ [32]).map (Value.int .u8))) := hide (by rw [List.map_append]; exact o9)
            have HZ9 := hide ((unhide HStep) 32 (by omega))
            clear o9 G9 HO6 HS6 hmI hm
            go_wp2
            go_roundw
            case rel => exact ⟨j + 1, zs ++ [32], a9, c9, by omega, by go_num, rfl, hide (unhide HZ9).1, hide (unhide HZ9).2, HO9, HE9⟩
            case measure => simp [intOf]; omega
          · have hmI : (j : Int) % 4 = 3 := by omega
            have hval : (((({ data := #[97, 98, 32, 99] } : ByteArray)[3].toNat : Nat)) : Int) = 99 := rfl
            have HO6 := hide ((unhide HO).alloc (.cells #[.int .u8 99] 5))
            have HS6 := hide (Src.made (w := wr) (size := 1) [.int .u8 99] 1 5 rfl (by simp [Value.oneCell']))
            go_wp2_with (at_builtin; refine StopQ.intro ?_)
            show wpList _ _ _ _ _ _
            refine wpList_app rfl _ _ 22 rfl V.heap.size 5 i0 (.int .u8 0) 1 1 Tryd.underlying22 hi0 hz0 hz1 hz2 rfl (by decide) _ _ _ rfl (unhide HO6) _ 1 [.int .u8 99] rfl (unhide HS6) (by unfold maxLen; omega) (by omega) (by simp; omega) ?_
            intro v9 w9 o9 G9 _
            obtain ⟨a9, c9, rfl⟩ : ∃ a c, v9 = .slice a (j + 1) c := by
              rcases o9.2 with ⟨e, h0⟩ | ⟨g, cap9, cur, e, _⟩
              · omega
              · exact ⟨_, _, e⟩
            have HE9 := hide (((unhide HE).alloc _).grown G9 (fun q hq => ((unhide HO).lt q hq).1))
            have HO9 : Hid (w9.ownsRow V.heap.size 5 1 (.slice a9 (j + 1) c9) (j + 1) ((zs ++ [99]).map (Value.int .u8))) := hide (by rw [List.map_append]; exact o9)
            have HZ9 := hide ((unhide HStep) 99 (by omega))
            clear o9 G9 HO6 HS6 hmI hm
            go_wp2
            go_roundw
            case rel => exact ⟨j + 1, zs ++ [99], a9, c9, by omega, by go_num, rfl, hide (unhide HZ9).1, hide (unhide HZ9).2, HO9, HE9⟩
            case measure => simp [intOf]; omega
        · obtain rfl : j = N := by omega
          have hnl : ¬ (j : Int) < (j : Int) := by omega
          have hj9 := unhide HZL
          subst hj9
          obtain ⟨ua, uc, hlb, hown⟩ := (unhide HLB).ext (unhide HE)
          have HLb := hide hlb
          have hLBr := lt_of_block hlb
          have hcv := run_b2s (P := Tryd.prog) wr _ _ _ Tryd.underlying22 Tryd.underlying5 Tryd.underlying9 _ zs (ints_of_owns (unhide HO))
          have hsz : (toBA zs).size ≤ 310 := by rw [toBA_size]; omega
          obtain ⟨S, hSS⟩ : ∃ S, S = toBA zs := ⟨_, rfl⟩
          rw [← hSS] at hcv hsz
          obtain ⟨A', B', hsA, hsB, hST⟩ : ∃ A' B' : ByteArray, A'.size ≤ 2000 ∧ B'.size ≤ 2000 ∧ Calls Tryd.prog 110 #[.agg #[.string { data := #[] }, .string { data := #[] }, .string { data := #[] }, .slice ua 0 uc], .string S] wr fun e w' => ∃ (ua' : Option Addr) (un' uc' : Nat) (q : Bool), e = .returned (.tuple #[.agg #[.string A', .string B', .string { data := #[] }, .slice ua' un' uc'], .bool q]) ∧ Ext wr w' := by
            have hr9 : Row2At wr (.slice ua 0 uc) 0 (fun j => .string (lnT [] j)) (fun j => .string (lnH [] j)) := hown.reads
            by_cases hP : LineP noT noT noT 0 (lnT []) (lnH []) ∧ TextP (baL S)
            · refine ⟨S, noT, by omega, by decide, (specSetText_yes noT noT noT (.slice ua 0 uc) 0 (lnT []) (lnH []) S wr hr9 (by decide) (by decide) (by decide) (by decide) (fun j hj => by omega) (by omega) hP.1 hP.2).mono ?_⟩
              rintro e w' ⟨v', rfl, o, E⟩
              obtain ⟨x1, y1, rfl, _⟩ := o.reads
              exact ⟨x1, _, y1, true, rfl, E⟩
            · refine ⟨noT, noT, by decide, by decide, (specSetText_no noT noT noT (.slice ua 0 uc) 0 (lnT []) (lnH []) S wr hr9 (by decide) (by decide) (by decide) (by decide) (fun j hj => by omega) (by omega) hP).mono ?_⟩
              rintro e w' ⟨v', rfl, o, E⟩
              obtain ⟨x1, y1, rfl, _⟩ := o.reads
              exact ⟨x1, _, y1, false, rfl, E⟩
          have HST := hide hST
          clear hST hlb hown hSS
          go_wp2_with (first | (refine wpList_load_blk rfl 46 _ rfl (w1.heap.size + 1) rfl _ _ _ _ (unhide HLb) Tryd.underlying46 rfl infoL ?_))
          refine (unhide HST).mono ?_
          rintro e w7 ⟨u7a, u7n, u7c, q7, rfl, E7⟩
          have HL7 := hide (E7.kept (unhide HLb))
          have HE7 := hide ((unhide HE).trans E7)
          have z7 := E7.size
          clear E7 HST hcv
          go_wp2_with (first | (refine wpList_store_blk rfl 46 _ _ rfl rfl (w1.heap.size + 1) rfl _ _ #[.string A', .string B', .string { data := #[] }, .slice u7a u7n u7c] rfl (unhide HL7) infoL rfl (by simp [Value.oneCell']) ?_; intro Z hyZ hfZ; have HYZ := hide hyZ; have HfZ := hide hfZ; clear hyZ hfZ; refine StopQ.intro ?_))
          show wpList _ _ _ _ _ _
          have hYA := ((Ext.refl Z).alloc (.cells #[] 140)).kept (unhide HYZ)
          have hzZ := (unhide HfZ).size
          have hLZ := lt_of_block (unhide HYZ)
          have k3 : (Z.alloc (.cells #[] 140)).cell? ⟨w1.heap.size + 1, 3, none⟩ = some (.slice u7a u7n u7c) := cells_of hYA 3 _ rfl
          have f3 : (Z.alloc (.cells #[] 140)).frozen? ⟨w1.heap.size + 1, 3, none⟩ = false := Lib.frozen_of_heap hYA 3
          obtain ⟨T, hT⟩ : ∃ T, T = (Z.setCell ⟨w1.heap.size + 1, 3, none⟩ (.slice (some ⟨Z.heap.size, 0, none⟩) 0 0)).alloc (.cells #[] 140) := ⟨_, rfl⟩
          have hsZ : (Z.setCell ⟨w1.heap.size + 1, 3, none⟩ (.slice (some ⟨Z.heap.size, 0, none⟩) 0 0)).heap.size = Z.heap.size := by simp
          have hoT := owns_empty (Z.setCell ⟨w1.heap.size + 1, 3, none⟩ (.slice (some ⟨Z.heap.size, 0, none⟩) 0 0)) 140 2
          rw [hsZ, ← hT] at hoT
          have HLT : Hid (LnBox T (w1.heap.size + 1) w1.heap.size A' B' noT []) := hide (by
            exact ⟨some ⟨Z.heap.size, 0, none⟩, 0, by rw [hT]; exact ((Ext.refl _).alloc _).kept (set_blk2 (unhide HYZ) rfl), own2_empty (owns_mono hoT (by omega))⟩)
          have FT : Fr (fun q => q = w1.heap.size + 1) w7 T := by rw [hT]; exact (Fr.setCell (S := fun q => q = w1.heap.size + 1) (unhide HfZ) (a := ⟨w1.heap.size + 1, 3, none⟩) rfl _).tr (Fr.of_ext ((Ext.refl _).alloc _))
          have HBT := hide (FT.kept ((unhide HE7).kept (unhide HB0)) (by omega))
          have FZ : Fr (fun k => k = D) w T := FT.upon ((unhide HF).tr (Fr.of_ext (unhide HE7))) (fun q hq => by omega)
          have HRT := hide ((unhide HR).keep ((unhide HR1).ext (unhide HE7)) FZ (FT.block D (by have := (unhide HF).size; have := (unhide HE7).size; omega) (by omega)))
          have HFT := hide FZ
          have HTT := hide hT
          clear hT FT FZ hYA HYZ HfZ HL7 HE7 HLb hoT hsZ
          go_wp2
          rw [← unhide HTT]
          go_meet
          exact ⟨rfl, A', B', noT, [], hide ⟨hsA, hsB, by decide, by simp, fun s hs => by simp at hs⟩, HLT, HBT, HFT, HRT⟩
    · have hqb : ((x : Int) % 16 == 15) = false := by rw [beq_eq_false_iff_ne]; omega
      go_wp2
      go_meet
      exact ⟨rfl, noT, noT, noT, [], hide ⟨by decide, by decide, by decide, by simp, fun s hs => by simp at hs⟩, HLB, HB0, HF, HR1⟩
  case rest =>
    obtain ⟨rfl, a, b, c, un, HS, HLB2, HB2, HF2, HR2⟩ := hcut
    obtain ⟨n, hn⟩ : ∃ n : Nat, (n : Int) = 3 + (x : Int) % 12 := ⟨3 + x % 12, by omega⟩
    have hn15 : n ≤ 15 := by omega
    have hwn : IntKind.i64.wrap (3 + (x : Int) % 12) = (n : Int) := by rw [IntKind.wrap_i64]; omega
    have HSt := hide (l3Strokes_rd D v bs p1 n wc (unhide HR2) hB hl (by omega))
    have hzc := (unhide HF2).size
    clear HLB HB0 HF HR1 hn
    go_wp2_with fail
    refine (unhide HSt).mono ?_
    rintro e w3 ⟨v3, zs, rfl, ⟨o3, hzb, hzl⟩, ⟨p3, hr3⟩, fr3⟩
    have hB1 : w1.heap.size + 1 < wc.heap.size := by obtain ⟨_, _, h1, _⟩ := unhide HLB2; exact lt_of_block h1
    have HLB3 := hide ((unhide HLB2).fr fr3 (fun q hq => by omega) (by omega))
    have HB3 := hide (fr3.kept (unhide HB2) (by omega))
    have HF3 := hide ((unhide HF2).tr fr3)
    have HR3 := hide hr3
    have HK3 := hide (ReadKeys_nil v3 zs w3 (ints_of_owns o3) hzb (by omega))
    obtain ⟨z3a, z3c, rfl⟩ : ∃ a c, v3 = .slice a zs.length c := by
      rcases o3.2 with ⟨e, h0⟩ | ⟨g, cap9, cur, e, _⟩
      · exact ⟨none, 0, by rw [h0]; exact e⟩
      · exact ⟨_, _, e⟩
    have z3 := fr3.size
    clear o3 hr3 fr3 HSt HLB2 HB2 HF2 HR2
    go_wp2_with fail
    refine (unhide HK3).mono ?_
    rintro e w5 ⟨⟨h5a, h5n, h5c, kv, rs, q5, rfl, oK⟩, E5⟩
    obtain ⟨ka, kc, rfl⟩ := oK.slice
    replace HLB3 := hide ((unhide HLB3).ext E5)
    replace HB3 := hide (E5.kept (unhide HB3))
    replace HF3 := hide ((unhide HF3).tr (Fr.of_ext E5))
    replace HR3 := hide ((unhide HR3).ext E5)
    have z5 := E5.size
    obtain ⟨hkl, hki⟩ := rk_ok zs false
    have hkl2 : (rk zs false).1.length ≤ 1000 := by omega
    have hzl2 : zs.length ≤ 1000 := by omega
    obtain ⟨ks, hks⟩ : ∃ ks, ks = (rk zs false).1 := ⟨_, rfl⟩
    rw [← hks] at hkl2 hki oK ⊢
    have HKI : Hid (∀ k ∈ ks, I32s k.1 ∧ k.1.length ≤ 1000) := hide (fun k hk => ⟨(hki k hk).1, by have := (hki k hk).2; omega⟩)
    have HOK := hide oK
    have infoKR : (Tryd.prog.info? 24).map (·.size) = some 2 := by kernel_rfl
    have HN5 := hide (heap_alloc_new w5 (.cells #[.slice none 0 0, .bool false] 24))
    clear oK E5 HK3 hks hki hkl hzl
    go_wp2_with (first | (refine wpList_store_blk rfl 24 _ _ rfl rfl (w5.heap.size) rfl _ _ #[.slice h5a h5n h5c, .bool q5] rfl (unhide HN5) infoKR rfl (by simp [Value.oneCell']) ?_; intro U hb9 hf9; have HEU := hide (hf9.ext ((Ext.refl w5).alloc _) (fun q hq => by omega)); clear hb9 hf9; refine StopQ.intro ?_))
    show wpList _ _ _ _ _ _
    have EU := unhide HEU
    have zU := EU.size
    replace HOK := hide ((unhide HOK).ext EU)
    replace HLB3 := hide ((unhide HLB3).ext EU)
    replace HB3 := hide (EU.kept (unhide HB3))
    replace HF3 := hide ((unhide HF3).tr (Fr.of_ext EU))
    replace HR3 := hide ((unhide HR3).ext EU)
    clear EU HEU HN5
    go_wp2_with fail
    go_loopw [9] (fun i9 wr => ∃ (j : Nat) (a b c : ByteArray) (un : List (ByteArray × ByteArray)), j ≤ ks.length ∧ i9 = .int .i64 j ∧ Hid (Sml a b c un) ∧ Hid (LnBox wr (w1.heap.size + 1) w1.heap.size a b c un) ∧ Hid (OwnKys wr w3.heap.size (.slice ka ks.length kc) rs ks) ∧ Hid (wr.heap[w.heap.size]? = some (.cells #[.string { data := #[] }, .string { data := #[] }, .string { data := #[] }, .slice none 0 0] 46 (0, 0))) ∧ Hid (Fr (fun k => k = D) w wr) ∧ Hid (RdAt wr D v bs p3)) (fun i9 _ => ks.length - (intOf i9).toNat)
    case atStart => exact ⟨0, a, b, c, un, Nat.zero_le _, rfl, HS, HLB3, HOK, HB3, HF3, HR3⟩
    case round =>
      clear HS HLB3 HOK HB3 HF3 HR3 a b c un
      obtain ⟨j, a, b, c, un, hj, rfl, HS, HLB3, HOK, HB3, HF3, HR3⟩ := hrel
      have hzr := (unhide HF3).size
      by_cases hlt : j < ks.length
      · have hltI : (j : Int) < (ks.length : Int) := by omega
        obtain ⟨ua, uc, hlb, hown⟩ := unhide HLB3
        obtain ⟨hrl, ⟨ys, hy, hyy⟩, h3, _⟩ := id (unhide HOK)
        obtain ⟨g, cap9, e9, hcA⟩ : ∃ g cap9, Value.slice ka ks.length kc = .slice (some ⟨g, 0, none⟩) ks.length cap9 ∧ (wr.cell? ⟨g, j * 2, none⟩ = some (.int .i64 (cW ks j)) ∧ wr.cell? ⟨g, j * 2 + 1, none⟩ = some (rV rs j)) := by
          rcases hy.2 with ⟨_, h0⟩ | ⟨g, cap9, cur, e, _⟩
          · omega
          · refine ⟨g, cap9, e, ?_⟩
            rw [e] at hy
            have h9 := hyy j (by omega)
            rw [hy.cellAt _ (by omega), hy.cellAt _ (by omega)]
            exact ⟨h9.2, h9.1⟩
        obtain ⟨e1, _, e2⟩ := Value.slice.inj e9
        subst e1
        subst e2
        have hro := h3 j (by omega)
        obtain ⟨ra, rc, hrv⟩ : ∃ a c, rV rs j = .slice a (cR ks j).length c := by
          rcases hro.2 with ⟨e, h0⟩ | ⟨g, cap9, cur, e, _⟩
          · exact ⟨none, 0, by rw [h0]; exact e⟩
          · exact ⟨_, _, e⟩
        rw [hrv] at hro hcA
        have hk9 := (unhide HKI) (cR ks j, cW ks j) (by
          have h8 : ks[j]? = some ks[j] := List.getElem?_eq_getElem (by omega)
          have h7 : (cR ks j, cW ks j) = ks[j] := by simp [cR, cW, h8]
          rw [h7]
          exact List.getElem_mem _)
        obtain ⟨s1, s2, s3, s4, s5⟩ := id (unhide HS)
        have hEd := hide (fun W (hW : Ext wr W) => specEdit_all a b c (.slice ua un.length uc) un.length (lnT un) (lnH un) (cW ks j) (.slice ra (cR ks j).length rc) (cR ks j) W (Row2At.ext hown.reads hW) (by omega) (by omega) (by omega) (by omega) (unhide HS).each ((ints_of_owns hro).ext hW) hk9.1)
        rw [unL_ln] at hEd
        have HS2 := hide (edA_sml (unhide HS) (cW ks j) (cR ks j))
        obtain ⟨o, ho⟩ : ∃ o, o = edA a b c un (cW ks j) (cR ks j) := ⟨_, rfl⟩
        rw [← ho] at hEd HS2
        obtain ⟨kd, hkd⟩ : ∃ kd, kd = cW ks j := ⟨_, rfl⟩
        rw [← hkd] at hEd hcA
        have HLb := hide hlb
        have HcA := hide hcA
        clear hro hy hyy h3 hrl hrv ho hkd hown hlb hcA s1 s2 s3 s4 s5 HS e9
        go_wp2_with fail
        refine wp_region_held_drew (S := fun W => W.cell? ⟨g, j * 2, none⟩ = some (.int .i64 kd) ∧ W.cell? ⟨g, j * 2 + 1, none⟩ = some (.slice ra (cR ks j).length rc)) (by kernel_rfl) (unhide HcA) (fun hHeld => ?_)
        refine wpAnyH_take (i := 1) (v := ?_) rfl (by kernel_rfl) (by kernel_rfl) (by kernel_rfl) (fun _ _ _ h => h) (Or.inl ⟨by rfl, ?_⟩) (by assumption) ?_
        rotate_left
        · intro w' hSw; go_simp <;> with_reducible rfl
        simp only [Act.put, qA, qB, qC, qD, qE, qF]
        refine wpAnyH_take (i := 2) (v := ?_) rfl (by kernel_rfl) (by kernel_rfl) (by kernel_rfl) (fun _ _ _ h => h) (Or.inl ⟨by rfl, ?_⟩) (by assumption) ?_
        rotate_left
        · intro w' hSw; go_simp <;> with_reducible rfl
        simp only [Act.put, qA, qB, qC, qD, qE, qF]
        refine wpAnyH_take (i := 3) (v := ?_) rfl (by kernel_rfl) (by kernel_rfl) (by kernel_rfl) (fun _ _ _ h => h) (Or.inl ⟨by rfl, ?_⟩) (by assumption) ?_
        rotate_left
        · intro w' hSw; go_simp <;> with_reducible rfl
        simp only [Act.put, qA, qB, qC, qD, qE, qF]
        refine wpAnyH_take (i := 4) (v := ?_) rfl (by kernel_rfl) (by kernel_rfl) (by kernel_rfl) (fun _ _ _ h => h) (Or.inl ⟨by rfl, ?_⟩) (by assumption) ?_
        rotate_left
        · intro w' hSw; go_simp <;> with_reducible rfl
        simp only [Act.put, qA, qB, qC, qD, qE, qF]
        have G := hide ((Ext.refl wr).drew)
        generalize wr.drew = Wr0 at *
        refine wpAnyH_ready (rs := [0]) (by kernel_rfl) (by simp) ?_
        refine AllReadyH.cons rfl (fun K hK => ?_) AllReadyH.nil
        refine step_load_blk rfl 46 _ rfl (w1.heap.size + 1) rfl _ _ _ _ ((unhide G).kept (unhide HLb)) Tryd.underlying46 rfl infoL ?_
        refine hK.out _ _ (by assumption) (fun hHeld => ?_)
        clear hK K
        refine wpAnyH_ready (rs := [5]) (by kernel_rfl) (by simp) ?_
        refine AllReadyH.cons rfl (fun K hK => ?_) AllReadyH.nil
        go_simp
        refine ((unhide hEd) _ (unhide G)).mono ?_
        rintro e w7 ⟨⟨v7, rfl, o7⟩, E7⟩
        obtain ⟨u7a, u7c, rfl⟩ : ∃ ua uc, v7 = .slice ua o.un.length uc := by
          obtain ⟨x, y, e, _⟩ := o7.reads
          exact ⟨x, y, e⟩
        have z0 := (unhide G).size
        have F7 : Ext wr w7 := (unhide G).trans E7
        have z7 := F7.size
        have hLB7 : w1.heap.size + 1 < wr.heap.size := lt_of_block (unhide HLb)
        refine hK.out _ _ ⟨F7.cell (unhide HcA).1, F7.cell (unhide HcA).2⟩ (fun hHeld => ?_)
        clear hK K
        refine wpAnyH_take (i := 6) (v := ?_) rfl (by kernel_rfl) (by kernel_rfl) (by kernel_rfl) (fun _ _ _ h => h) (Or.inl ⟨by rfl, ?_⟩) (by assumption) ?_
        rotate_left
        · intro w' hSw; go_simp <;> with_reducible rfl
        simp only [Act.put, qA, qB, qC, qD, qE, qF]
        refine wpAnyH_take (i := 7) (v := ?_) rfl (by kernel_rfl) (by kernel_rfl) (by kernel_rfl) (fun _ _ _ h => h) (Or.inl ⟨by rfl, ?_⟩) (by assumption) ?_
        rotate_left
        · intro w' hSw; go_simp <;> with_reducible rfl
        simp only [Act.put, qA, qB, qC, qD, qE, qF]
        refine wpAnyH_take (i := 8) (v := ?_) rfl (by kernel_rfl) (by kernel_rfl) (by kernel_rfl) (fun _ _ _ h => h) (Or.inl ⟨by rfl, ?_⟩) (by assumption) ?_
        rotate_left
        · intro w' hSw; go_simp <;> with_reducible rfl
        simp only [Act.put, qA, qB, qC, qD, qE, qF]
        refine wpAnyH_ready (rs := [9]) (by kernel_rfl) (by simp) ?_
        refine AllReadyH.cons rfl (fun K hK => ?_) AllReadyH.nil
        refine wp_store_blk 46 _ _ rfl rfl (w1.heap.size + 1) rfl _ _ #[.string o.a, .string o.b, .string o.c, .slice u7a o.un.length u7c] rfl (F7.kept (unhide HLb)) infoL rfl (by simp [Value.oneCell']) ?_
        intro Z hyZ hfZ
        have hgf := (unhide HOK).foot (g := g) (.inl rfl)
        have hg9 := hfZ.block g (by omega) (by omega)
        refine hK.out _ _ ⟨by rw [cell_heap hg9]; exact F7.cell (unhide HcA).1, by rw [cell_heap hg9]; exact F7.cell (unhide HcA).2⟩ (fun hHeld => ?_)
        have HLBZ : Hid (LnBox Z (w1.heap.size + 1) w1.heap.size o.a o.b o.c o.un) := hide ⟨u7a, u7c, hyZ, (o7.fr hfZ (fun q hq e9 => by have := (o7.lt q hq).1; omega)).mono (by omega)⟩
        have HOKZ := hide (OwnKys.fr ((unhide HOK).ext F7) hfZ (fun q hq e9 => by have := ((unhide HOK).foot hq).1; omega))
        have HBZ := hide (hfZ.kept (F7.kept (unhide HB3)) (by omega))
        have FZ : Fr (fun k => k = D) w Z := hfZ.upon ((unhide HF3).tr (Fr.of_ext F7)) (fun q hq => by omega)
        have HFZ := hide FZ
        have HRZ := hide ((unhide HR).keep ((unhide HR3).ext F7) FZ (hfZ.block D (by omega) (by omega)))
        clear hK K hyZ hfZ hg9 FZ hgf o7 E7 hHeld
        refine wpAnyH_done (by kernel_rfl) ?_ _
        go_wp2
        go_roundw
        case rel => exact ⟨j + 1, o.a, o.b, o.c, o.un, by omega, by go_num, HS2, HLBZ, HOKZ, HBZ, HFZ, HRZ⟩
        case measure => simp [intOf]; omega
      · obtain rfl : j = ks.length := by omega
        have hnl : ¬ ((ks.length : Nat) : Int) < (ks.length : Int) := by omega
        clear HOK HKI
        obtain ⟨N, hN⟩ : ∃ N : Nat, (N : Int) = 50 + (x : Int) / 8 % 2 := ⟨50 + x / 8 % 2, by omega⟩
        have hwN : IntKind.i64.wrap (50 + (x : Int) / 8 % 2) = (N : Int) := by rw [IntKind.wrap_i64]; omega
        have hN2 : N ≤ 60 := by omega
        clear hN
        go_wp2_with fail
        rename World => wo
        go_loopw [10] (fun i9 wr => ∃ (j : Nat) (a b c : ByteArray) (un : List (ByteArray × ByteArray)), j ≤ N ∧ i9 = .int .i64 j ∧ Hid (Sml a b c un) ∧ Hid (LnBox wr (w1.heap.size + 1) w1.heap.size a b c un) ∧ Hid (wr.heap[w.heap.size]? = some (.cells #[.string { data := #[] }, .string { data := #[] }, .string { data := #[] }, .slice none 0 0] 46 (0, 0))) ∧ Hid (Fr (fun k => k = D) w wr) ∧ Hid (RdAt wr D v bs p3)) (fun i9 _ => N - (intOf i9).toNat)
        case atStart => exact ⟨0, a, b, c, un, Nat.zero_le _, rfl, HS, HLB3, HB3, HF3, HR3⟩
        case round =>
          clear HS HLB3 HB3 HF3 HR3 a b c un
          obtain ⟨j, a, b, c, un, hj, rfl, HS, HLB3, HB3, HF3, HR3⟩ := hrel
          have hzr := (unhide HF3).size
          obtain ⟨ua, uc, hlb, hown⟩ := unhide HLB3
          have hLB7 : w1.heap.size + 1 < wr.heap.size := lt_of_block hlb
          have HLb := hide hlb
          have HOw := hide hown
          have c0 : wr.cell? ⟨w1.heap.size + 1, 0, none⟩ = some (.string a) := cells_of hlb 0 _ rfl
          have c1 : wr.cell? ⟨w1.heap.size + 1, 1, none⟩ = some (.string b) := cells_of hlb 1 _ rfl
          clear hlb hown HLB3
          by_cases hgo : j < N ∧ x % 8 = 6
          · have hltI : (j : Int) < (N : Int) := by omega
            have h8 : (x : Int) % 8 = 6 := by omega
            have hSt := hide (l4Set_any a b c a b (.slice ua un.length uc) un.length (lnT un) (lnH un) wr (unhide HOw).reads (unhide HS).2.2.2.1)
            rw [unL_ln] at hSt
            have HS2 := hide (undoN_sml (unhide HS))
            clear hgo HS
            go_wp2_with (first | (refine wpList_load_blk rfl 46 _ rfl (w1.heap.size + 1) rfl _ _ _ _ (unhide HLb) Tryd.underlying46 rfl infoL ?_))
            refine (unhide hSt).mono ?_
            rintro e w7 ⟨v7, rfl, o7, F7⟩
            obtain ⟨u7a, u7c, rfl⟩ : ∃ ua uc, v7 = .slice ua (undoN un (a, b)).length uc := by
              obtain ⟨x, y, e, _⟩ := o7.reads
              exact ⟨x, y, e⟩
            have HL7 := hide (F7.kept (unhide HLb))
            have HO7 := hide o7
            have HF7 := hide F7
            have z7 := F7.size
            clear o7 F7 hSt c0 c1
            go_wp2_with (first | (refine wpList_store_blk rfl 46 _ _ rfl rfl (w1.heap.size + 1) rfl _ _ #[.string a, .string b, .string c, .slice u7a (undoN un (a, b)).length u7c] rfl (unhide HL7) infoL rfl (by simp [Value.oneCell']) ?_; intro Z hyZ hfZ; have HYZ := hide hyZ; have HfZ := hide hfZ; clear hyZ hfZ; refine StopQ.intro ?_))
            show wpList _ _ _ _ _ _
            have hfZ := unhide HfZ
            have HLBZ : Hid (LnBox Z (w1.heap.size + 1) w1.heap.size a b c (undoN un (a, b))) := hide ⟨u7a, u7c, unhide HYZ, ((unhide HO7).fr hfZ (fun q hq e9 => by have := ((unhide HO7).lt q hq).1; omega)).mono (by omega)⟩
            have HBZ := hide (hfZ.kept ((unhide HF7).kept (unhide HB3)) (by omega))
            have FZ : Fr (fun k => k = D) w Z := hfZ.upon ((unhide HF3).tr (Fr.of_ext (unhide HF7))) (fun q hq => by omega)
            have HFZ := hide FZ
            have HRZ := hide ((unhide HR).keep ((unhide HR3).ext (unhide HF7)) FZ (hfZ.block D (by omega) (by omega)))
            clear hfZ HfZ HYZ FZ HO7 HF7 HL7 h8
            go_wp2
            go_roundw
            case rel => exact ⟨j + 1, a, b, c, undoN un (a, b), by omega, by go_num, HS2, HLBZ, HBZ, HFZ, HRZ⟩
            case measure => simp [intOf]; omega
          · by_cases hlt : j < N
            · have hltI : (j : Int) < (N : Int) := by omega
              have h8 : ((x : Int) % 8 == 6) = false := by rw [beq_eq_false_iff_ne]; omega
              go_wp2_with (first | (refine wpList_load_blk rfl 46 _ rfl (w1.heap.size + 1) rfl _ _ _ _ (unhide HLb) Tryd.underlying46 rfl infoL ?_) | (refine wpList_store_blk rfl 46 _ _ rfl rfl (w.heap.size) rfl _ _ #[.string a, .string b, .string c, .slice ua un.length uc] rfl (unhide HB3) infoL rfl (by simp [Value.oneCell']) ?_; intro Z hyZ hfZ; have HYZ := hide hyZ; have HfZ := hide hfZ; clear hyZ hfZ))
              have y0 : Z.cell? ⟨w.heap.size, 0, none⟩ = some (.string a) := cells_of (unhide HYZ) 0 _ rfl
              have y1 : Z.cell? ⟨w.heap.size, 1, none⟩ = some (.string b) := cells_of (unhide HYZ) 1 _ rfl
              have y2 : Z.cell? ⟨w.heap.size, 2, none⟩ = some (.string c) := cells_of (unhide HYZ) 2 _ rfl
              have y3 : Z.cell? ⟨w.heap.size, 3, none⟩ = some (.slice ua un.length uc) := cells_of (unhide HYZ) 3 _ rfl
              have FZ : Fr (fun k => k = D) w Z := (unhide HfZ).upon (unhide HF3) (fun q hq => by omega)
              exact bodyPost_ret (v := .agg #[.string a, .string b, .string c, .slice ua un.length uc]) (by simp [results, Tryd.results80, go_sem, y0, y1, y2, y3]) rfl ⟨⟨a, b, c, un, _, rfl, unhide HS, ((unhide HOw).fr (unhide HfZ) (fun q hq e9 => by have := ((unhide HOw).lt q hq).1; omega)).mono (by omega)⟩, ⟨p3, (unhide HR).keep (unhide HR3) FZ ((unhide HfZ).block D (by omega) (by omega))⟩, FZ⟩
            · have hltI : ¬ (j : Int) < (N : Int) := by omega
              go_wp2_with (first | (refine wpList_load_blk rfl 46 _ rfl (w1.heap.size + 1) rfl _ _ _ _ (unhide HLb) Tryd.underlying46 rfl infoL ?_) | (refine wpList_store_blk rfl 46 _ _ rfl rfl (w.heap.size) rfl _ _ #[.string a, .string b, .string c, .slice ua un.length uc] rfl (unhide HB3) infoL rfl (by simp [Value.oneCell']) ?_; intro Z hyZ hfZ; have HYZ := hide hyZ; have HfZ := hide hfZ; clear hyZ hfZ))
              have y0 : Z.cell? ⟨w.heap.size, 0, none⟩ = some (.string a) := cells_of (unhide HYZ) 0 _ rfl
              have y1 : Z.cell? ⟨w.heap.size, 1, none⟩ = some (.string b) := cells_of (unhide HYZ) 1 _ rfl
              have y2 : Z.cell? ⟨w.heap.size, 2, none⟩ = some (.string c) := cells_of (unhide HYZ) 2 _ rfl
              have y3 : Z.cell? ⟨w.heap.size, 3, none⟩ = some (.slice ua un.length uc) := cells_of (unhide HYZ) 3 _ rfl
              have FZ : Fr (fun k => k = D) w Z := (unhide HfZ).upon (unhide HF3) (fun q hq => by omega)
              exact bodyPost_ret (v := .agg #[.string a, .string b, .string c, .slice ua un.length uc]) (by simp [results, Tryd.results80, go_sem, y0, y1, y2, y3]) rfl ⟨⟨a, b, c, un, _, rfl, unhide HS, ((unhide HOw).fr (unhide HfZ) (fun q hq e9 => by have := ((unhide HOw).lt q hq).1; omega)).mono (by omega)⟩, ⟨p3, (unhide HR).keep (unhide HR3) FZ ((unhide HfZ).block D (by omega) (by omega))⟩, FZ⟩
end Go.Proofs.YtbieoijeilhadaaDoor
