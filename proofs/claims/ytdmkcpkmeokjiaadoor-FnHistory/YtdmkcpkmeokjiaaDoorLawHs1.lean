import Derived.Deep.RegionHeld3
import Derived.Test.YtdmkcpkmeokjiaaDoorHistH
import Derived.Test.YtdmkcpkmeokjiaaDoorHistE
import Derived.Test.YtdmkcpkmeokjiaaDoorSame6
namespace Go.Proofs.YtdmkcpkmeokjiaaDoor
open Go.RowKit

set_option maxRecDepth 10000 in
set_option maxHeartbeats 4000000 in
theorem fnHistory_small (v : Value) (code : List Int) (mx : Int) (w : World) (hv : IntsAt w .u8 v code) (hB : Bytes code) (hl : code.length ≤ 1048576) (hm : w.cell? ⟨0, 0, none⟩ = some (.int .i64 mx)) (hT : Tabs3 w) :
    Calls Tryd.prog 3 #[v] w fun e w' => e = .returned (.bool true) ∧ Below w.heap.size w w' := by
  have HD := hide (DrawAdd_any v code w hv hB hl)
  obtain ⟨ao, ca, rfl, _, _⟩ := hv
  have hl2 : ¬ (1048576 : Int) < (code.length : Int) := by omega
  have HT := hide hT
  have HM := hide hm
  clear hT hm hB
  go_enter Tryd.func3, Tryd.ntmps3
  go_wp2_with fail
  refine (unhide HD).mono ?_
  rintro e w1 ⟨cap, g, n, c, text, rfl, hn, ht, tx, hS, o1, E1⟩
  obtain ⟨ok, hok⟩ := yes_no (AddP cap n tx text)
  obtain ⟨bh, hbh⟩ := yes_no (HistP cap n tx)
  have hx : ∀ j, j < n → (tx j).size ≤ 1048576 := fun j hj => by have := hS j hj; omega
  have HA := hide (fun W (E : Ext w1 W) => specAdd_nn cap ⟨g, 0, none⟩ n c tx text W (o1.ext E).reads (by omega) hx (by omega) ok hok)
  have HI := hide (fun W (E : Ext w1 W) => implAdd_some cap ⟨g, 0, none⟩ n c tx text W (o1.ext E).reads (by omega) hx (by omega) ((unhide HT).ext (E1.trans E)) ok hok)
  have HH1 := hide (fun W (E : Ext w1 W) => implHistoryOk_any cap (.slice (some ⟨g, 0, none⟩) n c) n tx W (o1.ext E).reads (by omega) hx ((unhide HT).ext (E1.trans E)) bh hbh)
  have HH2 := hide (fun W (E : Ext w1 W) => specHistoryOk_any cap (.slice (some ⟨g, 0, none⟩) n c) n tx W (o1.ext E).reads (by omega) hx bh hbh)
  obtain ⟨M, hM⟩ : ∃ M, M = addN ok cap n := ⟨_, rfl⟩
  obtain ⟨TY, hTY⟩ : ∃ TY, TY = addT ok cap n tx text := ⟨_, rfl⟩
  rw [← hM, ← hTY] at HA HI
  have HMd := hide hM
  have HTd := hide hTY
  have HO1 := hide o1
  have HS := hide hS
  have HE1 := hide E1
  have HK := hide hok
  clear HD o1 hS E1 hx hok hbh hM hTY
  obtain ⟨V, hV⟩ : ∃ V, V = w1.alloc (.cells #[.int .i64 cap, .slice (some ⟨g, 0, none⟩) n c] 25) := ⟨_, rfl⟩
  have EV : Ext w1 V := by rw [hV]; exact (Ext.refl w1).alloc _
  have HB : Hid (V.heap[w1.heap.size]? = some (.cells #[.int .i64 cap, .slice (some ⟨g, 0, none⟩) n c] 25 (0, 0))) := hide (by rw [hV]; exact new_block w1 _)
  have HW := hide hV
  clear hV
  have a0 : V.cell? ⟨w1.heap.size, 0, none⟩ = some (.int .i64 cap) := cells_of (unhide HB) 0 _ rfl
  have a1 : V.cell? ⟨w1.heap.size, 1, none⟩ = some (.slice (some ⟨g, 0, none⟩) n c) := cells_of (unhide HB) 1 _ rfl
  go_upto_region 4 with fail
  rw [← unhide HW]
  clear HW
  go_wp2_with fail
  refine ((unhide HA) _ EV).mono ?_
  rintro e w2 ⟨g2, c2, rfl, o2, E2⟩
  clear o2 HA a0 a1
  have EV2 := EV.trans E2
  obtain ⟨V2, hV2⟩ : ∃ V2, V2 = w2.alloc (.cells #[.int .i64 cap, .slice (some ⟨g2, 0, none⟩) M c2] 25) := ⟨_, rfl⟩
  have E3 : Ext w2 V2 := by rw [hV2]; exact (Ext.refl w2).alloc _
  have EV3 := EV2.trans E3
  have HW := hide hV2
  clear hV2
  replace HB := hide ((E2.trans E3).kept (unhide HB))
  have a0 : V2.cell? ⟨w1.heap.size, 0, none⟩ = some (.int .i64 cap) := cells_of (unhide HB) 0 _ rfl
  have a1 : V2.cell? ⟨w1.heap.size, 1, none⟩ = some (.slice (some ⟨g, 0, none⟩) n c) := cells_of (unhide HB) 1 _ rfl
  clear EV EV2 E2 E3
  go_upto_region 5 with fail
  rw [← unhide HW]
  clear HW
  go_wp2_with fail
  refine ((unhide HI) _ EV3).mono ?_
  rintro e w4 ⟨v4, rfl, o4, E4⟩
  obtain ⟨a4, c4, rfl⟩ := o4.slice
  have EV4 := EV3.trans E4
  obtain ⟨V4, hV4⟩ : ∃ V4, V4 = w4.alloc (.cells #[.int .i64 cap, .slice a4 M c4] 25) := ⟨_, rfl⟩
  have E5 : Ext w4 V4 := by rw [hV4]; exact (Ext.refl w4).alloc _
  have HN : Hid (V4.heap[w4.heap.size]? = some (.cells #[.int .i64 cap, .slice a4 M c4] 25 (0, 0))) := hide (by rw [hV4]; exact new_block w4 _)
  have EV5 := EV4.trans E5
  have HW := hide hV4
  clear hV4 a0 a1
  replace HB := hide ((E4.trans E5).kept (unhide HB))
  have HO4 := hide (o4.ext E5)
  have a0 : V4.cell? ⟨w1.heap.size, 0, none⟩ = some (.int .i64 cap) := cells_of (unhide HB) 0 _ rfl
  have a1 : V4.cell? ⟨w1.heap.size, 1, none⟩ = some (.slice (some ⟨g, 0, none⟩) n c) := cells_of (unhide HB) 1 _ rfl
  clear EV3 EV4 E4 E5 o4 HI
  go_upto_region 6 with fail
  rw [← unhide HW]
  clear HW
  have hbb : (ok != ok) = false := by cases ok <;> rfl
  go_region_held3 (fun W => W.cell? ⟨w1.heap.size, 0, none⟩ = some (.int .i64 cap) ∧ W.cell? ⟨w1.heap.size, 1, none⟩ = some (.slice (some ⟨g, 0, none⟩) n c)) (first | exact ⟨a0, a1⟩ | exact ⟨he'.cell a0, he'.cell a1⟩) (first
    | (go_at_call 7
       first
         | (refine ((unhide HH1) _ (EV5.trans he')).mono ?_; rintro e w6 ⟨rfl, F6⟩; have he' := he'.trans F6; clear F6)
         | (refine ((unhide HH1) _ EV5.drew).mono ?_; rintro e w6 ⟨rfl, F6⟩; have he' := (Ext.refl V4).drew.trans F6; clear F6))
    | (go_at_call 8
       first
         | (refine ((unhide HH2) _ (EV5.trans he')).mono ?_; rintro e w6 ⟨rfl, F6⟩; have he' := he'.trans F6; clear F6)
         | (refine ((unhide HH2) _ EV5.drew).mono ?_; rintro e w6 ⟨rfl, F6⟩; have he' := (Ext.refl V4).drew.trans F6; clear F6)))
  have HE6 := hide (EV5.trans he')
  replace HB := hide (he'.kept (unhide HB))
  replace HN := hide (he'.kept (unhide HN))
  replace HO4 := hide ((unhide HO4).ext he')
  have HO6 := hide ((unhide HO1).ext (unhide HE6))
  have b0 : w6.cell? ⟨w1.heap.size, 0, none⟩ = some (.int .i64 cap) := cells_of (unhide HB) 0 _ rfl
  have b1 : w6.cell? ⟨w1.heap.size, 1, none⟩ = some (.slice (some ⟨g, 0, none⟩) n c) := cells_of (unhide HB) 1 _ rfl
  have n0 : w6.cell? ⟨w4.heap.size, 0, none⟩ = some (.int .i64 cap) := cells_of (unhide HN) 0 _ rfl
  have n1 : w6.cell? ⟨w4.heap.size, 1, none⟩ = some (.slice a4 M c4) := cells_of (unhide HN) 1 _ rfl
  clear a0 a1 he' HH1 HH2 EV5
  cases ok
  · have hMn : Hid (M = n) := hide (unhide HMd)
    have hTn : Hid (TY = tx) := hide (by rw [unhide HTd]; funext j; simp [addT])
    have HSm := hide (sameTexts_any (.slice a4 M c4) (.slice (some ⟨g, 0, none⟩) n c) M n TY tx w6 (unhide HO4).reads (unhide HO6).reads (by have := unhide hMn; omega) (by omega) true (by simp [SameR, unhide hMn, unhide hTn]))
    go_wp2_with fail
    refine (unhide HSm).mono ?_
    rintro e w7 ⟨rfl, F7⟩
    go_wp2
    go_ret
    exact ⟨rfl, ((unhide HE1).trans ((unhide HE6).trans F7)).below⟩
  · have hP := (unhide HK).1 rfl
    have hor := addN_or hP
    rw [← unhide HMd] at hor
    have HLast : Hid (TY (M - 1) = text) := hide (by rw [unhide HTd, unhide HMd]; exact addT_last hP)
    have HHist : Hid (HistP cap M TY) := hide (by rw [unhide HTd, unhide HMd]; exact addT_hist hP)
    have HAg : Hid (¬ AddP cap M TY text) := hide (by rw [unhide HTd, unhide HMd]; exact addT_again hP)
    have HPre : Hid (∀ j, j < M - 1 → TY j = tx (n - (M - 1) + j)) := hide (by rw [unhide HTd, unhide HMd]; exact addT_pre hP)
    have HSz : Hid (∀ j, j < M → (TY j).size ≤ 1048576) := hide (fun j hj => by
      rw [unhide HMd] at hj
      rw [unhide HTd]
      exact addT_size (B := 1048576) true (fun j hj => by have := (unhide HS) j hj; omega) (by omega) j hj)
    have hi := hP.2.1
    have hne : baL text ≠ [] := hi.1
    have ht1 : 1 ≤ text.size := by
      rcases Nat.eq_zero_or_pos text.size with e | e
      · exact absurd (List.eq_nil_of_length_eq_zero (by rw [baL_len]; exact e)) hne
      · exact e
    have hM1 : 1 ≤ M := by rcases hor with ⟨e1, e2, e3⟩ | ⟨e1, e2⟩ <;> omega
    have hMc : (M : Int) ≤ cap := by rcases hor with ⟨e1, e2, e3⟩ | ⟨e1, e2⟩ <;> omega
    have hM101 : M ≤ 101 := by rcases hor with ⟨e1, e2, e3⟩ | ⟨e1, e2⟩ <;> omega
    obtain ⟨f, hf⟩ : ∃ f, f = n - (M - 1) := ⟨_, rfl⟩
    have hfn : f + (M - 1) = n := by rcases hor with ⟨e1, e2, e3⟩ | ⟨e1, e2⟩ <;> omega
    have hf1 : f ≤ 1 := by rcases hor with ⟨e1, e2, e3⟩ | ⟨e1, e2⟩ <;> omega
    have hfc : f = 1 ↔ (n : Int) = cap := by rcases hor with ⟨e1, e2, e3⟩ | ⟨e1, e2⟩ <;> omega
    obtain ⟨r, bb, hlat, hrb⟩ : ∃ r bb, latV (latR true (text.extract 0 1) TY M) = .tuple #[.string r, .bool bb] ∧ (2 ≤ text.size → r = text ∧ bb = true) := by
      by_cases h2 : 2 ≤ text.size
      · refine ⟨text, true, ?_, fun _ => ⟨rfl, rfl⟩⟩
        rw [lat_found text TY M hM1 (unhide HLast) h2, latV_some hne]
      · exact ⟨_, _, rfl, fun h => absurd h h2⟩
    have HLat := hide hlat
    have HRB := hide hrb
    have HFC := hide hfc
    have HF := hide hf
    have HFN := hide hfn
    rcases (unhide HO4).form with ⟨_, h3⟩ | ⟨g4, c4', e4⟩
    · omega
    obtain ⟨rfl, _, rfl⟩ := Value.slice.inj e4
    have HH1 := hide (fun W (E : Ext w6 W) => implHistoryOk_any cap (.slice (some ⟨g4, 0, none⟩) M c4) M TY W ((unhide HO4).ext E).reads (by omega) (unhide HSz) ((unhide HT).ext ((unhide HE1).trans ((unhide HE6).trans E))) true ⟨fun _ => unhide HHist, fun _ => rfl⟩)
    have l1 : w6.cell? ⟨g4, M - 1, none⟩ = some (.string text) := by
      have h := ((unhide HO4).cell (show M - 1 < M by omega)).1
      rw [unhide HLast] at h
      exact h
    have hwM : IntKind.i64.wrap ((M : Int) - 1) = ((M - 1 : Nat) : Int) := by rw [IntKind.wrap_i64]; omega
    have hk1 : ((M - 1 : Nat) : Int) < (M : Int) := by omega
    have hk2 : ¬ (M : Int) < 1 := by omega
    have hk3 : ¬ cap < (M : Int) := by omega
    clear hP hor hi hlat hrb hf hfn hfc HLast e4
    go_wp2_with fail
    refine ((unhide HH1) _ (Ext.refl w6)).mono ?_
    rintro e w7 ⟨rfl, E7⟩
    have b0 := E7.cell b0
    have b1 := E7.cell b1
    have n0 := E7.cell n0
    have n1 := E7.cell n1
    have HO7 := hide ((unhide HO4).ext E7)
    have HO7' := hide ((unhide HO6).ext E7)
    have HE7 := hide ((unhide HE6).trans E7)
    have hnc : n ≤ c := by
      obtain ⟨a9, c9, e9, h9, _⟩ := (unhide HO7').reads
      obtain ⟨_, _, rfl⟩ := Value.slice.inj e9
      exact h9
    have hMc4 : M ≤ c4 := by
      obtain ⟨a9, c9, e9, h9, _⟩ := (unhide HO7).reads
      obtain ⟨_, _, rfl⟩ := Value.slice.inj e9
      exact h9
    have HR4 : Hid (∀ W, Ext w7 W → Row1At W (.slice (some ⟨g4, 0, none⟩) (M - 1) c4) (M - 1) (fun j => .string (TY j))) := hide (fun W E => ⟨_, c4, rfl, by omega, fun _ => ⟨g4, 0, rfl, fun j hj => by rw [Nat.zero_add]; exact (((unhide HO7).ext E).cell (show j < M by omega)).1⟩⟩)
    clear HH1 l1 HO4 HO6 HE6 E7
    have hf01 : f = 0 ∨ f = 1 := by omega
    have hwf : IntKind.i64.wrap ((n : Int) - ((M - 1 : Nat) : Int)) = (f : Int) := by rw [IntKind.wrap_i64]; have := unhide HFN; omega
    have hM1c : ((M - 1 : Nat) : Int) ≤ (c4 : Int) := by omega
    go_upto_region 14 with fail
    rcases hf01 with rfl | rfl
    · have hnb : ((n : Int) == cap) = false := by rw [beq_eq_false_iff_ne]; intro e; have := (unhide HFC).2 e; omega
      have hnb2 : ¬ (n : Int) = cap := by intro e; have := (unhide HFC).2 e; omega
      have HSm := hide (fun W (E : Ext w7 W) => sameTexts_any (.slice (some ⟨g4, 0, none⟩) (M - 1) c4) (.slice (some ⟨g, 0, none⟩) n c) (M - 1) n TY tx W ((unhide HR4) W E) (((unhide HO7').ext E).reads) (by omega) (by omega) true (by
        refine ⟨fun _ => ⟨by have := unhide HFN; omega, fun j hj => ?_⟩, fun _ => rfl⟩
        rw [(unhide HPre) j hj, ← unhide HF, Nat.zero_add]))
      go_region_held3 (fun W => (W.cell? ⟨w1.heap.size, 0, none⟩ = some (.int .i64 cap) ∧ W.cell? ⟨w1.heap.size, 1, none⟩ = some (.slice (some ⟨g, 0, none⟩) n c)) ∧ W.cell? ⟨w4.heap.size, 1, none⟩ = some (.slice (some ⟨g4, 0, none⟩) M c4)) (first | exact ⟨⟨b0, b1⟩, n1⟩ | exact ⟨⟨E8.cell b0, E8.cell b1⟩, E8.cell n1⟩) (first
        | (go_at_call 9; refine ((unhide HSm) _ (Ext.refl w7).drew).mono ?_; rintro e w8 ⟨rfl, F8⟩; have E8 := (Ext.refl w7).drew.trans F8; clear F8))
      have n0 := E8.cell n0
      have n1 := E8.cell n1
      have HO8 := hide ((unhide HO7).ext E8)
      have HE8 := hide ((unhide HE7).trans E8)
      have HAdd := hide (fun W (E : Ext w8 W) => implAdd_some cap ⟨g4, 0, none⟩ M c4 TY text W ((unhide HO8).ext E).reads (by omega) (unhide HSz) (by omega) ((unhide HT).ext ((unhide HE1).trans ((unhide HE8).trans E))) false ⟨fun h => (by cases h), fun h => absurd h (unhide HAg)⟩)
      have HLt := hide (fun W (E : Ext w8 W) => implLatest_any cap (.slice (some ⟨g4, 0, none⟩) M c4) M TY (text.extract 0 1) mx W ((unhide HO8).ext E).reads (by omega) (unhide HSz) (((unhide HE1).trans ((unhide HE8).trans E)).cell (unhide HM)) ((unhide HT).ext ((unhide HE1).trans ((unhide HE8).trans E))) true ⟨fun _ => unhide HHist, fun _ => rfl⟩)
      rw [unhide HLat] at HLt
      have hE18 := (unhide HE1).trans (unhide HE8)
      have HE18 := hide hE18
      clear b0 b1 HSm HR4 HO7 HO7' HE7 hE18 E8
      go_wp2_with fail
      refine ((unhide HAdd) _ (Ext.refl w8)).mono ?_
      rintro e w9 ⟨v9, rfl, o9, E9⟩
      obtain ⟨a9, c9, rfl⟩ := o9.slice
      have p0 := (E9.alloc (.cells #[.int .i64 cap, .slice a9 (addN false cap M) c9] 25)).cell n0
      have p1 := (E9.alloc (.cells #[.int .i64 cap, .slice a9 (addN false cap M) c9] 25)).cell n1
      obtain ⟨V9, hV9⟩ : ∃ V9, V9 = w9.alloc (.cells #[.int .i64 cap, .slice a9 (addN false cap M) c9] 25) := ⟨_, rfl⟩
      have EV9 : Ext w8 V9 := by rw [hV9]; exact E9.alloc _
      rw [← hV9] at p0 p1
      have HW := hide hV9
      have ht1I : (1 : Int) ≤ (text.size : Int) := by omega
      clear hV9 o9 HAdd E9 n0 n1
      go_upto_region 17 with fail
      rw [← unhide HW]
      clear HW
      go_region_held3 (fun W => W.cell? ⟨w4.heap.size, 0, none⟩ = some (.int .i64 cap) ∧ W.cell? ⟨w4.heap.size, 1, none⟩ = some (.slice (some ⟨g4, 0, none⟩) M c4)) (first | exact ⟨p0, p1⟩ | exact ⟨E10.cell p0, E10.cell p1⟩) (first
        | (go_at_call 10; refine ((unhide HLt) _ EV9.drew).mono ?_; rintro e w10 ⟨rfl, F10⟩; have E10 := (Ext.refl V9).drew.trans F10; clear F10))
      have HFin := hide (((unhide HE18).trans (EV9.trans E10)).below)
      by_cases h2 : text.size < 2
      · have h2I : (text.size : Int) < 2 := by omega
        go_wp2
        go_ret
        exact ⟨rfl, unhide HFin⟩
      · have h2I : ¬ (text.size : Int) < 2 := by omega
        obtain ⟨hr, hb⟩ := (unhide HRB) (by omega)
        subst hb
        subst hr
        clear p0 p1 E10 EV9
        go_wp2
        all_goals
          go_ret
          exact ⟨rfl, unhide HFin⟩
    · obtain rfl : cap = (n : Int) := ((unhide HFC).1 rfl).symm
      have hn1 : 1 ≤ n := by have := unhide HFN; omega
      have k3 : (1 : Int) ≤ (n : Int) := by omega
      by_cases hc1 : c = 1
      · subst hc1
        obtain rfl : n = 1 := by omega
        obtain rfl : M = 1 := by have := unhide HFN; omega
        have b0 : w7.cell? ⟨w1.heap.size, 0, none⟩ = some (.int .i64 1) := b0
        have n0 : w7.cell? ⟨w4.heap.size, 0, none⟩ = some (.int .i64 1) := n0
        have hw0 : IntKind.i64.wrap 0 = 0 := by decide
        have hw1 : IntKind.i64.wrap 1 = 1 := by decide
        have HSm := hide (fun W (E : Ext w7 W) (u : Value) (hu : Row1At W u 0 (fun j => .string (tx (1 + j)))) => sameTexts_any (.slice (some ⟨g4, 0, none⟩) 0 c4) u 0 0 TY (fun j => tx (1 + j)) W ((unhide HR4) W E) hu (by omega) (by omega) true (by
          refine ⟨fun _ => ⟨by have := unhide HFN; omega, fun j hj => ?_⟩, fun _ => rfl⟩
          have := unhide HFN
          omega))
        go_region_held3 (fun W => (W.cell? ⟨w1.heap.size, 0, none⟩ = some (.int .i64 1) ∧ W.cell? ⟨w1.heap.size, 1, none⟩ = some (.slice (some ⟨g, 0, none⟩) 1 1)) ∧ W.cell? ⟨w4.heap.size, 1, none⟩ = some (.slice (some ⟨g4, 0, none⟩) 1 c4)) (first | exact ⟨⟨b0, b1⟩, n1⟩ | exact ⟨⟨E8.cell b0, E8.cell b1⟩, E8.cell n1⟩) (first
          | (go_at_call 9; refine ((unhide HSm) _ (Ext.refl w7).drew _ ⟨_, _, rfl, Nat.zero_le _, fun h => absurd h (by omega)⟩).mono ?_; rintro e w8 ⟨rfl, F8⟩; have E8 := (Ext.refl w7).drew.trans F8; clear F8))
        have n0 := E8.cell n0
        have n1 := E8.cell n1
        have HO8 := hide ((unhide HO7).ext E8)
        have HE8 := hide ((unhide HE7).trans E8)
        have HAdd := hide (fun W (E : Ext w8 W) => implAdd_some 1 ⟨g4, 0, none⟩ 1 c4 TY text W ((unhide HO8).ext E).reads (by omega) (unhide HSz) (by omega) ((unhide HT).ext ((unhide HE1).trans ((unhide HE8).trans E))) false ⟨fun h => (by cases h), fun h => absurd h (unhide HAg)⟩)
        have HLt := hide (fun W (E : Ext w8 W) => implLatest_any 1 (.slice (some ⟨g4, 0, none⟩) 1 c4) 1 TY (text.extract 0 1) mx W ((unhide HO8).ext E).reads (by omega) (unhide HSz) (((unhide HE1).trans ((unhide HE8).trans E)).cell (unhide HM)) ((unhide HT).ext ((unhide HE1).trans ((unhide HE8).trans E))) true ⟨fun _ => unhide HHist, fun _ => rfl⟩)
        rw [unhide HLat] at HLt
        have hE18 := (unhide HE1).trans (unhide HE8)
        have HE18 := hide hE18
        clear b0 b1 HSm HR4 HO7 HO7' HE7 hE18 E8
        go_wp2_with fail
        refine ((unhide HAdd) _ (Ext.refl w8)).mono ?_
        rintro e w9 ⟨v9, rfl, o9, E9⟩
        obtain ⟨a9, c9, rfl⟩ := o9.slice
        have p0 := (E9.alloc (.cells #[.int .i64 1, .slice a9 (addN false 1 1) c9] 25)).cell n0
        have p1 := (E9.alloc (.cells #[.int .i64 1, .slice a9 (addN false 1 1) c9] 25)).cell n1
        obtain ⟨V9, hV9⟩ : ∃ V9, V9 = w9.alloc (.cells #[.int .i64 1, .slice a9 (addN false 1 1) c9] 25) := ⟨_, rfl⟩
        have EV9 : Ext w8 V9 := by rw [hV9]; exact E9.alloc _
        rw [← hV9] at p0 p1
        have HW := hide hV9
        have ht1I : (1 : Int) ≤ (text.size : Int) := by omega
        clear hV9 o9 HAdd E9 n0 n1
        go_upto_region 17 with fail
        rw [← unhide HW]
        clear HW
        go_region_held3 (fun W => W.cell? ⟨w4.heap.size, 0, none⟩ = some (.int .i64 1) ∧ W.cell? ⟨w4.heap.size, 1, none⟩ = some (.slice (some ⟨g4, 0, none⟩) 1 c4)) (first | exact ⟨p0, p1⟩ | exact ⟨E10.cell p0, E10.cell p1⟩) (first
          | (go_at_call 10; refine ((unhide HLt) _ EV9.drew).mono ?_; rintro e w10 ⟨rfl, F10⟩; have E10 := (Ext.refl V9).drew.trans F10; clear F10))
        have HFin := hide (((unhide HE18).trans (EV9.trans E10)).below)
        by_cases h2 : text.size < 2
        · have h2I : (text.size : Int) < 2 := by omega
          go_wp2
          go_ret
          exact ⟨rfl, unhide HFin⟩
        · have h2I : ¬ (text.size : Int) < 2 := by omega
          obtain ⟨hr, hb⟩ := (unhide HRB) (by omega)
          subst hb
          subst hr
          clear p0 p1 E10 EV9
          go_wp2
          all_goals
            go_ret
            exact ⟨rfl, unhide HFin⟩
      · have HSm := hide (fun W (E : Ext w7 W) => sameTexts_any (.slice (some ⟨g4, 0, none⟩) (M - 1) c4) (.slice (some ⟨g, 1, none⟩) (n - 1) (c - 1)) (M - 1) (n - 1) TY (fun j => tx (1 + j)) W ((unhide HR4) W E) ⟨_, c - 1, rfl, by omega, fun _ => ⟨g, 1, rfl, fun j hj => (((unhide HO7').ext E).cell (show 1 + j < n by omega)).1⟩⟩ (by omega) (by omega) true (by
          refine ⟨fun _ => ⟨by have := unhide HFN; omega, fun j hj => ?_⟩, fun _ => rfl⟩
          rw [(unhide HPre) j hj, ← unhide HF]))
        have k1 : (1 : Int) ≤ (c : Int) := by omega
        go_region_held3 (fun W => (W.cell? ⟨w1.heap.size, 0, none⟩ = some (.int .i64 (n : Int)) ∧ W.cell? ⟨w1.heap.size, 1, none⟩ = some (.slice (some ⟨g, 0, none⟩) n c)) ∧ W.cell? ⟨w4.heap.size, 1, none⟩ = some (.slice (some ⟨g4, 0, none⟩) M c4)) (first | exact ⟨⟨b0, b1⟩, n1⟩ | exact ⟨⟨E8.cell b0, E8.cell b1⟩, E8.cell n1⟩) (first
          | (go_at_call 9; refine ((unhide HSm) _ (Ext.refl w7).drew).mono ?_; rintro e w8 ⟨rfl, F8⟩; have E8 := (Ext.refl w7).drew.trans F8; clear F8))
        have n0 := E8.cell n0
        have n1 := E8.cell n1
        have HO8 := hide ((unhide HO7).ext E8)
        have HE8 := hide ((unhide HE7).trans E8)
        have HAdd := hide (fun W (E : Ext w8 W) => implAdd_some (n : Int) ⟨g4, 0, none⟩ M c4 TY text W ((unhide HO8).ext E).reads (by omega) (unhide HSz) (by omega) ((unhide HT).ext ((unhide HE1).trans ((unhide HE8).trans E))) false ⟨fun h => (by cases h), fun h => absurd h (unhide HAg)⟩)
        have HLt := hide (fun W (E : Ext w8 W) => implLatest_any (n : Int) (.slice (some ⟨g4, 0, none⟩) M c4) M TY (text.extract 0 1) mx W ((unhide HO8).ext E).reads (by omega) (unhide HSz) (((unhide HE1).trans ((unhide HE8).trans E)).cell (unhide HM)) ((unhide HT).ext ((unhide HE1).trans ((unhide HE8).trans E))) true ⟨fun _ => unhide HHist, fun _ => rfl⟩)
        rw [unhide HLat] at HLt
        have hE18 := (unhide HE1).trans (unhide HE8)
        have HE18 := hide hE18
        clear b0 b1 HSm HR4 HO7 HO7' HE7 hE18 E8
        go_wp2_with fail
        refine ((unhide HAdd) _ (Ext.refl w8)).mono ?_
        rintro e w9 ⟨v9, rfl, o9, E9⟩
        obtain ⟨a9, c9, rfl⟩ := o9.slice
        have p0 := (E9.alloc (.cells #[.int .i64 (n : Int), .slice a9 (addN false (n : Int) M) c9] 25)).cell n0
        have p1 := (E9.alloc (.cells #[.int .i64 (n : Int), .slice a9 (addN false (n : Int) M) c9] 25)).cell n1
        obtain ⟨V9, hV9⟩ : ∃ V9, V9 = w9.alloc (.cells #[.int .i64 (n : Int), .slice a9 (addN false (n : Int) M) c9] 25) := ⟨_, rfl⟩
        have EV9 : Ext w8 V9 := by rw [hV9]; exact E9.alloc _
        rw [← hV9] at p0 p1
        have HW := hide hV9
        have ht1I : (1 : Int) ≤ (text.size : Int) := by omega
        clear hV9 o9 HAdd E9 n0 n1
        go_upto_region 17 with fail
        rw [← unhide HW]
        clear HW
        go_region_held3 (fun W => W.cell? ⟨w4.heap.size, 0, none⟩ = some (.int .i64 (n : Int)) ∧ W.cell? ⟨w4.heap.size, 1, none⟩ = some (.slice (some ⟨g4, 0, none⟩) M c4)) (first | exact ⟨p0, p1⟩ | exact ⟨E10.cell p0, E10.cell p1⟩) (first
          | (go_at_call 10; refine ((unhide HLt) _ EV9.drew).mono ?_; rintro e w10 ⟨rfl, F10⟩; have E10 := (Ext.refl V9).drew.trans F10; clear F10))
        have HFin := hide (((unhide HE18).trans (EV9.trans E10)).below)
        by_cases h2 : text.size < 2
        · have h2I : (text.size : Int) < 2 := by omega
          go_wp2
          go_ret
          exact ⟨rfl, unhide HFin⟩
        · have h2I : ¬ (text.size : Int) < 2 := by omega
          obtain ⟨hr, hb⟩ := (unhide HRB) (by omega)
          subst hb
          subst hr
          clear p0 p1 E10 EV9
          go_wp2
          all_goals
            go_ret
            exact ⟨rfl, unhide HFin⟩
end Go.Proofs.YtdmkcpkmeokjiaaDoor
