import Derived.Test.YtokjpnlmkecleaaGreatDoorRd
import Derived.Test.YtokjpnlmkecleaaGreatDoorStk
import Derived.Test.YtokjpnlmkecleaaGreatDoorGap
namespace Go.Proofs.YtokjpnlmkecleaaGreatDoor
open Go.RowKit
theorem Fr.upon {S : Nat → Prop} {b : Nat} {w w1 w2 : World} (h2 : Fr (fun q => q = b) w1 w2) (h1 : Fr S w w1) (hb : ∀ q, q = b → w.heap.size ≤ q) : Fr S w w2 :=
  ⟨h2.os.trans h1.os, h2.tape.trans h1.tape, h2.output.trans h1.output, Nat.le_trans h1.size h2.size, fun q hq hn => (h2.block q (Nat.lt_of_lt_of_le hq h1.size) (fun e => by have := hb q e; omega)).trans (h1.block q hq hn)⟩
def KeyOut (base : Nat) (w : World) (e : Ending) : Prop :=
  ∃ (kd : Int) (v : Value) (rs : List Int), e = .returned (.agg #[.int .i64 kd, v]) ∧ w.ownsRow base 21 1 v rs.length (rs.map (Value.int .i32)) ∧ I32s rs ∧ rs.length ≤ 1000
theorem ReadKeys_nil (v : Value) (bs : List Int) (w : World) (hv : IntsAt w .u8 v bs) (hB : Bytes bs) (hl : bs.length ≤ 8000000) :
    Calls Tryz.prog 54 #[.agg #[.slice none 0 0, .bool false], v] w fun e w' => (∃ (ha : Option Addr) (hn hc : Nat) (kv : Value) (rs : List Value) (q : Bool), e = .returned (.tuple #[.agg #[.slice ha hn hc, .bool q], kv]) ∧ OwnKys w' w.heap.size kv rs (rk bs false).1) ∧ Ext w w' := by
  have h0 : IntsAt w .u8 (.slice none 0 0) [] := ⟨none, 0, rfl, Nat.le_refl _, fun h => by simp at h⟩
  have h := specReadKeys_any none 0 [] bs false v w h0 hv (fun n hn => by simp at hn) hB (by simpa using hl)
  rw [List.nil_append] at h
  refine Calls.mono h ?_
  rintro e w' ⟨⟨hv, kv, rs, rfl, oh, o⟩, E⟩
  obtain ⟨ha, hc, rfl⟩ : ∃ a c, hv = .slice a (bs.drop (rk bs false).2.1).length c := by
    rcases oh.2 with ⟨e, h0⟩ | ⟨g, cap9, cur, e, _⟩
    · exact ⟨none, 0, by rw [h0]; exact e⟩
    · exact ⟨_, _, e⟩
  exact ⟨⟨ha, _, hc, kv, rs, _, rfl, o⟩, E⟩
set_option maxRecDepth 10000 in
set_option maxHeartbeats 4000000 in
theorem l4Key_any (D : Nat) (v : Value) (bs : List Int) (p : Nat) (w : World) (h : RdAt w D v bs p) (hB : Bytes bs) (hl : bs.length ≤ 16777216) :
    Calls Tryz.prog 22 #[.pointer (some ⟨D, 0, none⟩)] w fun e w' => KeyOut w.heap.size w' e ∧ (∃ p', RdAt w' D v bs p') ∧ Fr (fun k => k = D) w w' := by
  have HR := hide h
  have hDw : D < w.heap.size := lt_of_cell h.1
  have infoK : (Tryz.prog.info? 28).map (·.size) = some 2 := by kernel_rfl
  have hb := hB.at0 p
  obtain ⟨x, hx⟩ : ∃ x : Nat, at0 bs p = (x : Int) := ⟨(at0 bs p).toNat, by omega⟩
  have hx255 : x ≤ 255 := by omega
  have hnx := hide (fun W (hr : RdAt W D v bs p) => next_any D v bs p W hr hB hl)
  rw [hx] at hnx
  clear hx hb h
  go_enter Tryz.func22, Tryz.ntmps22
  go_wp2_with fail
  refine ((unhide hnx) _ ((unhide HR).ext ((Ext.refl _).alloc _))).mono ?_
  rintro e w1 ⟨rfl, hr1, fr1⟩
  obtain ⟨p1, hp1⟩ : ∃ q, q = (if p < bs.length then p + 1 else p) := ⟨_, rfl⟩
  rw [← hp1] at hr1
  have HB0 := hide (fr1.kept (new_block w (.cells #[.int .i64 0, .slice none 0 0] 28)) (by omega))
  have HF := hide ((Fr.of_ext (S := fun k => k = D) ((Ext.refl w).alloc (.cells #[.int .i64 0, .slice none 0 0] 28))).tr fr1)
  have HR1 := hide hr1
  clear hp1 hr1 fr1 hnx
  have hb := hB.at0 p1
  obtain ⟨y, hy⟩ : ∃ y : Nat, at0 bs p1 = (y : Int) := ⟨(at0 bs p1).toNat, by omega⟩
  have hy255 : y ≤ 255 := by omega
  have hny := hide (next_any D v bs p1 w1 (unhide HR1) hB hl)
  rw [hy] at hny
  clear hy hb HR1
  go_wp2_with fail
  refine (unhide hny).mono ?_
  rintro e w2 ⟨rfl, hr2, fr2⟩
  obtain ⟨p2, hp2⟩ : ∃ q, q = (if p1 < bs.length then p1 + 1 else p1) := ⟨_, rfl⟩
  rw [← hp2] at hr2
  replace HB0 := hide (fr2.kept (unhide HB0) (by omega))
  replace HF := hide ((unhide HF).tr fr2)
  have HR2 := hide hr2
  clear hp2 hr2 fr2 hny
  go_wp2_with fail
  refine (l3Stroke_any y hy255 w2).mono ?_
  rintro e w3 ⟨⟨ps, rfl, hpb, hp24⟩, E3⟩
  obtain ⟨v4, w4, hrun, h4, E4⟩ := run_s2i (P := Tryz.prog) w3 _ _ _ Tryz.underlying9 Tryz.underlying22 Tryz.underlying5 ps hpb
  have HK4 := hide (ReadKeys_nil v4 ps w4 h4 hpb (by omega))
  have E24 := E3.trans E4
  replace HB0 := hide (E24.kept (unhide HB0))
  replace HF := hide ((unhide HF).tr (Fr.of_ext E24))
  replace HR2 := hide ((unhide HR2).ext E24)
  clear E3 E4 E24 h4
  go_wp2_with fail
  refine (unhide HK4).mono ?_
  rintro e w5 ⟨⟨h5a, h5n, h5c, kv, rs, q5, rfl, oK⟩, E5⟩
  obtain ⟨ka, kc, rfl⟩ := oK.slice
  have hz4 : w.heap.size ≤ w4.heap.size := (unhide HF).size
  have HOK := hide (oK.down hz4)
  have HPre : Hid (∀ g, (rV rs 0).ownBlock = some g → ¬ g = w.heap.size) := hide (fun g hg e9 => by
    by_cases h0 : 0 < (rk ps false).1.length
    · have h9 := (oK.2.2.1 0 h0).lt g hg
      have h8 := lt_of_block (unhide HB0)
      omega
    · have h7 : rs.length = (rk ps false).1.length := oK.1
      have h6 : rs = [] := List.eq_nil_of_length_eq_zero (by omega)
      rw [h6] at hg
      simp [rV, Value.ownBlock] at hg)
  replace HB0 := hide (E5.kept (unhide HB0))
  replace HF := hide ((unhide HF).tr (Fr.of_ext E5))
  replace HR2 := hide ((unhide HR2).ext E5)
  have hz5 : w.heap.size < w5.heap.size := lt_of_block (unhide HB0)
  obtain ⟨hkl, hki⟩ := rk_ok ps false
  obtain ⟨ks, hks⟩ : ∃ ks, ks = (rk ps false).1 := ⟨_, rfl⟩
  rw [← hks] at hkl hki HOK ⊢
  have HKI := hide hki
  have infoKR : (Tryz.prog.info? 84).map (·.size) = some 2 := by kernel_rfl
  have HN5 := hide (heap_alloc_new w5 (.cells #[.slice none 0 0, .bool false] 84))
  clear oK E5 HK4 hrun hks hki
  go_wp2_with (first | (refine wpList_store_blk rfl 84 _ _ rfl rfl (w5.heap.size) rfl _ _ #[.slice h5a h5n h5c, .bool q5] rfl (unhide HN5) infoKR rfl (by simp [Value.oneCell']) ?_; intro U hb9 hf9; have HEU := hide (hf9.ext ((Ext.refl w5).alloc _) (fun q hq => by omega)); clear hb9 hf9; refine StopQ.intro ?_))
  show wpList _ _ _ _ _ _
  have EU := unhide HEU
  have zU := EU.size
  replace HOK := hide ((unhide HOK).ext EU)
  replace HB0 := hide (EU.kept (unhide HB0))
  replace HF := hide ((unhide HF).tr (Fr.of_ext EU))
  replace HR2 := hide ((unhide HR2).ext EU)
  clear EU HEU HN5
  by_cases h15 : x % 16 = 15
  · have hq : (x : Int) % 16 = 15 := by omega
    have EW : Hid (Ext U (U.alloc (.cells #[.int .i32 55296, .int .i32 97] 21))) := hide ((Ext.refl U).alloc _)
    have HN6 := hide ((unhide EW).kept (unhide HB0))
    have OW : Hid ((U.alloc (.cells #[.int .i32 55296, .int .i32 97] 21)).ownsRow w.heap.size 21 1 (.slice (some ⟨U.heap.size, 0, none⟩) 2 2) ([55296, 97]).length (([55296, 97]).map (Value.int .i32))) := hide (own_lit (w := U) .i32 [55296, 97] 21 w.heap.size 2 rfl (by omega) (by unfold maxLen; simp))
    have OD : Hid (∀ g, (Value.slice (some ⟨U.heap.size, 0, none⟩) 2 2).ownBlock = some g → ¬ g = w.heap.size) := hide (fun g hg e9 => by have h9 : U.heap.size = g := Option.some.inj hg; omega)
    go_wp2_with (first | (refine wpList_store_blk rfl 28 _ _ rfl rfl (w.heap.size) rfl _ _ _ rfl (unhide HN6) infoK rfl (by simp [Value.oneCell']) ?_; intro Z hy9 hf9; have HY := hide hy9; have FY := hide hf9; clear hy9 hf9))
    have v0 : Z.cell? ⟨w.heap.size, 0, none⟩ = some (.int .i64 ((x : Int) / 16 * 2 - 3)) := cells_of (unhide HY) 0 _ rfl
    have v1 : Z.cell? ⟨w.heap.size, 1, none⟩ = some (.slice (some ⟨U.heap.size, 0, none⟩) 2 2) := cells_of (unhide HY) 1 _ rfl
    have FZ : Fr (fun k => k = D) w Z := (unhide FY).upon ((unhide HF).tr (Fr.of_ext (unhide EW))) (fun q hq => by omega)
    have zW := (unhide EW).size
    exact bodyPost_ret (v := .agg #[.int .i64 ((x : Int) / 16 * 2 - 3), .slice (some ⟨U.heap.size, 0, none⟩) 2 2]) (by simp [results, Tryz.results22, go_sem, v0, v1]) rfl ⟨⟨_, _, [55296, 97], rfl, (unhide FY).owns (unhide OW) (unhide OD), fun z hz => by simp at hz; omega, by decide⟩, ⟨p2, (unhide HR).keep ((unhide HR2).ext (unhide EW)) FZ ((unhide FY).block D (by omega) (by omega))⟩, FZ⟩
  have hqb : ((x : Int) % 16 == 15) = false := by rw [beq_eq_false_iff_ne]; omega
  by_cases h14 : x % 32 = 14
  · have hq : (x : Int) % 32 = 14 := by omega
    obtain ⟨N, hN⟩ : ∃ N : Nat, (N : Int) = 298 + (x : Int) / 32 := ⟨298 + x / 32, by omega⟩
    have hN2 : N ≤ 400 := by omega
    have hwN : IntKind.i64.wrap (298 + (x : Int) / 32) = (N : Int) := by rw [IntKind.wrap_i64]; omega
    obtain ⟨ic, hic, hc0, hc1, hc2⟩ := info_parts infoI32
    obtain ⟨V, hV⟩ : ∃ V, V = (U.alloc (.cells #[] 21)).alloc (.cells #[.int .i64 2, .slice (some ⟨U.heap.size, 0, none⟩) 0 0] 28) := ⟨_, rfl⟩
    have EV : Ext U V := by rw [hV]; exact ((Ext.refl U).alloc _).alloc _
    have HV0 : Hid (V.heap[U.heap.size + 1]? = some (.cells #[.int .i64 2, .slice (some ⟨U.heap.size, 0, none⟩) 0 0] 28 (0, 0))) := hide (by rw [hV]; have h := new_block (U.alloc (.cells #[] 21)) (.cells #[.int .i64 2, .slice (some ⟨U.heap.size, 0, none⟩) 0 0] 28); rw [show (U.alloc (.cells #[] 21)).heap.size = U.heap.size + 1 by simp] at h; exact h)
    have HV1 : Hid (V.ownsRow U.heap.size 21 1 (.slice (some ⟨U.heap.size, 0, none⟩) 0 0) 0 ((List.replicate 0 (97 : Int)).map (Value.int .i32))) := hide (by rw [hV]; exact ((Ext.refl _).alloc _).owns (owns_empty U 21 1))
    have HVV := hide hV
    have HEV := hide EV
    clear hV EV hN
    go_wp2_with fail
    rw [← unhide HVV]
    clear HVV hq hqb h14 h15
    go_loopw [7] (fun i9 wr => ∃ (j : Nat) (ra : Option Addr) (rc : Nat), j ≤ N ∧ i9 = .int .i64 j ∧ Hid (wr.heap[U.heap.size + 1]? = some (.cells #[.int .i64 2, .slice ra j rc] 28 (0, 0))) ∧ Hid (wr.ownsRow U.heap.size 21 1 (.slice ra j rc) j ((List.replicate j (97 : Int)).map (Value.int .i32))) ∧ Hid (∀ g, (Value.slice ra j rc).ownBlock = some g → g ≠ U.heap.size + 1) ∧ Hid (Ext U wr)) (fun i9 _ => N - (intOf i9).toNat)
    case atStart => exact ⟨0, _, _, Nat.zero_le _, rfl, HV0, HV1, hide (fun g hg => by have h9 : U.heap.size = g := Option.some.inj hg; omega), HEV⟩
    case round =>
      obtain ⟨j, ra, rc, hj, rfl, HX, HO, HD, HE⟩ := hrel
      have hzr := lt_of_block (unhide HX)
      by_cases hlt : j < N
      · have hltI : (j : Int) < (N : Int) := by omega
        have c1 : wr.cell? ⟨U.heap.size + 1, 1, none⟩ = some (.slice ra j rc) := cells_of (unhide HX) 1 _ rfl
        have HO6 := hide ((unhide HO).alloc (.cells #[.int .i32 97] 21))
        have HS6 := hide (Src.made (w := wr) (size := 1) [.int .i32 97] 1 21 rfl (by simp [Value.oneCell']))
        go_wp2_with (at_builtin; refine StopQ.intro ?_)
        show wpList _ _ _ _ _ _
        refine wpList_app rfl _ _ 26 rfl U.heap.size 21 ic (.int .i32 0) 1 4 Tryz.underlying26 hic hc0 hc1 hc2 rfl (by decide) _ _ _ rfl (unhide HO6) _ 1 [.int .i32 97] rfl (unhide HS6) (by unfold maxLen; omega) (by omega) (by simp; omega) ?_
        intro v9 w9 o9 G9 _
        obtain ⟨a9, c9, rfl⟩ : ∃ a c, v9 = .slice a (j + 1) c := by
          rcases o9.2 with ⟨e, h0⟩ | ⟨g, cap9, cur, e, _⟩
          · omega
          · exact ⟨_, _, e⟩
        have E9 : Ext U w9 := ((unhide HE).alloc _).grown G9 (fun q hq => ((unhide HO).lt q hq).1)
        have HX9 : Hid (w9.heap[U.heap.size + 1]? = some (.cells #[.int .i64 2, .slice ra j rc] 28 (0, 0))) := hide ((G9.block _ (by simp; omega) (fun e9 => (unhide HD) _ e9.symm rfl)).trans (((Ext.refl wr).alloc _).kept (unhide HX)))
        have HO9 : Hid (w9.ownsRow U.heap.size 21 1 (.slice a9 (j + 1) c9) (j + 1) ((List.replicate (j + 1) (97 : Int)).map (Value.int .i32))) := hide (by rw [List.replicate_succ', List.map_append]; exact o9)
        have HD9 : Hid (∀ g, (Value.slice a9 (j + 1) c9).ownBlock = some g → g ≠ U.heap.size + 1) := hide (fun g hg e9 => by
          subst e9
          rcases (unhide HO9).2 with ⟨e, h0⟩ | ⟨g, cap9, cur, e, _, hb9, _⟩
          · omega
          · rw [e] at hg
            have h9 : g = U.heap.size + 1 := Option.some.inj hg
            rw [h9, unhide HX9] at hb9
            simp at hb9)
        have HE9 := hide E9
        have d1 : w9.cell? ⟨U.heap.size + 1, 1, none⟩ = some (.slice ra j rc) := cells_of (unhide HX9) 1 _ rfl
        have d2 : w9.frozen? ⟨U.heap.size + 1, 1, none⟩ = false := Lib.frozen_of_heap (unhide HX9) 1
        have HXs : Hid ((w9.setCell ⟨U.heap.size + 1, 1, none⟩ (.slice a9 (j + 1) c9)).heap[U.heap.size + 1]? = some (.cells #[.int .i64 2, .slice a9 (j + 1) c9] 28 (0, 0))) := hide (set_blk2 (unhide HX9) rfl)
        have HOs := hide (owns_setCell (unhide HO9) (a := ⟨U.heap.size + 1, 1, none⟩) (fun e9 => (unhide HD9) _ e9 rfl) (.slice a9 (j + 1) c9))
        have HEs := hide (Ext.setCell (unhide HE9) (a := ⟨U.heap.size + 1, 1, none⟩) (by dsimp only; omega) (.slice a9 (j + 1) c9))
        clear o9 G9 E9 HO6 HS6 HX9 HO9 HE9
        go_wp2
        go_roundw
        case rel => exact ⟨j + 1, a9, c9, by omega, by go_num, HXs, HOs, HD9, HEs⟩
        case measure => simp [intOf]; omega
      · obtain rfl : j = N := by omega
        have hnl : ¬ (j : Int) < (j : Int) := by omega
        have c0 : wr.cell? ⟨U.heap.size + 1, 0, none⟩ = some (.int .i64 2) := cells_of (unhide HX) 0 _ rfl
        have c1 : wr.cell? ⟨U.heap.size + 1, 1, none⟩ = some (.slice ra j rc) := cells_of (unhide HX) 1 _ rfl
        have EW := HE
        have HN6 := hide ((unhide EW).kept (unhide HB0))
        have OW : Hid (wr.ownsRow w.heap.size 21 1 (.slice ra j rc) (List.replicate j (97 : Int)).length ((List.replicate j (97 : Int)).map (Value.int .i32))) := hide (by rw [List.length_replicate]; exact owns_mono (unhide HO) (by omega))
        have OD : Hid (∀ g, (Value.slice ra j rc).ownBlock = some g → ¬ g = w.heap.size) := hide (fun g hg e9 => by have := ((unhide HO).lt g hg).1; omega)
        go_wp2_with (first | (refine wpList_store_blk rfl 28 _ _ rfl rfl (w.heap.size) rfl _ _ _ rfl (unhide HN6) infoK rfl (by simp [Value.oneCell']) ?_; intro Z hy9 hf9; have HY := hide hy9; have FY := hide hf9; clear hy9 hf9))
        have v0 : Z.cell? ⟨w.heap.size, 0, none⟩ = some (.int .i64 (2)) := cells_of (unhide HY) 0 _ rfl
        have v1 : Z.cell? ⟨w.heap.size, 1, none⟩ = some (.slice ra j rc) := cells_of (unhide HY) 1 _ rfl
        have FZ : Fr (fun k => k = D) w Z := (unhide FY).upon ((unhide HF).tr (Fr.of_ext (unhide EW))) (fun q hq => by omega)
        have zW := (unhide EW).size
        exact bodyPost_ret (v := .agg #[.int .i64 (2), .slice ra j rc]) (by simp [results, Tryz.results22, go_sem, v0, v1]) rfl ⟨⟨_, _, (List.replicate j (97 : Int)), rfl, (unhide FY).owns (unhide OW) (unhide OD), fun z hz => by have := List.eq_of_mem_replicate hz; omega, by simp; omega⟩, ⟨p2, (unhide HR).keep ((unhide HR2).ext (unhide EW)) FZ ((unhide FY).block D (by omega) (by omega))⟩, FZ⟩
  have hqc : ((x : Int) % 32 == 14) = false := by rw [beq_eq_false_iff_ne]; omega
  by_cases hC : ks.length = 0 ∨ x % 16 < 8
  · have hw9 : IntKind.i64.wrap (4 + (x : Int) % 16 * 2 + (x : Int) / 128) = 4 + (x : Int) % 16 * 2 + (x : Int) / 128 := by rw [IntKind.wrap_i64]; omega
    rcases Nat.eq_zero_or_pos ks.length with hz0 | hz0
    · have hk0 : ((ks.length : Int) == 0) = true := by simp [hz0]
      have EW : Hid (Ext U (U.alloc (.cells #[] 21))) := hide ((Ext.refl U).alloc _)
      have HN6 := hide ((unhide EW).kept (unhide HB0))
      have OW : Hid ((U.alloc (.cells #[] 21)).ownsRow w.heap.size 21 1 (.slice (some ⟨U.heap.size, 0, none⟩) 0 0) (([] : List Int)).length ((([] : List Int)).map (Value.int .i32))) := hide (own_lit (w := U) .i32 ([] : List Int) 21 w.heap.size 0 rfl (by omega) (by unfold maxLen; simp))
      have OD : Hid (∀ g, (Value.slice (some ⟨U.heap.size, 0, none⟩) 0 0).ownBlock = some g → ¬ g = w.heap.size) := hide (fun g hg e9 => by have h9 : U.heap.size = g := Option.some.inj hg; omega)
      go_wp2_with (first | (refine wpList_store_blk rfl 28 _ _ rfl rfl (w.heap.size) rfl _ _ _ rfl (unhide HN6) infoK rfl (by simp [Value.oneCell']) ?_; intro Z hy9 hf9; have HY := hide hy9; have FY := hide hf9; clear hy9 hf9))
      have v0 : Z.cell? ⟨w.heap.size, 0, none⟩ = some (.int .i64 (4 + (x : Int) % 16 * 2 + (x : Int) / 128)) := cells_of (unhide HY) 0 _ rfl
      have v1 : Z.cell? ⟨w.heap.size, 1, none⟩ = some (.slice (some ⟨U.heap.size, 0, none⟩) 0 0) := cells_of (unhide HY) 1 _ rfl
      have FZ : Fr (fun k => k = D) w Z := (unhide FY).upon ((unhide HF).tr (Fr.of_ext (unhide EW))) (fun q hq => by omega)
      have zW := (unhide EW).size
      exact bodyPost_ret (v := .agg #[.int .i64 (4 + (x : Int) % 16 * 2 + (x : Int) / 128), .slice (some ⟨U.heap.size, 0, none⟩) 0 0]) (by simp [results, Tryz.results22, go_sem, v0, v1]) rfl ⟨⟨_, _, [], rfl, (unhide FY).owns (unhide OW) (unhide OD), fun z hz => by simp at hz, by decide⟩, ⟨p2, (unhide HR).keep ((unhide HR2).ext (unhide EW)) FZ ((unhide FY).block D (by omega) (by omega))⟩, FZ⟩
    · have hk0 : ((ks.length : Int) == 0) = false := by rw [beq_eq_false_iff_ne]; omega
      have hq8 : (x : Int) % 16 < 8 := by omega
      have EW : Hid (Ext U (U.alloc (.cells #[] 21))) := hide ((Ext.refl U).alloc _)
      have HN6 := hide ((unhide EW).kept (unhide HB0))
      have OW : Hid ((U.alloc (.cells #[] 21)).ownsRow w.heap.size 21 1 (.slice (some ⟨U.heap.size, 0, none⟩) 0 0) (([] : List Int)).length ((([] : List Int)).map (Value.int .i32))) := hide (own_lit (w := U) .i32 ([] : List Int) 21 w.heap.size 0 rfl (by omega) (by unfold maxLen; simp))
      have OD : Hid (∀ g, (Value.slice (some ⟨U.heap.size, 0, none⟩) 0 0).ownBlock = some g → ¬ g = w.heap.size) := hide (fun g hg e9 => by have h9 : U.heap.size = g := Option.some.inj hg; omega)
      go_wp2_with (first | (refine wpList_store_blk rfl 28 _ _ rfl rfl (w.heap.size) rfl _ _ _ rfl (unhide HN6) infoK rfl (by simp [Value.oneCell']) ?_; intro Z hy9 hf9; have HY := hide hy9; have FY := hide hf9; clear hy9 hf9))
      have v0 : Z.cell? ⟨w.heap.size, 0, none⟩ = some (.int .i64 (4 + (x : Int) % 16 * 2 + (x : Int) / 128)) := cells_of (unhide HY) 0 _ rfl
      have v1 : Z.cell? ⟨w.heap.size, 1, none⟩ = some (.slice (some ⟨U.heap.size, 0, none⟩) 0 0) := cells_of (unhide HY) 1 _ rfl
      have FZ : Fr (fun k => k = D) w Z := (unhide FY).upon ((unhide HF).tr (Fr.of_ext (unhide EW))) (fun q hq => by omega)
      have zW := (unhide EW).size
      exact bodyPost_ret (v := .agg #[.int .i64 (4 + (x : Int) % 16 * 2 + (x : Int) / 128), .slice (some ⟨U.heap.size, 0, none⟩) 0 0]) (by simp [results, Tryz.results22, go_sem, v0, v1]) rfl ⟨⟨_, _, [], rfl, (unhide FY).owns (unhide OW) (unhide OD), fun z hz => by simp at hz, by decide⟩, ⟨p2, (unhide HR).keep ((unhide HR2).ext (unhide EW)) FZ ((unhide FY).block D (by omega) (by omega))⟩, FZ⟩
  · have hk0 : ((ks.length : Int) == 0) = false := by rw [beq_eq_false_iff_ne]; omega
    have hq8 : ¬ (x : Int) % 16 < 8 := by omega
    have hkp : (0 : Int) < (ks.length : Int) := by omega
    obtain ⟨hrl, ⟨ys, hy, hyy⟩, h3, _⟩ := id (unhide HOK)
    obtain ⟨g, cap9, e9, hcA⟩ : ∃ g cap9, Value.slice ka ks.length kc = .slice (some ⟨g, 0, none⟩) ks.length cap9 ∧ (U.cell? ⟨g, 0, none⟩ = some (.int .i64 (cW ks 0)) ∧ U.cell? ⟨g, 1, none⟩ = some (rV rs 0)) := by
      rcases hy.2 with ⟨_, h0⟩ | ⟨g, cap9, cur, e, _⟩
      · omega
      · refine ⟨g, cap9, e, ?_⟩
        rw [e] at hy
        have h9 := hyy 0 (by omega)
        rw [hy.cellAt _ (by omega), hy.cellAt _ (by omega)]
        exact ⟨h9.2, h9.1⟩
    obtain ⟨e1, _, e2⟩ := Value.slice.inj e9
    subst e1
    subst e2
    obtain ⟨c0, c1⟩ := hcA
    have hro := h3 0 (by omega)
    obtain ⟨ra, rc, hrv⟩ : ∃ a c, rV rs 0 = .slice a (cR ks 0).length c := by
      rcases hro.2 with ⟨e, h0⟩ | ⟨g, cap9, cur, e, _⟩
      · exact ⟨none, 0, by rw [h0]; exact e⟩
      · exact ⟨_, _, e⟩
    rw [hrv] at hro c1
    have hk9 := (unhide HKI) (cR ks 0, cW ks 0) (by
      have h8 : ks[0]? = some ks[0] := List.getElem?_eq_getElem (by omega)
      have h7 : (cR ks 0, cW ks 0) = ks[0] := by simp [cR, cW, h8]
      rw [h7]
      exact List.getElem_mem _)
    have EW : Hid (Ext U U) := hide (Ext.refl U)
    have OW := hide hro
    have HPO := hide (unhide HPre)
    have OD : Hid (∀ g, (Value.slice ra (cR ks 0).length rc).ownBlock = some g → ¬ g = w.heap.size) := hide (fun g hg e9 => (unhide HPO) g (by rw [hrv]; exact hg) e9)
    clear hro hy hyy h3 hrl hrv
    go_wp2_with (first | (refine wpList_store_blk rfl 28 _ _ rfl rfl (w.heap.size) rfl _ _ _ rfl (unhide HB0) infoK rfl (by simp [Value.oneCell']) ?_; intro Z hy9 hf9; have HY := hide hy9; have FY := hide hf9; clear hy9 hf9))
    have v0 : Z.cell? ⟨w.heap.size, 0, none⟩ = some (.int .i64 (cW ks 0)) := cells_of (unhide HY) 0 _ rfl
    have v1 : Z.cell? ⟨w.heap.size, 1, none⟩ = some (.slice ra (cR ks 0).length rc) := cells_of (unhide HY) 1 _ rfl
    have FZ : Fr (fun k => k = D) w Z := (unhide FY).upon ((unhide HF).tr (Fr.of_ext (unhide EW))) (fun q hq => by omega)
    have zW := (unhide EW).size
    exact bodyPost_ret (v := .agg #[.int .i64 (cW ks 0), .slice ra (cR ks 0).length rc]) (by simp [results, Tryz.results22, go_sem, v0, v1]) rfl ⟨⟨_, _, (cR ks 0), rfl, (unhide FY).owns (unhide OW) (unhide OD), hk9.1, by have := hk9.2; omega⟩, ⟨p2, (unhide HR).keep ((unhide HR2).ext (unhide EW)) FZ ((unhide FY).block D (by omega) (by omega))⟩, FZ⟩
end Go.Proofs.YtokjpnlmkecleaaGreatDoor
