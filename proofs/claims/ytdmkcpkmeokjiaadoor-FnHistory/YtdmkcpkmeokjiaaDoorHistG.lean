import Derived.Test.YtdmkcpkmeokjiaaDoorHistF
namespace Go.Proofs.YtdmkcpkmeokjiaaDoor
open Go.RowKit

def abT (j : Nat) : ByteArray := ({ data := #[97, 98] } : ByteArray).extract (j % 2) (j % 2 + 1)
theorem abT_size (j : Nat) : (abT j).size ≤ 400 := by
  unfold abT
  rw [ByteArray.size_extract]
  omega
set_option maxRecDepth 10000 in
set_option maxHeartbeats 2000000 in
theorem l5DrawAny_any (D : Nat) (v : Value) (bs : List Int) (p0 : Nat) (w : World) (h : RdAt w D v bs p0) (hB : Bytes bs) (hl : bs.length ≤ 16777216) :
    Calls Tryd.prog 14 #[.pointer (some ⟨D, 0, none⟩)] w fun e w' => ∃ (cap : Int) (g n c : Nat), e = .returned (.agg #[.int .i64 cap, .slice (some ⟨g, 0, none⟩) n c]) ∧ n ≤ 100 ∧ ∃ (p : Nat) (tx : Nat → ByteArray), (∀ j, j < n → (tx j).size ≤ 400) ∧ Own1 w' w.heap.size 9 (.slice (some ⟨g, 0, none⟩) n c) n (fun j => .string (tx j)) ∧ RdAt w' D v bs p ∧ Fr (fun k => k = D) w w' := by
  obtain ⟨ic, hic, hc0, hc1, hc2⟩ := info_parts infoStrs
  obtain ⟨x, hx, hx2⟩ := byte_nat hB p0
  have hDw : D < w.heap.size := lt_of_cell h.1
  have HR := hide h
  have HN := hide (fun W (E : Ext w W) => next_any D v bs p0 W (h.ext E) hB hl)
  rw [hx] at HN
  clear h hx
  go_enter Tryd.func14, Tryd.ntmps14
  go_wp2_with fail
  have E0 := (Ext.refl w).alloc (.cells #[.int .i64 0, .slice none 0 0] 25)
  refine ((unhide HN) _ E0).mono ?_
  rintro e w1 ⟨rfl, r1, f1⟩
  have HR0 := hide (f1.kept (new_block w (.cells #[.int .i64 0, .slice none 0 0] 25)) (by omega))
  have F1 := (Fr.of_ext (S := fun k => k = D) E0).tr f1
  have hz1 := lt_of_block (unhide HR0)
  have HD := hide (l5Draw_any D v bs _ w1 r1 hB hl)
  obtain ⟨p1, hp1⟩ : ∃ p1, p1 = (if p0 < bs.length then p0 + 1 else p0) := ⟨_, rfl⟩
  rw [← hp1] at r1
  have HRw := hide r1
  have HRk := HR0
  have HF1 := hide F1
  clear HN r1 f1 F1 E0 hp1
  go_wp2_with fail
  refine (unhide HD).mono ?_
  rintro e w2 ⟨cap, g, n, c, p2, tx, rfl, hcap, hn, hS, o2, r2, f2⟩
  replace HR0 := hide (f2.kept (unhide HR0) (by omega))
  have z2 := f2.size
  have HS := hide hS
  have hgB := (o2.lt g rfl)
  obtain ⟨V, hV⟩ : ∃ V, V = w2.alloc (.cells #[.int .i64 cap, .slice (some ⟨g, 0, none⟩) n c] 25) := ⟨_, rfl⟩
  have EV : Ext w2 V := by rw [hV]; exact (Ext.refl w2).alloc _
  have HBV : Hid (V.heap[w2.heap.size]? = some (.cells #[.int .i64 cap, .slice (some ⟨g, 0, none⟩) n c] 25 (0, 0))) := hide (by rw [hV]; exact new_block w2 _)
  replace HR0 := hide (EV.kept (unhide HR0))
  have HOV := hide (o2.ext EV)
  have HRV := hide (r2.ext EV)
  have HFV := hide (f2.tr (Fr.of_ext EV))
  have HW := hide hV
  clear HD o2 r2 f2 hS hV
  have s0 : V.cell? ⟨w.heap.size, 0, none⟩ = some (.int .i64 0) := cells_of (unhide HR0) 0 _ rfl
  have s1 : V.cell? ⟨w.heap.size, 1, none⟩ = some (.slice none 0 0) := cells_of (unhide HR0) 1 _ rfl
  have f0 : ∀ i, V.frozen? ⟨w.heap.size, i, none⟩ = false := fun i => Lib.frozen_of_heap (unhide HR0) i
  have b0 : V.cell? ⟨w2.heap.size, 0, none⟩ = some (.int .i64 cap) := cells_of (unhide HBV) 0 _ rfl
  have b1 : V.cell? ⟨w2.heap.size, 1, none⟩ = some (.slice (some ⟨g, 0, none⟩) n c) := cells_of (unhide HBV) 1 _ rfl
  have fb : ∀ i, V.frozen? ⟨w2.heap.size, i, none⟩ = false := fun i => Lib.frozen_of_heap (unhide HBV) i
  go_upto_region 3 with fail
  rw [← unhide HW]
  clear HW
  by_cases h7 : x % 8 = 7
  · have hq : (x : Int) % 8 = 7 := by omega
    have HSp := hide (l5Spoil_any D v bs p1 p2 w1 V (unhide HRw) (unhide HFV) (unhide HRV) hB hl cap g n c tx (unhide HOV) (by omega) (unhide HS))
    go_wp2_with fail
    refine (unhide HSp).mono ?_
    rintro e w3 ⟨cap3, g3, n3, c3, rfl, hn3, p3, tx3, hS3, o3, r3, f3⟩
    have hR3 := f3.kept (unhide HRk) (by omega)
    have t0 : w3.cell? ⟨w.heap.size, 0, none⟩ = some (.int .i64 0) := cells_of hR3 0 _ rfl
    have t1 : w3.cell? ⟨w.heap.size, 1, none⟩ = some (.slice none 0 0) := cells_of hR3 1 _ rfl
    have ft : ∀ i, w3.frozen? ⟨w.heap.size, i, none⟩ = false := fun i => Lib.frozen_of_heap hR3 i
    have HO3 := hide o3
    have HS3 := hide hS3
    have HR3 := hide r3
    have HF3 := hide ((unhide HF1).tr f3)
    have HK3 := hide hR3
    have hz3 := f3.size
    clear o3 hS3 r3 f3 hR3 HSp
    go_wp2
    have FT := fr_two w3 w.heap.size (.int .i64 cap3) (.slice (some ⟨g3, 0, none⟩) n3 c3)
    have hBX := hist_two (x' := .int .i64 cap3) (y' := .slice (some ⟨g3, 0, none⟩) n3 c3) (unhide HK3)
    have v0 := cells_of hBX 0 _ rfl
    have v1 := cells_of hBX 1 _ rfl
    have FX := fr_off (unhide HF3) FT (fun x hx => .inr (by omega))
    exact bodyPost_ret (v := .agg #[.int .i64 cap3, .slice (some ⟨g3, 0, none⟩) n3 c3]) (by simp [results, Tryd.results14, go_sem, v0, v1]) rfl ⟨cap3, g3, n3, c3, rfl, hn3, p3, tx3, unhide HS3, ((unhide HO3).fr FT (fun q hq e9 => hist_kind (unhide HO3) (unhide HK3) (by rw [hq, e9]))).mono (by omega), (unhide HR).keep (unhide HR3) FX (by rw [heap_far (by omega), heap_far (by omega)]), FX⟩
  · have hq : ¬ (x : Int) % 8 = 7 := by omega
    have hqb : ((x : Int) % 8 == 7) = false := by rw [beq_eq_false_iff_ne]; exact hq
    by_cases h6 : x % 32 = 6
    · have hq6 : (x : Int) % 32 = 6 := by omega
      obtain ⟨m, hm⟩ : ∃ m : Nat, m = 100 - x / 32 % 2 := ⟨_, rfl⟩
      have hm100 : m ≤ 100 := by omega
      have hwm : IntKind.i64.wrap (100 - (x : Int) / 32 % 2) = (m : Int) := by rw [IntKind.wrap_i64]; omega
      have b0n : ∀ o, (V.alloc o).cell? ⟨w2.heap.size, 0, none⟩ = some (.int .i64 cap) := fun o => ((Ext.refl V).alloc o).cell b0
      have b1n : ∀ o, (V.alloc o).cell? ⟨w2.heap.size, 1, none⟩ = some (.slice (some ⟨g, 0, none⟩) n c) := fun o => ((Ext.refl V).alloc o).cell b1
      have hBV := lt_of_block (unhide HBV)
      have fbn : ∀ o i, (V.alloc o).frozen? ⟨w2.heap.size, i, none⟩ = false := fun o i => Lib.frozen_of_heap (((Ext.refl V).alloc o).kept (unhide HBV)) i
      clear hm
      go_wp2
      obtain ⟨B, hBd⟩ : ∃ B, B = w2.heap.size := ⟨_, rfl⟩
      rw [← hBd] at HBV hBV ⊢
      have hwB : w.heap.size < B := by omega
      have FT := fr_two V B (.int .i64 100) (.slice (some ⟨V.heap.size, 0, none⟩) 0 0)
      have hVB := hist_two (x' := .int .i64 100) (y' := .slice (some ⟨V.heap.size, 0, none⟩) 0 0) (unhide HBV)
      have hVz : ((V.setCell ⟨B, 0, none⟩ (.int .i64 100)).setCell ⟨B, 1, none⟩ (.slice (some ⟨V.heap.size, 0, none⟩) 0 0)).heap.size = V.heap.size := by simp [go_sem]
      obtain ⟨VX, hVX⟩ : ∃ VX, VX = (V.setCell ⟨B, 0, none⟩ (.int .i64 100)).setCell ⟨B, 1, none⟩ (.slice (some ⟨V.heap.size, 0, none⟩) 0 0) := ⟨_, rfl⟩
      rw [← hVX] at FT hVB hVz ⊢
      have hoe := owns_empty VX 9 1
      rw [hVz] at hoe
      obtain ⟨X0, hX0⟩ : ∃ X0, X0 = VX.alloc (.cells #[] 9) := ⟨_, rfl⟩
      have EX : Ext VX X0 := by rw [hX0]; exact (Ext.refl VX).alloc _
      rw [← hX0] at hoe ⊢
      have HBX0 := hide (EX.kept hVB)
      have HRX0 := hide (EX.kept (FT.kept (unhide HR0) (by omega)))
      have HOX0 : Hid (X0.ownsRow V.heap.size 9 1 (.slice (some ⟨V.heap.size, 0, none⟩) 0 0) 0 (strL abT 0)) := hide hoe
      have HFX0 := hide ((fr_off ((unhide HF1).tr (unhide HFV)) FT (fun x hx => .inr (by omega))).tr (Fr.of_ext EX))
      have hVD : D < V.heap.size := by have := (unhide HFV).size; omega
      have HDX0 : Hid (X0.heap[D]? = V.heap[D]?) := hide ((EX.heap (by have := FT.size; omega)).trans (FT.block D hVD (by omega)))
      have zX0 : V.heap.size ≤ X0.heap.size := by have h1 := FT.size; have h2 := EX.size; omega
      clear hBd FT hVB hVz hVX hoe hX0 EX b0 b1 fb b0n b1n fbn s0 s1 f0 hq hq6 h6 h7 hqb
      go_loopw [5] (fun i wr => ∃ (j g c : Nat), j ≤ m ∧ i = .int .i64 j ∧ Hid (wr.heap[B]? = some (.cells #[.int .i64 100, .slice (some ⟨g, 0, none⟩) j c] 25 (0, 0))) ∧ Hid (wr.heap[w.heap.size]? = some (.cells #[.int .i64 0, .slice none 0 0] 25 (0, 0))) ∧ Hid (wr.ownsRow V.heap.size 9 1 (.slice (some ⟨g, 0, none⟩) j c) j (strL abT j)) ∧ Hid (wr.heap[D]? = V.heap[D]?) ∧ Hid (Fr (fun k => k = D) w wr) ∧ V.heap.size ≤ wr.heap.size) (fun i _ => m - (intOf i).toNat)
      case atStart => exact ⟨0, V.heap.size, 0, Nat.zero_le _, rfl, HBX0, HRX0, HOX0, HDX0, HFX0, zX0⟩
      case round =>
        obtain ⟨j, g8, c8, hj, rfl, HG, HK, HO, HDr, HF, hzr⟩ := hrel
        clear HBX0 HRX0 HOX0 HDX0 HFX0 zX0
        by_cases hlt : j < m
        · have bj : (j : Int) < (m : Int) := by omega
          rcases (by omega : j % 2 = 0 ∨ j % 2 = 1) with hr | hr
          · have hwo : IntKind.i64.wrap 1 = 1 := by decide
            have hrT : (j : Int).tmod 2 = 0 := by rw [Int.tmod_eq_emod_of_nonneg (by omega)]; omega
            have HT : Hid (({ data := #[97, 98] } : ByteArray).extract 0 1 = abT j) := hide (by unfold abT; rw [hr])
            have x1 : wr.cell? ⟨B, 1, none⟩ = some (.slice (some ⟨g8, 0, none⟩) j c8) := cells_of (unhide HG) 1 _ rfl
            have x1n : ∀ o, (wr.alloc o).cell? ⟨B, 1, none⟩ = some (.slice (some ⟨g8, 0, none⟩) j c8) := fun o => ((Ext.refl wr).alloc o).cell x1
            have hst : Hid (strL abT (j + 1) = strL abT j ++ [.string (({ data := #[97, 98] } : ByteArray).extract 0 1)]) := hide (by rw [strL_succ, unhide HT])
            have hoff : ∀ q, (Value.slice (some ⟨g8, 0, none⟩) j c8).ownBlock = some q → V.heap.size ≤ q := fun q hq => ((unhide HO).lt q hq).1
            clear hr
            go_upto_region 10 with fail
            go_region_law (first
              | (refine step_append_lies _ (by rfl) _ _ _ (by rfl) V.heap.size 9 ic _ 1 16 Tryd.underlying23 hic hc0 hc1 hc2 rfl (by omega) (.slice (some ⟨g8, 0, none⟩) j c8) j (strL abT j) (by rfl) (by first | exact (unhide HO).alloc _ | exact ((unhide HO).alloc _).drew | exact (unhide HO).drew.alloc _ | exact ((unhide HO).drew.alloc _).drew)
                   ⟨wr.heap.size, 0, none⟩ 1 1 [.string (({ data := #[97, 98] } : ByteArray).extract 0 1)] (by rfl) (by rfl) (World.news_of_block (cs := #[.string (({ data := #[97, 98] } : ByteArray).extract 0 1)]) (t := 9) (fr := (0, 0)) (heap_alloc_new wr _)) (by simp [Value.oneCell'])
                   (by omega) (by unfold maxLen; omega) (by omega) (by simp; omega) (wr.heap.size + 1) (by simp) ?_
                 intro g6 c6 w6 o6 G6 hat hlt6
                 have X6 := Fr.grown (S := fun q => (Value.slice (some ⟨g8, 0, none⟩) j c8).ownBlock = some q) (w := wr) (Fr.of_ext (by first | exact (Ext.refl wr).alloc _ | exact ((Ext.refl wr).alloc _).drew | exact (Ext.refl wr).drew.alloc _ | exact ((Ext.refl wr).drew.alloc _).drew)) G6 (fun q hq => hq)
                 rw [← unhide hst] at o6
                 have HO6 := hide o6
                 have hb6 := X6.kept (unhide HG) (fun hq => by have := hoff _ hq; omega)
                 have HB6 := hide hb6
                 have y1 : w6.cell? ⟨B, 1, none⟩ = some (.slice (some ⟨g8, 0, none⟩) j c8) := cells_of hb6 1 _ rfl
                 have fy : w6.frozen? ⟨B, 1, none⟩ = false := Lib.frozen_of_heap hb6 1
                 have HK6 := hide (X6.kept (unhide HK) (fun hq => by have := hoff _ hq; omega))
                 have HD6 := hide ((X6.block D (by omega) (fun hq => by have := hoff _ hq; omega)).trans (unhide HDr))
                 have HF6 := hide (fr_off (unhide HF) X6 (fun x hx => .inr (by have := hoff _ hx; omega)))
                 have z6 := X6.size
                 clear X6 o6 G6 hb6 hat))
            all_goals
              have FT1 : Fr (fun q => q = B) w6 (w6.setCell ⟨B, 1, none⟩ (.slice (some ⟨g6, 0, none⟩) (j + 1) c6)) := Fr.setCell (S := fun q => q = B) (Fr.refl _ w6) (a := ⟨B, 1, none⟩) rfl _
              have HBY := hide (heap_setCell_same w6 B 1 _ _ (.slice (some ⟨g6, 0, none⟩) (j + 1) c6) (unhide HB6))
              have HKY := hide (FT1.kept (unhide HK6) (by omega))
              have HOY := hide (FT1.owns (unhide HO6) (fun q hq e9 => by have := ((unhide HO6).lt q hq).1; omega))
              have HDY := hide ((FT1.block D (by omega) (by omega)).trans (unhide HD6))
              have HFY := hide (fr_off (unhide HF6) FT1 (fun x hx => .inr (by omega)))
              have zY : V.heap.size ≤ (w6.setCell ⟨B, 1, none⟩ (.slice (some ⟨g6, 0, none⟩) (j + 1) c6)).heap.size := by have := FT1.size; omega
              clear FT1
              go_wp2
              go_roundw
              case rel => exact ⟨j + 1, g6, c6, by omega, by go_num, HBY, HKY, HOY, HDY, HFY, zY⟩
              case measure => simp [intOf]; omega
          · have hwo : IntKind.i64.wrap 2 = 2 := by decide
            have hrT : (j : Int).tmod 2 = 1 := by rw [Int.tmod_eq_emod_of_nonneg (by omega)]; omega
            have HT : Hid (({ data := #[97, 98] } : ByteArray).extract 1 2 = abT j) := hide (by unfold abT; rw [hr])
            have x1 : wr.cell? ⟨B, 1, none⟩ = some (.slice (some ⟨g8, 0, none⟩) j c8) := cells_of (unhide HG) 1 _ rfl
            have x1n : ∀ o, (wr.alloc o).cell? ⟨B, 1, none⟩ = some (.slice (some ⟨g8, 0, none⟩) j c8) := fun o => ((Ext.refl wr).alloc o).cell x1
            have hst : Hid (strL abT (j + 1) = strL abT j ++ [.string (({ data := #[97, 98] } : ByteArray).extract 1 2)]) := hide (by rw [strL_succ, unhide HT])
            have hoff : ∀ q, (Value.slice (some ⟨g8, 0, none⟩) j c8).ownBlock = some q → V.heap.size ≤ q := fun q hq => ((unhide HO).lt q hq).1
            clear hr
            go_upto_region 10 with fail
            go_region_law (first
              | (refine step_append_lies _ (by rfl) _ _ _ (by rfl) V.heap.size 9 ic _ 1 16 Tryd.underlying23 hic hc0 hc1 hc2 rfl (by omega) (.slice (some ⟨g8, 0, none⟩) j c8) j (strL abT j) (by rfl) (by first | exact (unhide HO).alloc _ | exact ((unhide HO).alloc _).drew | exact (unhide HO).drew.alloc _ | exact ((unhide HO).drew.alloc _).drew)
                   ⟨wr.heap.size, 0, none⟩ 1 1 [.string (({ data := #[97, 98] } : ByteArray).extract 1 2)] (by rfl) (by rfl) (World.news_of_block (cs := #[.string (({ data := #[97, 98] } : ByteArray).extract 1 2)]) (t := 9) (fr := (0, 0)) (heap_alloc_new wr _)) (by simp [Value.oneCell'])
                   (by omega) (by unfold maxLen; omega) (by omega) (by simp; omega) (wr.heap.size + 1) (by simp) ?_
                 intro g6 c6 w6 o6 G6 hat hlt6
                 have X6 := Fr.grown (S := fun q => (Value.slice (some ⟨g8, 0, none⟩) j c8).ownBlock = some q) (w := wr) (Fr.of_ext (by first | exact (Ext.refl wr).alloc _ | exact ((Ext.refl wr).alloc _).drew | exact (Ext.refl wr).drew.alloc _ | exact ((Ext.refl wr).drew.alloc _).drew)) G6 (fun q hq => hq)
                 rw [← unhide hst] at o6
                 have HO6 := hide o6
                 have hb6 := X6.kept (unhide HG) (fun hq => by have := hoff _ hq; omega)
                 have HB6 := hide hb6
                 have y1 : w6.cell? ⟨B, 1, none⟩ = some (.slice (some ⟨g8, 0, none⟩) j c8) := cells_of hb6 1 _ rfl
                 have fy : w6.frozen? ⟨B, 1, none⟩ = false := Lib.frozen_of_heap hb6 1
                 have HK6 := hide (X6.kept (unhide HK) (fun hq => by have := hoff _ hq; omega))
                 have HD6 := hide ((X6.block D (by omega) (fun hq => by have := hoff _ hq; omega)).trans (unhide HDr))
                 have HF6 := hide (fr_off (unhide HF) X6 (fun x hx => .inr (by have := hoff _ hx; omega)))
                 have z6 := X6.size
                 clear X6 o6 G6 hb6 hat))
            all_goals
              have FT1 : Fr (fun q => q = B) w6 (w6.setCell ⟨B, 1, none⟩ (.slice (some ⟨g6, 0, none⟩) (j + 1) c6)) := Fr.setCell (S := fun q => q = B) (Fr.refl _ w6) (a := ⟨B, 1, none⟩) rfl _
              have HBY := hide (heap_setCell_same w6 B 1 _ _ (.slice (some ⟨g6, 0, none⟩) (j + 1) c6) (unhide HB6))
              have HKY := hide (FT1.kept (unhide HK6) (by omega))
              have HOY := hide (FT1.owns (unhide HO6) (fun q hq e9 => by have := ((unhide HO6).lt q hq).1; omega))
              have HDY := hide ((FT1.block D (by omega) (by omega)).trans (unhide HD6))
              have HFY := hide (fr_off (unhide HF6) FT1 (fun x hx => .inr (by omega)))
              have zY : V.heap.size ≤ (w6.setCell ⟨B, 1, none⟩ (.slice (some ⟨g6, 0, none⟩) (j + 1) c6)).heap.size := by have := FT1.size; omega
              clear FT1
              go_wp2
              go_roundw
              case rel => exact ⟨j + 1, g6, c6, by omega, by go_num, HBY, HKY, HOY, HDY, HFY, zY⟩
              case measure => simp [intOf]; omega
        · obtain rfl : j = m := by omega
          have hb9 : ¬ (j : Int) < (j : Int) := by omega
          have x0 : wr.cell? ⟨B, 0, none⟩ = some (.int .i64 100) := cells_of (unhide HG) 0 _ rfl
          have x1 : wr.cell? ⟨B, 1, none⟩ = some (.slice (some ⟨g8, 0, none⟩) j c8) := cells_of (unhide HG) 1 _ rfl
          have s0 : wr.cell? ⟨w.heap.size, 0, none⟩ = some (.int .i64 0) := cells_of (unhide HK) 0 _ rfl
          have s1 : wr.cell? ⟨w.heap.size, 1, none⟩ = some (.slice none 0 0) := cells_of (unhide HK) 1 _ rfl
          have f0 : ∀ i, wr.frozen? ⟨w.heap.size, i, none⟩ = false := fun i => Lib.frozen_of_heap (unhide HK) i
          have HO1 := hide (own_strL (unhide HO))
          go_wp2
          have FT := fr_two wr w.heap.size (.int .i64 100) (.slice (some ⟨g8, 0, none⟩) j c8)
          have hBX := hist_two (x' := .int .i64 100) (y' := .slice (some ⟨g8, 0, none⟩) j c8) (unhide HK)
          have v0 := cells_of hBX 0 _ rfl
          have v1 := cells_of hBX 1 _ rfl
          have FX := fr_off (unhide HF) FT (fun x hx => .inr (by omega))
          exact bodyPost_ret (v := .agg #[.int .i64 100, .slice (some ⟨g8, 0, none⟩) j c8]) (by simp [results, Tryd.results14, go_sem, v0, v1]) rfl ⟨100, g8, j, c8, rfl, by omega, p2, abT, fun i _ => abT_size i, ((unhide HO1).fr FT (fun q hq e9 => hist_kind (unhide HO1) (unhide HK) (by rw [hq, e9]))).mono (by omega), (unhide HR).keep (unhide HRV) FX (by rw [heap_far (by omega), heap_far (by omega)]; exact unhide HDr), FX⟩
    · have hq6 : ¬ (x : Int) % 32 = 6 := by omega
      go_wp2
      have FT := fr_two V w.heap.size (.int .i64 cap) (.slice (some ⟨g, 0, none⟩) n c)
      have hBX := hist_two (x' := .int .i64 cap) (y' := .slice (some ⟨g, 0, none⟩) n c) (unhide HR0)
      have v0 := cells_of hBX 0 _ rfl
      have v1 := cells_of hBX 1 _ rfl
      have FX := fr_off ((unhide HF1).tr (unhide HFV)) FT (fun x hx => .inr (by omega))
      exact bodyPost_ret (v := .agg #[.int .i64 cap, .slice (some ⟨g, 0, none⟩) n c]) (by simp [results, Tryd.results14, go_sem, v0, v1]) rfl ⟨cap, g, n, c, rfl, by omega, p2, tx, unhide HS, ((unhide HOV).fr FT (fun q hq e9 => hist_kind (unhide HOV) (unhide HR0) (by rw [hq, e9]))).mono (by omega), (unhide HR).keep (unhide HRV) FX (by rw [heap_far (by omega), heap_far (by omega)]), FX⟩
end Go.Proofs.YtdmkcpkmeokjiaaDoor
