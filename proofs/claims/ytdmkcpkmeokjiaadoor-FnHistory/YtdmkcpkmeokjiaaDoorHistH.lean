import Derived.Test.YtdmkcpkmeokjiaaDoorHistG
namespace Go.Proofs.YtdmkcpkmeokjiaaDoor
open Go.RowKit

set_option maxRecDepth 10000 in
set_option maxHeartbeats 2000000 in
theorem DrawAdd_any (v : Value) (code : List Int) (w : World) (hv : IntsAt w .u8 v code) (hB0 : Bytes code) (hl0 : code.length ≤ 1048576) :
    Calls Tryd.prog 4 #[v] w fun e w' => ∃ (cap : Int) (g n c : Nat) (text : ByteArray), e = .returned (.tuple #[.agg #[.int .i64 cap, .slice (some ⟨g, 0, none⟩) n c], .string text]) ∧ n ≤ 100 ∧ text.size ≤ 1000 ∧ ∃ (tx : Nat → ByteArray), (∀ j, j < n → (tx j).size ≤ 400) ∧ Own1 w' w.heap.size 9 (.slice (some ⟨g, 0, none⟩) n c) n (fun j => .string (tx j)) ∧ Ext w w' := by
  have hB : Bytes (code.take 1000) := fun x hx => hB0 x (List.mem_of_mem_take hx)
  have hl : (code.take 1000).length ≤ 16777216 := by simp; omega
  have HO := hide (fun W (E : Ext w W) => l1Open_any v code W (hv.ext E) (by omega))
  obtain ⟨ao, ca, rfl, _, _⟩ := hv
  obtain ⟨bs, hbs⟩ : ∃ bs, bs = code.take 1000 := ⟨_, rfl⟩
  rw [← hbs] at hB hl HO
  clear hbs hB0 hl0
  go_enter Tryd.func4, Tryd.ntmps4
  go_wp2_with fail
  have E0 := (Ext.refl w).alloc (.cells #[.int .i64 0, .slice none 0 0] 25)
  refine ((unhide HO) _ E0).mono ?_
  rintro e w1 ⟨rfl, ⟨u, r1⟩, E1⟩
  have hk1 := E1.kept (new_block w (.cells #[.int .i64 0, .slice none 0 0] 25))
  obtain ⟨D, hD⟩ : ∃ D, D = (w.alloc (.cells #[.int .i64 0, .slice none 0 0] 25)).heap.size := ⟨_, rfl⟩
  rw [← hD] at r1 ⊢
  have hwD : w.heap.size < D := by rw [hD]; simp
  obtain ⟨x, hx, hx2⟩ := byte_nat hB 0
  have HN := hide (next_any D u bs 0 w1 r1 hB hl)
  rw [hx] at HN
  have HK1 := hide hk1
  have HE1 := hide (E0.trans E1)
  clear HO E0 E1 r1 hD hk1 hx
  go_wp2_with fail
  refine (unhide HN).mono ?_
  rintro e w2 ⟨rfl, r2, f2⟩
  have HI := hide (l5Item_any D u bs _ w2 r2 hB hl)
  have HF2 := hide f2
  clear HN r2 f2
  go_wp2_with fail
  refine (unhide HI).mono ?_
  rintro e w3 ⟨t, p3, rfl, ht, r3, f3⟩
  have HA := hide (l5DrawAny_any D u bs p3 w3 r3 hB hl)
  have HF3 := hide ((unhide HF2).tr f3)
  clear HI r3 f3 HF2
  go_wp2_with fail
  refine (unhide HA).mono ?_
  rintro e w4 ⟨cap, g, n, c, rfl, hn, p4, tx, hS, o4, r4, f4⟩
  have F4 := (unhide HF3).tr f4
  have hz1 := (unhide HE1).size
  have HE4 := hide (F4.ext (unhide HE1) (fun q hq => by omega))
  have HK4 := hide (F4.kept (unhide HK1) (by omega))
  have HS := hide hS
  have z13 := (unhide HF3).size
  have hk1 := lt_of_block (unhide HK1)
  have HO4 := hide (o4.mono (base' := w.heap.size) (by omega))
  have hgn := (o4.lt g rfl)
  obtain ⟨V, hV⟩ : ∃ V, V = w4.alloc (.cells #[.int .i64 cap, .slice (some ⟨g, 0, none⟩) n c] 25) := ⟨_, rfl⟩
  have EV : Ext w4 V := by rw [hV]; exact (Ext.refl w4).alloc _
  have HBV : Hid (V.heap[w4.heap.size]? = some (.cells #[.int .i64 cap, .slice (some ⟨g, 0, none⟩) n c] 25 (0, 0))) := hide (by rw [hV]; exact new_block w4 _)
  have HKV := hide (EV.kept (unhide HK4))
  have HOV := hide ((unhide HO4).ext EV)
  have HEV := hide ((unhide HE4).trans EV)
  have HW := hide hV
  clear HA o4 r4 f4 F4 hS hV EV HE4 HK4 HO4 HF3 HE1 HK1
  go_upto_region 5 with fail
  rw [← unhide HW]
  clear HW
  have b0 : V.cell? ⟨w4.heap.size, 0, none⟩ = some (.int .i64 cap) := cells_of (unhide HBV) 0 _ rfl
  have b1 : V.cell? ⟨w4.heap.size, 1, none⟩ = some (.slice (some ⟨g, 0, none⟩) n c) := cells_of (unhide HBV) 1 _ rfl
  have s0 : V.cell? ⟨w.heap.size, 0, none⟩ = some (.int .i64 0) := cells_of (unhide HKV) 0 _ rfl
  have s1 : V.cell? ⟨w.heap.size, 1, none⟩ = some (.slice none 0 0) := cells_of (unhide HKV) 1 _ rfl
  have f0 : ∀ i, V.frozen? ⟨w.heap.size, i, none⟩ = false := fun i => Lib.frozen_of_heap (unhide HKV) i
  have hq8 := (by omega : x % 8 = 7 ∨ x % 8 = 6 ∨ (x % 16 = 5 ∨ ¬ x % 16 = 5) ∧ ¬ x % 8 = 7 ∧ ¬ x % 8 = 6)
  rcases hq8 with h7 | h6 | ⟨h5, h7, h6⟩
  · have hq : (x : Int) % 8 = 7 := by omega
    have hq5 : ¬ (x : Int) % 16 = 5 := by omega
    have b0n : ∀ o, (V.alloc o).cell? ⟨w4.heap.size, 0, none⟩ = some (.int .i64 cap) := fun o => ((Ext.refl V).alloc o).cell b0
    have b1n : ∀ o, (V.alloc o).cell? ⟨w4.heap.size, 1, none⟩ = some (.slice (some ⟨g, 0, none⟩) n c) := fun o => ((Ext.refl V).alloc o).cell b1
    have s0n : ∀ o, (V.alloc o).cell? ⟨w.heap.size, 0, none⟩ = some (.int .i64 0) := fun o => ((Ext.refl V).alloc o).cell s0
    have s1n : ∀ o, (V.alloc o).cell? ⟨w.heap.size, 1, none⟩ = some (.slice none 0 0) := fun o => ((Ext.refl V).alloc o).cell s1
    have f0n : ∀ o i, (V.alloc o).frozen? ⟨w.heap.size, i, none⟩ = false := fun o i => Lib.frozen_of_heap (((Ext.refl V).alloc o).kept (unhide HKV)) i
    rcases (by omega : (x : Int) / 8 % 4 = 0 ∨ (x : Int) / 8 % 4 = 1 ∨ (x : Int) / 8 % 4 = 2 ∨ (x : Int) / 8 % 4 = 3) with hi | hi | hi | hi
    · go_wp2
      have FT := fr_two (V.alloc (.cells #[.string { data := #[] }, .string { data := #[2] }, .string { data := #[204, 129, 120] }, .string { data := #[98] }] 9)) w.heap.size (.int .i64 cap) (.slice (some ⟨g, 0, none⟩) n c)
      have hBX := hist_two (x' := .int .i64 cap) (y' := .slice (some ⟨g, 0, none⟩) n c) (((Ext.refl V).alloc (.cells #[.string { data := #[] }, .string { data := #[2] }, .string { data := #[204, 129, 120] }, .string { data := #[98] }] 9)).kept (unhide HKV))
      have v0 := cells_of hBX 0 _ rfl
      have v1 := cells_of hBX 1 _ rfl
      exact bodyPost_ret (v := .tuple #[.agg #[.int .i64 cap, .slice (some ⟨g, 0, none⟩) n c], .string ({ data := #[] })]) (by simp [results, Tryd.results4, go_sem, v0, v1]) rfl ⟨cap, g, n, c, _, rfl, hn, by decide, tx, unhide HS, ((unhide HOV).ext ((Ext.refl V).alloc (.cells #[.string { data := #[] }, .string { data := #[2] }, .string { data := #[204, 129, 120] }, .string { data := #[98] }] 9))).fr FT (fun q hq e9 => hist_kind ((unhide HOV).ext ((Ext.refl V).alloc (.cells #[.string { data := #[] }, .string { data := #[2] }, .string { data := #[204, 129, 120] }, .string { data := #[98] }] 9))) (((Ext.refl V).alloc (.cells #[.string { data := #[] }, .string { data := #[2] }, .string { data := #[204, 129, 120] }, .string { data := #[98] }] 9)).kept (unhide HKV)) (by rw [hq, e9])), FT.ext ((unhide HEV).trans ((Ext.refl V).alloc (.cells #[.string { data := #[] }, .string { data := #[2] }, .string { data := #[204, 129, 120] }, .string { data := #[98] }] 9))) (fun q hq => by omega)⟩
    · go_wp2
      have FT := fr_two (V.alloc (.cells #[.string { data := #[] }, .string { data := #[2] }, .string { data := #[204, 129, 120] }, .string { data := #[98] }] 9)) w.heap.size (.int .i64 cap) (.slice (some ⟨g, 0, none⟩) n c)
      have hBX := hist_two (x' := .int .i64 cap) (y' := .slice (some ⟨g, 0, none⟩) n c) (((Ext.refl V).alloc (.cells #[.string { data := #[] }, .string { data := #[2] }, .string { data := #[204, 129, 120] }, .string { data := #[98] }] 9)).kept (unhide HKV))
      have v0 := cells_of hBX 0 _ rfl
      have v1 := cells_of hBX 1 _ rfl
      exact bodyPost_ret (v := .tuple #[.agg #[.int .i64 cap, .slice (some ⟨g, 0, none⟩) n c], .string ({ data := #[2] })]) (by simp [results, Tryd.results4, go_sem, v0, v1]) rfl ⟨cap, g, n, c, _, rfl, hn, by decide, tx, unhide HS, ((unhide HOV).ext ((Ext.refl V).alloc (.cells #[.string { data := #[] }, .string { data := #[2] }, .string { data := #[204, 129, 120] }, .string { data := #[98] }] 9))).fr FT (fun q hq e9 => hist_kind ((unhide HOV).ext ((Ext.refl V).alloc (.cells #[.string { data := #[] }, .string { data := #[2] }, .string { data := #[204, 129, 120] }, .string { data := #[98] }] 9))) (((Ext.refl V).alloc (.cells #[.string { data := #[] }, .string { data := #[2] }, .string { data := #[204, 129, 120] }, .string { data := #[98] }] 9)).kept (unhide HKV)) (by rw [hq, e9])), FT.ext ((unhide HEV).trans ((Ext.refl V).alloc (.cells #[.string { data := #[] }, .string { data := #[2] }, .string { data := #[204, 129, 120] }, .string { data := #[98] }] 9))) (fun q hq => by omega)⟩
    · go_wp2
      have FT := fr_two (V.alloc (.cells #[.string { data := #[] }, .string { data := #[2] }, .string { data := #[204, 129, 120] }, .string { data := #[98] }] 9)) w.heap.size (.int .i64 cap) (.slice (some ⟨g, 0, none⟩) n c)
      have hBX := hist_two (x' := .int .i64 cap) (y' := .slice (some ⟨g, 0, none⟩) n c) (((Ext.refl V).alloc (.cells #[.string { data := #[] }, .string { data := #[2] }, .string { data := #[204, 129, 120] }, .string { data := #[98] }] 9)).kept (unhide HKV))
      have v0 := cells_of hBX 0 _ rfl
      have v1 := cells_of hBX 1 _ rfl
      exact bodyPost_ret (v := .tuple #[.agg #[.int .i64 cap, .slice (some ⟨g, 0, none⟩) n c], .string ({ data := #[204, 129, 120] })]) (by simp [results, Tryd.results4, go_sem, v0, v1]) rfl ⟨cap, g, n, c, _, rfl, hn, by decide, tx, unhide HS, ((unhide HOV).ext ((Ext.refl V).alloc (.cells #[.string { data := #[] }, .string { data := #[2] }, .string { data := #[204, 129, 120] }, .string { data := #[98] }] 9))).fr FT (fun q hq e9 => hist_kind ((unhide HOV).ext ((Ext.refl V).alloc (.cells #[.string { data := #[] }, .string { data := #[2] }, .string { data := #[204, 129, 120] }, .string { data := #[98] }] 9))) (((Ext.refl V).alloc (.cells #[.string { data := #[] }, .string { data := #[2] }, .string { data := #[204, 129, 120] }, .string { data := #[98] }] 9)).kept (unhide HKV)) (by rw [hq, e9])), FT.ext ((unhide HEV).trans ((Ext.refl V).alloc (.cells #[.string { data := #[] }, .string { data := #[2] }, .string { data := #[204, 129, 120] }, .string { data := #[98] }] 9))) (fun q hq => by omega)⟩
    · go_wp2
      have FT := fr_two (V.alloc (.cells #[.string { data := #[] }, .string { data := #[2] }, .string { data := #[204, 129, 120] }, .string { data := #[98] }] 9)) w.heap.size (.int .i64 cap) (.slice (some ⟨g, 0, none⟩) n c)
      have hBX := hist_two (x' := .int .i64 cap) (y' := .slice (some ⟨g, 0, none⟩) n c) (((Ext.refl V).alloc (.cells #[.string { data := #[] }, .string { data := #[2] }, .string { data := #[204, 129, 120] }, .string { data := #[98] }] 9)).kept (unhide HKV))
      have v0 := cells_of hBX 0 _ rfl
      have v1 := cells_of hBX 1 _ rfl
      exact bodyPost_ret (v := .tuple #[.agg #[.int .i64 cap, .slice (some ⟨g, 0, none⟩) n c], .string ({ data := #[98] })]) (by simp [results, Tryd.results4, go_sem, v0, v1]) rfl ⟨cap, g, n, c, _, rfl, hn, by decide, tx, unhide HS, ((unhide HOV).ext ((Ext.refl V).alloc (.cells #[.string { data := #[] }, .string { data := #[2] }, .string { data := #[204, 129, 120] }, .string { data := #[98] }] 9))).fr FT (fun q hq e9 => hist_kind ((unhide HOV).ext ((Ext.refl V).alloc (.cells #[.string { data := #[] }, .string { data := #[2] }, .string { data := #[204, 129, 120] }, .string { data := #[98] }] 9))) (((Ext.refl V).alloc (.cells #[.string { data := #[] }, .string { data := #[2] }, .string { data := #[204, 129, 120] }, .string { data := #[98] }] 9)).kept (unhide HKV)) (by rw [hq, e9])), FT.ext ((unhide HEV).trans ((Ext.refl V).alloc (.cells #[.string { data := #[] }, .string { data := #[2] }, .string { data := #[204, 129, 120] }, .string { data := #[98] }] 9))) (fun q hq => by omega)⟩
  · have hq : (x : Int) % 8 = 6 := by omega
    have hq5 : ¬ (x : Int) % 16 = 5 := by omega
    by_cases hn0 : n = 0
    · subst hn0
      go_wp2
      have FT := fr_two V w.heap.size (.int .i64 cap) (.slice (some ⟨g, 0, none⟩) 0 c)
      have hBX := hist_two (x' := .int .i64 cap) (y' := .slice (some ⟨g, 0, none⟩) 0 c) (unhide HKV)
      have v0 := cells_of hBX 0 _ rfl
      have v1 := cells_of hBX 1 _ rfl
      exact bodyPost_ret (v := .tuple #[.agg #[.int .i64 cap, .slice (some ⟨g, 0, none⟩) 0 c], .string (t)]) (by simp [results, Tryd.results4, go_sem, v0, v1]) rfl ⟨cap, g, 0, c, _, rfl, hn, by omega, tx, unhide HS, (unhide HOV).fr FT (fun q hq e9 => hist_kind (unhide HOV) (unhide HKV) (by rw [hq, e9])), FT.ext (unhide HEV) (fun q hq => by omega)⟩
    · have hnI : (0 : Int) < (n : Int) := by omega
      have hw1 : IntKind.i64.wrap ((n : Int) - 1) = ((n - 1 : Nat) : Int) := by rw [IntKind.wrap_i64]; omega
      have hb1 : ((n - 1 : Nat) : Int) < (n : Int) := by omega
      have g1 : V.cell? ⟨g, n - 1, none⟩ = some (.string (tx (n - 1))) := ((unhide HOV).cell (by omega)).1
      go_wp2
      have FT := fr_two V w.heap.size (.int .i64 cap) (.slice (some ⟨g, 0, none⟩) n c)
      have hBX := hist_two (x' := .int .i64 cap) (y' := .slice (some ⟨g, 0, none⟩) n c) (unhide HKV)
      have v0 := cells_of hBX 0 _ rfl
      have v1 := cells_of hBX 1 _ rfl
      exact bodyPost_ret (v := .tuple #[.agg #[.int .i64 cap, .slice (some ⟨g, 0, none⟩) n c], .string (tx (n - 1))]) (by simp [results, Tryd.results4, go_sem, v0, v1]) rfl ⟨cap, g, n, c, _, rfl, hn, by have := (unhide HS) (n - 1) (by omega); omega, tx, unhide HS, (unhide HOV).fr FT (fun q hq e9 => hist_kind (unhide HOV) (unhide HKV) (by rw [hq, e9])), FT.ext (unhide HEV) (fun q hq => by omega)⟩
  · have hq : ¬ (x : Int) % 8 = 7 := by omega
    have hq6 : ¬ (x : Int) % 8 = 6 := by omega
    rcases h5 with h5 | h5
    · have hq5 : (x : Int) % 16 = 5 := by omega
      obtain ⟨m, hm⟩ : ∃ m : Nat, m = 292 + x / 16 := ⟨_, rfl⟩
      have hm1 : m ≤ 310 := by omega
      have hwm : IntKind.i64.wrap (292 + (x : Int) / 16) = (m : Int) := by rw [IntKind.wrap_i64]; omega
      have hqb : ((x : Int) % 8 == 7) = false := by rw [beq_eq_false_iff_ne]; exact hq
      have hqc : ((x : Int) % 8 == 6) = false := by rw [beq_eq_false_iff_ne]; exact hq6
      clear hm
      go_wp2
      clear hq hq6 hq5 hqb hqc h5 h6 h7
      go_loopw [6, 8] (fun o i wr => ∃ (j : Nat) (s : ByteArray), j ≤ m ∧ i = .int .i64 j ∧ o = .string s ∧ s.size ≤ 400 + j ∧ wr = V) (fun _ i _ => m - (intOf i).toNat)
      case atStart => exact ⟨0, t, Nat.zero_le _, rfl, rfl, by omega, rfl⟩
      case round =>
        obtain ⟨j, s, hj, rfl, rfl, hs, rfl⟩ := hrel
        by_cases hlt : j < m
        · have bj : (j : Int) < (m : Int) := by omega
          go_wp2
          go_roundw
          case rel => exact ⟨j + 1, _, by omega, by go_num, rfl, by rw [ByteArray.size_append]; have : ({ data := #[119] } : ByteArray).size = 1 := rfl; omega, trivial⟩
          case measure => simp [intOf]; omega
        · obtain rfl : j = m := by omega
          have hb9 : ¬ (j : Int) < (j : Int) := by omega
          go_wp2
          have FT := fr_two wr w.heap.size (.int .i64 cap) (.slice (some ⟨g, 0, none⟩) n c)
          have hBX := hist_two (x' := .int .i64 cap) (y' := .slice (some ⟨g, 0, none⟩) n c) (unhide HKV)
          have v0 := cells_of hBX 0 _ rfl
          have v1 := cells_of hBX 1 _ rfl
          exact bodyPost_ret (v := .tuple #[.agg #[.int .i64 cap, .slice (some ⟨g, 0, none⟩) n c], .string (s)]) (by simp [results, Tryd.results4, go_sem, v0, v1]) rfl ⟨cap, g, n, c, _, rfl, hn, by omega, tx, unhide HS, (unhide HOV).fr FT (fun q hq e9 => hist_kind (unhide HOV) (unhide HKV) (by rw [hq, e9])), FT.ext (unhide HEV) (fun q hq => by omega)⟩
    · have hq5 : ¬ (x : Int) % 16 = 5 := by omega
      go_wp2
      have FT := fr_two V w.heap.size (.int .i64 cap) (.slice (some ⟨g, 0, none⟩) n c)
      have hBX := hist_two (x' := .int .i64 cap) (y' := .slice (some ⟨g, 0, none⟩) n c) (unhide HKV)
      have v0 := cells_of hBX 0 _ rfl
      have v1 := cells_of hBX 1 _ rfl
      exact bodyPost_ret (v := .tuple #[.agg #[.int .i64 cap, .slice (some ⟨g, 0, none⟩) n c], .string (t)]) (by simp [results, Tryd.results4, go_sem, v0, v1]) rfl ⟨cap, g, n, c, _, rfl, hn, by omega, tx, unhide HS, (unhide HOV).fr FT (fun q hq e9 => hist_kind (unhide HOV) (unhide HKV) (by rw [hq, e9])), FT.ext (unhide HEV) (fun q hq => by omega)⟩
end Go.Proofs.YtdmkcpkmeokjiaaDoor
