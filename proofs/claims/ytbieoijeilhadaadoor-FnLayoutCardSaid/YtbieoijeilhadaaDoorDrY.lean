import Derived.Test.YtbieoijeilhadaaDoorDrE
namespace Go.Proofs.YtbieoijeilhadaaDoor
open Go.RowKit
theorem bnat {bs : List Int} (hB : Bytes bs) (p : Nat) : ∃ x : Nat, at0 bs p = (x : Int) ∧ x ≤ 255 := ⟨(at0 bs p).toNat, by have := hB.at0 p; omega, by have := hB.at0 p; omega⟩
theorem nums_at {w : World} {p : Nat} {T : TypeId} {xs : List Int} (h : w.heap[p]? = some (.cells (xs.map (Value.int .i64)).toArray T (0, 0))) : ∀ j, j < xs.length → ∃ t ∈ xs, w.cell? ⟨p, j, none⟩ = some (.int .i64 t) := fun j hj => ⟨xs[j], List.getElem_mem hj, cells_of h j _ (by simp [hj])⟩
set_option maxRecDepth 10000 in
set_option maxHeartbeats 1000000 in
theorem l6Size_any (D : Nat) (v : Value) (bs : List Int) (p : Nat) (w : World) (h : RdAt w D v bs p) (hB : Bytes bs) (hl : bs.length ≤ 16777216) :
    Calls Tryd.prog 47 #[.pointer (some ⟨D, 0, none⟩)] w fun e w' => (∃ c r : Int, e = .returned (.tuple #[.int .i64 c, .int .i64 r]) ∧ -7 ≤ c ∧ c ≤ 201 ∧ -7 ≤ r ∧ r ≤ 101) ∧ (∃ p', RdAt w' D v bs p') ∧ Fr (fun k => k = D) w w' := by
  obtain ⟨x, hx, hx2⟩ := bnat hB p
  have HN := hide (next_any D v bs p w h hB hl)
  rw [hx] at HN
  clear h hx
  have hw1 : IntKind.i64.wrap (2 + (x : Int) % 12) = 2 + (x : Int) % 12 := by rw [IntKind.wrap_i64]; omega
  have hw2 : IntKind.i64.wrap (1 + (x : Int) / 12 % 5) = 1 + (x : Int) / 12 % 5 := by rw [IntKind.wrap_i64]; omega
  go_enter Tryd.func47, Tryd.ntmps47
  go_wp2_with fail
  refine (unhide HN).mono ?_
  rintro e w1 ⟨rfl, r1, f1⟩
  have HR1 := hide r1
  have HF1 := hide f1
  clear HN r1 f1
  go_wp2
  go_ret2
  exact ⟨⟨_, _, rfl, by omega, by omega, by omega, by omega⟩, ⟨_, unhide HR1⟩, unhide HF1⟩
def prompts : List ByteArray := [{ data := #[62, 32] }, { data := #[] }, { data := #[110, 97, 109, 101, 58, 32] }, { data := #[228, 184, 150, 62, 32] }, { data := #[36, 204, 129] }, { data := #[97, 32, 108, 111, 110, 103, 32, 112, 114, 111, 109, 112, 116, 32, 35, 32] }]
theorem prompts_small : ∀ t ∈ prompts, t.size ≤ 24 := by decide
set_option maxRecDepth 10000 in
set_option maxHeartbeats 1000000 in
theorem l6Prompt_any (D : Nat) (v : Value) (bs : List Int) (p : Nat) (w : World) (h : RdAt w D v bs p) (hB : Bytes bs) (hl : bs.length ≤ 16777216) :
    Calls Tryd.prog 48 #[.pointer (some ⟨D, 0, none⟩)] w fun e w' => (∃ t, e = .returned (.string t) ∧ t.size ≤ 1100) ∧ (∃ p', RdAt w' D v bs p') ∧ Fr (fun k => k = D) w w' := by
  obtain ⟨x, hx, hx2⟩ := bnat hB p
  have HN := hide (next_any D v bs p w h hB hl)
  rw [hx] at HN
  clear h hx
  go_enter Tryd.func48, Tryd.ntmps48
  go_wp2_with fail
  refine (unhide HN).mono ?_
  rintro e w1 ⟨rfl, r1, f1⟩
  have HR1 := hide r1
  have HF1 := hide f1
  clear HN r1 f1
  obtain ⟨V, hV⟩ : ∃ V, V = w1.alloc (.cells (prompts.map Value.string).toArray 9) := ⟨_, rfl⟩
  have E0 : Ext w1 V := by rw [hV]; exact (Ext.refl w1).alloc _
  obtain ⟨t, ht, hc⟩ := strs_at (xs := prompts) (p := w1.heap.size) (w := V) (by rw [hV]; exact new_block w1 _) (x % 6) (Nat.mod_lt _ (by decide))
  have hs := prompts_small t ht
  have HV := hide (show V = w1.alloc (.cells #[.string { data := #[62, 32] }, .string { data := #[] }, .string { data := #[110, 97, 109, 101, 58, 32] }, .string { data := #[228, 184, 150, 62, 32] }, .string { data := #[36, 204, 129] }, .string { data := #[97, 32, 108, 111, 110, 103, 32, 112, 114, 111, 109, 112, 116, 32, 35, 32] }] 9) from hV)
  have htm : (x : Int).tmod 6 = ((x % 6 : Nat) : Int) := by rw [Int.tmod_eq_emod_of_nonneg (by omega)]; omega
  have hm0 : (x % 6 : Nat) < 6 := Nat.mod_lt _ (by decide)
  obtain ⟨m, hm⟩ : ∃ m, m = x % 6 := ⟨_, rfl⟩
  rw [← hm] at hc htm hm0
  have hmI : (m : Int) < 6 := by omega
  have HE := hide E0
  have hc2 := hc
  rw [unhide HV] at hc2
  have hem : (x : Int) % 6 = (m : Int) := by omega
  clear hm ht hV E0
  go_wp2
  rw [← unhide HV]
  exact bodyPost_ret (v := .string t) (by simp [results, Tryd.results48, go_sem]) rfl ⟨⟨t, rfl, by omega⟩, ⟨_, (unhide HR1).ext (unhide HE)⟩, (unhide HF1).tr (Fr.of_ext (unhide HE))⟩
def LyDr (e : Ending) : Prop :=
  ∃ (P a b c : ByteArray) (un : List (ByteArray × ByteArray)) (ua : Option Addr) (uc : Nat) (cols rows : Int), e = .returned (.tuple #[.string P, .agg #[.string a, .string b, .string c, .slice ua un.length uc], .int .i64 cols, .int .i64 rows]) ∧ P.size ≤ 1100 ∧ a.size ≤ 4000 ∧ b.size ≤ 4000 ∧ -7 ≤ cols ∧ cols ≤ 201 ∧ -7 ≤ rows ∧ rows ≤ 101
set_option linter.unusedSimpArgs false in
set_option maxRecDepth 10000 in
set_option maxHeartbeats 4000000 in
theorem DrawLayout_any (v : Value) (code : List Int) (w : World) (hv : IntsAt w .u8 v code) (hB : Bytes code) (hl : code.length ≤ 1048576) :
    Calls Tryd.prog 24 #[v] w fun e w' => LyDr e ∧ Ext w w' := by
  have HOp := hide (fun W (hW : Ext w W) => l1Open_any v code W (hv.ext hW) (by omega))
  have hBt : Bytes (code.take 1000) := fun n hn => hB n (List.mem_of_mem_take hn)
  have hlt : (code.take 1000).length ≤ 16777216 := by rw [List.length_take]; omega
  have infoL : (Tryd.prog.info? 46).map (·.size) = some 4 := by kernel_rfl
  obtain ⟨va, vc, rfl, _⟩ := id hv
  clear hv
  go_enter Tryd.func24, Tryd.ntmps24
  go_wp2_with fail
  have E0 := (Ext.refl w).alloc (.cells #[.string { data := #[] }, .string { data := #[] }, .string { data := #[] }, .slice none 0 0] 46)
  refine ((unhide HOp) _ E0).mono ?_
  rintro e w1 ⟨rfl, ⟨u, r1⟩, E1⟩
  have HQ := hide (E1.kept (new_block w (.cells #[.string { data := #[] }, .string { data := #[] }, .string { data := #[] }, .slice none 0 0] 46)))
  obtain ⟨D, hD⟩ : ∃ D, D = (w.alloc (.cells #[.string { data := #[] }, .string { data := #[] }, .string { data := #[] }, .slice none 0 0] 46)).heap.size := ⟨_, rfl⟩
  rw [← hD] at r1 ⊢
  have hwD : w.heap.size < D := by rw [hD]; simp
  have hDw1 : D < w1.heap.size := lt_of_cell r1.1
  have HE := hide (E0.trans E1)
  obtain ⟨x, hx, hx2⟩ := bnat hBt 0
  have HN := hide (next_any D u _ 0 w1 r1 hBt hlt)
  rw [hx] at HN
  clear HOp E0 E1 r1 hD hx
  go_wp2_with fail
  refine (unhide HN).mono ?_
  rintro e w2 ⟨rfl, r2, f2⟩
  replace HE := hide (f2.ext (unhide HE) (fun q hq => by omega))
  replace HQ := hide (f2.kept (unhide HQ) (by omega))
  have z2 := f2.size
  have HR := hide r2
  clear HN r2 f2
  go_wp2_with fail
  refine (l6Size_any D u _ _ w2 (unhide HR) hBt hlt).mono ?_
  rintro e w3 ⟨⟨c0, r0, rfl, hc1, hc2, hr1, hr2⟩, ⟨p3, r3⟩, f3⟩
  replace HE := hide (f3.ext (unhide HE) (fun q hq => by omega))
  replace HQ := hide (f3.kept (unhide HQ) (by omega))
  have z3 := f3.size
  replace HR := hide r3
  clear r3 f3
  go_wp2_with fail
  refine (l6Prompt_any D u _ _ w3 (unhide HR) hBt hlt).mono ?_
  rintro e w4 ⟨⟨t0, rfl, ht0⟩, ⟨p4, r4⟩, f4⟩
  replace HE := hide (f4.ext (unhide HE) (fun q hq => by omega))
  replace HQ := hide (f4.kept (unhide HQ) (by omega))
  have z4 := f4.size
  replace HR := hide r4
  clear r4 f4
  go_wp2_with fail
  refine (l4DrawAny_any D u _ _ w4 (unhide HR) hBt hlt).mono ?_
  rintro e w5 ⟨hD2, ⟨p5, r5⟩, f5⟩
  obtain ⟨a, b, c, un, ua, uc, rfl, hS, _⟩ := hD2.reads
  replace HE := hide (f5.ext (unhide HE) (fun q hq => by omega))
  replace HQ := hide (f5.kept (unhide HQ) (by omega))
  have z5 := f5.size
  replace HR := hide r5
  have HS := hide hS
  have HN := hide (heap_alloc_new w5 (.cells #[.string { data := #[] }, .string { data := #[] }, .string { data := #[] }, .slice none 0 0] 46))
  clear hD2 r5 f5 hS
  go_wp2_with (first | (refine wpList_store_blk rfl 46 _ _ rfl rfl (w5.heap.size) rfl _ _ #[.string a, .string b, .string c, .slice ua un.length uc] rfl (unhide HN) infoL rfl (by simp [Value.oneCell']) ?_; intro U hb9 hf9; have HB := hide hb9; have HEU := hide (hf9.ext ((Ext.refl w5).alloc _) (fun q hq => by omega)); clear hb9 hf9; refine StopQ.intro ?_))
  show wpList _ _ _ _ _ _
  have EU := unhide HEU
  have zU := EU.size
  replace HE := hide ((unhide HE).trans EU)
  replace HQ := hide (EU.kept (unhide HQ))
  replace HR := hide ((unhide HR).ext EU)
  obtain ⟨LB, hLB⟩ : ∃ LB, LB = w5.heap.size := ⟨_, rfl⟩
  rw [← hLB] at HB ⊢
  have hwL : w.heap.size < LB := by omega
  have hDL : D < LB := by omega
  clear EU HEU HN hLB
  by_cases h15 : x % 16 = 15
  · have q15 : ((x : Int) % 16 == 15) = true := by rw [beq_iff_eq]; omega
    have q14 : ((x : Int) % 16 == 14) = false := by rw [beq_eq_false_iff_ne]; omega
    have q13 : ((x : Int) % 16 == 13) = false := by rw [beq_eq_false_iff_ne]; omega
    obtain ⟨V, hV⟩ : ∃ V, V = U.alloc (.cells (([1, 200, 201, -7] : List Int).map (Value.int .i64)).toArray 3) := ⟨_, rfl⟩
    have E0 : Ext U V := by rw [hV]; exact (Ext.refl U).alloc _
    obtain ⟨cN, ht, hc⟩ := nums_at (xs := [1, 200, 201, -7]) (p := U.heap.size) (w := V) (by rw [hV]; exact new_block U _) (x / 16 % 4) (Nat.mod_lt _ (by decide))
    have hbd : -7 ≤ cN ∧ cN ≤ 201 := by simp at ht; omega
    have HV := hide (show V = U.alloc (.cells #[.int .i64 1, .int .i64 200, .int .i64 201, .int .i64 (-7)] 3) from hV)
    have htm : (x : Int).tdiv 16 = ((x / 16 : Nat) : Int) := by rw [Int.tdiv_eq_ediv_of_nonneg (by omega)]; omega
    have htn : ((x / 16 : Nat) : Int).tmod 4 = ((x / 16 % 4 : Nat) : Int) := by rw [Int.tmod_eq_emod_of_nonneg (by omega)]; omega
    have hed : (x : Int) / 16 % 4 = ((x / 16 % 4 : Nat) : Int) := by omega
    obtain ⟨m, hm⟩ : ∃ m, m = x / 16 % 4 := ⟨_, rfl⟩
    rw [← hm] at hc htn hed
    have hm0 : m < 4 := by omega
    have hmI : (m : Int) < 4 := by omega
    have hc2 := hc
    rw [unhide HV] at hc2
    replace HB := hide (E0.kept (unhide HB))
    replace HQ := hide (E0.kept (unhide HQ))
    replace HE := hide ((unhide HE).trans E0)
    have zV := E0.size
    clear hm ht hV E0
    clear hc
    go_upto_region 12 with fail
    rw [← unhide HV]
    clear HV
    refine wp_region_held_drew (S := fun W => W.heap[LB]? = some (.cells #[.string a, .string b, .string c, .slice ua un.length uc] 46 (0, 0))) (by kernel_rfl) (unhide HB) (fun hHeld => ?_)
    refine wpAnyH_take (i := 0) (v := ?_) rfl (by kernel_rfl) (by kernel_rfl) (by kernel_rfl) (fun _ _ _ h => h) (Or.inl ⟨by rfl, ?_⟩) (by assumption) ?_
    rotate_left
    · intro w' hSw; go_simp <;> with_reducible rfl
    simp only [Act.put, qA, qB, qC, qD, qE, qF]
    refine wpAnyH_take (i := 1) (v := .agg #[.string a, .string b, .string c, .slice ua un.length uc]) rfl (by kernel_rfl) (by kernel_rfl) (by kernel_rfl) (fun _ _ _ h => h) (Or.inl ⟨by rfl, ?_⟩) (by assumption) ?_
    · intro w' hSw; exact yields_load_blk 46 _ rfl LB rfl _ _ _ _ hSw Tryd.underlying46 rfl infoL
    simp only [Act.put, qA, qB, qC, qD, qE, qF]
    refine wpAnyH_take (i := 2) (v := ?_) rfl (by kernel_rfl) (by kernel_rfl) (by kernel_rfl) (fun _ _ _ h => h) (Or.inl ⟨by rfl, ?_⟩) (by assumption) ?_
    rotate_left
    · intro w' hSw; go_simp <;> with_reducible rfl
    simp only [Act.put, qA, qB, qC, qD, qE, qF]
    refine wpAnyH_take (i := 3) (v := ?_) rfl (by kernel_rfl) (by kernel_rfl) (by kernel_rfl) (fun _ _ _ h => h) (Or.inl ⟨by rfl, ?_⟩) (by assumption) ?_
    rotate_left
    · intro w' hSw; go_simp <;> with_reducible rfl
    simp only [Act.put, qA, qB, qC, qD, qE, qF]
    refine wpAnyH_take (i := 4) (v := ?_) rfl (by kernel_rfl) (by kernel_rfl) (by kernel_rfl) (fun _ _ _ h => h) (Or.inl ⟨by rfl, ?_⟩) (by assumption) ?_
    rotate_left
    · intro w' hSw; go_simp <;> with_reducible rfl
    simp only [Act.put, qA, qB, qC, qD, qE, qF]
    have GV := (Ext.refl V).drew
    replace HB := hide (GV.kept (unhide HB))
    replace HQ := hide (GV.kept (unhide HQ))
    replace HE := hide ((unhide HE).trans GV)
    clear GV
    generalize V.drew = Y0 at *
    refine wpAnyH_ready (rs := [5]) (by kernel_rfl) (by simp) ?_
    refine AllReadyH.cons rfl (fun K hK => ?_) AllReadyH.nil
    refine wp_store_blk 46 _ _ rfl rfl (w.heap.size) rfl _ _ #[.string a, .string b, .string c, .slice ua un.length uc] rfl (unhide HQ) infoL rfl (by simp [Value.oneCell']) ?_
    intro Z hyZ hfZ
    refine hK.out _ _ (hfZ.kept (unhide HB) (by omega)) (fun hHeld => ?_)
    clear hK K
    refine wpAnyH_take (i := 6) (v := ?_) rfl (by kernel_rfl) (by kernel_rfl) (by kernel_rfl) (fun _ _ _ h => h) (Or.inl ⟨by rfl, ?_⟩) (by assumption) ?_
    rotate_left
    · intro w' hSw; go_simp <;> with_reducible rfl
    simp only [Act.put, qA, qB, qC, qD, qE, qF]
    refine wpAnyH_take (i := 7) (v := ?_) rfl (by kernel_rfl) (by kernel_rfl) (by kernel_rfl) (fun _ _ _ h => h) (Or.inl ⟨by rfl, ?_⟩) (by assumption) ?_
    rotate_left
    · intro w' hSw; go_simp <;> with_reducible rfl
    simp only [Act.put, qA, qB, qC, qD, qE, qF]
    refine wpAnyH_done (by kernel_rfl) ?_ _
    go_wp2
    have y0 : Z.cell? ⟨w.heap.size, 0, none⟩ = some (.string a) := cells_of hyZ 0 _ rfl
    have y1 : Z.cell? ⟨w.heap.size, 1, none⟩ = some (.string b) := cells_of hyZ 1 _ rfl
    have y2 : Z.cell? ⟨w.heap.size, 2, none⟩ = some (.string c) := cells_of hyZ 2 _ rfl
    have y3 : Z.cell? ⟨w.heap.size, 3, none⟩ = some (.slice ua un.length uc) := cells_of hyZ 3 _ rfl
    exact bodyPost_ret (v := .tuple #[.string t0, .agg #[.string a, .string b, .string c, .slice ua un.length uc], .int .i64 cN, .int .i64 r0]) (by simp [results, Tryd.results24, go_sem, y0, y1, y2, y3]) rfl ⟨⟨t0, a, b, c, un, ua, uc, cN, r0, rfl, ht0, (unhide HS).1, (unhide HS).2.1, by omega, by omega, by omega, by omega⟩, hfZ.ext (unhide HE) (fun q hq => by omega)⟩
  · have q15 : ((x : Int) % 16 == 15) = false := by rw [beq_eq_false_iff_ne]; omega
    by_cases h14 : x % 16 = 14
    · have q14 : ((x : Int) % 16 == 14) = true := by rw [beq_iff_eq]; omega
      have q13 : ((x : Int) % 16 == 13) = false := by rw [beq_eq_false_iff_ne]; omega
      obtain ⟨V, hV⟩ : ∃ V, V = U.alloc (.cells (([0, 100, 101, -7] : List Int).map (Value.int .i64)).toArray 3) := ⟨_, rfl⟩
      have E0 : Ext U V := by rw [hV]; exact (Ext.refl U).alloc _
      obtain ⟨rN, ht, hc⟩ := nums_at (xs := [0, 100, 101, -7]) (p := U.heap.size) (w := V) (by rw [hV]; exact new_block U _) (x / 16 % 4) (Nat.mod_lt _ (by decide))
      have hbd : -7 ≤ rN ∧ rN ≤ 101 := by simp at ht; omega
      have HV := hide (show V = U.alloc (.cells #[.int .i64 0, .int .i64 100, .int .i64 101, .int .i64 (-7)] 3) from hV)
      have htm : (x : Int).tdiv 16 = ((x / 16 : Nat) : Int) := by rw [Int.tdiv_eq_ediv_of_nonneg (by omega)]; omega
      have htn : ((x / 16 : Nat) : Int).tmod 4 = ((x / 16 % 4 : Nat) : Int) := by rw [Int.tmod_eq_emod_of_nonneg (by omega)]; omega
      have hed : (x : Int) / 16 % 4 = ((x / 16 % 4 : Nat) : Int) := by omega
      obtain ⟨m, hm⟩ : ∃ m, m = x / 16 % 4 := ⟨_, rfl⟩
      rw [← hm] at hc htn hed
      have hm0 : m < 4 := by omega
      have hmI : (m : Int) < 4 := by omega
      have hc2 := hc
      rw [unhide HV] at hc2
      replace HB := hide (E0.kept (unhide HB))
      replace HQ := hide (E0.kept (unhide HQ))
      replace HE := hide ((unhide HE).trans E0)
      have zV := E0.size
      clear hm ht hV E0
      clear hc
      go_upto_region 12 with fail
      rw [← unhide HV]
      clear HV
      refine wp_region_held_drew (S := fun W => W.heap[LB]? = some (.cells #[.string a, .string b, .string c, .slice ua un.length uc] 46 (0, 0))) (by kernel_rfl) (unhide HB) (fun hHeld => ?_)
      refine wpAnyH_take (i := 0) (v := ?_) rfl (by kernel_rfl) (by kernel_rfl) (by kernel_rfl) (fun _ _ _ h => h) (Or.inl ⟨by rfl, ?_⟩) (by assumption) ?_
      rotate_left
      · intro w' hSw; go_simp <;> with_reducible rfl
      simp only [Act.put, qA, qB, qC, qD, qE, qF]
      refine wpAnyH_take (i := 1) (v := .agg #[.string a, .string b, .string c, .slice ua un.length uc]) rfl (by kernel_rfl) (by kernel_rfl) (by kernel_rfl) (fun _ _ _ h => h) (Or.inl ⟨by rfl, ?_⟩) (by assumption) ?_
      · intro w' hSw; exact yields_load_blk 46 _ rfl LB rfl _ _ _ _ hSw Tryd.underlying46 rfl infoL
      simp only [Act.put, qA, qB, qC, qD, qE, qF]
      refine wpAnyH_take (i := 2) (v := ?_) rfl (by kernel_rfl) (by kernel_rfl) (by kernel_rfl) (fun _ _ _ h => h) (Or.inl ⟨by rfl, ?_⟩) (by assumption) ?_
      rotate_left
      · intro w' hSw; go_simp <;> with_reducible rfl
      simp only [Act.put, qA, qB, qC, qD, qE, qF]
      refine wpAnyH_take (i := 3) (v := ?_) rfl (by kernel_rfl) (by kernel_rfl) (by kernel_rfl) (fun _ _ _ h => h) (Or.inl ⟨by rfl, ?_⟩) (by assumption) ?_
      rotate_left
      · intro w' hSw; go_simp <;> with_reducible rfl
      simp only [Act.put, qA, qB, qC, qD, qE, qF]
      refine wpAnyH_take (i := 4) (v := ?_) rfl (by kernel_rfl) (by kernel_rfl) (by kernel_rfl) (fun _ _ _ h => h) (Or.inl ⟨by rfl, ?_⟩) (by assumption) ?_
      rotate_left
      · intro w' hSw; go_simp <;> with_reducible rfl
      simp only [Act.put, qA, qB, qC, qD, qE, qF]
      have GV := (Ext.refl V).drew
      replace HB := hide (GV.kept (unhide HB))
      replace HQ := hide (GV.kept (unhide HQ))
      replace HE := hide ((unhide HE).trans GV)
      clear GV
      generalize V.drew = Y0 at *
      refine wpAnyH_ready (rs := [5]) (by kernel_rfl) (by simp) ?_
      refine AllReadyH.cons rfl (fun K hK => ?_) AllReadyH.nil
      refine wp_store_blk 46 _ _ rfl rfl (w.heap.size) rfl _ _ #[.string a, .string b, .string c, .slice ua un.length uc] rfl (unhide HQ) infoL rfl (by simp [Value.oneCell']) ?_
      intro Z hyZ hfZ
      refine hK.out _ _ (hfZ.kept (unhide HB) (by omega)) (fun hHeld => ?_)
      clear hK K
      refine wpAnyH_take (i := 6) (v := ?_) rfl (by kernel_rfl) (by kernel_rfl) (by kernel_rfl) (fun _ _ _ h => h) (Or.inl ⟨by rfl, ?_⟩) (by assumption) ?_
      rotate_left
      · intro w' hSw; go_simp <;> with_reducible rfl
      simp only [Act.put, qA, qB, qC, qD, qE, qF]
      refine wpAnyH_take (i := 7) (v := ?_) rfl (by kernel_rfl) (by kernel_rfl) (by kernel_rfl) (fun _ _ _ h => h) (Or.inl ⟨by rfl, ?_⟩) (by assumption) ?_
      rotate_left
      · intro w' hSw; go_simp <;> with_reducible rfl
      simp only [Act.put, qA, qB, qC, qD, qE, qF]
      refine wpAnyH_done (by kernel_rfl) ?_ _
      go_wp2
      have y0 : Z.cell? ⟨w.heap.size, 0, none⟩ = some (.string a) := cells_of hyZ 0 _ rfl
      have y1 : Z.cell? ⟨w.heap.size, 1, none⟩ = some (.string b) := cells_of hyZ 1 _ rfl
      have y2 : Z.cell? ⟨w.heap.size, 2, none⟩ = some (.string c) := cells_of hyZ 2 _ rfl
      have y3 : Z.cell? ⟨w.heap.size, 3, none⟩ = some (.slice ua un.length uc) := cells_of hyZ 3 _ rfl
      exact bodyPost_ret (v := .tuple #[.string t0, .agg #[.string a, .string b, .string c, .slice ua un.length uc], .int .i64 c0, .int .i64 rN]) (by simp [results, Tryd.results24, go_sem, y0, y1, y2, y3]) rfl ⟨⟨t0, a, b, c, un, ua, uc, c0, rN, rfl, ht0, (unhide HS).1, (unhide HS).2.1, by omega, by omega, by omega, by omega⟩, hfZ.ext (unhide HE) (fun q hq => by omega)⟩
    · have q14 : ((x : Int) % 16 == 14) = false := by rw [beq_eq_false_iff_ne]; omega
      by_cases h13 : x % 16 = 13
      · have q13 : ((x : Int) % 16 == 13) = true := by rw [beq_iff_eq]; omega
        obtain ⟨m, hm⟩ : ∃ m, m = x / 16 := ⟨_, rfl⟩
        have HLb := hide (l1Bytes_rd D u _ _ m U (unhide HR) hBt hlt (by omega))
        have hxd : (x : Int) / 16 = (m : Int) := by omega
        have htm : (x : Int).tdiv 16 = (m : Int) := by rw [Int.tdiv_eq_ediv_of_nonneg (by omega)]; omega
        have hm15 : m ≤ 15 := by omega
        clear hm
        go_wp2_with fail
        refine (unhide HLb).mono ?_
        rintro e w7 ⟨v7, zs, rfl, ⟨o7, hzb, hzl⟩, _, f7⟩
        have hcv := run_b2s (P := Tryd.prog) w7 _ _ _ Tryd.underlying22 Tryd.underlying5 Tryd.underlying9 _ _ (ints_of_owns o7)
        replace HB := hide (f7.kept (unhide HB) (by omega))
        replace HQ := hide (f7.kept (unhide HQ) (by omega))
        replace HE := hide (f7.ext (unhide HE) (fun q hq => by omega))
        have z7 := f7.size
        have hps : (toBA zs).size ≤ 1100 := by rw [toBA_size]; omega
        clear o7 f7 HLb hxd htm
        go_upto_region 12 with fail
        refine wp_region_held_drew (S := fun W => W.heap[LB]? = some (.cells #[.string a, .string b, .string c, .slice ua un.length uc] 46 (0, 0))) (by kernel_rfl) (unhide HB) (fun hHeld => ?_)
        refine wpAnyH_take (i := 0) (v := ?_) rfl (by kernel_rfl) (by kernel_rfl) (by kernel_rfl) (fun _ _ _ h => h) (Or.inl ⟨by rfl, ?_⟩) (by assumption) ?_
        rotate_left
        · intro w' hSw; go_simp <;> with_reducible rfl
        simp only [Act.put, qA, qB, qC, qD, qE, qF]
        refine wpAnyH_take (i := 1) (v := .agg #[.string a, .string b, .string c, .slice ua un.length uc]) rfl (by kernel_rfl) (by kernel_rfl) (by kernel_rfl) (fun _ _ _ h => h) (Or.inl ⟨by rfl, ?_⟩) (by assumption) ?_
        · intro w' hSw; exact yields_load_blk 46 _ rfl LB rfl _ _ _ _ hSw Tryd.underlying46 rfl infoL
        simp only [Act.put, qA, qB, qC, qD, qE, qF]
        refine wpAnyH_take (i := 2) (v := ?_) rfl (by kernel_rfl) (by kernel_rfl) (by kernel_rfl) (fun _ _ _ h => h) (Or.inl ⟨by rfl, ?_⟩) (by assumption) ?_
        rotate_left
        · intro w' hSw; go_simp <;> with_reducible rfl
        simp only [Act.put, qA, qB, qC, qD, qE, qF]
        refine wpAnyH_take (i := 3) (v := ?_) rfl (by kernel_rfl) (by kernel_rfl) (by kernel_rfl) (fun _ _ _ h => h) (Or.inl ⟨by rfl, ?_⟩) (by assumption) ?_
        rotate_left
        · intro w' hSw; go_simp <;> with_reducible rfl
        simp only [Act.put, qA, qB, qC, qD, qE, qF]
        refine wpAnyH_take (i := 4) (v := ?_) rfl (by kernel_rfl) (by kernel_rfl) (by kernel_rfl) (fun _ _ _ h => h) (Or.inl ⟨by rfl, ?_⟩) (by assumption) ?_
        rotate_left
        · intro w' hSw; go_simp <;> with_reducible rfl
        simp only [Act.put, qA, qB, qC, qD, qE, qF]
        have GV := (Ext.refl w7).drew
        replace HB := hide (GV.kept (unhide HB))
        replace HQ := hide (GV.kept (unhide HQ))
        replace HE := hide ((unhide HE).trans GV)
        clear GV
        generalize w7.drew = Y0 at *
        refine wpAnyH_ready (rs := [5]) (by kernel_rfl) (by simp) ?_
        refine AllReadyH.cons rfl (fun K hK => ?_) AllReadyH.nil
        refine wp_store_blk 46 _ _ rfl rfl (w.heap.size) rfl _ _ #[.string a, .string b, .string c, .slice ua un.length uc] rfl (unhide HQ) infoL rfl (by simp [Value.oneCell']) ?_
        intro Z hyZ hfZ
        refine hK.out _ _ (hfZ.kept (unhide HB) (by omega)) (fun hHeld => ?_)
        clear hK K
        refine wpAnyH_take (i := 6) (v := ?_) rfl (by kernel_rfl) (by kernel_rfl) (by kernel_rfl) (fun _ _ _ h => h) (Or.inl ⟨by rfl, ?_⟩) (by assumption) ?_
        rotate_left
        · intro w' hSw; go_simp <;> with_reducible rfl
        simp only [Act.put, qA, qB, qC, qD, qE, qF]
        refine wpAnyH_take (i := 7) (v := ?_) rfl (by kernel_rfl) (by kernel_rfl) (by kernel_rfl) (fun _ _ _ h => h) (Or.inl ⟨by rfl, ?_⟩) (by assumption) ?_
        rotate_left
        · intro w' hSw; go_simp <;> with_reducible rfl
        simp only [Act.put, qA, qB, qC, qD, qE, qF]
        refine wpAnyH_done (by kernel_rfl) ?_ _
        go_wp2
        have y0 : Z.cell? ⟨w.heap.size, 0, none⟩ = some (.string a) := cells_of hyZ 0 _ rfl
        have y1 : Z.cell? ⟨w.heap.size, 1, none⟩ = some (.string b) := cells_of hyZ 1 _ rfl
        have y2 : Z.cell? ⟨w.heap.size, 2, none⟩ = some (.string c) := cells_of hyZ 2 _ rfl
        have y3 : Z.cell? ⟨w.heap.size, 3, none⟩ = some (.slice ua un.length uc) := cells_of hyZ 3 _ rfl
        exact bodyPost_ret (v := .tuple #[.string (toBA zs), .agg #[.string a, .string b, .string c, .slice ua un.length uc], .int .i64 c0, .int .i64 r0]) (by simp [results, Tryd.results24, go_sem, y0, y1, y2, y3]) rfl ⟨⟨(toBA zs), a, b, c, un, ua, uc, c0, r0, rfl, hps, (unhide HS).1, (unhide HS).2.1, by omega, by omega, by omega, by omega⟩, hfZ.ext (unhide HE) (fun q hq => by omega)⟩
      · have q13 : ((x : Int) % 16 == 13) = false := by rw [beq_eq_false_iff_ne]; omega
        go_upto_region 12 with fail
        refine wp_region_held_drew (S := fun W => W.heap[LB]? = some (.cells #[.string a, .string b, .string c, .slice ua un.length uc] 46 (0, 0))) (by kernel_rfl) (unhide HB) (fun hHeld => ?_)
        refine wpAnyH_take (i := 0) (v := ?_) rfl (by kernel_rfl) (by kernel_rfl) (by kernel_rfl) (fun _ _ _ h => h) (Or.inl ⟨by rfl, ?_⟩) (by assumption) ?_
        rotate_left
        · intro w' hSw; go_simp <;> with_reducible rfl
        simp only [Act.put, qA, qB, qC, qD, qE, qF]
        refine wpAnyH_take (i := 1) (v := .agg #[.string a, .string b, .string c, .slice ua un.length uc]) rfl (by kernel_rfl) (by kernel_rfl) (by kernel_rfl) (fun _ _ _ h => h) (Or.inl ⟨by rfl, ?_⟩) (by assumption) ?_
        · intro w' hSw; exact yields_load_blk 46 _ rfl LB rfl _ _ _ _ hSw Tryd.underlying46 rfl infoL
        simp only [Act.put, qA, qB, qC, qD, qE, qF]
        refine wpAnyH_take (i := 2) (v := ?_) rfl (by kernel_rfl) (by kernel_rfl) (by kernel_rfl) (fun _ _ _ h => h) (Or.inl ⟨by rfl, ?_⟩) (by assumption) ?_
        rotate_left
        · intro w' hSw; go_simp <;> with_reducible rfl
        simp only [Act.put, qA, qB, qC, qD, qE, qF]
        refine wpAnyH_take (i := 3) (v := ?_) rfl (by kernel_rfl) (by kernel_rfl) (by kernel_rfl) (fun _ _ _ h => h) (Or.inl ⟨by rfl, ?_⟩) (by assumption) ?_
        rotate_left
        · intro w' hSw; go_simp <;> with_reducible rfl
        simp only [Act.put, qA, qB, qC, qD, qE, qF]
        refine wpAnyH_take (i := 4) (v := ?_) rfl (by kernel_rfl) (by kernel_rfl) (by kernel_rfl) (fun _ _ _ h => h) (Or.inl ⟨by rfl, ?_⟩) (by assumption) ?_
        rotate_left
        · intro w' hSw; go_simp <;> with_reducible rfl
        simp only [Act.put, qA, qB, qC, qD, qE, qF]
        have GV := (Ext.refl U).drew
        replace HB := hide (GV.kept (unhide HB))
        replace HQ := hide (GV.kept (unhide HQ))
        replace HE := hide ((unhide HE).trans GV)
        clear GV
        generalize U.drew = Y0 at *
        refine wpAnyH_ready (rs := [5]) (by kernel_rfl) (by simp) ?_
        refine AllReadyH.cons rfl (fun K hK => ?_) AllReadyH.nil
        refine wp_store_blk 46 _ _ rfl rfl (w.heap.size) rfl _ _ #[.string a, .string b, .string c, .slice ua un.length uc] rfl (unhide HQ) infoL rfl (by simp [Value.oneCell']) ?_
        intro Z hyZ hfZ
        refine hK.out _ _ (hfZ.kept (unhide HB) (by omega)) (fun hHeld => ?_)
        clear hK K
        refine wpAnyH_take (i := 6) (v := ?_) rfl (by kernel_rfl) (by kernel_rfl) (by kernel_rfl) (fun _ _ _ h => h) (Or.inl ⟨by rfl, ?_⟩) (by assumption) ?_
        rotate_left
        · intro w' hSw; go_simp <;> with_reducible rfl
        simp only [Act.put, qA, qB, qC, qD, qE, qF]
        refine wpAnyH_take (i := 7) (v := ?_) rfl (by kernel_rfl) (by kernel_rfl) (by kernel_rfl) (fun _ _ _ h => h) (Or.inl ⟨by rfl, ?_⟩) (by assumption) ?_
        rotate_left
        · intro w' hSw; go_simp <;> with_reducible rfl
        simp only [Act.put, qA, qB, qC, qD, qE, qF]
        refine wpAnyH_done (by kernel_rfl) ?_ _
        go_wp2
        have y0 : Z.cell? ⟨w.heap.size, 0, none⟩ = some (.string a) := cells_of hyZ 0 _ rfl
        have y1 : Z.cell? ⟨w.heap.size, 1, none⟩ = some (.string b) := cells_of hyZ 1 _ rfl
        have y2 : Z.cell? ⟨w.heap.size, 2, none⟩ = some (.string c) := cells_of hyZ 2 _ rfl
        have y3 : Z.cell? ⟨w.heap.size, 3, none⟩ = some (.slice ua un.length uc) := cells_of hyZ 3 _ rfl
        exact bodyPost_ret (v := .tuple #[.string t0, .agg #[.string a, .string b, .string c, .slice ua un.length uc], .int .i64 c0, .int .i64 r0]) (by simp [results, Tryd.results24, go_sem, y0, y1, y2, y3]) rfl ⟨⟨t0, a, b, c, un, ua, uc, c0, r0, rfl, ht0, (unhide HS).1, (unhide HS).2.1, by omega, by omega, by omega, by omega⟩, hfZ.ext (unhide HE) (fun q hq => by omega)⟩
end Go.Proofs.YtbieoijeilhadaaDoor
