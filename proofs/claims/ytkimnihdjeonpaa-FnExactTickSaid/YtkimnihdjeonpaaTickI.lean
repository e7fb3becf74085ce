import Derived.Test.YtkimnihdjeonpaaPress
namespace Go.Proofs.Ytkimnihdjeonpaa
open Go.RowKit Go.Deep
set_option maxRecDepth 10000 in
set_option maxHeartbeats 1000000 in
theorem implTick_paste (b off cap : Nat) (bs : List Int) (w : World) (hr : IntsAt w .u8 (.slice (some ⟨b, off, none⟩) bs.length cap) bs) (hl : bs.length ≤ 1048576) (h0 : 0 < bs.length) :
    Calls Try.prog 22 #[.agg #[.slice (some ⟨b, off, none⟩) bs.length cap, .bool true]] w fun e w' => ∃ hv kv, e = .returned (.tuple #[.agg #[hv, .bool true], kv]) ∧ w'.ownsRow w.heap.size 5 1 hv bs.length (bs.map (Value.int .u8)) ∧ OwnKys w' w.heap.size kv [] [] ∧ Ext w w' := by
  obtain ⟨i0, hi, hz0, hz1, hz2⟩ := info_parts infoU8t
  have HR := hide hr
  clear hr
  go_enter Try.func22, Try.ntmps22
  go_wp2
  obtain ⟨V, hV⟩ : ∃ V, V = (w.alloc (Obj.cells #[Value.slice (some { block := b, off := off }) bs.length cap, Value.bool true] 41)).alloc (Obj.cells #[Value.slice none 0 0, Value.bool false] 41) := ⟨_, rfl⟩
  rw [← hV]
  have hzV : V.heap.size = w.heap.size + 2 := by rw [hV]; simp
  have EV : Ext w V := by rw [hV]; exact ((Ext.refl _).alloc _).alloc _
  have c0 : V.cell? ⟨w.heap.size, 0, none⟩ = some (.slice (some ⟨b, off, none⟩) bs.length cap) := by rw [hV]; simp [go_sem]
  have c1 : V.cell? ⟨w.heap.size, 1, none⟩ = some (.bool true) := by rw [hV]; simp [go_sem]
  have c2 : V.cell? ⟨w.heap.size + 1, 0, none⟩ = some (.slice none 0 0) := by rw [hV]; simp [go_sem]
  have c3 : V.cell? ⟨w.heap.size + 1, 1, none⟩ = some (.bool false) := by rw [hV]; simp [go_sem]
  have f2 : V.frozen? ⟨w.heap.size + 1, 0, none⟩ = false := by rw [hV]; simp [go_sem]
  have f3 : V.frozen? ⟨w.heap.size + 1, 1, none⟩ = false := by rw [hV]; simp [go_sem]
  clear hV
  have HO : Hid (V.drew.ownsRow (w.heap.size + 2) 5 1 (.slice none 0 0) 0 []) := ⟨by simp, .inl ⟨rfl, rfl⟩⟩
  have HC := hide (ints_news ((unhide HR).ext EV.drew) h0)
  go_region_law (first
    | (refine step_append_lies _ (by rfl) _ _ _ (by rfl) (w.heap.size + 2) 5 i0 _ 1 1 Try.underlying29 hi hz0 hz1 hz2 rfl (by omega) _ 0 [] (by rfl) (unhide HO) ⟨b, off, none⟩ bs.length cap (bs.map (Value.int .u8)) (by rfl) (by simp) (unhide HC) (ints_oneCell _ _) (by omega) (by unfold maxLen; omega) (by omega) (by simp [hzV]) (w.heap.size + 2) (by simp [hzV]) ?_; intro g1 cap1 w1 o1 G1 at1 lt1; have E1 : Ext V w1 := (Ext.refl V).drew.grown G1 (fun k hk => by simp [Value.ownBlock] at hk); have k0 := E1.cell c0; have k1 := E1.cell c1; have k2 := E1.cell c2; have k3 := E1.cell c3; have k4 := E1.rules.2 _ 0 (show w.heap.size + 1 < _ by omega); have k5 := E1.rules.2 _ 1 (show w.heap.size + 1 < _ by omega); rw [f2] at k4; rw [f3] at k5; have O1 := hide o1; clear o1 G1))
  all_goals
    go_wp2
    refine bodyPost_ret (v := .tuple #[.agg #[.slice (some ⟨g1, 0, none⟩) (0 + bs.length) cap1, .bool true], .slice none 0 0]) (by simp [results, Try.results22, go_sem, k2, k3]) rfl ⟨_, _, rfl, ?_, kys_nil ⟨by simp, .inl ⟨rfl, rfl⟩⟩, ?_⟩
    · rw [Nat.zero_add]
      have := unhide O1
      rw [Nat.zero_add, List.nil_append] at this
      refine owns_setCell (owns_setCell (owns_mono this (by omega)) ?_ _) ?_ _
      · intro e; have := (this.lt _ e).1; dsimp only at this; omega
      · intro e; have := (this.lt _ e).1; dsimp only at this; omega
    · exact ((EV.trans E1).setCell (by dsimp only; omega) _).setCell (by dsimp only; omega) _
set_option maxHeartbeats 1000000 in
theorem implTick_empty (b off cap : Nat) (p : Bool) (w : World) :
    Calls Try.prog 22 #[.agg #[.slice (some ⟨b, off, none⟩) 0 cap, .bool p]] w fun e w' => ∃ hv kv, e = .returned (.tuple #[.agg #[hv, .bool p], kv]) ∧ w'.ownsRow w.heap.size 5 1 hv 0 [] ∧ OwnKys w' w.heap.size kv [] [] ∧ Ext w w' := by
  cases p
  · go_enter Try.func22, Try.ntmps22
    go_wp2
    go_region_law (first | fail)
    all_goals
      go_wp2
      exact bodyPost_ret (v := .tuple #[.agg #[.slice none 0 0, .bool false], .slice none 0 0]) (by simp [results, Try.results22, go_sem]) rfl ⟨_, _, rfl, ⟨by simp, .inl ⟨rfl, rfl⟩⟩, kys_nil ⟨by simp, .inl ⟨rfl, rfl⟩⟩, by repeat' first | exact Ext.refl _ | refine Ext.alloc ?_ _ | refine Ext.drew ?_ | refine Ext.setCell ?_ (by dsimp only; omega) _⟩
  · go_enter Try.func22, Try.ntmps22
    go_wp2
    go_region_law (first | fail)
    all_goals
      go_wp2
      exact bodyPost_ret (v := .tuple #[.agg #[.slice none 0 0, .bool true], .slice none 0 0]) (by simp [results, Try.results22, go_sem]) rfl ⟨_, _, rfl, ⟨by simp, .inl ⟨rfl, rfl⟩⟩, kys_nil ⟨by simp, .inl ⟨rfl, rfl⟩⟩, by repeat' first | exact Ext.refl _ | refine Ext.alloc ?_ _ | refine Ext.drew ?_ | refine Ext.setCell ?_ (by dsimp only; omega) _⟩
theorem Fr.drew {S : Nat → Prop} {w w' : World} (h : Fr S w w') : Fr S w w'.drew := ⟨h.os, h.tape, h.output, h.size, h.block⟩
theorem DecK.zero (V : World) (o : Obj) (D : Nat) (h0 : (V.alloc o).cell? ⟨D, 2, none⟩ = some (.slice none 0 0)) (h1 : (V.alloc o).frozen? ⟨D, 2, none⟩ = false) : DecK (V.alloc o) D (D + 1) (.slice none 0 0) [] [] :=
  ⟨h0, h1, kys_nil ⟨by simp, .inl ⟨rfl, rfl⟩⟩, by omega⟩
set_option maxRecDepth 10000 in
set_option maxHeartbeats 1000000 in
theorem implTick_esc (b off cap : Nat) (bs : List Int) (kd : Int) (hkd : kd = if bs.length = 1 then 22 else 23) (w : World) (hr : IntsAt w .u8 (.slice (some ⟨b, off, none⟩) bs.length cap) bs) (hl : bs.length ≤ 1048576) (h0 : 0 < bs.length) (h27 : at0 bs 0 = 27) :
    Calls Try.prog 22 #[.agg #[.slice (some ⟨b, off, none⟩) bs.length cap, .bool false]] w fun e w' => ∃ hv kv rs, e = .returned (.tuple #[.agg #[hv, .bool false], kv]) ∧ hv = .slice none 0 0 ∧ OwnKys w' w.heap.size kv rs [([], kd)] ∧ Ext w w' := by
  have c0 := ints_first hr h0
  rw [h27] at c0
  have c4 : ∀ o1 o2 o3, (((w.alloc o1).alloc o2).alloc o3).cell? ⟨b, off, none⟩ = some (.int .u8 27) := fun o1 o2 o3 => ((((Ext.refl w).alloc o1).alloc o2).alloc o3).cell c0
  have hpos : (0 : Int) < (bs.length : Int) := by omega
  have hne : ((bs.length : Int) == 0) = false := by rw [beq_eq_false_iff_ne]; omega
  have hne2 : ¬ (bs = []) := by intro e; rw [e] at h0; simp at h0
  clear hr
  obtain ⟨n, hn⟩ : ∃ n, n = bs.length := ⟨_, rfl⟩
  rw [← hn] at hkd hl h0 hpos hne ⊢
  have hn0 : ¬ n = 0 := by omega
  clear hne2 h27 hn
  obtain ⟨V, hV⟩ : ∃ V, V = (w.alloc (.cells #[.slice (some ⟨b, off, none⟩) n cap, .bool false] 41)).alloc (.cells #[.slice none 0 0, .bool false] 41) := ⟨_, rfl⟩
  have hzV : V.heap.size = w.heap.size + 1 + 1 := by rw [hV]; simp
  have EV : Ext w V := by rw [hV]; exact ((Ext.refl _).alloc _).alloc _
  have d0 : V.cell? ⟨w.heap.size, 0, none⟩ = some (.slice (some ⟨b, off, none⟩) n cap) := by rw [hV]; simp [go_sem]
  have d2 : V.cell? ⟨w.heap.size + 1, 0, none⟩ = some (.slice none 0 0) := by rw [hV]; simp [go_sem]
  have d3 : V.cell? ⟨w.heap.size + 1, 1, none⟩ = some (.bool false) := by rw [hV]; simp [go_sem]
  have f2 : V.frozen? ⟨w.heap.size + 1, 0, none⟩ = false := by rw [hV]; simp [go_sem]
  have f3 : V.frozen? ⟨w.heap.size + 1, 1, none⟩ = false := by rw [hV]; simp [go_sem]
  have HD : Hid (DecK (V.alloc (.cells #[.slice none 0 0, .bool false, .slice none 0 0, .map none, .map none, .map none] 71)) (w.heap.size + 1 + 1) (w.heap.size + 1 + 1 + 1) (.slice none 0 0) [] []) :=
    hide (DecK.zero V _ _ (by rw [← hzV]; simp [go_sem]) (by rw [← hzV]; simp [go_sem]))
  have D2 := hide d2
  have D3 := hide d3
  have F2 := hide f2
  have F3 := hide f3
  have HVV := hide hV
  clear hV d0 d2 d3 f2 f3
  by_cases h1 : n = 1
  · rw [if_pos h1] at hkd
    subst h1 hkd
    go_enter Try.func22, Try.ntmps22
    go_wp2_with fail
    rw [← unhide HVV]
    refine (press_any _ _ _ _ _ 22 _ (unhide HD) (by simp [hzV]) (by simp)).mono ?_
    rintro e w1 ⟨rfl, kv', DK, fr⟩
    obtain ⟨dk0, dk1, dk2, dk3⟩ := DK
    have E1 : Ext V w1 := Fr.ext fr ((Ext.refl V).alloc _) (fun k hk => hk.elim (fun e => by omega) (fun e => by simp [Value.ownBlock] at e))
    have k2 := E1.cell (unhide D2)
    have k3 := E1.cell (unhide D3)
    have k4 := E1.rules.2 _ 0 (show w.heap.size + 1 < _ by omega)
    have k5 := E1.rules.2 _ 1 (show w.heap.size + 1 < _ by omega)
    rw [unhide F2] at k4
    rw [unhide F3] at k5
    have hvb := dk2.2.1.choose_spec.1
    obtain ⟨g', cap', rfl⟩ : ∃ g cap, kv' = .slice (some ⟨g, 0, none⟩) 1 cap := by
      rcases hvb.2 with ⟨_, e0⟩ | ⟨g, cap, cur, e0, _⟩
      · simp at e0
      · exact ⟨g, cap, e0⟩
    have HK := hide dk2
    clear hvb dk2 fr
    go_wp2
    go_region_law (first | fail)
    all_goals
      go_wp2
      refine bodyPost_ret (v := .tuple #[.agg #[.slice none 0 0, .bool false], .slice (some ⟨g', 0, none⟩) 1 cap']) (by simp [results, Try.results22, go_sem, k2, k3]) rfl ⟨_, _, [.slice none 0 0], rfl, rfl, ?_, ?_⟩
      · refine (OwnKys.fr (S := fun k => k = w.heap.size + 1) (unhide HK) ?_ (fun g hg e => by have := ((unhide HK).foot hg).1; omega)).mono (by omega)
        repeat' first | refine Fr.setCell (S := fun q => q = w.heap.size + 1) ?_ (a := ⟨w.heap.size + 1, _, none⟩) rfl _ | refine Fr.drew ?_ | exact Fr.refl _ _
      · have := EV.trans E1
        repeat' first | exact this | refine Ext.drew ?_ | refine Ext.setCell ?_ (by dsimp only; omega) _
  · rw [if_neg h1] at hkd
    subst hkd
    have h11 : ¬ ((n : Int) = 1) := by omega
    go_enter Try.func22, Try.ntmps22
    go_wp2_with fail
    rw [← unhide HVV]
    refine (press_any _ _ _ _ _ 23 _ (unhide HD) (by simp [hzV]) (by simp)).mono ?_
    rintro e w1 ⟨rfl, kv', DK, fr⟩
    obtain ⟨dk0, dk1, dk2, dk3⟩ := DK
    have E1 : Ext V w1 := Fr.ext fr ((Ext.refl V).alloc _) (fun k hk => hk.elim (fun e => by omega) (fun e => by simp [Value.ownBlock] at e))
    have k2 := E1.cell (unhide D2)
    have k3 := E1.cell (unhide D3)
    have k4 := E1.rules.2 _ 0 (show w.heap.size + 1 < _ by omega)
    have k5 := E1.rules.2 _ 1 (show w.heap.size + 1 < _ by omega)
    rw [unhide F2] at k4
    rw [unhide F3] at k5
    have hvb := dk2.2.1.choose_spec.1
    obtain ⟨g', cap', rfl⟩ : ∃ g cap, kv' = .slice (some ⟨g, 0, none⟩) 1 cap := by
      rcases hvb.2 with ⟨_, e0⟩ | ⟨g, cap, cur, e0, _⟩
      · simp at e0
      · exact ⟨g, cap, e0⟩
    have HK := hide dk2
    clear hvb dk2 fr
    go_wp2
    go_region_law (first | fail)
    all_goals
      go_wp2
      refine bodyPost_ret (v := .tuple #[.agg #[.slice none 0 0, .bool false], .slice (some ⟨g', 0, none⟩) 1 cap']) (by simp [results, Try.results22, go_sem, k2, k3]) rfl ⟨_, _, [.slice none 0 0], rfl, rfl, ?_, ?_⟩
      · refine (OwnKys.fr (S := fun k => k = w.heap.size + 1) (unhide HK) ?_ (fun g hg e => by have := ((unhide HK).foot hg).1; omega)).mono (by omega)
        repeat' first | refine Fr.setCell (S := fun q => q = w.heap.size + 1) ?_ (a := ⟨w.heap.size + 1, _, none⟩) rfl _ | refine Fr.drew ?_ | exact Fr.refl _ _
      · have := EV.trans E1
        repeat' first | exact this | refine Ext.drew ?_ | refine Ext.setCell ?_ (by dsimp only; omega) _
set_option maxRecDepth 10000 in
set_option maxHeartbeats 1000000 in
theorem implTick_runes (b off cap : Nat) (bs : List Int) (w : World) (hr : IntsAt w .u8 (.slice (some ⟨b, off, none⟩) bs.length cap) bs) (hB : Bytes bs) (hl : bs.length ≤ 1048576) (h0 : 0 < bs.length) (h27 : at0 bs 0 ≠ 27) :
    Calls Try.prog 22 #[.agg #[.slice (some ⟨b, off, none⟩) bs.length cap, .bool false]] w fun e w' => ∃ hv kv rs, e = .returned (.tuple #[.agg #[hv, .bool false], kv]) ∧ hv = .slice none 0 0 ∧ OwnKys w' w.heap.size kv rs (List.replicate bs.length ([65533], 1)) ∧ Ext w w' := by
  have c0 := ints_first hr h0
  obtain ⟨x0, hx0⟩ : ∃ x, x = at0 bs 0 := ⟨_, rfl⟩
  have hxb := hB.at0 0
  rw [← hx0] at c0 h27 hxb
  have c4 : ∀ o1 o2 o3, (((w.alloc o1).alloc o2).alloc o3).cell? ⟨b, off, none⟩ = some (.int .u8 x0) := fun o1 o2 o3 => ((((Ext.refl w).alloc o1).alloc o2).alloc o3).cell c0
  have hb27 : (x0 != 27) = true := by simp [h27]
  have hpos : (0 : Int) < (bs.length : Int) := by omega
  have hne : ((bs.length : Int) == 0) = false := by rw [beq_eq_false_iff_ne]; omega
  clear hr
  obtain ⟨n, hn⟩ : ∃ n, n = bs.length := ⟨_, rfl⟩
  rw [← hn] at hl h0 hpos hne ⊢
  have hn0 : ¬ n = 0 := by omega
  clear hn hB hx0
  obtain ⟨V, hV⟩ : ∃ V, V = (w.alloc (.cells #[.slice (some ⟨b, off, none⟩) n cap, .bool false] 41)).alloc (.cells #[.slice none 0 0, .bool false] 41) := ⟨_, rfl⟩
  have hzV : V.heap.size = w.heap.size + 1 + 1 := by rw [hV]; simp
  have EV : Ext w V := by rw [hV]; exact ((Ext.refl _).alloc _).alloc _
  have d2 : V.cell? ⟨w.heap.size + 1, 0, none⟩ = some (.slice none 0 0) := by rw [hV]; simp [go_sem]
  have d3 : V.cell? ⟨w.heap.size + 1, 1, none⟩ = some (.bool false) := by rw [hV]; simp [go_sem]
  have f2 : V.frozen? ⟨w.heap.size + 1, 0, none⟩ = false := by rw [hV]; simp [go_sem]
  have f3 : V.frozen? ⟨w.heap.size + 1, 1, none⟩ = false := by rw [hV]; simp [go_sem]
  have HD : Hid (DecK (V.alloc (.cells #[.slice none 0 0, .bool false, .slice none 0 0, .map none, .map none, .map none] 71)) (w.heap.size + 1 + 1) (w.heap.size + 1 + 1 + 1) (.slice none 0 0) [] []) :=
    hide (DecK.zero V _ _ (by rw [← hzV]; simp [go_sem]) (by rw [← hzV]; simp [go_sem]))
  have D2 := hide d2
  have D3 := hide d3
  have F2 := hide f2
  have F3 := hide f3
  have HVV := hide hV
  clear hV d2 d3 f2 f3
  go_enter Try.func22, Try.ntmps22
  go_wp2
  rw [← unhide HVV]
  go_loopw [30] (fun i wr => ∃ (k : Nat) (kv : Value) (rs : List Value), k ≤ n ∧ i = .int .i64 k ∧ Hid (DecK wr (w.heap.size + 1 + 1) (w.heap.size + 1 + 1 + 1) kv rs (List.replicate k ([65533], 1))) ∧ Hid (Ext V wr) ∧ w.heap.size + 1 + 1 + 1 ≤ wr.heap.size) (fun i _ => n - (intOf i).toNat)
  case atStart => exact ⟨0, .slice none 0 0, [], Nat.zero_le _, rfl, HD, (Ext.refl _).alloc _, by simp [hzV]⟩
  case round =>
    obtain ⟨k, kv, rs, hk, rfl, HK, HE, hsz⟩ := hrel
    by_cases hlt : k < n
    · have bk : (k : Int) < (n : Int) := by omega
      go_wp2_with fail
      refine (pressRune_any _ _ _ _ _ 65533 _ (unhide HK) hsz (by simp; omega)).mono ?_
      rintro e w1 ⟨rfl, kv', r, DK, fr⟩
      rw [show shownI 65533 = 65533 by decide, ← List.replicate_succ'] at DK
      have HK2 := hide DK
      have hfo := (unhide HK).2.2.1
      have HE2 := hide (fr.ext (unhide HE) (fun q hq => hq.elim (fun e => by omega) (fun e => by have := (hfo.foot (.inl e)).1; omega)))
      have hs2 := fr.size
      clear DK fr hfo
      go_wp2
      go_roundw
      case rel => exact ⟨k + 1, kv', _, by omega, by go_num, HK2, HE2, by omega⟩
      case measure => simp [intOf]; omega
    · obtain rfl : k = n := by omega
      obtain ⟨dk0, dk1, dk2, dk3⟩ := unhide HK
      have k2 := (unhide HE).cell (unhide D2)
      have k3 := (unhide HE).cell (unhide D3)
      have k4 := (unhide HE).rules.2 _ 0 (show w.heap.size + 1 < _ by omega)
      have k5 := (unhide HE).rules.2 _ 1 (show w.heap.size + 1 < _ by omega)
      rw [unhide F2] at k4
      rw [unhide F3] at k5
      have hvb := dk2.2.1.choose_spec.1
      obtain ⟨g', cap', rfl⟩ : ∃ g cap, kv = .slice (some ⟨g, 0, none⟩) k cap := by
        rcases hvb.2 with ⟨_, e0⟩ | ⟨g, cap, cur, e0, _⟩
        · simp at e0; omega
        · exact ⟨g, cap, by simpa using e0⟩
      have HKK := hide dk2
      clear hvb dk2
      go_wp2
      go_region_law (first | fail)
      all_goals
        go_wp2
        refine bodyPost_ret (v := .tuple #[.agg #[.slice none 0 0, .bool false], .slice (some ⟨g', 0, none⟩) k cap']) (by simp [results, Try.results22, go_sem, k2, k3]) rfl ⟨_, _, rs, rfl, rfl, ?_, ?_⟩
        · refine (OwnKys.fr (S := fun k => k = w.heap.size + 1) (unhide HKK) ?_ (fun g hg e => by have := ((unhide HKK).foot hg).1; omega)).mono (by omega)
          repeat' first | refine Fr.setCell (S := fun q => q = w.heap.size + 1) ?_ (a := ⟨w.heap.size + 1, _, none⟩) rfl _ | refine Fr.drew ?_ | exact Fr.refl _ _
        · have := EV.trans (unhide HE)
          repeat' first | exact this | refine Ext.drew ?_ | refine Ext.setCell ?_ (by dsimp only; omega) _
theorem specTick_any (b off cap : Nat) (bs : List Int) (p : Bool) (w : World) (hr : IntsAt w .u8 (.slice (some ⟨b, off, none⟩) bs.length cap) bs) (hB : Bytes bs) (hl : bs.length ≤ 1048576) :
    Calls Try.prog 20 #[.agg #[.slice (some ⟨b, off, none⟩) bs.length cap, .bool p]] w fun e w' => ∃ hv kv rs, e = .returned (.tuple #[.agg #[hv, .bool p], kv]) ∧ w'.ownsRow w.heap.size 5 1 hv (tickH bs p).length ((tickH bs p).map (Value.int .u8)) ∧ OwnKys w' w.heap.size kv rs (tickK bs p) ∧ Ext w w' := by
  by_cases h0 : 0 < bs.length
  · cases p
    · by_cases h27 : at0 bs 0 = 27
      · refine (specTick_esc b off cap bs _ rfl w hr hl h0 h27).mono ?_
        rintro e w' ⟨hv, kv, rs, h1, h2, h3, h4⟩
        refine ⟨hv, kv, rs, h1, by simpa [tickH] using h2, ?_, h4⟩
        rw [tickK, if_neg (fun h => h.elim (fun h => by simp at h) (fun h => by omega)), if_pos h27]
        split
        · rename_i h5; rw [if_pos h5] at h3; exact h3
        · rename_i h5; rw [if_neg h5] at h3; exact h3
      · refine (specTick_runes b off cap bs w hr hB hl h0 h27).mono ?_
        rintro e w' ⟨hv, kv, rs, h1, h2, h3, h4⟩
        refine ⟨hv, kv, rs, h1, by simpa [tickH] using h2, ?_, h4⟩
        rw [tickK, if_neg (fun h => h.elim (fun h => by simp at h) (fun h => by omega)), if_neg h27]
        exact h3
    · refine (specTick_paste b off cap bs w hr hl h0).mono ?_
      rintro e w' ⟨hv, kv, h1, h2, h3, h4⟩
      exact ⟨hv, kv, [], h1, by simpa [tickH] using h2, by simpa [tickK] using h3, h4⟩
  · have e0 : bs = [] := List.eq_nil_of_length_eq_zero (by omega)
    subst e0
    refine (specTick_empty b off cap p w).mono ?_
    rintro e w' ⟨hv, kv, h1, h2, h3, h4⟩
    exact ⟨hv, kv, [], h1, by cases p <;> simpa [tickH] using h2, by simpa [tickK] using h3, h4⟩
theorem implTick_any (b off cap : Nat) (bs : List Int) (p : Bool) (w : World) (hr : IntsAt w .u8 (.slice (some ⟨b, off, none⟩) bs.length cap) bs) (hB : Bytes bs) (hl : bs.length ≤ 1048576) :
    Calls Try.prog 22 #[.agg #[.slice (some ⟨b, off, none⟩) bs.length cap, .bool p]] w fun e w' => ∃ hv kv rs, e = .returned (.tuple #[.agg #[hv, .bool p], kv]) ∧ w'.ownsRow w.heap.size 5 1 hv (tickH bs p).length ((tickH bs p).map (Value.int .u8)) ∧ OwnKys w' w.heap.size kv rs (tickK bs p) ∧ Ext w w' := by
  by_cases h0 : 0 < bs.length
  · cases p
    · by_cases h27 : at0 bs 0 = 27
      · refine (implTick_esc b off cap bs _ rfl w hr hl h0 h27).mono ?_
        rintro e w' ⟨hv, kv, rs, h1, rfl, h3, h4⟩
        refine ⟨_, kv, rs, h1, ⟨by simp [tickH], .inl ⟨rfl, by simp [tickH]⟩⟩, ?_, h4⟩
        rw [tickK, if_neg (fun h => h.elim (fun h => by simp at h) (fun h => by omega)), if_pos h27]
        split
        · rename_i h5; rw [if_pos h5] at h3; exact h3
        · rename_i h5; rw [if_neg h5] at h3; exact h3
      · refine (implTick_runes b off cap bs w hr hB hl h0 h27).mono ?_
        rintro e w' ⟨hv, kv, rs, h1, rfl, h3, h4⟩
        refine ⟨_, kv, rs, h1, ⟨by simp [tickH], .inl ⟨rfl, by simp [tickH]⟩⟩, ?_, h4⟩
        rw [tickK, if_neg (fun h => h.elim (fun h => by simp at h) (fun h => by omega)), if_neg h27]
        exact h3
    · refine (implTick_paste b off cap bs w hr hl h0).mono ?_
      rintro e w' ⟨hv, kv, h1, h2, h3, h4⟩
      exact ⟨hv, kv, [], h1, by simpa [tickH] using h2, by simpa [tickK] using h3, h4⟩
  · have e0 : bs = [] := List.eq_nil_of_length_eq_zero (by omega)
    subst e0
    refine (implTick_empty b off cap p w).mono ?_
    rintro e w' ⟨hv, kv, h1, h2, h3, h4⟩
    exact ⟨hv, kv, [], h1, by cases p <;> simpa [tickH] using h2, by simpa [tickK] using h3, h4⟩
theorem tickK_fit (bs : List Int) (p : Bool) (hl : bs.length ≤ 1048576) : (tickK bs p).length ≤ 1048576 ∧ ∀ j, (cR (tickK bs p) j).length ≤ 1 := by
  unfold tickK
  split
  · exact ⟨by simp, fun j => by simp [cR]⟩
  · split
    · split
      · exact ⟨by simp, fun j => by cases j <;> simp [cR]⟩
      · exact ⟨by simp, fun j => by cases j <;> simp [cR]⟩
    · refine ⟨by simpa using hl, fun j => ?_⟩
      unfold cR
      by_cases h : j < bs.length
      · simp [h]
      · simp [h]
theorem tickH_fit (bs : List Int) (p : Bool) : (tickH bs p).length ≤ bs.length := by
  unfold tickH
  split <;> simp
end Go.Proofs.Ytkimnihdjeonpaa
