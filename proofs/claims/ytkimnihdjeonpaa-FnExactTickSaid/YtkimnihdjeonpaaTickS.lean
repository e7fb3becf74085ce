import Derived.Test.YtkimnihdjeonpaaKR
import Derived.Test.YtkimnihdjeonpaaKysMark
import Derived.Deep.RegionLaw
import Derived.Deep.AppendLies
namespace Go.Proofs.Ytkimnihdjeonpaa
open Go.RowKit Go.Deep
def tickK (bs : List Int) (p : Bool) : List (List Int × Int) :=
  if p = true ∨ bs.length = 0 then [] else if at0 bs 0 = 27 then (if bs.length = 1 then [([], 22)] else [([], 23)]) else List.replicate bs.length ([65533], 1)
def tickH (bs : List Int) (p : Bool) : List Int := if p = true then bs else []
theorem infoU8t : (Try.prog.info? 5).map (fun i => (i.zero, i.size, i.bytes)) = some (some (.int .u8 0), 1, 1) := by kernel_rfl
theorem owns_emptyT (w : World) (base : Nat) (t : TypeId) (sz : Nat) (hb : base ≤ w.heap.size) : (w.alloc (.cells #[] t)).ownsRow base t sz (.slice (some ⟨w.heap.size, 0, none⟩) 0 0) 0 [] := by
  refine ⟨by simp, .inr ⟨w.heap.size, 0, #[], rfl, hb, heap_alloc_new w _, Nat.le_refl _, by unfold maxLen; omega, by simp, by simp⟩⟩
theorem ints_news {w : World} {b off cap : Nat} {bs : List Int} {k : IntKind} (h : IntsAt w k (.slice (some ⟨b, off, none⟩) bs.length cap) bs) (h0 : 0 < bs.length) : ∀ j u, (bs.map (Value.int k))[j]? = some u → w.cell? ((⟨b, off, none⟩ : Addr).add j) = some u := by
  intro j u hj
  obtain ⟨ao, c, e, _, hx⟩ := h
  obtain ⟨b', off', e2, hc⟩ := hx h0
  injection e with e3
  rw [e2] at e3
  injection e3 with e4
  injection e4 with e5 e6
  subst e5 e6
  have hjl : j < bs.length := by
    have := (List.getElem?_eq_some_iff.1 hj).1
    simpa using this
  rw [Addr.add_lit, hc j hjl]
  simp [at0_lt hjl] at hj
  rw [hj]
set_option maxHeartbeats 1000000 in
theorem specTick_paste (b off cap : Nat) (bs : List Int) (w : World) (hr : IntsAt w .u8 (.slice (some ⟨b, off, none⟩) bs.length cap) bs) (hl : bs.length ≤ 1048576) (h0 : 0 < bs.length) :
    Calls Try.prog 20 #[.agg #[.slice (some ⟨b, off, none⟩) bs.length cap, .bool true]] w fun e w' => ∃ hv kv, e = .returned (.tuple #[.agg #[hv, .bool true], kv]) ∧ w'.ownsRow w.heap.size 5 1 hv bs.length (bs.map (Value.int .u8)) ∧ OwnKys w' w.heap.size kv [] [] ∧ Ext w w' := by
  obtain ⟨i0, hi, hz0, hz1, hz2⟩ := info_parts infoU8t
  have HR := hide hr
  clear hr
  go_enter Try.func20, Try.ntmps20
  go_wp2
  obtain ⟨V, hV⟩ : ∃ V, V = ((w.alloc (Obj.cells #[Value.slice (some { block := b, off := off }) bs.length cap, Value.bool true] 41)).alloc (Obj.cells #[Value.slice none 0 0, Value.bool false] 41)).alloc (Obj.cells #[] 65) := ⟨_, rfl⟩
  rw [← hV]
  have hzV : V.heap.size = w.heap.size + 3 := by rw [hV]; simp
  have EV : Ext w V := by rw [hV]; exact (((Ext.refl _).alloc _).alloc _).alloc _
  have c0 : V.cell? ⟨w.heap.size, 0, none⟩ = some (.slice (some ⟨b, off, none⟩) bs.length cap) := by rw [hV]; simp [go_sem]
  have c1 : V.cell? ⟨w.heap.size, 1, none⟩ = some (.bool true) := by rw [hV]; simp [go_sem]
  have c2 : V.cell? ⟨w.heap.size + 1, 0, none⟩ = some (.slice none 0 0) := by rw [hV]; simp [go_sem]
  have c3 : V.cell? ⟨w.heap.size + 1, 1, none⟩ = some (.bool false) := by rw [hV]; simp [go_sem]
  have f2 : V.frozen? ⟨w.heap.size + 1, 0, none⟩ = false := by rw [hV]; simp [go_sem]
  have f3 : V.frozen? ⟨w.heap.size + 1, 1, none⟩ = false := by rw [hV]; simp [go_sem]
  have HK : Hid (V.ownsRow w.heap.size 65 2 (.slice (some ⟨w.heap.size + 1 + 1, 0, none⟩) 0 0) 0 []) := by
    have := owns_emptyT ((w.alloc (Obj.cells #[Value.slice (some { block := b, off := off }) bs.length cap, Value.bool true] 41)).alloc (Obj.cells #[Value.slice none 0 0, Value.bool false] 41)) w.heap.size 65 2 (by simp; omega)
    rw [hV]
    have h2 : ∀ o1 o2, ((w.alloc o1).alloc o2).heap.size = w.heap.size + 1 + 1 := fun o1 o2 => by simp
    rw [h2] at this
    exact hide this
  clear hV
  obtain ⟨W, hW⟩ : ∃ W, W = V.alloc (Obj.cells #[] 5) := ⟨_, rfl⟩
  have HO : Hid (W.drew.ownsRow (w.heap.size + 3) 5 1 (.slice (some ⟨w.heap.size + 1 + 1 + 1, 0, none⟩) 0 0) 0 []) := by
    have := owns_emptyT V (w.heap.size + 3) 5 1 (by omega)
    rw [hzV] at this
    rw [hW]
    exact hide this.drew
  have EW : Ext V W := by rw [hW]; exact (Ext.refl _).alloc _
  have hzW : W.heap.size = w.heap.size + 4 := by rw [hW]; simp; omega
  have HC := hide (ints_news ((unhide HR).ext (EV.trans EW.drew)) h0)
  rw [← hW]
  have d0 := EW.cell c0
  have d1 := EW.cell c1
  clear hW
  go_region_law (first
    | (refine step_append_lies _ (by rfl) _ _ _ (by rfl) (w.heap.size + 3) 5 i0 _ 1 1 Try.underlying29 hi hz0 hz1 hz2 rfl (by omega) _ 0 [] (by rfl) (unhide HO) ⟨b, off, none⟩ bs.length cap (bs.map (Value.int .u8)) (by rfl) (by simp) (unhide HC) (ints_oneCell _ _) (by omega) (by unfold maxLen; omega) (by omega) (by simp [hzW]) (w.heap.size + 4) (by simp [hzW]) ?_; intro g1 cap1 w1 o1 G1 at1 lt1; have E1 : Ext V w1 := EW.drew.grown G1 (fun k hk => by simp [Value.ownBlock] at hk; omega); have k0 := E1.cell c0; have k1 := E1.cell c1; have k2 := E1.cell c2; have k3 := E1.cell c3; have k4 := E1.rules.2 _ 0 (show w.heap.size + 1 < _ by omega); have k5 := E1.rules.2 _ 1 (show w.heap.size + 1 < _ by omega); rw [f2] at k4; rw [f3] at k5; have O1 := hide o1; clear o1 G1))
  all_goals
    go_wp2
    refine bodyPost_ret (v := .tuple #[.agg #[.slice (some ⟨g1, 0, none⟩) (0 + bs.length) cap1, .bool true], .slice (some ⟨w.heap.size + 1 + 1, 0, none⟩) 0 0]) (by simp [results, Try.results20, go_sem, k2, k3]) rfl ⟨_, _, rfl, ?_, ?_, ?_⟩
    · rw [Nat.zero_add]
      have := unhide O1
      rw [Nat.zero_add, List.nil_append] at this
      refine owns_setCell (owns_setCell (owns_mono this (by omega)) ?_ _) ?_ _
      · intro e; have := (this.lt _ e).1; dsimp only at this; omega
      · intro e; have := (this.lt _ e).1; dsimp only at this; omega
    · have hk := E1.owns (unhide HK)
      exact ⟨rfl, ⟨[], owns_setCell (owns_setCell hk (by simp [Value.ownBlock]) _) (by simp [Value.ownBlock]) _, fun j hj => by simp at hj⟩, fun j hj => by simp at hj, fun i j g _ hj => by simp at hj⟩
    · exact ((EV.trans E1).setCell (by dsimp only; omega) _).setCell (by dsimp only; omega) _
set_option maxHeartbeats 1000000 in
theorem specTick_empty (b off cap : Nat) (p : Bool) (w : World) :
    Calls Try.prog 20 #[.agg #[.slice (some ⟨b, off, none⟩) 0 cap, .bool p]] w fun e w' => ∃ hv kv, e = .returned (.tuple #[.agg #[hv, .bool p], kv]) ∧ w'.ownsRow w.heap.size 5 1 hv 0 [] ∧ OwnKys w' w.heap.size kv [] [] ∧ Ext w w' := by
  cases p
  · go_enter Try.func20, Try.ntmps20
    go_wp2
    obtain ⟨U, hU⟩ : ∃ U, U = (w.alloc (Obj.cells #[Value.slice (some { block := b, off := off }) 0 cap, Value.bool false] 41)).alloc (Obj.cells #[Value.slice none 0 0, Value.bool false] 41) := ⟨_, rfl⟩
    rw [← hU]
    have hzU : U.heap.size = w.heap.size + 1 + 1 := by rw [hU]; simp
    have EU : Ext w U := by rw [hU]; exact ((Ext.refl _).alloc _).alloc _
    have HK := hide (owns_emptyT U w.heap.size 65 2 (by omega))
    obtain ⟨V, hV⟩ : ∃ V, V = U.alloc (.cells #[] 65) := ⟨_, rfl⟩
    rw [← hV] at HK ⊢
    have hzV : V.heap.size = w.heap.size + 1 + 1 + 1 := by rw [hV]; simp [hzU]
    have EV : Ext U V := by rw [hV]; exact (Ext.refl _).alloc _
    have HO := hide (owns_emptyT V w.heap.size 5 1 (by omega))
    obtain ⟨X, hX⟩ : ∃ X, X = V.alloc (.cells #[] 5) := ⟨_, rfl⟩
    rw [← hX] at HO ⊢
    have EX : Ext V X := by rw [hX]; exact (Ext.refl _).alloc _
    rw [hzU] at HK
    rw [hzV] at HO
    have EUX := EV.trans EX
    have c0 : X.cell? ⟨w.heap.size, 0, none⟩ = some (.slice (some ⟨b, off, none⟩) 0 cap) := by refine EUX.cell ?_; rw [hU]; simp [go_sem]
    have c1 : X.cell? ⟨w.heap.size, 1, none⟩ = some (.bool false) := by refine EUX.cell ?_; rw [hU]; simp [go_sem]
    have c2 : X.cell? ⟨w.heap.size + 1, 0, none⟩ = some (.slice none 0 0) := by refine EUX.cell ?_; rw [hU]; simp [go_sem]
    have c3 : X.cell? ⟨w.heap.size + 1, 1, none⟩ = some (.bool false) := by refine EUX.cell ?_; rw [hU]; simp [go_sem]
    have f2 : X.frozen? ⟨w.heap.size + 1, 0, none⟩ = false := by rw [EUX.rules.2 _ _ (by omega), hU]; simp [go_sem]
    have f3 : X.frozen? ⟨w.heap.size + 1, 1, none⟩ = false := by rw [EUX.rules.2 _ _ (by omega), hU]; simp [go_sem]
    have EW := EU.trans EUX
    have HK2 := hide (EX.owns (unhide HK))
    clear hU hV hX
    go_region_law (first | fail)
    all_goals
      go_wp2
      refine bodyPost_ret (v := .tuple #[.agg #[.slice (some ⟨w.heap.size + 1 + 1 + 1, 0, none⟩) 0 0, .bool false], .slice (some ⟨w.heap.size + 1 + 1, 0, none⟩) 0 0]) (by simp [results, Try.results20, go_sem, c2, c3]) rfl ⟨_, _, rfl, ?_, ⟨rfl, ⟨[], ?_, fun j hj => by simp at hj⟩, fun j hj => by simp at hj, fun i j g _ hj => by simp at hj⟩, ?_⟩
      · exact owns_setCell (owns_setCell (unhide HO).drew (by simp [Value.ownBlock]; try omega) _) (by simp [Value.ownBlock]; try omega) _
      · exact owns_setCell (owns_setCell (unhide HK2).drew (by simp [Value.ownBlock]; try omega) _) (by simp [Value.ownBlock]; try omega) _
      · exact Ext.setCell (Ext.setCell EW.drew (by dsimp only; omega) _) (by dsimp only; omega) _
  · go_enter Try.func20, Try.ntmps20
    go_wp2
    obtain ⟨U, hU⟩ : ∃ U, U = (w.alloc (Obj.cells #[Value.slice (some { block := b, off := off }) 0 cap, Value.bool true] 41)).alloc (Obj.cells #[Value.slice none 0 0, Value.bool false] 41) := ⟨_, rfl⟩
    rw [← hU]
    have hzU : U.heap.size = w.heap.size + 1 + 1 := by rw [hU]; simp
    have EU : Ext w U := by rw [hU]; exact ((Ext.refl _).alloc _).alloc _
    have HK := hide (owns_emptyT U w.heap.size 65 2 (by omega))
    obtain ⟨V, hV⟩ : ∃ V, V = U.alloc (.cells #[] 65) := ⟨_, rfl⟩
    rw [← hV] at HK ⊢
    have hzV : V.heap.size = w.heap.size + 1 + 1 + 1 := by rw [hV]; simp [hzU]
    have EV : Ext U V := by rw [hV]; exact (Ext.refl _).alloc _
    have HO := hide (owns_emptyT V w.heap.size 5 1 (by omega))
    obtain ⟨X, hX⟩ : ∃ X, X = V.alloc (.cells #[] 5) := ⟨_, rfl⟩
    rw [← hX] at HO ⊢
    have EX : Ext V X := by rw [hX]; exact (Ext.refl _).alloc _
    rw [hzU] at HK
    rw [hzV] at HO
    have EUX := EV.trans EX
    have c0 : X.cell? ⟨w.heap.size, 0, none⟩ = some (.slice (some ⟨b, off, none⟩) 0 cap) := by refine EUX.cell ?_; rw [hU]; simp [go_sem]
    have c1 : X.cell? ⟨w.heap.size, 1, none⟩ = some (.bool true) := by refine EUX.cell ?_; rw [hU]; simp [go_sem]
    have c2 : X.cell? ⟨w.heap.size + 1, 0, none⟩ = some (.slice none 0 0) := by refine EUX.cell ?_; rw [hU]; simp [go_sem]
    have c3 : X.cell? ⟨w.heap.size + 1, 1, none⟩ = some (.bool false) := by refine EUX.cell ?_; rw [hU]; simp [go_sem]
    have f2 : X.frozen? ⟨w.heap.size + 1, 0, none⟩ = false := by rw [EUX.rules.2 _ _ (by omega), hU]; simp [go_sem]
    have f3 : X.frozen? ⟨w.heap.size + 1, 1, none⟩ = false := by rw [EUX.rules.2 _ _ (by omega), hU]; simp [go_sem]
    have EW := EU.trans EUX
    have HK2 := hide (EX.owns (unhide HK))
    clear hU hV hX
    go_region_law (first | fail)
    all_goals
      go_wp2
      refine bodyPost_ret (v := .tuple #[.agg #[.slice (some ⟨w.heap.size + 1 + 1 + 1, 0, none⟩) 0 0, .bool true], .slice (some ⟨w.heap.size + 1 + 1, 0, none⟩) 0 0]) (by simp [results, Try.results20, go_sem, c2, c3]) rfl ⟨_, _, rfl, ?_, ⟨rfl, ⟨[], ?_, fun j hj => by simp at hj⟩, fun j hj => by simp at hj, fun i j g _ hj => by simp at hj⟩, ?_⟩
      · exact owns_setCell (owns_setCell (unhide HO).drew (by simp [Value.ownBlock]; try omega) _) (by simp [Value.ownBlock]; try omega) _
      · exact owns_setCell (owns_setCell (unhide HK2).drew (by simp [Value.ownBlock]; try omega) _) (by simp [Value.ownBlock]; try omega) _
      · exact Ext.setCell (Ext.setCell EW.drew (by dsimp only; omega) _) (by dsimp only; omega) _
theorem infoKey : (Try.prog.info? 65).map (fun i => (i.zero, i.size, i.bytes)) = some (some (.agg #[.int .i64 0, .slice none 0 0]), 2, 32) := by kernel_rfl
theorem ints_first {w : World} {b off cap : Nat} {bs : List Int} {k : IntKind} (h : IntsAt w k (.slice (some ⟨b, off, none⟩) bs.length cap) bs) (h0 : 0 < bs.length) : w.cell? ⟨b, off, none⟩ = some (.int k (at0 bs 0)) := by
  have := ints_news h h0 0 (.int k (at0 bs 0)) (by simp [at0_lt h0])
  rw [Addr.add_lit] at this
  exact this
theorem OwnKys.mono {W : World} {base base' : Nat} {v : Value} {rs : List Value} {cs : List (List Int × Int)} (h : OwnKys W base v rs cs) (hb : base' ≤ base) : OwnKys W base' v rs cs := by
  obtain ⟨h0, ⟨ys, h1, h2⟩, h3, h4⟩ := h
  exact ⟨h0, ⟨ys, owns_mono h1 hb, h2⟩, fun j hj => owns_mono (h3 j hj) hb, h4⟩
theorem kys_nil {W : World} {base : Nat} {v : Value} (h : W.ownsRow base 65 2 v 0 []) : OwnKys W base v [] [] :=
  ⟨rfl, ⟨[], h, fun j hj => by simp at hj⟩, fun j hj => by simp at hj, fun i j g _ hj => by simp at hj⟩
theorem kys_one {W W' : World} {base : Nat} {v v' r : Value} {kd : Int} {xs : List Int} (hk : W.ownsRow base 65 2 v 0 []) (hr : W.ownsRow base 21 1 r xs.length (xs.map (Value.int .i32)))
    (ho : W'.ownsRow base 65 2 v' 1 [.int .i64 kd, r]) (hg : W.grownBy W' v.ownBlock) : OwnKys W' base v' [r] [(xs, kd)] := by
  have := OwnKys.push (cs := []) (rs := []) (ys := []) (r := r) (xs := xs) (d := kd) (v' := v') (kys_nil hk) hk (fun j hj => by simp at hj) hr (fun j g hj => by simp at hj) (by simpa using ho) hg
  simpa using this
set_option maxRecDepth 10000 in
set_option maxHeartbeats 1000000 in
theorem specTick_esc (b off cap : Nat) (bs : List Int) (kd : Int) (hkd : kd = if bs.length = 1 then 22 else 23) (w : World) (hr : IntsAt w .u8 (.slice (some ⟨b, off, none⟩) bs.length cap) bs) (hl : bs.length ≤ 1048576) (h0 : 0 < bs.length) (h27 : at0 bs 0 = 27) :
    Calls Try.prog 20 #[.agg #[.slice (some ⟨b, off, none⟩) bs.length cap, .bool false]] w fun e w' => ∃ hv kv rs, e = .returned (.tuple #[.agg #[hv, .bool false], kv]) ∧ w'.ownsRow w.heap.size 5 1 hv 0 [] ∧ OwnKys w' w.heap.size kv rs [([], kd)] ∧ Ext w w' := by
  obtain ⟨ic, hic, hc0, hc1, hc2⟩ := info_parts infoKey
  have c0 := ints_first hr h0
  rw [h27] at c0
  have c4 : ∀ o1 o2 o3 o4, ((((w.alloc o1).alloc o2).alloc o3).alloc o4).cell? ⟨b, off, none⟩ = some (.int .u8 27) := fun o1 o2 o3 o4 => (((((Ext.refl w).alloc o1).alloc o2).alloc o3).alloc o4).cell c0
  have hpos : (0 : Int) < (bs.length : Int) := by omega
  have hne : ((bs.length : Int) == 0) = false := by rw [beq_eq_false_iff_ne]; omega
  have hne2 : ¬ (bs = []) := by intro e; rw [e] at h0; simp at h0
  clear hr
  by_cases h1 : bs.length = 1
  · rw [if_pos h1] at hkd
    subst hkd
    rw [h1] at hl hpos hne ⊢
    clear hne2
    have HK0 : Hid ((((w.alloc (.cells #[.slice (some ⟨b, off, none⟩) 1 cap, .bool false] 41)).alloc (.cells #[.slice none 0 0, .bool false] 41)).alloc (.cells #[] 65)).ownsRow (w.heap.size + 2) 65 2 (.slice (some ⟨w.heap.size + 1 + 1, 0, none⟩) 0 0) 0 []) := by
      have := owns_emptyT ((w.alloc (.cells #[.slice (some ⟨b, off, none⟩) 1 cap, .bool false] 41)).alloc (.cells #[.slice none 0 0, .bool false] 41)) (w.heap.size + 2) 65 2 (by simp)
      have h2 : ∀ o1 o2, ((w.alloc o1).alloc o2).heap.size = w.heap.size + 1 + 1 := fun o1 o2 => by simp
      rw [h2] at this
      exact hide this
    have HU0 : Hid (((((w.alloc (.cells #[.slice (some ⟨b, off, none⟩) 1 cap, .bool false] 41)).alloc (.cells #[.slice none 0 0, .bool false] 41)).alloc (.cells #[] 65)).alloc (.cells #[] 5)).ownsRow (w.heap.size + 3) 5 1 (.slice (some ⟨w.heap.size + 1 + 1 + 1, 0, none⟩) 0 0) 0 []) := by
      have := owns_emptyT (((w.alloc (.cells #[.slice (some ⟨b, off, none⟩) 1 cap, .bool false] 41)).alloc (.cells #[.slice none 0 0, .bool false] 41)).alloc (.cells #[] 65)) (w.heap.size + 3) 5 1 (by simp)
      have h2 : ∀ o1 o2 o3, (((w.alloc o1).alloc o2).alloc o3).heap.size = w.heap.size + 1 + 1 + 1 := fun o1 o2 o3 => by simp
      rw [h2] at this
      exact hide this
    have HR0 : Hid ((((((w.alloc (.cells #[.slice (some ⟨b, off, none⟩) 1 cap, .bool false] 41)).alloc (.cells #[.slice none 0 0, .bool false] 41)).alloc (.cells #[] 65)).alloc (.cells #[] 5)).alloc (.cells #[] 21)).ownsRow (w.heap.size + 2) 21 1 (.slice (some ⟨w.heap.size + 1 + 1 + 1 + 1, 0, none⟩) 0 0) 0 []) := by
      have := owns_emptyT ((((w.alloc (.cells #[.slice (some ⟨b, off, none⟩) 1 cap, .bool false] 41)).alloc (.cells #[.slice none 0 0, .bool false] 41)).alloc (.cells #[] 65)).alloc (.cells #[] 5)) (w.heap.size + 2) 21 1 (by simp; try omega)
      have h2 : ∀ o1 o2 o3 o4, ((((w.alloc o1).alloc o2).alloc o3).alloc o4).heap.size = w.heap.size + 1 + 1 + 1 + 1 := fun o1 o2 o3 o4 => by simp
      rw [h2] at this
      exact hide this
    obtain ⟨V, hV⟩ : ∃ V, V = (w.alloc (.cells #[.slice (some ⟨b, off, none⟩) 1 cap, .bool false] 41)).alloc (.cells #[.slice none 0 0, .bool false] 41) := ⟨_, rfl⟩
    have hzV : V.heap.size = w.heap.size + 2 := by rw [hV]; simp
    have EV : Ext w V := by rw [hV]; exact ((Ext.refl _).alloc _).alloc _
    have d2 : V.cell? ⟨w.heap.size + 1, 0, none⟩ = some (.slice none 0 0) := by rw [hV]; simp [go_sem]
    have d3 : V.cell? ⟨w.heap.size + 1, 1, none⟩ = some (.bool false) := by rw [hV]; simp [go_sem]
    have f2 : V.frozen? ⟨w.heap.size + 1, 0, none⟩ = false := by rw [hV]; simp [go_sem]
    have f3 : V.frozen? ⟨w.heap.size + 1, 1, none⟩ = false := by rw [hV]; simp [go_sem]
    rw [← hV] at HK0 HU0 HR0
    have HVV := hide hV
    clear hV
    go_enter Try.func20, Try.ntmps20
    go_wp2_with (at_builtin; go_must (refine wpList_append_own _ rfl _ _ 42 rfl (w.heap.size + 2) 65 ic (.agg #[.int .i64 0, .slice none 0 0]) 2 32 Try.underlying42 hic hc0 hc1 hc2 rfl (by decide) _ 0 [] rfl ?_ ⟨w.heap.size + 1 + 1 + 1 + 1 + 1 + 1, 0, none⟩ 1 1 [.int .i64 22, .slice (some ⟨w.heap.size + 1 + 1 + 1 + 1, 0, none⟩) 0 0] rfl rfl ?_ (pair_one rfl rfl) ?_ ?_ ?_ ?_))
    · rw [← unhide HVV]
      exact Ext.owns (by repeat' first | exact Ext.refl _ | refine Ext.alloc ?_ _) (unhide HK0)
    · have h2 : ∀ o1 o2 o3 o4 o5 o6, ((((((w.alloc o1).alloc o2).alloc o3).alloc o4).alloc o5).alloc o6).heap.size = w.heap.size + 1 + 1 + 1 + 1 + 1 + 1 := fun o1 o2 o3 o4 o5 o6 => by simp
      have := fun o1 o2 o3 o4 o5 o6 => news_cells (w := (((((w.alloc o1).alloc o2).alloc o3).alloc o4).alloc o5).alloc o6) [.int .i64 22, .slice (some ⟨w.heap.size + 1 + 1 + 1 + 1, 0, none⟩) 0 0] 65
      intro j u hj
      have h3 := this (.cells #[.slice (some ⟨b, off, none⟩) 1 cap, .bool false] 41) (.cells #[.slice none 0 0, .bool false] 41) (.cells #[] 65) (.cells #[] 5) (.cells #[] 21) (.cells #[.int .i64 22, .slice (some ⟨w.heap.size + 1 + 1 + 1 + 1, 0, none⟩) 0 0] 65) j u hj
      rw [h2] at h3
      exact h3
    · unfold maxLen; omega
    · omega
    · simp; try omega
    · intro v' w3 hown' hgrow _
      rw [← unhide HVV] at hgrow
      have E3 : Ext V w3 := Ext.grown (by repeat' first | exact Ext.refl _ | refine Ext.alloc ?_ _) hgrow (fun k hk => by simp [Value.ownBlock] at hk; omega)
      have HKK := hide (kys_one (kd := 22) (xs := []) (Ext.owns (by repeat' first | exact Ext.refl _ | refine Ext.alloc ?_ _) (unhide HK0)) (Ext.owns (by repeat' first | exact Ext.refl _ | refine Ext.alloc ?_ _) (unhide HR0)) hown' hgrow)
      have HUU := hide (((Fr.refl (fun k => (Value.slice (some ⟨w.heap.size + 1 + 1, 0, none⟩) 0 0).ownBlock = some k) _).grown hgrow (fun k hk => hk)).owns (Ext.owns (w' := _) (by repeat' first | exact Ext.refl _ | refine Ext.alloc ?_ _) (unhide HU0)) (fun g hg e => by simp [Value.ownBlock] at hg e; omega))
      have k2 := E3.cell d2
      have k3 := E3.cell d3
      have k4 := E3.rules.2 _ 0 (show w.heap.size + 1 < _ by omega)
      have k5 := E3.rules.2 _ 1 (show w.heap.size + 1 < _ by omega)
      rw [f2] at k4
      rw [f3] at k5
      have hvb := ((unhide HKK).2.1.choose_spec.1)
      clear hown' hgrow
      obtain ⟨g', cap', rfl⟩ : ∃ g cap, v' = .slice (some ⟨g, 0, none⟩) 1 cap := by
        rcases hvb.2 with ⟨_, e0⟩ | ⟨g, cap, cur, e0, _⟩
        · simp at e0
        · exact ⟨g, cap, e0⟩
      clear hvb
      go_wp2
      refine bodyPost_ret (v := .tuple #[.agg #[.slice (some ⟨w.heap.size + 1 + 1 + 1, 0, none⟩) 0 0, .bool false], .slice (some ⟨g', 0, none⟩) 1 cap']) (by simp [results, Try.results20, go_sem, k2, k3]) rfl ⟨_, _, [.slice (some ⟨w.heap.size + 1 + 1 + 1 + 1, 0, none⟩) 0 0], rfl, ?_, ?_, ?_⟩
      · exact owns_setCell (owns_setCell (owns_mono (unhide HUU) (by omega)) (by simp [Value.ownBlock]; try omega) _) (by simp [Value.ownBlock]; try omega) _
      · exact (OwnKys.fr (S := fun k => k = w.heap.size + 1) (unhide HKK) (by repeat' first | refine Fr.setCell (S := fun q => q = w.heap.size + 1) ?_ (a := ⟨w.heap.size + 1, _, none⟩) rfl _ | exact Fr.refl _ _) (fun g hg e => by have := ((unhide HKK).foot hg).1; omega)).mono (by omega)
      · exact Ext.setCell (Ext.setCell (EV.trans E3) (by dsimp only; omega) _) (by dsimp only; omega) _
  · rw [if_neg h1] at hkd
    subst hkd
    have h11 : ¬ ((bs.length : Int) = 1) := by omega
    have HK0 : Hid ((((w.alloc (.cells #[.slice (some ⟨b, off, none⟩) bs.length cap, .bool false] 41)).alloc (.cells #[.slice none 0 0, .bool false] 41)).alloc (.cells #[] 65)).ownsRow (w.heap.size + 2) 65 2 (.slice (some ⟨w.heap.size + 1 + 1, 0, none⟩) 0 0) 0 []) := by
      have := owns_emptyT ((w.alloc (.cells #[.slice (some ⟨b, off, none⟩) bs.length cap, .bool false] 41)).alloc (.cells #[.slice none 0 0, .bool false] 41)) (w.heap.size + 2) 65 2 (by simp)
      have h2 : ∀ o1 o2, ((w.alloc o1).alloc o2).heap.size = w.heap.size + 1 + 1 := fun o1 o2 => by simp
      rw [h2] at this
      exact hide this
    have HU0 : Hid (((((w.alloc (.cells #[.slice (some ⟨b, off, none⟩) bs.length cap, .bool false] 41)).alloc (.cells #[.slice none 0 0, .bool false] 41)).alloc (.cells #[] 65)).alloc (.cells #[] 5)).ownsRow (w.heap.size + 3) 5 1 (.slice (some ⟨w.heap.size + 1 + 1 + 1, 0, none⟩) 0 0) 0 []) := by
      have := owns_emptyT (((w.alloc (.cells #[.slice (some ⟨b, off, none⟩) bs.length cap, .bool false] 41)).alloc (.cells #[.slice none 0 0, .bool false] 41)).alloc (.cells #[] 65)) (w.heap.size + 3) 5 1 (by simp)
      have h2 : ∀ o1 o2 o3, (((w.alloc o1).alloc o2).alloc o3).heap.size = w.heap.size + 1 + 1 + 1 := fun o1 o2 o3 => by simp
      rw [h2] at this
      exact hide this
    have HR0 : Hid ((((((w.alloc (.cells #[.slice (some ⟨b, off, none⟩) bs.length cap, .bool false] 41)).alloc (.cells #[.slice none 0 0, .bool false] 41)).alloc (.cells #[] 65)).alloc (.cells #[] 5)).alloc (.cells #[] 21)).ownsRow (w.heap.size + 2) 21 1 (.slice (some ⟨w.heap.size + 1 + 1 + 1 + 1, 0, none⟩) 0 0) 0 []) := by
      have := owns_emptyT ((((w.alloc (.cells #[.slice (some ⟨b, off, none⟩) bs.length cap, .bool false] 41)).alloc (.cells #[.slice none 0 0, .bool false] 41)).alloc (.cells #[] 65)).alloc (.cells #[] 5)) (w.heap.size + 2) 21 1 (by simp; try omega)
      have h2 : ∀ o1 o2 o3 o4, ((((w.alloc o1).alloc o2).alloc o3).alloc o4).heap.size = w.heap.size + 1 + 1 + 1 + 1 := fun o1 o2 o3 o4 => by simp
      rw [h2] at this
      exact hide this
    obtain ⟨V, hV⟩ : ∃ V, V = (w.alloc (.cells #[.slice (some ⟨b, off, none⟩) bs.length cap, .bool false] 41)).alloc (.cells #[.slice none 0 0, .bool false] 41) := ⟨_, rfl⟩
    have hzV : V.heap.size = w.heap.size + 2 := by rw [hV]; simp
    have EV : Ext w V := by rw [hV]; exact ((Ext.refl _).alloc _).alloc _
    have d2 : V.cell? ⟨w.heap.size + 1, 0, none⟩ = some (.slice none 0 0) := by rw [hV]; simp [go_sem]
    have d3 : V.cell? ⟨w.heap.size + 1, 1, none⟩ = some (.bool false) := by rw [hV]; simp [go_sem]
    have f2 : V.frozen? ⟨w.heap.size + 1, 0, none⟩ = false := by rw [hV]; simp [go_sem]
    have f3 : V.frozen? ⟨w.heap.size + 1, 1, none⟩ = false := by rw [hV]; simp [go_sem]
    rw [← hV] at HK0 HU0 HR0
    have HVV := hide hV
    clear hV
    go_enter Try.func20, Try.ntmps20
    go_wp2_with (at_builtin; go_must (refine wpList_append_own _ rfl _ _ 42 rfl (w.heap.size + 2) 65 ic (.agg #[.int .i64 0, .slice none 0 0]) 2 32 Try.underlying42 hic hc0 hc1 hc2 rfl (by decide) _ 0 [] rfl ?_ ⟨w.heap.size + 1 + 1 + 1 + 1 + 1 + 1, 0, none⟩ 1 1 [.int .i64 23, .slice (some ⟨w.heap.size + 1 + 1 + 1 + 1, 0, none⟩) 0 0] rfl rfl ?_ (pair_one rfl rfl) ?_ ?_ ?_ ?_))
    · rw [← unhide HVV]
      exact Ext.owns (by repeat' first | exact Ext.refl _ | refine Ext.alloc ?_ _) (unhide HK0)
    · have h2 : ∀ o1 o2 o3 o4 o5 o6, ((((((w.alloc o1).alloc o2).alloc o3).alloc o4).alloc o5).alloc o6).heap.size = w.heap.size + 1 + 1 + 1 + 1 + 1 + 1 := fun o1 o2 o3 o4 o5 o6 => by simp
      have := fun o1 o2 o3 o4 o5 o6 => news_cells (w := (((((w.alloc o1).alloc o2).alloc o3).alloc o4).alloc o5).alloc o6) [.int .i64 23, .slice (some ⟨w.heap.size + 1 + 1 + 1 + 1, 0, none⟩) 0 0] 65
      intro j u hj
      have h3 := this (.cells #[.slice (some ⟨b, off, none⟩) bs.length cap, .bool false] 41) (.cells #[.slice none 0 0, .bool false] 41) (.cells #[] 65) (.cells #[] 5) (.cells #[] 21) (.cells #[.int .i64 23, .slice (some ⟨w.heap.size + 1 + 1 + 1 + 1, 0, none⟩) 0 0] 65) j u hj
      rw [h2] at h3
      exact h3
    · unfold maxLen; omega
    · omega
    · simp; try omega
    · intro v' w3 hown' hgrow _
      rw [← unhide HVV] at hgrow
      have E3 : Ext V w3 := Ext.grown (by repeat' first | exact Ext.refl _ | refine Ext.alloc ?_ _) hgrow (fun k hk => by simp [Value.ownBlock] at hk; omega)
      have HKK := hide (kys_one (kd := 23) (xs := []) (Ext.owns (by repeat' first | exact Ext.refl _ | refine Ext.alloc ?_ _) (unhide HK0)) (Ext.owns (by repeat' first | exact Ext.refl _ | refine Ext.alloc ?_ _) (unhide HR0)) hown' hgrow)
      have HUU := hide (((Fr.refl (fun k => (Value.slice (some ⟨w.heap.size + 1 + 1, 0, none⟩) 0 0).ownBlock = some k) _).grown hgrow (fun k hk => hk)).owns (Ext.owns (w' := _) (by repeat' first | exact Ext.refl _ | refine Ext.alloc ?_ _) (unhide HU0)) (fun g hg e => by simp [Value.ownBlock] at hg e; omega))
      have k2 := E3.cell d2
      have k3 := E3.cell d3
      have k4 := E3.rules.2 _ 0 (show w.heap.size + 1 < _ by omega)
      have k5 := E3.rules.2 _ 1 (show w.heap.size + 1 < _ by omega)
      rw [f2] at k4
      rw [f3] at k5
      have hvb := ((unhide HKK).2.1.choose_spec.1)
      clear hown' hgrow
      obtain ⟨g', cap', rfl⟩ : ∃ g cap, v' = .slice (some ⟨g, 0, none⟩) 1 cap := by
        rcases hvb.2 with ⟨_, e0⟩ | ⟨g, cap, cur, e0, _⟩
        · simp at e0
        · exact ⟨g, cap, e0⟩
      clear hvb
      go_wp2
      refine bodyPost_ret (v := .tuple #[.agg #[.slice (some ⟨w.heap.size + 1 + 1 + 1, 0, none⟩) 0 0, .bool false], .slice (some ⟨g', 0, none⟩) 1 cap']) (by simp [results, Try.results20, go_sem, k2, k3]) rfl ⟨_, _, [.slice (some ⟨w.heap.size + 1 + 1 + 1 + 1, 0, none⟩) 0 0], rfl, ?_, ?_, ?_⟩
      · exact owns_setCell (owns_setCell (owns_mono (unhide HUU) (by omega)) (by simp [Value.ownBlock]; try omega) _) (by simp [Value.ownBlock]; try omega) _
      · exact (OwnKys.fr (S := fun k => k = w.heap.size + 1) (unhide HKK) (by repeat' first | refine Fr.setCell (S := fun q => q = w.heap.size + 1) ?_ (a := ⟨w.heap.size + 1, _, none⟩) rfl _ | exact Fr.refl _ _) (fun g hg e => by have := ((unhide HKK).foot hg).1; omega)).mono (by omega)
      · exact Ext.setCell (Ext.setCell (EV.trans E3) (by dsimp only; omega) _) (by dsimp only; omega) _
set_option maxRecDepth 10000 in
set_option maxHeartbeats 1000000 in
theorem specTick_runes (b off cap : Nat) (bs : List Int) (w : World) (hr : IntsAt w .u8 (.slice (some ⟨b, off, none⟩) bs.length cap) bs) (hB : Bytes bs) (hl : bs.length ≤ 1048576) (h0 : 0 < bs.length) (h27 : at0 bs 0 ≠ 27) :
    Calls Try.prog 20 #[.agg #[.slice (some ⟨b, off, none⟩) bs.length cap, .bool false]] w fun e w' => ∃ hv kv rs, e = .returned (.tuple #[.agg #[hv, .bool false], kv]) ∧ w'.ownsRow w.heap.size 5 1 hv 0 [] ∧ OwnKys w' w.heap.size kv rs (List.replicate bs.length ([65533], 1)) ∧ Ext w w' := by
  obtain ⟨ic, hic, hc0, hc1, hc2⟩ := info_parts infoKey
  have c0 := ints_first hr h0
  obtain ⟨x0, hx0⟩ : ∃ x, x = at0 bs 0 := ⟨_, rfl⟩
  have hxb := hB.at0 0
  rw [← hx0] at c0 h27 hxb
  have c4 : ∀ o1 o2 o3 o4, ((((w.alloc o1).alloc o2).alloc o3).alloc o4).cell? ⟨b, off, none⟩ = some (.int .u8 x0) := fun o1 o2 o3 o4 => (((((Ext.refl w).alloc o1).alloc o2).alloc o3).alloc o4).cell c0
  have hpos : (0 : Int) < (bs.length : Int) := by omega
  have hne : ((bs.length : Int) == 0) = false := by rw [beq_eq_false_iff_ne]; omega
  have hne2 : ¬ (bs = []) := by intro e; rw [e] at h0; simp at h0
  obtain ⟨n, hn⟩ : ∃ n, n = bs.length := ⟨_, rfl⟩
  rw [← hn] at hl h0 hpos hne ⊢
  have hn0 : ¬ n = 0 := by omega
  clear hr hB hx0 hn hne2
  have hb27 : (x0 == 27) = false := by rw [beq_eq_false_iff_ne]; exact h27
  obtain ⟨V, hV⟩ : ∃ V, V = (w.alloc (.cells #[.slice (some ⟨b, off, none⟩) n cap, .bool false] 41)).alloc (.cells #[.slice none 0 0, .bool false] 41) := ⟨_, rfl⟩
  have hzV : V.heap.size = w.heap.size + 2 := by rw [hV]; simp
  have EV : Ext w V := by rw [hV]; exact ((Ext.refl _).alloc _).alloc _
  have d0 : V.cell? ⟨w.heap.size, 0, none⟩ = some (.slice (some ⟨b, off, none⟩) n cap) := by rw [hV]; simp [go_sem]
  have d2 : V.cell? ⟨w.heap.size + 1, 0, none⟩ = some (.slice none 0 0) := by rw [hV]; simp [go_sem]
  have d3 : V.cell? ⟨w.heap.size + 1, 1, none⟩ = some (.bool false) := by rw [hV]; simp [go_sem]
  have f2 : V.frozen? ⟨w.heap.size + 1, 0, none⟩ = false := by rw [hV]; simp [go_sem]
  have f3 : V.frozen? ⟨w.heap.size + 1, 1, none⟩ = false := by rw [hV]; simp [go_sem]
  have HK0 := hide (owns_emptyT V (w.heap.size + 2) 65 2 (by omega))
  have HU0 := hide (owns_emptyT (V.alloc (.cells #[] 65)) (w.heap.size + 3) 5 1 (by simp; omega))
  have hz3 : (V.alloc (.cells #[] 65)).heap.size = w.heap.size + 1 + 1 + 1 := by simp; omega
  rw [hzV] at HK0
  rw [hz3] at HU0
  have D0 := hide d0
  have D2 := hide d2
  have D3 := hide d3
  have F2 := hide f2
  have F3 := hide f3
  have HVV := hide hV
  clear hV d0 d2 d3 f2 f3
  go_enter Try.func20, Try.ntmps20
  go_wp2
  rw [← unhide HVV]
  go_loopw [4, 7] (fun o i wr => ∃ (k : Nat) (rs : List Value), k ≤ n ∧ i = .int .i64 k ∧ Hid (OwnKys wr (w.heap.size + 2) o rs (List.replicate k ([65533], 1))) ∧ Hid (wr.ownsRow (w.heap.size + 3) 5 1 (.slice (some ⟨w.heap.size + 1 + 1 + 1, 0, none⟩) 0 0) 0 []) ∧ Hid (Ext V wr)) (fun _ i _ => n - (intOf i).toNat)
  case atStart => exact ⟨0, [], Nat.zero_le _, rfl, kys_nil (((Ext.refl _).alloc _).owns (unhide HK0)), unhide HU0, ((Ext.refl _).alloc _).alloc _⟩
  case round =>
    obtain ⟨k, rs, hk, rfl, HO, HU, HE⟩ := hrel
    have g0 := (unhide HE).cell (unhide D0)
    by_cases hlt : k < n
    · have bk : (k : Int) < (n : Int) := by omega
      have z2 := (unhide HE).size
      obtain ⟨h0', ⟨ys, hy, hyy⟩, h3, h4⟩ := (unhide HO)
      rw [List.length_replicate] at hy hyy h3
      have hyE := hide ((((Ext.refl wr).alloc (.cells #[.int .i32 65533] 21)).alloc (.cells #[.int .i64 1, .slice (some ⟨wr.heap.size, 0, none⟩) 1 1] 65)).owns hy)
      have HYY := hide hyy
      have H3 := hide h3
      clear hy hyy h3 h4
      go_wp2_with (at_builtin; go_must (refine wpList_append_own _ rfl _ _ 42 rfl (w.heap.size + 2) 65 ic (.agg #[.int .i64 0, .slice none 0 0]) 2 32 Try.underlying42 hic hc0 hc1 hc2 rfl (by decide) _ _ _ rfl (unhide hyE) ⟨wr.heap.size + 1, 0, none⟩ 1 1 [.int .i64 1, .slice (some ⟨wr.heap.size, 0, none⟩) 1 1] rfl rfl ?_ (pair_one rfl rfl) ?_ ?_ ?_ ?_))
      · have := news_cells (w := wr.alloc (.cells #[.int .i32 65533] 21)) [.int .i64 1, .slice (some ⟨wr.heap.size, 0, none⟩) 1 1] 65
        simpa using this
      · unfold maxLen; omega
      · omega
      · simp; omega
      · intro v' w3 hown' hgrow _
        have E3 : Ext V w3 := (((unhide HE).alloc _).alloc _).grown hgrow (fun q hq => by have := ((unhide hyE).lt q hq).1; omega)
        have hO3 : OwnKys w3 (w.heap.size + 2) v' (rs ++ [.slice (some ⟨wr.heap.size, 0, none⟩) 1 1]) (List.replicate k ([65533], 1) ++ [([65533], 1)]) := by
          refine OwnKys.push (((unhide HO).ext (((Ext.refl wr).alloc _).alloc _))) (by rw [List.length_replicate]; exact unhide hyE) (by rw [List.length_replicate]; exact unhide HYY) ?_ ?_ (by rw [List.length_replicate]; exact hown') hgrow
          · exact ((Ext.refl _).alloc _).owns (own_lit .i32 [65533] 21 (w.heap.size + 2) 1 rfl (by omega) (by unfold maxLen; simp))
          · intro j q hj hq
            rw [List.length_replicate] at hj
            have := ((unhide H3) j hj).lt q hq
            simp [Value.ownBlock]; omega
        rw [← List.replicate_succ'] at hO3
        have HO3 := hide hO3
        have HU3 := hide (owns_same ((((Ext.refl wr).alloc (.cells #[.int .i32 65533] 21)).alloc (.cells #[.int .i64 1, .slice (some ⟨wr.heap.size, 0, none⟩) 1 1] 65)).owns (unhide HU)) (fun g hg => hgrow.block g ((((((Ext.refl wr).alloc (.cells #[.int .i32 65533] 21)).alloc (.cells #[.int .i64 1, .slice (some ⟨wr.heap.size, 0, none⟩) 1 1] 65)).owns (unhide HU))).lt g hg).2 (fun e => owns_apart ((((Ext.refl wr).alloc (.cells #[.int .i32 65533] 21)).alloc (.cells #[.int .i64 1, .slice (some ⟨wr.heap.size, 0, none⟩) 1 1] 65)).owns (unhide HU)) (unhide hyE) (by decide) hg e.symm)))
        clear hown' hgrow hO3 hyE H3
        go_wp2
        go_roundw
        case rel => exact ⟨k + 1, _, by omega, by go_num, HO3, HU3, E3⟩
        case measure => simp [intOf]; omega
    · obtain rfl : k = n := by omega
      have k2 := (unhide HE).cell (unhide D2)
      have k3 := (unhide HE).cell (unhide D3)
      have k4 := (unhide HE).rules.2 _ 0 (show w.heap.size + 1 < _ by omega)
      have k5 := (unhide HE).rules.2 _ 1 (show w.heap.size + 1 < _ by omega)
      rw [unhide F2] at k4
      rw [unhide F3] at k5
      have hvb := ((unhide HO).2.1.choose_spec.1)
      obtain ⟨g', cap', rfl⟩ : ∃ g cap, u4 = .slice (some ⟨g, 0, none⟩) k cap := by
        rcases hvb.2 with ⟨_, e0⟩ | ⟨g, cap, cur, e0, _⟩
        · simp at e0; omega
        · exact ⟨g, cap, by simpa using e0⟩
      clear hvb
      go_wp2
      refine bodyPost_ret (v := .tuple #[.agg #[.slice (some ⟨w.heap.size + 1 + 1 + 1, 0, none⟩) 0 0, .bool false], .slice (some ⟨g', 0, none⟩) k cap']) (by simp [results, Try.results20, go_sem, k2, k3]) rfl ⟨_, _, rs, rfl, ?_, ?_, ?_⟩
      · exact owns_setCell (owns_setCell (owns_mono (unhide HU) (by omega)) (by simp [Value.ownBlock]; try omega) _) (by simp [Value.ownBlock]; try omega) _
      · exact (OwnKys.fr (S := fun k => k = w.heap.size + 1) (unhide HO) (by repeat' first | refine Fr.setCell (S := fun q => q = w.heap.size + 1) ?_ (a := ⟨w.heap.size + 1, _, none⟩) rfl _ | exact Fr.refl _ _) (fun g hg e => by have := ((unhide HO).foot hg).1; omega)).mono (by omega)
      · exact Ext.setCell (Ext.setCell (EV.trans (unhide HE)) (by dsimp only; omega) _) (by dsimp only; omega) _
end Go.Proofs.Ytkimnihdjeonpaa
