import Derived.Test.YtbieoijeilhadaaDoorTickI
namespace Go.Proofs.YtbieoijeilhadaaDoor
open Go.RowKit Go.Deep
set_option maxHeartbeats 1000000 in
theorem specTick_nil (p : Bool) (w : World) :
    Calls Tryd.prog 12 #[.agg #[.slice none 0 0, .bool p]] w fun e w' => ∃ hv kv, e = .returned (.tuple #[.agg #[hv, .bool p], kv]) ∧ w'.ownsRow w.heap.size 5 1 hv 0 [] ∧ OwnKys w' w.heap.size kv [] [] ∧ Ext w w' := by
  cases p
  · go_enter Tryd.func12, Tryd.ntmps12
    go_wp2
    obtain ⟨U, hU⟩ : ∃ U, U = (w.alloc (Obj.cells #[Value.slice none 0 0, Value.bool false] 24)).alloc (Obj.cells #[Value.slice none 0 0, Value.bool false] 24) := ⟨_, rfl⟩
    rw [← hU]
    have hzU : U.heap.size = w.heap.size + 1 + 1 := by rw [hU]; simp
    have EU : Ext w U := by rw [hU]; exact ((Ext.refl _).alloc _).alloc _
    have HK := hide (owns_emptyT U w.heap.size 67 2 (by omega))
    obtain ⟨V, hV⟩ : ∃ V, V = U.alloc (.cells #[] 67) := ⟨_, rfl⟩
    rw [← hV] at HK ⊢
    have hzV : V.heap.size = w.heap.size + 1 + 1 + 1 := by rw [hV]; simp [hzU]
    have EV : Ext U V := by rw [hV]; exact (Ext.refl _).alloc _
    have HO := hide (owns_emptyT V w.heap.size 5 1 (by omega))
    obtain ⟨X, hX⟩ : ∃ X, X = V.alloc (.cells #[] 5) := ⟨_, rfl⟩
    rw [← hX] at HO ⊢
    have EX : Ext V X := by rw [hX]; exact (Ext.refl _).alloc _
    rw [hzU] at HK
    rw [hzV] at HO
    have EUX := EV.trans EX
    have c0 : X.cell? ⟨w.heap.size, 0, none⟩ = some (.slice none 0 0) := by refine EUX.cell ?_; rw [hU]; simp [go_sem]
    have c1 : X.cell? ⟨w.heap.size, 1, none⟩ = some (.bool false) := by refine EUX.cell ?_; rw [hU]; simp [go_sem]
    have c2 : X.cell? ⟨w.heap.size + 1, 0, none⟩ = some (.slice none 0 0) := by refine EUX.cell ?_; rw [hU]; simp [go_sem]
    have c3 : X.cell? ⟨w.heap.size + 1, 1, none⟩ = some (.bool false) := by refine EUX.cell ?_; rw [hU]; simp [go_sem]
    have f2 : X.frozen? ⟨w.heap.size + 1, 0, none⟩ = false := by rw [EUX.rules.2 _ _ (by omega), hU]; simp [go_sem]
    have f3 : X.frozen? ⟨w.heap.size + 1, 1, none⟩ = false := by rw [EUX.rules.2 _ _ (by omega), hU]; simp [go_sem]
    have EW := EU.trans EUX
    have HK2 := hide (EX.owns (unhide HK))
    clear hU hV hX
    go_region_law (first | fail)
    all_goals
      go_wp2
      refine bodyPost_ret (v := .tuple #[.agg #[.slice (some ⟨w.heap.size + 1 + 1 + 1, 0, none⟩) 0 0, .bool false], .slice (some ⟨w.heap.size + 1 + 1, 0, none⟩) 0 0]) (by simp [results, Tryd.results12, go_sem, c2, c3]) rfl ⟨_, _, rfl, ?_, ⟨rfl, ⟨[], ?_, fun j hj => by simp at hj⟩, fun j hj => by simp at hj, fun i j g _ hj => by simp at hj⟩, ?_⟩
      · exact owns_setCell (owns_setCell (unhide HO).drew (by simp [Value.ownBlock]; try omega) _) (by simp [Value.ownBlock]; try omega) _
      · exact owns_setCell (owns_setCell (unhide HK2).drew (by simp [Value.ownBlock]; try omega) _) (by simp [Value.ownBlock]; try omega) _
      · exact Ext.setCell (Ext.setCell EW.drew (by dsimp only; omega) _) (by dsimp only; omega) _
  · go_enter Tryd.func12, Tryd.ntmps12
    go_wp2
    obtain ⟨U, hU⟩ : ∃ U, U = (w.alloc (Obj.cells #[Value.slice none 0 0, Value.bool true] 24)).alloc (Obj.cells #[Value.slice none 0 0, Value.bool false] 24) := ⟨_, rfl⟩
    rw [← hU]
    have hzU : U.heap.size = w.heap.size + 1 + 1 := by rw [hU]; simp
    have EU : Ext w U := by rw [hU]; exact ((Ext.refl _).alloc _).alloc _
    have HK := hide (owns_emptyT U w.heap.size 67 2 (by omega))
    obtain ⟨V, hV⟩ : ∃ V, V = U.alloc (.cells #[] 67) := ⟨_, rfl⟩
    rw [← hV] at HK ⊢
    have hzV : V.heap.size = w.heap.size + 1 + 1 + 1 := by rw [hV]; simp [hzU]
    have EV : Ext U V := by rw [hV]; exact (Ext.refl _).alloc _
    have HO := hide (owns_emptyT V w.heap.size 5 1 (by omega))
    obtain ⟨X, hX⟩ : ∃ X, X = V.alloc (.cells #[] 5) := ⟨_, rfl⟩
    rw [← hX] at HO ⊢
    have EX : Ext V X := by rw [hX]; exact (Ext.refl _).alloc _
    rw [hzU] at HK
    rw [hzV] at HO
    have EUX := EV.trans EX
    have c0 : X.cell? ⟨w.heap.size, 0, none⟩ = some (.slice none 0 0) := by refine EUX.cell ?_; rw [hU]; simp [go_sem]
    have c1 : X.cell? ⟨w.heap.size, 1, none⟩ = some (.bool true) := by refine EUX.cell ?_; rw [hU]; simp [go_sem]
    have c2 : X.cell? ⟨w.heap.size + 1, 0, none⟩ = some (.slice none 0 0) := by refine EUX.cell ?_; rw [hU]; simp [go_sem]
    have c3 : X.cell? ⟨w.heap.size + 1, 1, none⟩ = some (.bool false) := by refine EUX.cell ?_; rw [hU]; simp [go_sem]
    have f2 : X.frozen? ⟨w.heap.size + 1, 0, none⟩ = false := by rw [EUX.rules.2 _ _ (by omega), hU]; simp [go_sem]
    have f3 : X.frozen? ⟨w.heap.size + 1, 1, none⟩ = false := by rw [EUX.rules.2 _ _ (by omega), hU]; simp [go_sem]
    have EW := EU.trans EUX
    have HK2 := hide (EX.owns (unhide HK))
    clear hU hV hX
    go_region_law (first | fail)
    all_goals
      go_wp2
      refine bodyPost_ret (v := .tuple #[.agg #[.slice (some ⟨w.heap.size + 1 + 1 + 1, 0, none⟩) 0 0, .bool true], .slice (some ⟨w.heap.size + 1 + 1, 0, none⟩) 0 0]) (by simp [results, Tryd.results12, go_sem, c2, c3]) rfl ⟨_, _, rfl, ?_, ⟨rfl, ⟨[], ?_, fun j hj => by simp at hj⟩, fun j hj => by simp at hj, fun i j g _ hj => by simp at hj⟩, ?_⟩
      · exact owns_setCell (owns_setCell (unhide HO).drew (by simp [Value.ownBlock]; try omega) _) (by simp [Value.ownBlock]; try omega) _
      · exact owns_setCell (owns_setCell (unhide HK2).drew (by simp [Value.ownBlock]; try omega) _) (by simp [Value.ownBlock]; try omega) _
      · exact Ext.setCell (Ext.setCell EW.drew (by dsimp only; omega) _) (by dsimp only; omega) _
set_option maxHeartbeats 1000000 in
theorem implTick_nil (p : Bool) (w : World) :
    Calls Tryd.prog 11 #[.agg #[.slice none 0 0, .bool p]] w fun e w' => ∃ hv kv, e = .returned (.tuple #[.agg #[hv, .bool p], kv]) ∧ w'.ownsRow w.heap.size 5 1 hv 0 [] ∧ OwnKys w' w.heap.size kv [] [] ∧ Ext w w' := by
  cases p
  · go_enter Tryd.func11, Tryd.ntmps11
    go_wp2
    go_region_law (first | fail)
    all_goals
      go_wp2
      exact bodyPost_ret (v := .tuple #[.agg #[.slice none 0 0, .bool false], .slice none 0 0]) (by simp [results, Tryd.results11, go_sem]) rfl ⟨_, _, rfl, ⟨by simp, .inl ⟨rfl, rfl⟩⟩, kys_nil ⟨by simp, .inl ⟨rfl, rfl⟩⟩, by repeat' first | exact Ext.refl _ | refine Ext.alloc ?_ _ | refine Ext.drew ?_ | refine Ext.setCell ?_ (by dsimp only; omega) _⟩
  · go_enter Tryd.func11, Tryd.ntmps11
    go_wp2
    go_region_law (first | fail)
    all_goals
      go_wp2
      exact bodyPost_ret (v := .tuple #[.agg #[.slice none 0 0, .bool true], .slice none 0 0]) (by simp [results, Tryd.results11, go_sem]) rfl ⟨_, _, rfl, ⟨by simp, .inl ⟨rfl, rfl⟩⟩, kys_nil ⟨by simp, .inl ⟨rfl, rfl⟩⟩, by repeat' first | exact Ext.refl _ | refine Ext.alloc ?_ _ | refine Ext.drew ?_ | refine Ext.setCell ?_ (by dsimp only; omega) _⟩
theorem tick_form {w : World} {base : Nat} {v : Value} {bs : List Int} (h : w.ownsRow base 5 1 v bs.length (bs.map (Value.int .u8))) : (v = .slice none 0 0 ∧ bs = []) ∨ ∃ b cap, v = .slice (some ⟨b, 0, none⟩) bs.length cap := by
  rcases h.2 with ⟨rfl, e0⟩ | ⟨g, cap, cur, rfl, _⟩
  · exact .inl ⟨rfl, List.eq_nil_of_length_eq_zero e0⟩
  · exact .inr ⟨g, cap, rfl⟩
theorem implTick_all (v : Value) (base : Nat) (bs : List Int) (p : Bool) (w : World) (h : w.ownsRow base 5 1 v bs.length (bs.map (Value.int .u8))) (hB : Bytes bs) (hl : bs.length ≤ 1048576) :
    Calls Tryd.prog 11 #[.agg #[v, .bool p]] w fun e w' => ∃ hv kv rs, e = .returned (.tuple #[.agg #[hv, .bool p], kv]) ∧ w'.ownsRow w.heap.size 5 1 hv (tickH bs p).length ((tickH bs p).map (Value.int .u8)) ∧ OwnKys w' w.heap.size kv rs (tickK bs p) ∧ Ext w w' := by
  have hi := ints_of_owns h
  rcases tick_form h with ⟨rfl, rfl⟩ | ⟨b, cap, rfl⟩
  · refine (implTick_nil p w).mono ?_
    rintro e w' ⟨hv, kv, h1, h2, h3, h4⟩
    exact ⟨hv, kv, [], h1, by cases p <;> simpa [tickH] using h2, by simpa [tickK] using h3, h4⟩
  · exact implTick_any b 0 cap bs p w hi hB hl
theorem specTick_all (v : Value) (base : Nat) (bs : List Int) (p : Bool) (w : World) (h : w.ownsRow base 5 1 v bs.length (bs.map (Value.int .u8))) (hB : Bytes bs) (hl : bs.length ≤ 1048576) :
    Calls Tryd.prog 12 #[.agg #[v, .bool p]] w fun e w' => ∃ hv kv rs, e = .returned (.tuple #[.agg #[hv, .bool p], kv]) ∧ w'.ownsRow w.heap.size 5 1 hv (tickH bs p).length ((tickH bs p).map (Value.int .u8)) ∧ OwnKys w' w.heap.size kv rs (tickK bs p) ∧ Ext w w' := by
  have hi := ints_of_owns h
  rcases tick_form h with ⟨rfl, rfl⟩ | ⟨b, cap, rfl⟩
  · refine (specTick_nil p w).mono ?_
    rintro e w' ⟨hv, kv, h1, h2, h3, h4⟩
    exact ⟨hv, kv, [], h1, by cases p <;> simpa [tickH] using h2, by simpa [tickK] using h3, h4⟩
  · exact specTick_any b 0 cap bs p w hi hB hl
end Go.Proofs.YtbieoijeilhadaaDoor
