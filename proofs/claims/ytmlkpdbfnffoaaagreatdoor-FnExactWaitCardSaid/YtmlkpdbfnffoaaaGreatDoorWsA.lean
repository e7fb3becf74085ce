import Derived.Test.YtmlkpdbfnffoaaaGreatDoorWtT
namespace Go.Proofs.YtmlkpdbfnffoaaaGreatDoor
open Go.RowKit Go.Deep
set_option maxHeartbeats 1000000
theorem zhw (cap : Nat) (p : Bool) (w : World) :
  Calls Tryz.prog 29 #[.agg #[.slice none 0 cap, .bool p]] w fun e w' => ∃ hv kv, e = .returned (.tuple #[.agg #[hv, .bool p], kv]) ∧ w'.ownsRow w.heap.size 5 1 hv 0 [] ∧ zan w' w.heap.size kv [] [] ∧ Ext w w' := by
 cases p
 ·go_enter Tryz.func29, Tryz.ntmps29
  go_wp2
  obtain ⟨U, hU⟩ : ∃ U, U = (w.alloc (Obj.cells #[Value.slice none 0 cap, Value.bool false] 38)).alloc (Obj.cells #[Value.slice none 0 0, Value.bool false] 38) := ⟨_, rfl⟩
  rw [← hU]
  have hzU : U.heap.size = w.heap.size + 1 + 1 := by rw [hU]; simp
  have EU : Ext w U := by rw [hU]; exact ((Ext.refl _).alloc _).alloc _
  have HK := zi (zaA U w.heap.size 102 2 (by omega))
  obtain ⟨V, hV⟩ : ∃ V, V = U.alloc (.cells #[] 102) := ⟨_, rfl⟩
  rw [← hV] at HK ⊢
  have hzV : V.heap.size = w.heap.size + 1 + 1 + 1 := by rw [hV]; simp [hzU]
  have EV : Ext U V := by rw [hV]; exact (Ext.refl _).alloc _
  have HO := zi (zaA V w.heap.size 5 1 (by omega))
  obtain ⟨X, hX⟩ : ∃ X, X = V.alloc (.cells #[] 5) := ⟨_, rfl⟩
  rw [← hX] at HO ⊢
  have EX : Ext V X := by rw [hX]; exact (Ext.refl _).alloc _
  rw [hzU] at HK
  rw [hzV] at HO
  have EUX := EV.trans EX
  have c0 : X.cell? ⟨w.heap.size, 0, none⟩ = some (.slice none 0 cap) := by refine EUX.cell ?_; rw [hU]; simp [go_sem]
  have c1 : X.cell? ⟨w.heap.size, 1, none⟩ = some (.bool false) := by refine EUX.cell ?_; rw [hU]; simp [go_sem]
  have c2 : X.cell? ⟨w.heap.size + 1, 0, none⟩ = some (.slice none 0 0) := by refine EUX.cell ?_; rw [hU]; simp [go_sem]
  have c3 : X.cell? ⟨w.heap.size + 1, 1, none⟩ = some (.bool false) := by refine EUX.cell ?_; rw [hU]; simp [go_sem]
  have f2 : X.frozen? ⟨w.heap.size + 1, 0, none⟩ = false := by rw [EUX.rules.2 _ _ (by omega), hU]; simp [go_sem]
  have f3 : X.frozen? ⟨w.heap.size + 1, 1, none⟩ = false := by rw [EUX.rules.2 _ _ (by omega), hU]; simp [go_sem]
  have EW := EU.trans EUX
  have HK2 := zi (EX.owns (zg HK))
  clear hU hV hX
  go_region_law (first | fail)
  all_goals
   go_wp2
   refine bodyPost_ret (v := .tuple #[.agg #[.slice (some ⟨w.heap.size + 1 + 1 + 1, 0, none⟩) 0 0, .bool false], .slice (some ⟨w.heap.size + 1 + 1, 0, none⟩) 0 0]) (by simp [results, Tryz.results29, go_sem, c2, c3]) rfl ⟨_, _, rfl, ?_, ⟨rfl, ⟨[], ?_, fun j hj => by simp at hj⟩, fun j hj => by simp at hj, fun i j g _ hj => by simp at hj⟩, ?_⟩
   ·exact zf (zf (zg HO).drew (by simp [Value.ownBlock]; try omega) _) (by simp [Value.ownBlock]; try omega) _
   ·exact zf (zf (zg HK2).drew (by simp [Value.ownBlock]; try omega) _) (by simp [Value.ownBlock]; try omega) _
   ·exact Ext.setCell (Ext.setCell EW.drew (by dsimp only; omega) _) (by dsimp only; omega) _
 ·go_enter Tryz.func29, Tryz.ntmps29
  go_wp2
  obtain ⟨U, hU⟩ : ∃ U, U = (w.alloc (Obj.cells #[Value.slice none 0 cap, Value.bool true] 38)).alloc (Obj.cells #[Value.slice none 0 0, Value.bool false] 38) := ⟨_, rfl⟩
  rw [← hU]
  have hzU : U.heap.size = w.heap.size + 1 + 1 := by rw [hU]; simp
  have EU : Ext w U := by rw [hU]; exact ((Ext.refl _).alloc _).alloc _
  have HK := zi (zaA U w.heap.size 102 2 (by omega))
  obtain ⟨V, hV⟩ : ∃ V, V = U.alloc (.cells #[] 102) := ⟨_, rfl⟩
  rw [← hV] at HK ⊢
  have hzV : V.heap.size = w.heap.size + 1 + 1 + 1 := by rw [hV]; simp [hzU]
  have EV : Ext U V := by rw [hV]; exact (Ext.refl _).alloc _
  have HO := zi (zaA V w.heap.size 5 1 (by omega))
  obtain ⟨X, hX⟩ : ∃ X, X = V.alloc (.cells #[] 5) := ⟨_, rfl⟩
  rw [← hX] at HO ⊢
  have EX : Ext V X := by rw [hX]; exact (Ext.refl _).alloc _
  rw [hzU] at HK
  rw [hzV] at HO
  have EUX := EV.trans EX
  have c0 : X.cell? ⟨w.heap.size, 0, none⟩ = some (.slice none 0 cap) := by refine EUX.cell ?_; rw [hU]; simp [go_sem]
  have c1 : X.cell? ⟨w.heap.size, 1, none⟩ = some (.bool true) := by refine EUX.cell ?_; rw [hU]; simp [go_sem]
  have c2 : X.cell? ⟨w.heap.size + 1, 0, none⟩ = some (.slice none 0 0) := by refine EUX.cell ?_; rw [hU]; simp [go_sem]
  have c3 : X.cell? ⟨w.heap.size + 1, 1, none⟩ = some (.bool false) := by refine EUX.cell ?_; rw [hU]; simp [go_sem]
  have f2 : X.frozen? ⟨w.heap.size + 1, 0, none⟩ = false := by rw [EUX.rules.2 _ _ (by omega), hU]; simp [go_sem]
  have f3 : X.frozen? ⟨w.heap.size + 1, 1, none⟩ = false := by rw [EUX.rules.2 _ _ (by omega), hU]; simp [go_sem]
  have EW := EU.trans EUX
  have HK2 := zi (EX.owns (zg HK))
  clear hU hV hX
  go_region_law (first | fail)
  all_goals
   go_wp2
   refine bodyPost_ret (v := .tuple #[.agg #[.slice (some ⟨w.heap.size + 1 + 1 + 1, 0, none⟩) 0 0, .bool true], .slice (some ⟨w.heap.size + 1 + 1, 0, none⟩) 0 0]) (by simp [results, Tryz.results29, go_sem, c2, c3]) rfl ⟨_, _, rfl, ?_, ⟨rfl, ⟨[], ?_, fun j hj => by simp at hj⟩, fun j hj => by simp at hj, fun i j g _ hj => by simp at hj⟩, ?_⟩
   ·exact zf (zf (zg HO).drew (by simp [Value.ownBlock]; try omega) _) (by simp [Value.ownBlock]; try omega) _
   ·exact zf (zf (zg HK2).drew (by simp [Value.ownBlock]; try omega) _) (by simp [Value.ownBlock]; try omega) _
   ·exact Ext.setCell (Ext.setCell EW.drew (by dsimp only; omega) _) (by dsimp only; omega) _
theorem zht (ad : Addr) (cap : Nat) (p : Bool) (w : World) :
  Calls Tryz.prog 29 #[.agg #[.slice (some ad) 0 cap, .bool p]] w fun e w' => ∃ hv kv, e = .returned (.tuple #[.agg #[hv, .bool p], kv]) ∧ w'.ownsRow w.heap.size 5 1 hv 0 [] ∧ zan w' w.heap.size kv [] [] ∧ Ext w w' := by
 cases p
 ·go_enter Tryz.func29, Tryz.ntmps29
  go_wp2
  obtain ⟨U, hU⟩ : ∃ U, U = (w.alloc (Obj.cells #[Value.slice (some ad) 0 cap, Value.bool false] 38)).alloc (Obj.cells #[Value.slice none 0 0, Value.bool false] 38) := ⟨_, rfl⟩
  rw [← hU]
  have hzU : U.heap.size = w.heap.size + 1 + 1 := by rw [hU]; simp
  have EU : Ext w U := by rw [hU]; exact ((Ext.refl _).alloc _).alloc _
  have HK := zi (zaA U w.heap.size 102 2 (by omega))
  obtain ⟨V, hV⟩ : ∃ V, V = U.alloc (.cells #[] 102) := ⟨_, rfl⟩
  rw [← hV] at HK ⊢
  have hzV : V.heap.size = w.heap.size + 1 + 1 + 1 := by rw [hV]; simp [hzU]
  have EV : Ext U V := by rw [hV]; exact (Ext.refl _).alloc _
  have HO := zi (zaA V w.heap.size 5 1 (by omega))
  obtain ⟨X, hX⟩ : ∃ X, X = V.alloc (.cells #[] 5) := ⟨_, rfl⟩
  rw [← hX] at HO ⊢
  have EX : Ext V X := by rw [hX]; exact (Ext.refl _).alloc _
  rw [hzU] at HK
  rw [hzV] at HO
  have EUX := EV.trans EX
  have c0 : X.cell? ⟨w.heap.size, 0, none⟩ = some (.slice (some ad) 0 cap) := by refine EUX.cell ?_; rw [hU]; simp [go_sem]
  have c1 : X.cell? ⟨w.heap.size, 1, none⟩ = some (.bool false) := by refine EUX.cell ?_; rw [hU]; simp [go_sem]
  have c2 : X.cell? ⟨w.heap.size + 1, 0, none⟩ = some (.slice none 0 0) := by refine EUX.cell ?_; rw [hU]; simp [go_sem]
  have c3 : X.cell? ⟨w.heap.size + 1, 1, none⟩ = some (.bool false) := by refine EUX.cell ?_; rw [hU]; simp [go_sem]
  have f2 : X.frozen? ⟨w.heap.size + 1, 0, none⟩ = false := by rw [EUX.rules.2 _ _ (by omega), hU]; simp [go_sem]
  have f3 : X.frozen? ⟨w.heap.size + 1, 1, none⟩ = false := by rw [EUX.rules.2 _ _ (by omega), hU]; simp [go_sem]
  have EW := EU.trans EUX
  have HK2 := zi (EX.owns (zg HK))
  clear hU hV hX
  go_region_law (first | fail)
  all_goals
   go_wp2
   refine bodyPost_ret (v := .tuple #[.agg #[.slice (some ⟨w.heap.size + 1 + 1 + 1, 0, none⟩) 0 0, .bool false], .slice (some ⟨w.heap.size + 1 + 1, 0, none⟩) 0 0]) (by simp [results, Tryz.results29, go_sem, c2, c3]) rfl ⟨_, _, rfl, ?_, ⟨rfl, ⟨[], ?_, fun j hj => by simp at hj⟩, fun j hj => by simp at hj, fun i j g _ hj => by simp at hj⟩, ?_⟩
   ·exact zf (zf (zg HO).drew (by simp [Value.ownBlock]; try omega) _) (by simp [Value.ownBlock]; try omega) _
   ·exact zf (zf (zg HK2).drew (by simp [Value.ownBlock]; try omega) _) (by simp [Value.ownBlock]; try omega) _
   ·exact Ext.setCell (Ext.setCell EW.drew (by dsimp only; omega) _) (by dsimp only; omega) _
 ·go_enter Tryz.func29, Tryz.ntmps29
  go_wp2
  obtain ⟨U, hU⟩ : ∃ U, U = (w.alloc (Obj.cells #[Value.slice (some ad) 0 cap, Value.bool true] 38)).alloc (Obj.cells #[Value.slice none 0 0, Value.bool false] 38) := ⟨_, rfl⟩
  rw [← hU]
  have hzU : U.heap.size = w.heap.size + 1 + 1 := by rw [hU]; simp
  have EU : Ext w U := by rw [hU]; exact ((Ext.refl _).alloc _).alloc _
  have HK := zi (zaA U w.heap.size 102 2 (by omega))
  obtain ⟨V, hV⟩ : ∃ V, V = U.alloc (.cells #[] 102) := ⟨_, rfl⟩
  rw [← hV] at HK ⊢
  have hzV : V.heap.size = w.heap.size + 1 + 1 + 1 := by rw [hV]; simp [hzU]
  have EV : Ext U V := by rw [hV]; exact (Ext.refl _).alloc _
  have HO := zi (zaA V w.heap.size 5 1 (by omega))
  obtain ⟨X, hX⟩ : ∃ X, X = V.alloc (.cells #[] 5) := ⟨_, rfl⟩
  rw [← hX] at HO ⊢
  have EX : Ext V X := by rw [hX]; exact (Ext.refl _).alloc _
  rw [hzU] at HK
  rw [hzV] at HO
  have EUX := EV.trans EX
  have c0 : X.cell? ⟨w.heap.size, 0, none⟩ = some (.slice (some ad) 0 cap) := by refine EUX.cell ?_; rw [hU]; simp [go_sem]
  have c1 : X.cell? ⟨w.heap.size, 1, none⟩ = some (.bool true) := by refine EUX.cell ?_; rw [hU]; simp [go_sem]
  have c2 : X.cell? ⟨w.heap.size + 1, 0, none⟩ = some (.slice none 0 0) := by refine EUX.cell ?_; rw [hU]; simp [go_sem]
  have c3 : X.cell? ⟨w.heap.size + 1, 1, none⟩ = some (.bool false) := by refine EUX.cell ?_; rw [hU]; simp [go_sem]
  have f2 : X.frozen? ⟨w.heap.size + 1, 0, none⟩ = false := by rw [EUX.rules.2 _ _ (by omega), hU]; simp [go_sem]
  have f3 : X.frozen? ⟨w.heap.size + 1, 1, none⟩ = false := by rw [EUX.rules.2 _ _ (by omega), hU]; simp [go_sem]
  have EW := EU.trans EUX
  have HK2 := zi (EX.owns (zg HK))
  clear hU hV hX
  go_region_law (first | fail)
  all_goals
   go_wp2
   refine bodyPost_ret (v := .tuple #[.agg #[.slice (some ⟨w.heap.size + 1 + 1 + 1, 0, none⟩) 0 0, .bool true], .slice (some ⟨w.heap.size + 1 + 1, 0, none⟩) 0 0]) (by simp [results, Tryz.results29, go_sem, c2, c3]) rfl ⟨_, _, rfl, ?_, ⟨rfl, ⟨[], ?_, fun j hj => by simp at hj⟩, fun j hj => by simp at hj, fun i j g _ hj => by simp at hj⟩, ?_⟩
   ·exact zf (zf (zg HO).drew (by simp [Value.ownBlock]; try omega) _) (by simp [Value.ownBlock]; try omega) _
   ·exact zf (zf (zg HK2).drew (by simp [Value.ownBlock]; try omega) _) (by simp [Value.ownBlock]; try omega) _
   ·exact Ext.setCell (Ext.setCell EW.drew (by dsimp only; omega) _) (by dsimp only; omega) _
theorem ziO (h : Value) (bs : List Int) (p : Bool) (w : World) (hr : zag w .u8 h bs) (hB : zaj bs) (hl : bs.length ≤ 1048576) :
  Calls Tryz.prog 29 #[.agg #[h, .bool p]] w fun e w' => ∃ hv kv rs, e = .returned (.tuple #[.agg #[hv, .bool p], kv]) ∧ w'.ownsRow w.heap.size 5 1 hv (zaV bs p).length ((zaV bs p).map (Value.int .u8)) ∧ zan w' w.heap.size kv rs (zaS bs p) ∧ Ext w w' := by
 obtain ⟨ao, cap, rfl, _, hx⟩ := id hr
 by_cases h0 : 0 < bs.length
 ·obtain ⟨b, off, rfl, _⟩ := hx h0
  cases p with
  | true =>
   refine (zg7 b off cap bs w hr hl h0).mono ?_
   rintro e w' ⟨hv, kv, rfl, h1, h2, h3⟩
   exact ⟨hv, kv, [], rfl, by simpa [zaV] using h1, by simpa [zaS] using h2, h3⟩
  | false =>
   by_cases h27 : at0 bs 0 = 27
   ·refine (ziq b off cap bs _ rfl w hr hl h0 h27).mono ?_
    rintro e w' ⟨hv, kv, rs, rfl, h1, h2, h3⟩
    refine ⟨hv, kv, rs, rfl, by simpa [zaV] using h1, ?_, h3⟩
    unfold zaS
    rw [if_neg (fun h9 => by rcases h9 with h9 | h9; exact Bool.noConfusion h9; omega), if_pos h27]
    split <;> simpa [*] using h2
   ·refine (zgU b off cap bs w hr hB hl h0 h27).mono ?_
    rintro e w' ⟨hv, kv, rs, rfl, h1, h2, h3⟩
    refine ⟨hv, kv, rs, rfl, by simpa [zaV] using h1, ?_, h3⟩
    unfold zaS
    rw [if_neg (fun h9 => by rcases h9 with h9 | h9; exact Bool.noConfusion h9; omega), if_neg h27]
    exact h2
 ·have e0 : bs = [] := List.eq_nil_of_length_eq_zero (by omega)
  subst e0
  have fin : ∀ {e : Ending} {w' : World}, (∃ hv kv, e = .returned (.tuple #[.agg #[hv, .bool p], kv]) ∧ w'.ownsRow w.heap.size 5 1 hv 0 [] ∧ zan w' w.heap.size kv [] [] ∧ Ext w w') → ∃ hv kv rs, e = .returned (.tuple #[.agg #[hv, .bool p], kv]) ∧ w'.ownsRow w.heap.size 5 1 hv (zaV [] p).length ((zaV [] p).map (Value.int .u8)) ∧ zan w' w.heap.size kv rs (zaS [] p) ∧ Ext w w' := by
   rintro e w' ⟨hv, kv, rfl, h1, h2, h3⟩
   exact ⟨hv, kv, [], rfl, by cases p <;> simpa [zaV] using h1, by simpa [zaS] using h2, h3⟩
  cases ao with
  | none => exact (zhw cap p w).mono (fun _ _ => fin)
  | some ad => exact (zht ad cap p w).mono (fun _ _ => fin)
theorem zff (a b c : ByteArray) (v : Value) (un : List (ByteArray × ByteArray)) (ra : Option Addr) (rn rc : Nat) (w : World) (hv : zei w v un) (ha : a.size ≤ 1048576) (hb : b.size ≤ 1048576) (hc : c.size ≤ 1048576) (hx : ∀ j, j < un.length → (lnT un j).size ≤ 1048576 ∧ (lnH un j).size ≤ 1048576) (kd : Int) (hk : Few kd) (rs : List Int) (hr : zag w .i32 (.slice ra rn rc) rs) (iR : zbv rs) (hr1 : rs.length ≤ 1) (hP : zb8 a b c un.length (lnT un) (lnH un)) :
  Calls Tryz.prog 81 #[.agg #[.string a, .string b, .string c, v], .agg #[.int .i64 kd, .slice ra rn rc]] w fun e w' => LnO w' w.heap.size (edF a b c un kd rs) e ∧ Ext w w' := by
 have hn : un.length ≤ 50 := hP.1
 have hn2 : un.length ≤ 1048576 := by omega
 have na : (zp (baL a)).length ≤ 300 := by have := hP.2.1.2.2; omega
 have none : ∀ k : Int, ¬ k = 6 → ¬ k = 7 → ¬ k = 8 → ¬ k = 9 → ¬ k = 18 → ¬ k = 19 → ∀ W u, Ext w W → zei W u un → Calls Tryz.prog 117 #[.agg #[.string a, .string b, .string c, u], .int .i64 k] W fun e w' => e = .returned (.tuple #[.agg #[.string a, .string b, .string c, u], .int .i64 (-1)]) ∧ Ext W w' :=
  fun k h6 h7 h8 h9 h18 h19 W u _ hu => zig a b c u un W hu ha hb k h6 h7 h8 h9 h18 h19
 have other : ∀ k : Int, k = 22 ∨ k = 23 → Calls Tryz.prog 81 #[.agg #[.string a, .string b, .string c, v], .agg #[.int .i64 k, .slice ra rn rc]] w fun e w' => LnO w' w.heap.size (edF a b c un k rs) e ∧ Ext w w' := fun k hk => by
  have e : edF a b c un k rs = ⟨a, b, c, un, zj0 k⟩ := by rcases hk with rfl | rfl <;> rfl
  rw [e]
  exact zg5 a b c v un ra rn rc w hv ha hb hc hn2 hx k hP (by omega) (by omega) (by omega) (by omega) (by omega) (by omega) (by omega) (by omega) (by omega) (by omega) (none k (by omega) (by omega) (by omega) (by omega) (by omega) (by omega)) (zj0 k) (fun W => zid k W)
 rcases hk with rfl | h | h
 ·rw [show edF a b c un 1 rs = zej a b c un rs by simp [edF]]
  refine zkd a b c v un ra rn rc w hv ha hb hc hn2 hx hP _ (none 1 (by omega) (by omega) (by omega) (by omega) (by omega) (by omega)) ?_
  intro W u E hu
  unfold zej
  by_cases h0 : rs.length = 0
  ·rw [if_pos h0]
   exact zkj a b c u un _ rs W hu hn ha hb (hr.ext E) h0
  rw [if_neg h0]
  by_cases h2 : 300 < (zaq (zj (zp (baL a) ++ rs))).length + (zp (baL b)).length
  ·rw [if_pos h2]
   exact zkh a b c u un _ rs W hu hn ha hb (hr.ext E) iR ⟨by omega, by omega⟩ na h2
  ·rw [if_neg h2]
   exact zlF a b c u un _ rs W hu hn ha hb (hr.ext E) iR ⟨by omega, by omega⟩ na h2
 ·exact other kd (.inl h)
 ·exact other kd (.inr h)
end Go.Proofs.YtmlkpdbfnffoaaaGreatDoor
