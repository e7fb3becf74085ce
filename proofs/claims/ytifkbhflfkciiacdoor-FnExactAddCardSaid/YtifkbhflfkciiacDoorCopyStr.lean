import Derived.Test.YtifkbhflfkciiacDoorStrs
import Derived.Test.YtifkbhflfkciiacDoorBlocks
import Derived.Deep.AppendLies
import Derived.Deep.RegionHeldLaw
namespace Go.Proofs.YtifkbhflfkciiacDoor
open Go.RowKit

/-- Texts as cells. -/
def strL (tx : Nat → ByteArray) (n : Nat) : List Value := (List.range n).map (fun j => .string (tx j))
theorem strL_len (tx : Nat → ByteArray) (n : Nat) : (strL tx n).length = n * 1 := by simp [strL]
theorem strL_at (tx : Nat → ByteArray) (n j : Nat) (hj : j < n) : (strL tx n)[j]? = some (.string (tx j)) := by simp [strL, hj]
theorem strL_one {tx : Nat → ByteArray} {n : Nat} : ∀ u ∈ strL tx n, u.oneCell' = true := by
  intro u hu
  simp only [strL, List.mem_map] at hu
  obtain ⟨q, _, rfl⟩ := hu
  rfl
theorem strL_news {w : World} {ad : Addr} {n ca : Nat} {tx : Nat → ByteArray} (h : Row1At w (.slice (some ad) n ca) n (fun j => .string (tx j))) : ∀ j u, (strL tx n)[j]? = some u → w.cell? (ad.add j) = some u := by
  intro j u hu
  have hj : j < n := by
    have := (List.getElem?_eq_some_iff.1 hu).1
    simpa [strL] using this
  obtain ⟨ao, ca', e, _, hx⟩ := h
  simp only [Value.slice.injEq] at e
  obtain ⟨rfl, -, rfl⟩ := e
  obtain ⟨b, off, e, hc⟩ := hx (by omega)
  obtain rfl := Option.some.inj e
  rw [strL_at tx n j hj] at hu
  rw [Addr.add_lit, hc j hj]
  exact hu
theorem own_strL {w : World} {base : Nat} {T : TypeId} {v : Value} {n : Nat} {tx : Nat → ByteArray} (h : w.ownsRow base T 1 v n (strL tx n)) : Own1 w base T v n (fun j => .string (tx j)) :=
  ⟨_, h, fun j hj => strL_at tx n j hj⟩
theorem Own1.slice {w : World} {base : Nat} {T : TypeId} {v : Value} {n : Nat} {A : Nat → Value} (h : Own1 w base T v n A) : ∃ a c, v = .slice a n c := by
  rcases h.form with ⟨rfl, rfl⟩ | ⟨g, c, rfl⟩
  · exact ⟨none, 0, rfl⟩
  · exact ⟨some ⟨g, 0, none⟩, c, rfl⟩
theorem Own1.away {w : World} {base : Nat} {T : TypeId} {v : Value} {n : Nat} {A : Nat → Value} (h : Own1 w base T v n A) (a : Addr) (hne : v.ownBlock ≠ some a.block) (u : Value) : Own1 (w.setCell a u) base T v n A := by
  obtain ⟨ys, h1, h2⟩ := h
  exact ⟨ys, owns_setCell h1 hne u, h2⟩
section
variable {P : Program} {w : World}
theorem step_append_own {ops : Array Oper} {o : Oper} {a : Act} {K : Act → World → Prop} {Q : Exit → Act → World → Prop} {E : Prop} (hgd : o.guard = none) (s x : Operand) (t : TypeId)
    (ho : o.op = .call { callee := .builtin .append, args := #[s, x], argTypes := #[t, t] })
    (base : Nat) (e : TypeId) (i : TypeInfo) (z : Value) (size bytes : Nat) (ht : P.underlying t = some (.slice e)) (hi : P.info? e = some i) (hz : i.zero = some z)
    (hsize : i.size = size) (hby : i.bytes = bytes) (hzs : z.cells.size = size) (hsz : 0 < size)
    (v : Value) (n : Nat) (xs : List Value) (hs : a.eval s = v) (hown : w.ownsRow base e size v n xs)
    (ad : Addr) (m c : Nat) (news : List Value) (hx : a.eval x = .slice (some ad) m c) (hl : news.length = m * size) (hnews : ∀ j u, news[j]? = some u → w.cell? (ad.add j) = some u) (h1 : ∀ u ∈ news, u.oneCell' = true)
    (h63 : n + m ≤ maxLen) (hbytes : (n + m) * bytes ≤ 140737488355328) (hbase : base ≤ w.heap.size)
    (h : ∀ v' w', w'.ownsRow base e size v' (n + m) (xs ++ news) → w.grownBy w' v.ownBlock → (v' = .slice none 0 0 ↔ v = .slice none 0 0 ∧ m = 0) → K (a.put o.dst v') w') :
    if Region.wanted o (yielded ops a.tmps) = true then Oper.wp P o a w K Q else E := by
  rw [if_pos (by simp [Region.wanted, hgd])]
  exact wp_append_own w s x t ho base e i z size bytes ht hi hz hsize hby hzs hsz v n xs hs hown ad m c news hx hl hnews h1 h63 hbytes hbase h
end
set_option maxRecDepth 10000 in
set_option maxHeartbeats 1000000 in
theorem l5Copy_some (ad : Addr) (n ca : Nat) (tx : Nat → ByteArray) (w : World) (hv : Row1At w (.slice (some ad) n ca) n (fun j => .string (tx j))) (hn : n ≤ 1048576) :
    Calls Tryd.prog 79 #[.slice (some ad) n ca] w fun e w' => ∃ g c, e = .returned (.slice (some ⟨g, 0, none⟩) n c) ∧ Own1 w' w.heap.size 9 (.slice (some ⟨g, 0, none⟩) n c) n (fun j => .string (tx j)) ∧ Ext w w' := by
  obtain ⟨ic, hic, hc0, hc1, hc2⟩ := info_parts infoStrs
  have HN := hide (strL_news (hv.ext ((Ext.refl w).alloc (.cells #[] 9))))
  have HO : Hid ((w.alloc (.cells #[] 9)).ownsRow w.heap.size 9 1 (.slice (some ⟨w.heap.size, 0, none⟩) 0 0) 0 []) := hide ⟨by simp, .inr ⟨w.heap.size, 0, #[], rfl, Nat.le_refl _, new_block w _, Nat.le_refl _, by unfold maxLen; omega, by simp, by simp⟩⟩
  clear hv
  go_enter Tryd.func79, Tryd.ntmps79
  go_wp2_with (at_builtin; go_must (refine wpList_append_own _ rfl _ _ 35 rfl w.heap.size 9 ic (.string { data := #[] }) 1 16 Tryd.underlying35 hic hc0 hc1 hc2 rfl (by decide) _ 0 [] rfl (unhide HO) ad n ca (strL tx n) rfl (strL_len _ _) (unhide HN) strL_one (by unfold maxLen; omega) (by omega) (by simp) ?_))
  intro v2 w2 o2 G2 hnil
  have E2 : Ext w w2 := ((Ext.refl w).alloc _).grown G2 (fun q hq => by simp [Value.ownBlock] at hq; omega)
  have O2 := own_strL o2
  rcases O2.form with ⟨rfl, _⟩ | ⟨g, c, rfl⟩
  · exact absurd rfl hnil
  have HO2 := hide O2
  clear O2 o2 G2 hnil
  go_wp2
  go_ret
  exact ⟨g, c, rfl, unhide HO2, E2⟩
set_option linter.unusedSimpArgs false in
set_option maxRecDepth 10000 in
set_option maxHeartbeats 1000000 in
theorem copyHistory_some (cap : Int) (ad : Addr) (n ca : Nat) (tx : Nat → ByteArray) (w : World) (hv : Row1At w (.slice (some ad) n ca) n (fun j => .string (tx j))) (hn : n ≤ 1048576) :
    Calls Tryd.prog 80 #[.agg #[.int .i64 cap, .slice (some ad) n ca]] w fun e w' => ∃ v, e = .returned (.agg #[.int .i64 cap, v]) ∧ Own1 w' w.heap.size 9 v n (fun j => .string (tx j)) ∧ Ext w w' := by
  obtain ⟨ic, hic, hc0, hc1, hc2⟩ := info_parts infoStrs
  have EU := ((Ext.refl w).alloc (.cells #[.int .i64 cap, .slice (some ad) n ca] 40)).alloc (.cells #[.int .i64 0, .slice none 0 0] 40)
  have p0 : ((w.alloc (.cells #[.int .i64 cap, .slice (some ad) n ca] 40)).alloc (.cells #[.int .i64 0, .slice none 0 0] 40)).cell? ⟨w.heap.size, 0, none⟩ = some (.int .i64 cap) := by simp [go_sem]
  have p1 : ((w.alloc (.cells #[.int .i64 cap, .slice (some ad) n ca] 40)).alloc (.cells #[.int .i64 0, .slice none 0 0] 40)).cell? ⟨w.heap.size, 1, none⟩ = some (.slice (some ad) n ca) := by simp [go_sem]
  have p2 : ((w.alloc (.cells #[.int .i64 cap, .slice (some ad) n ca] 40)).alloc (.cells #[.int .i64 0, .slice none 0 0] 40)).cell? ⟨w.heap.size + 1, 0, none⟩ = some (.int .i64 0) := by simp [go_sem]
  have p3 : ((w.alloc (.cells #[.int .i64 cap, .slice (some ad) n ca] 40)).alloc (.cells #[.int .i64 0, .slice none 0 0] 40)).cell? ⟨w.heap.size + 1, 1, none⟩ = some (.slice none 0 0) := by simp [go_sem]
  have z2 : ((w.alloc (.cells #[.int .i64 cap, .slice (some ad) n ca] 40)).alloc (.cells #[.int .i64 0, .slice none 0 0] 40)).frozen? ⟨w.heap.size + 1, 0, none⟩ = false := by simp [go_sem]
  have z3 : ((w.alloc (.cells #[.int .i64 cap, .slice (some ad) n ca] 40)).alloc (.cells #[.int .i64 0, .slice none 0 0] 40)).frozen? ⟨w.heap.size + 1, 1, none⟩ = false := by simp [go_sem]
  obtain ⟨U, hU⟩ : ∃ U, U = (w.alloc (.cells #[.int .i64 cap, .slice (some ad) n ca] 40)).alloc (.cells #[.int .i64 0, .slice none 0 0] 40) := ⟨_, rfl⟩
  have hz : U.heap.size = w.heap.size + 2 := by rw [hU]; simp
  rw [← hU] at EU p0 p1 p2 p3 z2 z3
  have HU := hide hU
  have HN := hide (strL_news (hv.ext EU.drew))
  clear hv hU
  go_enter Tryd.func80, Tryd.ntmps80
  go_wp2
  rw [← unhide HU]
  clear HU
  refine wp_region_held_drew (S := fun W => W.cell? ⟨w.heap.size, 0, none⟩ = some (.int .i64 cap) ∧ W.cell? ⟨w.heap.size, 1, none⟩ = some (.slice (some ad) n ca)) (by kernel_rfl) ⟨p0, p1⟩ (fun hHeld => ?_)
  refine wpAnyH_take (i := 0) (v := ?_) rfl (by kernel_rfl) (by kernel_rfl) (by kernel_rfl) (fun _ _ _ h => h) (Or.inl ⟨by rfl, ?_⟩) (by assumption) ?_
  rotate_left
  · intro w' hSw; go_simp <;> with_reducible rfl
  simp only [Act.put, List.getElem_toArray, List.getElem_cons_succ, List.getElem_cons_zero, List.setIfInBounds_toArray, List.set_cons_zero, List.set_cons_succ]
  refine wpAnyH_take (i := 1) (v := ?_) rfl (by kernel_rfl) (by kernel_rfl) (by kernel_rfl) (fun _ _ _ h => h) (Or.inl ⟨by rfl, ?_⟩) (by assumption) ?_
  rotate_left
  · intro w' hSw; go_simp <;> with_reducible rfl
  simp only [Act.put, List.getElem_toArray, List.getElem_cons_succ, List.getElem_cons_zero, List.setIfInBounds_toArray, List.set_cons_zero, List.set_cons_succ]
  refine wpAnyH_take (i := 2) (v := ?_) rfl (by kernel_rfl) (by kernel_rfl) (by kernel_rfl) (fun _ _ _ h => h) (Or.inl ⟨by rfl, ?_⟩) (by assumption) ?_
  rotate_left
  · intro w' hSw; go_simp <;> with_reducible rfl
  simp only [Act.put, List.getElem_toArray, List.getElem_cons_succ, List.getElem_cons_zero, List.setIfInBounds_toArray, List.set_cons_zero, List.set_cons_succ]
  refine wpAnyH_take (i := 3) (v := ?_) rfl (by kernel_rfl) (by kernel_rfl) (by kernel_rfl) (fun _ _ _ h => h) (Or.inl ⟨by rfl, ?_⟩) (by assumption) ?_
  rotate_left
  · intro w' hSw; go_simp <;> with_reducible rfl
  simp only [Act.put, List.getElem_toArray, List.getElem_cons_succ, List.getElem_cons_zero, List.setIfInBounds_toArray, List.set_cons_zero, List.set_cons_succ]
  refine wpAnyH_ready (rs := [4]) (by kernel_rfl) (by simp) ?_
  refine AllReadyH.cons rfl (fun K hK => ?_) AllReadyH.nil
  refine step_append_own rfl _ _ 35 rfl (w.heap.size + 2) 9 ic (.string { data := #[] }) 1 16 Tryd.underlying35 hic hc0 hc1 hc2 rfl (by decide) (.slice none 0 0) 0 [] rfl ⟨rfl, .inl ⟨rfl, rfl⟩⟩ ad n ca (strL tx n) rfl (by simp [strL]) (unhide HN) strL_one (by unfold maxLen; omega) (by omega) (by simp; omega) ?_
  intro v2 w2 o2 G2 _
  have E2 : Ext U w2 := (Ext.refl U).drew.trans G2
  have O2 := own_strL (by simpa using o2)
  obtain ⟨a2, c2, rfl⟩ := O2.slice
  have HO2 := hide O2
  clear o2 O2 G2
  obtain ⟨_, hfz⟩ := E2.rules
  have f2 : w2.frozen? ⟨w.heap.size + 1, 0, none⟩ = false := by rw [hfz _ _ (by omega)]; exact z2
  have f3 : w2.frozen? ⟨w.heap.size + 1, 1, none⟩ = false := by rw [hfz _ _ (by omega)]; exact z3
  have q0 := E2.cell p0
  have q1 := E2.cell p1
  have q2 := E2.cell p2
  have q3 := E2.cell p3
  refine hK.out _ _ ⟨q0, q1⟩ (fun hHeld => ?_)
  clear hK K
  refine wpAnyH_take (i := 5) (v := ?_) rfl (by kernel_rfl) (by kernel_rfl) (by kernel_rfl) (fun _ _ _ h => h) (Or.inl ⟨by rfl, ?_⟩) (by assumption) ?_
  rotate_left
  · intro w' hSw; go_simp <;> with_reducible rfl
  simp only [Act.put, List.getElem_toArray, List.getElem_cons_succ, List.getElem_cons_zero, List.setIfInBounds_toArray, List.set_cons_zero, List.set_cons_succ]
  refine wpAnyH_ready (rs := [6]) (by kernel_rfl) (by simp) ?_
  refine AllReadyH.cons rfl (fun K hK => ?_) AllReadyH.nil
  go_simp
  have t0 : ((w2.setCell ⟨w.heap.size + 1, 0, none⟩ (.int .i64 cap)).setCell ⟨w.heap.size + 1, 1, none⟩ (.slice a2 n c2)).cell? ⟨w.heap.size, 0, none⟩ = some (.int .i64 cap) := by
    rw [World.cell?_setCell_other _ _ _ _ (by simp), World.cell?_setCell_other _ _ _ _ (by simp)]; exact q0
  have t1 : ((w2.setCell ⟨w.heap.size + 1, 0, none⟩ (.int .i64 cap)).setCell ⟨w.heap.size + 1, 1, none⟩ (.slice a2 n c2)).cell? ⟨w.heap.size, 1, none⟩ = some (.slice (some ad) n ca) := by
    rw [World.cell?_setCell_other _ _ _ _ (by simp), World.cell?_setCell_other _ _ _ _ (by simp)]; exact q1
  refine hK.out _ _ ⟨t0, t1⟩ (fun hHeld => ?_)
  refine wpAnyH_done (by kernel_rfl) ?_ _
  have r1 : ((w2.setCell ⟨w.heap.size + 1, 0, none⟩ (.int .i64 cap)).setCell ⟨w.heap.size + 1, 1, none⟩ (.slice a2 n c2)).cell? ⟨w.heap.size + 1, 1, none⟩ = some (.slice a2 n c2) :=
    World.cell?_setCell_same _ _ _ (by rw [World.cell?_setCell_other _ _ _ _ (by simp)]; exact q3)
  have r0 : ((w2.setCell ⟨w.heap.size + 1, 0, none⟩ (.int .i64 cap)).setCell ⟨w.heap.size + 1, 1, none⟩ (.slice a2 n c2)).cell? ⟨w.heap.size + 1, 0, none⟩ = some (.int .i64 cap) := by
    rw [World.cell?_setCell_other _ _ _ _ (by simp)]; exact World.cell?_setCell_same _ _ _ q2
  have hne : (Value.slice a2 n c2).ownBlock ≠ some (w.heap.size + 1) := by
    intro e
    have := ((unhide HO2).lt _ e).1
    omega
  have HO3 := hide ((((unhide HO2).away ⟨w.heap.size + 1, 0, none⟩ hne (.int .i64 cap))).away ⟨w.heap.size + 1, 1, none⟩ hne (.slice a2 n c2))
  have E3 : Ext w ((w2.setCell ⟨w.heap.size + 1, 0, none⟩ (.int .i64 cap)).setCell ⟨w.heap.size + 1, 1, none⟩ (.slice a2 n c2)) := ((EU.trans E2).setCell (by dsimp only; omega) _).setCell (by dsimp only; omega) _
  clear t0 t1 hHeld
  go_wp2
  refine bodyPost_ret (v := .agg #[.int .i64 cap, .slice a2 n c2]) (by simp [results, Tryd.results80, go_sem, r0, r1]) rfl ⟨_, rfl, (unhide HO3).mono (by omega), E3⟩
end Go.Proofs.YtifkbhflfkciiacDoor
