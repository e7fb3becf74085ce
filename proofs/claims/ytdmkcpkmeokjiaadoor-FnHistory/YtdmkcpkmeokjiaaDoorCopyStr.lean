import Derived.Test.YtdmkcpkmeokjiaaDoorRing
import Derived.Deep.AppendLies
import Derived.Test.YtdmkcpkmeokjiaaDoorItemOk
import Derived.Test.YtdmkcpkmeokjiaaDoorBlocks
import Derived.Deep.RegionHeldLaw
namespace Go.Proofs.YtdmkcpkmeokjiaaDoor
open Go.RowKit

theorem ringZero : Tryd.zeroCells47 = (Array.replicate 100 (Value.string { data := #[] }) ++ #[.int .i64 0, .int .i64 0]) := by kernel_rfl
theorem ring_frozen {W : World} {g : Nat} {cs : Array Value} {T : TypeId} (h : W.heap[g]? = some (.cells cs T (0, 0))) (i : Nat) : W.frozen? ⟨g, i, none⟩ = false := by simp [World.frozen?, h]
theorem ring_new (w : World) : RingAt (w.alloc (.cells Tryd.zeroCells47 47)) w.heap.size (fun _ => { data := #[] }) 0 0 := by
  have hb := new_block w (.cells Tryd.zeroCells47 47)
  rw [ringZero] at hb ⊢
  refine ⟨fun i hi => ⟨cells_of hb i _ ?_, ring_frozen hb i⟩, ⟨cells_of hb 100 _ ?_, ring_frozen hb 100⟩, cells_of hb 101 _ ?_, ring_frozen hb 101⟩
  · rw [Array.getElem?_append_left (by simpa using hi)]
    simp [hi]
  · rw [Array.getElem?_append_right (by simp)]
    simp
  · rw [Array.getElem?_append_right (by simp)]
    simp
set_option maxRecDepth 10000 in
set_option maxHeartbeats 1000000 in
theorem ringOf_any (v : Value) (n : Nat) (tx : Nat → ByteArray) (w : World) (hv : Row1At w v n (fun j => .string (tx j))) (hn : n ≤ 100) :
    Calls Tryd.prog 19 #[v] w fun e w' => ∃ g ty, e = .returned (.pointer (some ⟨g, 0, none⟩)) ∧ w.heap.size ≤ g ∧ (∀ i, i < n → ty i = tx i) ∧ RingAt w' g ty 0 n ∧ Ext w w' := by
  obtain ⟨ao, ca, rfl, hca, hxa⟩ := hv
  have HX := hide hxa
  have HR := hide (ring_new w)
  have EW := (Ext.refl w).alloc (.cells Tryd.zeroCells47 47)
  clear hxa
  go_enter Tryd.func19, Tryd.ntmps19
  go_wp2
  go_loopw [10] (fun i wr => ∃ (k : Nat) (ty : Nat → ByteArray), k ≤ n ∧ i = .int .i64 k ∧ Hid (∀ j, j < k → ty j = tx j) ∧ Hid (RingAt wr w.heap.size ty 0 k) ∧ Ext w wr) (fun i _ => n - (intOf i).toNat)
  case atStart => exact ⟨0, _, Nat.zero_le _, rfl, hide (fun j hj => by omega), HR, EW⟩
  case round =>
    obtain ⟨k, ty, hk, rfl, HJ, HK, hext⟩ := hrel
    by_cases hlt : k < n
    · obtain ⟨b, off, hao, hc⟩ := (unhide HX) (by omega)
      subst hao
      have g1 := hext.cell (hc k hlt)
      have bk : (k : Int) < (n : Int) := by omega
      have hcon := hide (push_any w.heap.size 0 k ty (tx k) wr (by omega) (by omega) (unhide HK))
      have HJ2 : Hid (∀ j, j < k + 1 → (if j = (0 + k) % 100 then tx k else ty j) = tx j) := hide (fun j hj => by
        by_cases e : j = k
        · subst e; rw [if_pos (by omega)]
        · rw [if_neg (by omega)]; exact (unhide HJ) j (by omega))
      clear hc
      go_wp2_with fail
      refine (unhide hcon).mono ?_
      rintro e w2 ⟨rfl, R2, K2⟩
      have HR2 := hide R2
      have hE2 := K2 w (Nat.le_refl _) hext
      clear R2 K2
      go_wp2
      go_roundw
      case rel => exact ⟨k + 1, _, by omega, by go_num, HJ2, HR2, hE2⟩
      case measure => simp [intOf]; omega
    · obtain rfl : k = n := by omega
      go_wp2
      go_ret
      exact ⟨w.heap.size, ty, rfl, Nat.le_refl _, unhide HJ, unhide HK, hext⟩
theorem news1 (w : World) (x : ByteArray) (T : TypeId) : ∀ j u, [Value.string x][j]? = some u → (w.alloc (.cells #[.string x] T)).cell? ((⟨w.heap.size, 0, none⟩ : Addr).add j) = some u :=
  fun j u hu => World.news_of_block (new_block w (.cells #[.string x] T)) j u hu
set_option maxRecDepth 10000 in
set_option maxHeartbeats 1000000 in
theorem list_any (g beg n : Nat) (tx : Nat → ByteArray) (w : World) (hb : beg ≤ 100) (hn : n ≤ 100) (hR : RingAt w g tx beg n) :
    Calls Tryd.prog 23 #[.pointer (some ⟨g, 0, none⟩)] w fun e w' => ∃ v, e = .returned v ∧ Own1 w' w.heap.size 9 v n (fun j => .string (tx ((beg + j) % 100))) ∧ Ext w w' := by
  obtain ⟨ic, hic, hc0, hc1, hc2⟩ := info_parts infoStrs
  have h101 := hR.2.2.1
  have hA := hide (fun W (hW : Ext w W) (k : Nat) (hk : k ≤ 100) => at_any g beg n k tx W hb hk (hR.ext hW))
  clear hR
  go_enter Tryd.func23, Tryd.ntmps23
  go_wp2
  go_loopw [3, 9] (fun o i wr => ∃ (k : Nat) (ys : List Value), k ≤ n ∧ i = .int .i64 k ∧ Hid (wr.ownsRow w.heap.size 9 1 o k ys) ∧ Hid (∀ j, j < k → ys[j]? = some (.string (tx ((beg + j) % 100)))) ∧ Ext w wr) (fun _ i _ => n - (intOf i).toNat)
  case atStart => exact ⟨0, [], Nat.zero_le _, rfl, hide ⟨rfl, .inl ⟨rfl, rfl⟩⟩, hide (fun j hj => by omega), Ext.refl _⟩
  case round =>
    obtain ⟨k, ys, hk, rfl, HO, HY, hext⟩ := hrel
    by_cases hlt : k < n
    · have bk : (k : Int) < (n : Int) := by omega
      have hcon := hide ((unhide hA) wr hext k (by omega))
      have HL : Hid (ys.length = k) := hide (by have := (unhide HO).1; omega)
      obtain ⟨x, hx⟩ : ∃ x, x = tx ((beg + k) % 100) := ⟨_, rfl⟩
      rw [← hx] at hcon
      have HXE := hide hx
      clear hx
      go_wp2_with fail
      refine (unhide hcon).mono ?_
      rintro e w2 ⟨rfl, F2⟩
      have hE2 := hext.trans F2
      have HO2 := hide ((F2.owns (unhide HO)).alloc (.cells #[.string x] 9))
      have z2 := hE2.size
      go_wp2_with (at_builtin; go_must (refine wpList_append_own _ rfl _ _ 23 rfl w.heap.size 9 ic (.string { data := #[] }) 1 16 Tryd.underlying23 hic hc0 hc1 hc2 rfl (by decide) _ k ys rfl (unhide HO2) ⟨w2.heap.size, 0, none⟩ 1 1 [.string x] rfl rfl (news1 w2 x _) (by simp [Value.oneCell']) (by unfold maxLen; omega) (by omega) (by simp; omega) ?_))
      intro v3 w3 o3 G3 _
      have hE3 : Ext w w3 := (hE2.alloc _).grown G3 (fun q hq => ((unhide HO2).lt q hq).1)
      have HO3 := hide o3
      have HY3 : Hid (∀ j, j < k + 1 → (ys ++ [Value.string x])[j]? = some (.string (tx ((beg + j) % 100)))) := hide (fun j hj => by
        by_cases e : j = k
        · subst e
          rw [List.getElem?_append_right (by rw [unhide HL]; omega), unhide HL, ← unhide HXE]
          simp
        · rw [List.getElem?_append_left (by rw [unhide HL]; omega)]
          exact (unhide HY) j (by omega))
      clear o3 G3
      go_wp2
      go_roundw
      case rel => exact ⟨k + 1, _, by omega, by go_num, HO3, HY3, hE3⟩
      case measure => simp [intOf]; omega
    · obtain rfl : k = n := by omega
      go_wp2
      go_ret
      exact ⟨_, rfl, ⟨ys, unhide HO, unhide HY⟩, hext⟩
end Go.Proofs.YtdmkcpkmeokjiaaDoor

namespace Go.Proofs.YtdmkcpkmeokjiaaDoor
open Go.RowKit

/-- Texts as cells. -/
def strL (tx : Nat → ByteArray) (n : Nat) : List Value := (List.range n).map (fun j => .string (tx j))
theorem strL_len (tx : Nat → ByteArray) (n : Nat) : (strL tx n).length = n * 1 := by simp [strL]
theorem strL_at (tx : Nat → ByteArray) (n j : Nat) (hj : j < n) : (strL tx n)[j]? = some (.string (tx j)) := by simp [strL, hj]
theorem strL_succ (tx : Nat → ByteArray) (n : Nat) : strL tx (n + 1) = strL tx n ++ [.string (tx n)] := by simp [strL, List.range_succ]
theorem strL_congr {tx ty : Nat → ByteArray} {n : Nat} (h : ∀ j, j < n → tx j = ty j) : strL tx n = strL ty n := by
  unfold strL
  apply List.map_congr_left
  intro j hj
  rw [h j (List.mem_range.1 hj)]
theorem strL_one {tx : Nat → ByteArray} {n : Nat} : ∀ u ∈ strL tx n, u.oneCell' = true := by
  intro u hu
  simp only [strL, List.mem_map] at hu
  obtain ⟨q, _, rfl⟩ := hu
  rfl
theorem strL_news {w : World} {ad : Addr} {n ca : Nat} {tx : Nat → ByteArray} (h : Row1At w (.slice (some ad) n ca) n (fun j => .string (tx j))) : ∀ j u, (strL tx n)[j]? = some u → w.cell? (ad.add j) = some u := by
  intro j u hu
  have hj : j < n := by
    have := (List.getElem?_eq_some_iff.1 hu).1
    simpa [strL] using this
  obtain ⟨ao, ca', e, _, hx⟩ := h
  simp only [Value.slice.injEq] at e
  obtain ⟨rfl, -, rfl⟩ := e
  obtain ⟨b, off, e, hc⟩ := hx (by omega)
  obtain rfl := Option.some.inj e
  rw [strL_at tx n j hj] at hu
  rw [Addr.add_lit, hc j hj]
  exact hu
theorem own_strL {w : World} {base : Nat} {T : TypeId} {v : Value} {n : Nat} {tx : Nat → ByteArray} (h : w.ownsRow base T 1 v n (strL tx n)) : Own1 w base T v n (fun j => .string (tx j)) :=
  ⟨_, h, fun j hj => strL_at tx n j hj⟩
theorem Own1.slice {w : World} {base : Nat} {T : TypeId} {v : Value} {n : Nat} {A : Nat → Value} (h : Own1 w base T v n A) : ∃ a c, v = .slice a n c := by
  rcases h.form with ⟨rfl, rfl⟩ | ⟨g, c, rfl⟩
  · exact ⟨none, 0, rfl⟩
  · exact ⟨some ⟨g, 0, none⟩, c, rfl⟩
theorem Own1.away {w : World} {base : Nat} {T : TypeId} {v : Value} {n : Nat} {A : Nat → Value} (h : Own1 w base T v n A) (a : Addr) (hne : v.ownBlock ≠ some a.block) (u : Value) : Own1 (w.setCell a u) base T v n A := by
  obtain ⟨ys, h1, h2⟩ := h
  exact ⟨ys, owns_setCell h1 hne u, h2⟩
section
variable {P : Program} {w : World}
theorem step_append_own {ops : Array Oper} {o : Oper} {a : Act} {K : Act → World → Prop} {Q : Exit → Act → World → Prop} {E : Prop} (hgd : o.guard = none) (s x : Operand) (t : TypeId)
    (ho : o.op = .call { callee := .builtin .append, args := #[s, x], argTypes := #[t, t] })
    (base : Nat) (e : TypeId) (i : TypeInfo) (z : Value) (size bytes : Nat) (ht : P.underlying t = some (.slice e)) (hi : P.info? e = some i) (hz : i.zero = some z)
    (hsize : i.size = size) (hby : i.bytes = bytes) (hzs : z.cells.size = size) (hsz : 0 < size)
    (v : Value) (n : Nat) (xs : List Value) (hs : a.eval s = v) (hown : w.ownsRow base e size v n xs)
    (ad : Addr) (m c : Nat) (news : List Value) (hx : a.eval x = .slice (some ad) m c) (hl : news.length = m * size) (hnews : ∀ j u, news[j]? = some u → w.cell? (ad.add j) = some u) (h1 : ∀ u ∈ news, u.oneCell' = true)
    (h63 : n + m ≤ maxLen) (hbytes : (n + m) * bytes ≤ 140737488355328) (hbase : base ≤ w.heap.size)
    (h : ∀ v' w', w'.ownsRow base e size v' (n + m) (xs ++ news) → w.grownBy w' v.ownBlock → (v' = .slice none 0 0 ↔ v = .slice none 0 0 ∧ m = 0) → K (a.put o.dst v') w') :
    if Region.wanted o (yielded ops a.tmps) = true then Oper.wp P o a w K Q else E := by
  rw [if_pos (by simp [Region.wanted, hgd])]
  exact wp_append_own w s x t ho base e i z size bytes ht hi hz hsize hby hzs hsz v n xs hs hown ad m c news hx hl hnews h1 h63 hbytes hbase h
end
/-- What an append may take: a slice (nil too) of m elements that reads as these cells. -/
def Src (w : World) (size : Nat) (x : Value) (m : Nat) (news : List Value) : Prop :=
  news.length = m * size ∧ (∀ u ∈ news, u.oneCell' = true) ∧ ((∃ c, x = .slice none 0 c ∧ m = 0) ∨ ∃ ad c, x = .slice (some ad) m c ∧ ∀ j u, news[j]? = some u → w.cell? (ad.add j) = some u)
theorem Src.ext {w w' : World} {size : Nat} {x : Value} {m : Nat} {news : List Value} (h : Src w size x m news) (he : Ext w w') : Src w' size x m news := by
  obtain ⟨h1, h2, h3⟩ := h
  refine ⟨h1, h2, ?_⟩
  rcases h3 with h3 | ⟨ad, c, e, h3⟩
  · exact .inl h3
  · exact .inr ⟨ad, c, e, fun j u hj => he.cell (h3 j u hj)⟩
theorem Src.strs {w : World} {v : Value} {n : Nat} {tx : Nat → ByteArray} (h : Row1At w v n (fun j => .string (tx j))) : Src w 1 v n (strL tx n) := by
  refine ⟨strL_len _ _, strL_one, ?_⟩
  obtain ⟨ao, c, rfl, hc, hx⟩ := id h
  cases ao with
  | some ad => exact .inr ⟨ad, c, rfl, strL_news h⟩
  | none =>
    refine .inl ⟨c, ?_⟩
    by_cases h0 : 0 < n
    · obtain ⟨b, o, e, _⟩ := hx h0
      cases e
    · have : n = 0 := by omega
      subst this
      exact ⟨rfl, rfl⟩
theorem Src.ints {w : World} {k : IntKind} {v : Value} {zs : List Int} (h : IntsAt w k v zs) : Src w 1 v zs.length (zs.map (Value.int k)) := by
  refine ⟨by simp, fun u hu => by obtain ⟨x, _, rfl⟩ := List.mem_map.1 hu; rfl, ?_⟩
  obtain ⟨ao, c, rfl, hc, hx⟩ := h
  by_cases h0 : 0 < zs.length
  · obtain ⟨b, o, rfl, h2⟩ := hx h0
    refine .inr ⟨_, c, rfl, fun j u hj => ?_⟩
    simp only [List.getElem?_map, Option.map_eq_some_iff] at hj
    obtain ⟨x, hx, rfl⟩ := hj
    have hjl : j < zs.length := (List.getElem?_eq_some_iff.1 hx).1
    have := h2 j hjl
    rw [at0, hx] at this
    rw [Addr.add_lit]; simpa using this
  · have e0 : zs = [] := List.eq_nil_of_length_eq_zero (by omega)
    subst e0
    cases ao with
    | none => exact .inl ⟨c, rfl, rfl⟩
    | some ad => exact .inr ⟨ad, c, rfl, fun j u hj => by simp at hj⟩
/-- The elements of a literal slice that the walk has just made. -/
theorem Src.made {w : World} {size : Nat} (zs : List Value) (n : Nat) (t : TypeId) (hl : zs.length = n * size) (h1 : ∀ u ∈ zs, u.oneCell' = true) : Src (w.alloc (.cells zs.toArray t)) size (.slice (some ⟨w.heap.size, 0, none⟩) n n) n zs :=
  ⟨hl, h1, .inr ⟨_, _, rfl, fun j u hj => by rw [Addr.add_lit, Nat.zero_add]; exact cells_of (new_block w _) j u (by simpa using hj)⟩⟩
section
variable {P : Program} {w : World}
theorem run_app_none (base : Nat) (t ty e : TypeId) (i : TypeInfo) (size : Nat) (ht : P.underlying t = some (.slice e)) (hi : P.info? e = some i)
    (v : Value) (n c : Nat) (xs : List Value) (hown : w.ownsRow base e size v n xs) :
    (Builtin.append_ #[t, t] ty #[v, .slice none 0 c]).run P w = .ok v w := by
  rcases hown.2 with ⟨rfl, rfl⟩ | ⟨g, cap, cur, rfl, _, _, hnc, _⟩
  · simp [Builtin.append_, run_underlying ht, sizeOf, typeInfo, hi, Builtin.lenOf, Builtin.firstCells]
  · simp [Builtin.append_, run_underlying ht, sizeOf, typeInfo, hi, Builtin.lenOf, Builtin.firstCells, hnc, storeCells]
/-- append onto an owned row, whatever the source. -/
theorem wp_app {o : Oper} {a : Act} {K : Act → World → Prop} {Q : Exit → Act → World → Prop} (s x : Operand) (t : TypeId)
    (ho : o.op = .call { callee := .builtin .append, args := #[s, x], argTypes := #[t, t] })
    (base : Nat) (e : TypeId) (i : TypeInfo) (z : Value) (size bytes : Nat) (ht : P.underlying t = some (.slice e)) (hi : P.info? e = some i) (hz : i.zero = some z)
    (hsize : i.size = size) (hby : i.bytes = bytes) (hzs : z.cells.size = size) (hsz : 0 < size)
    (v : Value) (n : Nat) (xs : List Value) (hs : a.eval s = v) (hown : w.ownsRow base e size v n xs)
    (y : Value) (m : Nat) (news : List Value) (hx : a.eval x = y) (hsrc : Src w size y m news)
    (h63 : n + m ≤ maxLen) (hbytes : (n + m) * bytes ≤ 140737488355328) (hbase : base ≤ w.heap.size)
    (h : ∀ v' w', w'.ownsRow base e size v' (n + m) (xs ++ news) → w.grownBy w' v.ownBlock → (v' = .slice none 0 0 ↔ v = .slice none 0 0 ∧ m = 0) → K (a.put o.dst v') w') : o.wp P a w K Q := by
  obtain ⟨h1, h2, h3⟩ := hsrc
  rcases h3 with ⟨c, rfl, rfl⟩ | ⟨ad, c, rfl, h3⟩
  · have hn : news = [] := List.eq_nil_of_length_eq_zero (by omega)
    subst hn
    have hr := run_app_none (P := P) (w := w) base t o.type e i size ht hi v n c xs hown
    unfold Oper.wp execOp
    simp only [ho, resolve, invoke, builtin, Sem.run_bind, Sem.run_pure, Result.andThen_ok, List.map_toArray, List.map_cons, List.map_nil, hs, hx, hr]
    exact h v w (by simpa using hown) (World.grownBy.refl w _) (by simp)
  · exact wp_append_own w s x t ho base e i z size bytes ht hi hz hsize hby hzs hsz v n xs hs hown ad m c news hx h1 h3 h2 h63 hbytes hbase h
theorem wpList_app {ops : Array Oper} {rest : List Oper} {o : Oper} {a : Act} {Q : Exit → Act → World → Prop} (hgd : o.guard = none) (s x : Operand) (t : TypeId)
    (ho : o.op = .call { callee := .builtin .append, args := #[s, x], argTypes := #[t, t] })
    (base : Nat) (e : TypeId) (i : TypeInfo) (z : Value) (size bytes : Nat) (ht : P.underlying t = some (.slice e)) (hi : P.info? e = some i) (hz : i.zero = some z)
    (hsize : i.size = size) (hby : i.bytes = bytes) (hzs : z.cells.size = size) (hsz : 0 < size)
    (v : Value) (n : Nat) (xs : List Value) (hs : a.eval s = v) (hown : w.ownsRow base e size v n xs)
    (y : Value) (m : Nat) (news : List Value) (hx : a.eval x = y) (hsrc : Src w size y m news)
    (h63 : n + m ≤ maxLen) (hbytes : (n + m) * bytes ≤ 140737488355328) (hbase : base ≤ w.heap.size)
    (h : ∀ v' w', w'.ownsRow base e size v' (n + m) (xs ++ news) → w.grownBy w' v.ownBlock → (v' = .slice none 0 0 ↔ v = .slice none 0 0 ∧ m = 0) → wpList P ops Q rest (a.put o.dst v') w') : wpList P ops Q (o :: rest) a w :=
  wpList_plain hgd fun _ hK => wp_app s x t ho base e i z size bytes ht hi hz hsize hby hzs hsz v n xs hs hown y m news hx hsrc h63 hbytes hbase fun v' w' h2 h3 h4 => hK _ _ (h v' w' h2 h3 h4)
theorem step_app {ops : Array Oper} {o : Oper} {a : Act} {K : Act → World → Prop} {Q : Exit → Act → World → Prop} {E : Prop} (hgd : o.guard = none) (s x : Operand) (t : TypeId)
    (ho : o.op = .call { callee := .builtin .append, args := #[s, x], argTypes := #[t, t] })
    (base : Nat) (e : TypeId) (i : TypeInfo) (z : Value) (size bytes : Nat) (ht : P.underlying t = some (.slice e)) (hi : P.info? e = some i) (hz : i.zero = some z)
    (hsize : i.size = size) (hby : i.bytes = bytes) (hzs : z.cells.size = size) (hsz : 0 < size)
    (v : Value) (n : Nat) (xs : List Value) (hs : a.eval s = v) (hown : w.ownsRow base e size v n xs)
    (y : Value) (m : Nat) (news : List Value) (hx : a.eval x = y) (hsrc : Src w size y m news)
    (h63 : n + m ≤ maxLen) (hbytes : (n + m) * bytes ≤ 140737488355328) (hbase : base ≤ w.heap.size)
    (h : ∀ v' w', w'.ownsRow base e size v' (n + m) (xs ++ news) → w.grownBy w' v.ownBlock → (v' = .slice none 0 0 ↔ v = .slice none 0 0 ∧ m = 0) → K (a.put o.dst v') w') :
    if Region.wanted o (yielded ops a.tmps) = true then Oper.wp P o a w K Q else E := by
  rw [if_pos (by simp [Region.wanted, hgd])]
  exact wp_app s x t ho base e i z size bytes ht hi hz hsize hby hzs hsz v n xs hs hown y m news hx hsrc h63 hbytes hbase h
end
theorem owns_nil (w : World) (base : Nat) (e : TypeId) (size : Nat) : w.ownsRow base e size (.slice none 0 0) 0 [] := ⟨by simp, .inl ⟨rfl, rfl⟩⟩
theorem owns_empty (w : World) (e : TypeId) (size : Nat) : (w.alloc (.cells #[] e)).ownsRow w.heap.size e size (.slice (some ⟨w.heap.size, 0, none⟩) 0 0) 0 [] := ⟨by simp, .inr ⟨w.heap.size, 0, #[], rfl, Nat.le_refl _, new_block w _, Nat.le_refl _, by unfold maxLen; omega, by simp, by simp⟩⟩
end Go.Proofs.YtdmkcpkmeokjiaaDoor

namespace Go.Proofs.YtdmkcpkmeokjiaaDoor
open Go.RowKit

set_option maxRecDepth 10000 in
set_option maxHeartbeats 1000000 in
theorem l5Copy_some (ad : Addr) (n ca : Nat) (tx : Nat → ByteArray) (w : World) (hv : Row1At w (.slice (some ad) n ca) n (fun j => .string (tx j))) (hn : n ≤ 1048576) :
    Calls Tryd.prog 15 #[.slice (some ad) n ca] w fun e w' => ∃ g c, e = .returned (.slice (some ⟨g, 0, none⟩) n c) ∧ Own1 w' w.heap.size 9 (.slice (some ⟨g, 0, none⟩) n c) n (fun j => .string (tx j)) ∧ Ext w w' := by
  obtain ⟨ic, hic, hc0, hc1, hc2⟩ := info_parts infoStrs
  have HN := hide (strL_news (hv.ext ((Ext.refl w).alloc (.cells #[] 9))))
  have HO : Hid ((w.alloc (.cells #[] 9)).ownsRow w.heap.size 9 1 (.slice (some ⟨w.heap.size, 0, none⟩) 0 0) 0 []) := hide ⟨by simp, .inr ⟨w.heap.size, 0, #[], rfl, Nat.le_refl _, new_block w _, Nat.le_refl _, by unfold maxLen; omega, by simp, by simp⟩⟩
  clear hv
  go_enter Tryd.func15, Tryd.ntmps15
  go_wp2_with (at_builtin; go_must (refine wpList_append_own _ rfl _ _ 23 rfl w.heap.size 9 ic (.string { data := #[] }) 1 16 Tryd.underlying23 hic hc0 hc1 hc2 rfl (by decide) _ 0 [] rfl (unhide HO) ad n ca (strL tx n) rfl (strL_len _ _) (unhide HN) strL_one (by unfold maxLen; omega) (by omega) (by simp) ?_))
  intro v2 w2 o2 G2 hnil
  have E2 : Ext w w2 := ((Ext.refl w).alloc _).grown G2 (fun q hq => by simp [Value.ownBlock] at hq; omega)
  have O2 := own_strL o2
  rcases O2.form with ⟨rfl, _⟩ | ⟨g, c, rfl⟩
  · exact absurd rfl hnil
  have HO2 := hide O2
  clear O2 o2 G2 hnil
  go_wp2
  go_ret
  exact ⟨g, c, rfl, unhide HO2, E2⟩
set_option linter.unusedSimpArgs false in
set_option maxRecDepth 10000 in
set_option maxHeartbeats 1000000 in
theorem copyHistory_some (cap : Int) (ad : Addr) (n ca : Nat) (tx : Nat → ByteArray) (w : World) (hv : Row1At w (.slice (some ad) n ca) n (fun j => .string (tx j))) (hn : n ≤ 1048576) :
    Calls Tryd.prog 18 #[.agg #[.int .i64 cap, .slice (some ad) n ca]] w fun e w' => ∃ v, e = .returned (.agg #[.int .i64 cap, v]) ∧ Own1 w' w.heap.size 9 v n (fun j => .string (tx j)) ∧ Ext w w' := by
  obtain ⟨ic, hic, hc0, hc1, hc2⟩ := info_parts infoStrs
  have EU := ((Ext.refl w).alloc (.cells #[.int .i64 cap, .slice (some ad) n ca] 25)).alloc (.cells #[.int .i64 0, .slice none 0 0] 25)
  have p0 : ((w.alloc (.cells #[.int .i64 cap, .slice (some ad) n ca] 25)).alloc (.cells #[.int .i64 0, .slice none 0 0] 25)).cell? ⟨w.heap.size, 0, none⟩ = some (.int .i64 cap) := by simp [go_sem]
  have p1 : ((w.alloc (.cells #[.int .i64 cap, .slice (some ad) n ca] 25)).alloc (.cells #[.int .i64 0, .slice none 0 0] 25)).cell? ⟨w.heap.size, 1, none⟩ = some (.slice (some ad) n ca) := by simp [go_sem]
  have p2 : ((w.alloc (.cells #[.int .i64 cap, .slice (some ad) n ca] 25)).alloc (.cells #[.int .i64 0, .slice none 0 0] 25)).cell? ⟨w.heap.size + 1, 0, none⟩ = some (.int .i64 0) := by simp [go_sem]
  have p3 : ((w.alloc (.cells #[.int .i64 cap, .slice (some ad) n ca] 25)).alloc (.cells #[.int .i64 0, .slice none 0 0] 25)).cell? ⟨w.heap.size + 1, 1, none⟩ = some (.slice none 0 0) := by simp [go_sem]
  have z2 : ((w.alloc (.cells #[.int .i64 cap, .slice (some ad) n ca] 25)).alloc (.cells #[.int .i64 0, .slice none 0 0] 25)).frozen? ⟨w.heap.size + 1, 0, none⟩ = false := by simp [go_sem]
  have z3 : ((w.alloc (.cells #[.int .i64 cap, .slice (some ad) n ca] 25)).alloc (.cells #[.int .i64 0, .slice none 0 0] 25)).frozen? ⟨w.heap.size + 1, 1, none⟩ = false := by simp [go_sem]
  obtain ⟨U, hU⟩ : ∃ U, U = (w.alloc (.cells #[.int .i64 cap, .slice (some ad) n ca] 25)).alloc (.cells #[.int .i64 0, .slice none 0 0] 25) := ⟨_, rfl⟩
  have hz : U.heap.size = w.heap.size + 2 := by rw [hU]; simp
  rw [← hU] at EU p0 p1 p2 p3 z2 z3
  have HU := hide hU
  have HN := hide (strL_news (hv.ext EU.drew))
  clear hv hU
  go_enter Tryd.func18, Tryd.ntmps18
  go_wp2
  rw [← unhide HU]
  clear HU
  refine wp_region_held_drew (S := fun W => W.cell? ⟨w.heap.size, 0, none⟩ = some (.int .i64 cap) ∧ W.cell? ⟨w.heap.size, 1, none⟩ = some (.slice (some ad) n ca)) (by kernel_rfl) ⟨p0, p1⟩ (fun hHeld => ?_)
  refine wpAnyH_take (i := 0) (v := ?_) rfl (by kernel_rfl) (by kernel_rfl) (by kernel_rfl) (fun _ _ _ h => h) (Or.inl ⟨by rfl, ?_⟩) (by assumption) ?_
  rotate_left
  · intro w' hSw; go_simp <;> with_reducible rfl
  simp only [Act.put, List.getElem_toArray, List.getElem_cons_succ, List.getElem_cons_zero, List.setIfInBounds_toArray, List.set_cons_zero, List.set_cons_succ]
  refine wpAnyH_take (i := 1) (v := ?_) rfl (by kernel_rfl) (by kernel_rfl) (by kernel_rfl) (fun _ _ _ h => h) (Or.inl ⟨by rfl, ?_⟩) (by assumption) ?_
  rotate_left
  · intro w' hSw; go_simp <;> with_reducible rfl
  simp only [Act.put, List.getElem_toArray, List.getElem_cons_succ, List.getElem_cons_zero, List.setIfInBounds_toArray, List.set_cons_zero, List.set_cons_succ]
  refine wpAnyH_take (i := 2) (v := ?_) rfl (by kernel_rfl) (by kernel_rfl) (by kernel_rfl) (fun _ _ _ h => h) (Or.inl ⟨by rfl, ?_⟩) (by assumption) ?_
  rotate_left
  · intro w' hSw; go_simp <;> with_reducible rfl
  simp only [Act.put, List.getElem_toArray, List.getElem_cons_succ, List.getElem_cons_zero, List.setIfInBounds_toArray, List.set_cons_zero, List.set_cons_succ]
  refine wpAnyH_take (i := 3) (v := ?_) rfl (by kernel_rfl) (by kernel_rfl) (by kernel_rfl) (fun _ _ _ h => h) (Or.inl ⟨by rfl, ?_⟩) (by assumption) ?_
  rotate_left
  · intro w' hSw; go_simp <;> with_reducible rfl
  simp only [Act.put, List.getElem_toArray, List.getElem_cons_succ, List.getElem_cons_zero, List.setIfInBounds_toArray, List.set_cons_zero, List.set_cons_succ]
  refine wpAnyH_ready (rs := [4]) (by kernel_rfl) (by simp) ?_
  refine AllReadyH.cons rfl (fun K hK => ?_) AllReadyH.nil
  refine step_append_own rfl _ _ 23 rfl (w.heap.size + 2) 9 ic (.string { data := #[] }) 1 16 Tryd.underlying23 hic hc0 hc1 hc2 rfl (by decide) (.slice none 0 0) 0 [] rfl ⟨rfl, .inl ⟨rfl, rfl⟩⟩ ad n ca (strL tx n) rfl (by simp [strL]) (unhide HN) strL_one (by unfold maxLen; omega) (by omega) (by simp; omega) ?_
  intro v2 w2 o2 G2 _
  have E2 : Ext U w2 := (Ext.refl U).drew.trans G2
  have O2 := own_strL (by simpa using o2)
  obtain ⟨a2, c2, rfl⟩ := O2.slice
  have HO2 := hide O2
  clear o2 O2 G2
  obtain ⟨_, hfz⟩ := E2.rules
  have f2 : w2.frozen? ⟨w.heap.size + 1, 0, none⟩ = false := by rw [hfz _ _ (by omega)]; exact z2
  have f3 : w2.frozen? ⟨w.heap.size + 1, 1, none⟩ = false := by rw [hfz _ _ (by omega)]; exact z3
  have q0 := E2.cell p0
  have q1 := E2.cell p1
  have q2 := E2.cell p2
  have q3 := E2.cell p3
  refine hK.out _ _ ⟨q0, q1⟩ (fun hHeld => ?_)
  clear hK K
  refine wpAnyH_take (i := 5) (v := ?_) rfl (by kernel_rfl) (by kernel_rfl) (by kernel_rfl) (fun _ _ _ h => h) (Or.inl ⟨by rfl, ?_⟩) (by assumption) ?_
  rotate_left
  · intro w' hSw; go_simp <;> with_reducible rfl
  simp only [Act.put, List.getElem_toArray, List.getElem_cons_succ, List.getElem_cons_zero, List.setIfInBounds_toArray, List.set_cons_zero, List.set_cons_succ]
  refine wpAnyH_ready (rs := [6]) (by kernel_rfl) (by simp) ?_
  refine AllReadyH.cons rfl (fun K hK => ?_) AllReadyH.nil
  go_simp
  have t0 : ((w2.setCell ⟨w.heap.size + 1, 0, none⟩ (.int .i64 cap)).setCell ⟨w.heap.size + 1, 1, none⟩ (.slice a2 n c2)).cell? ⟨w.heap.size, 0, none⟩ = some (.int .i64 cap) := by
    rw [World.cell?_setCell_other _ _ _ _ (by simp), World.cell?_setCell_other _ _ _ _ (by simp)]; exact q0
  have t1 : ((w2.setCell ⟨w.heap.size + 1, 0, none⟩ (.int .i64 cap)).setCell ⟨w.heap.size + 1, 1, none⟩ (.slice a2 n c2)).cell? ⟨w.heap.size, 1, none⟩ = some (.slice (some ad) n ca) := by
    rw [World.cell?_setCell_other _ _ _ _ (by simp), World.cell?_setCell_other _ _ _ _ (by simp)]; exact q1
  refine hK.out _ _ ⟨t0, t1⟩ (fun hHeld => ?_)
  refine wpAnyH_done (by kernel_rfl) ?_ _
  have r1 : ((w2.setCell ⟨w.heap.size + 1, 0, none⟩ (.int .i64 cap)).setCell ⟨w.heap.size + 1, 1, none⟩ (.slice a2 n c2)).cell? ⟨w.heap.size + 1, 1, none⟩ = some (.slice a2 n c2) :=
    World.cell?_setCell_same _ _ _ (by rw [World.cell?_setCell_other _ _ _ _ (by simp)]; exact q3)
  have r0 : ((w2.setCell ⟨w.heap.size + 1, 0, none⟩ (.int .i64 cap)).setCell ⟨w.heap.size + 1, 1, none⟩ (.slice a2 n c2)).cell? ⟨w.heap.size + 1, 0, none⟩ = some (.int .i64 cap) := by
    rw [World.cell?_setCell_other _ _ _ _ (by simp)]; exact World.cell?_setCell_same _ _ _ q2
  have hne : (Value.slice a2 n c2).ownBlock ≠ some (w.heap.size + 1) := by
    intro e
    have := ((unhide HO2).lt _ e).1
    omega
  have HO3 := hide ((((unhide HO2).away ⟨w.heap.size + 1, 0, none⟩ hne (.int .i64 cap))).away ⟨w.heap.size + 1, 1, none⟩ hne (.slice a2 n c2))
  have E3 : Ext w ((w2.setCell ⟨w.heap.size + 1, 0, none⟩ (.int .i64 cap)).setCell ⟨w.heap.size + 1, 1, none⟩ (.slice a2 n c2)) := ((EU.trans E2).setCell (by dsimp only; omega) _).setCell (by dsimp only; omega) _
  clear t0 t1 hHeld
  go_wp2
  refine bodyPost_ret (v := .agg #[.int .i64 cap, .slice a2 n c2]) (by simp [results, Tryd.results18, go_sem, r0, r1]) rfl ⟨_, rfl, (unhide HO3).mono (by omega), E3⟩
end Go.Proofs.YtdmkcpkmeokjiaaDoor
