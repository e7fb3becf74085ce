import Derived.Test.YtlnmpbdnmlpkiaaDoorCells
import Derived.Test.YtlnmpbdnmlpkiaaDoorWhole
import Derived.Deep.AppendLies
import Derived.Deep.RegionHeldLaw
import Derived.Test.YtlnmpbdnmlpkiaaDoorLineS
namespace Go.Proofs.YtlnmpbdnmlpkiaaDoor
open Go.RowKit

/-- Texts as cells. -/
def strL (tx : Nat → ByteArray) (n : Nat) : List Value := (List.range n).map (fun j => .string (tx j))
theorem strL_len (tx : Nat → ByteArray) (n : Nat) : (strL tx n).length = n * 1 := by simp [strL]
theorem strL_at (tx : Nat → ByteArray) (n j : Nat) (hj : j < n) : (strL tx n)[j]? = some (.string (tx j)) := by simp [strL, hj]
theorem strL_succ (tx : Nat → ByteArray) (n : Nat) : strL tx (n + 1) = strL tx n ++ [.string (tx n)] := by simp [strL, List.range_succ]
theorem strL_congr {tx ty : Nat → ByteArray} {n : Nat} (h : ∀ j, j < n → tx j = ty j) : strL tx n = strL ty n := by
  unfold strL
  apply List.map_congr_left
  intro j hj
  rw [h j (List.mem_range.1 hj)]
theorem strL_one {tx : Nat → ByteArray} {n : Nat} : ∀ u ∈ strL tx n, u.oneCell' = true := by
  intro u hu
  simp only [strL, List.mem_map] at hu
  obtain ⟨q, _, rfl⟩ := hu
  rfl
theorem strL_news {w : World} {ad : Addr} {n ca : Nat} {tx : Nat → ByteArray} (h : Row1At w (.slice (some ad) n ca) n (fun j => .string (tx j))) : ∀ j u, (strL tx n)[j]? = some u → w.cell? (ad.add j) = some u := by
  intro j u hu
  have hj : j < n := by
    have := (List.getElem?_eq_some_iff.1 hu).1
    simpa [strL] using this
  obtain ⟨ao, ca', e, _, hx⟩ := h
  simp only [Value.slice.injEq] at e
  obtain ⟨rfl, -, rfl⟩ := e
  obtain ⟨b, off, e, hc⟩ := hx (by omega)
  obtain rfl := Option.some.inj e
  rw [strL_at tx n j hj] at hu
  rw [Addr.add_lit, hc j hj]
  exact hu
theorem own_strL {w : World} {base : Nat} {T : TypeId} {v : Value} {n : Nat} {tx : Nat → ByteArray} (h : w.ownsRow base T 1 v n (strL tx n)) : Own1 w base T v n (fun j => .string (tx j)) :=
  ⟨_, h, fun j hj => strL_at tx n j hj⟩
theorem Own1.slice {w : World} {base : Nat} {T : TypeId} {v : Value} {n : Nat} {A : Nat → Value} (h : Own1 w base T v n A) : ∃ a c, v = .slice a n c := by
  rcases h.form with ⟨rfl, rfl⟩ | ⟨g, c, rfl⟩
  · exact ⟨none, 0, rfl⟩
  · exact ⟨some ⟨g, 0, none⟩, c, rfl⟩
theorem Own1.away {w : World} {base : Nat} {T : TypeId} {v : Value} {n : Nat} {A : Nat → Value} (h : Own1 w base T v n A) (a : Addr) (hne : v.ownBlock ≠ some a.block) (u : Value) : Own1 (w.setCell a u) base T v n A := by
  obtain ⟨ys, h1, h2⟩ := h
  exact ⟨ys, owns_setCell h1 hne u, h2⟩
section
variable {P : Program} {w : World}
theorem step_append_own {ops : Array Oper} {o : Oper} {a : Act} {K : Act → World → Prop} {Q : Exit → Act → World → Prop} {E : Prop} (hgd : o.guard = none) (s x : Operand) (t : TypeId)
    (ho : o.op = .call { callee := .builtin .append, args := #[s, x], argTypes := #[t, t] })
    (base : Nat) (e : TypeId) (i : TypeInfo) (z : Value) (size bytes : Nat) (ht : P.underlying t = some (.slice e)) (hi : P.info? e = some i) (hz : i.zero = some z)
    (hsize : i.size = size) (hby : i.bytes = bytes) (hzs : z.cells.size = size) (hsz : 0 < size)
    (v : Value) (n : Nat) (xs : List Value) (hs : a.eval s = v) (hown : w.ownsRow base e size v n xs)
    (ad : Addr) (m c : Nat) (news : List Value) (hx : a.eval x = .slice (some ad) m c) (hl : news.length = m * size) (hnews : ∀ j u, news[j]? = some u → w.cell? (ad.add j) = some u) (h1 : ∀ u ∈ news, u.oneCell' = true)
    (h63 : n + m ≤ maxLen) (hbytes : (n + m) * bytes ≤ 140737488355328) (hbase : base ≤ w.heap.size)
    (h : ∀ v' w', w'.ownsRow base e size v' (n + m) (xs ++ news) → w.grownBy w' v.ownBlock → (v' = .slice none 0 0 ↔ v = .slice none 0 0 ∧ m = 0) → K (a.put o.dst v') w') :
    if Region.wanted o (yielded ops a.tmps) = true then Oper.wp P o a w K Q else E := by
  rw [if_pos (by simp [Region.wanted, hgd])]
  exact wp_append_own w s x t ho base e i z size bytes ht hi hz hsize hby hzs hsz v n xs hs hown ad m c news hx hl hnews h1 h63 hbytes hbase h
end
/-- What an append may take: a slice (nil too) of m elements that reads as these cells. -/
def Src (w : World) (size : Nat) (x : Value) (m : Nat) (news : List Value) : Prop :=
  news.length = m * size ∧ (∀ u ∈ news, u.oneCell' = true) ∧ ((∃ c, x = .slice none 0 c ∧ m = 0) ∨ ∃ ad c, x = .slice (some ad) m c ∧ ∀ j u, news[j]? = some u → w.cell? (ad.add j) = some u)
theorem Src.ext {w w' : World} {size : Nat} {x : Value} {m : Nat} {news : List Value} (h : Src w size x m news) (he : Ext w w') : Src w' size x m news := by
  obtain ⟨h1, h2, h3⟩ := h
  refine ⟨h1, h2, ?_⟩
  rcases h3 with h3 | ⟨ad, c, e, h3⟩
  · exact .inl h3
  · exact .inr ⟨ad, c, e, fun j u hj => he.cell (h3 j u hj)⟩
theorem Src.strs {w : World} {v : Value} {n : Nat} {tx : Nat → ByteArray} (h : Row1At w v n (fun j => .string (tx j))) : Src w 1 v n (strL tx n) := by
  refine ⟨strL_len _ _, strL_one, ?_⟩
  obtain ⟨ao, c, rfl, hc, hx⟩ := id h
  cases ao with
  | some ad => exact .inr ⟨ad, c, rfl, strL_news h⟩
  | none =>
    refine .inl ⟨c, ?_⟩
    by_cases h0 : 0 < n
    · obtain ⟨b, o, e, _⟩ := hx h0
      cases e
    · have : n = 0 := by omega
      subst this
      exact ⟨rfl, rfl⟩
theorem Src.ints {w : World} {k : IntKind} {v : Value} {zs : List Int} (h : IntsAt w k v zs) : Src w 1 v zs.length (zs.map (Value.int k)) := by
  refine ⟨by simp, fun u hu => by obtain ⟨x, _, rfl⟩ := List.mem_map.1 hu; rfl, ?_⟩
  obtain ⟨ao, c, rfl, hc, hx⟩ := h
  by_cases h0 : 0 < zs.length
  · obtain ⟨b, o, rfl, h2⟩ := hx h0
    refine .inr ⟨_, c, rfl, fun j u hj => ?_⟩
    simp only [List.getElem?_map, Option.map_eq_some_iff] at hj
    obtain ⟨x, hx, rfl⟩ := hj
    have hjl : j < zs.length := (List.getElem?_eq_some_iff.1 hx).1
    have := h2 j hjl
    rw [at0, hx] at this
    rw [Addr.add_lit]; simpa using this
  · have e0 : zs = [] := List.eq_nil_of_length_eq_zero (by omega)
    subst e0
    cases ao with
    | none => exact .inl ⟨c, rfl, rfl⟩
    | some ad => exact .inr ⟨ad, c, rfl, fun j u hj => by simp at hj⟩
/-- The elements of a literal slice that the walk has just made. -/
theorem Src.made {w : World} {size : Nat} (zs : List Value) (n : Nat) (t : TypeId) (hl : zs.length = n * size) (h1 : ∀ u ∈ zs, u.oneCell' = true) : Src (w.alloc (.cells zs.toArray t)) size (.slice (some ⟨w.heap.size, 0, none⟩) n n) n zs :=
  ⟨hl, h1, .inr ⟨_, _, rfl, fun j u hj => by rw [Addr.add_lit, Nat.zero_add]; exact cells_of (new_block w _) j u (by simpa using hj)⟩⟩
section
variable {P : Program} {w : World}
theorem run_app_none (base : Nat) (t ty e : TypeId) (i : TypeInfo) (size : Nat) (ht : P.underlying t = some (.slice e)) (hi : P.info? e = some i)
    (v : Value) (n c : Nat) (xs : List Value) (hown : w.ownsRow base e size v n xs) :
    (Builtin.append_ #[t, t] ty #[v, .slice none 0 c]).run P w = .ok v w := by
  rcases hown.2 with ⟨rfl, rfl⟩ | ⟨g, cap, cur, rfl, _, _, hnc, _⟩
  · simp [Builtin.append_, run_underlying ht, sizeOf, typeInfo, hi, Builtin.lenOf, Builtin.firstCells]
  · simp [Builtin.append_, run_underlying ht, sizeOf, typeInfo, hi, Builtin.lenOf, Builtin.firstCells, hnc, storeCells]
/-- append onto an owned row, whatever the source. -/
theorem wp_app {o : Oper} {a : Act} {K : Act → World → Prop} {Q : Exit → Act → World → Prop} (s x : Operand) (t : TypeId)
    (ho : o.op = .call { callee := .builtin .append, args := #[s, x], argTypes := #[t, t] })
    (base : Nat) (e : TypeId) (i : TypeInfo) (z : Value) (size bytes : Nat) (ht : P.underlying t = some (.slice e)) (hi : P.info? e = some i) (hz : i.zero = some z)
    (hsize : i.size = size) (hby : i.bytes = bytes) (hzs : z.cells.size = size) (hsz : 0 < size)
    (v : Value) (n : Nat) (xs : List Value) (hs : a.eval s = v) (hown : w.ownsRow base e size v n xs)
    (y : Value) (m : Nat) (news : List Value) (hx : a.eval x = y) (hsrc : Src w size y m news)
    (h63 : n + m ≤ maxLen) (hbytes : (n + m) * bytes ≤ 140737488355328) (hbase : base ≤ w.heap.size)
    (h : ∀ v' w', w'.ownsRow base e size v' (n + m) (xs ++ news) → w.grownBy w' v.ownBlock → (v' = .slice none 0 0 ↔ v = .slice none 0 0 ∧ m = 0) → K (a.put o.dst v') w') : o.wp P a w K Q := by
  obtain ⟨h1, h2, h3⟩ := hsrc
  rcases h3 with ⟨c, rfl, rfl⟩ | ⟨ad, c, rfl, h3⟩
  · have hn : news = [] := List.eq_nil_of_length_eq_zero (by omega)
    subst hn
    have hr := run_app_none (P := P) (w := w) base t o.type e i size ht hi v n c xs hown
    unfold Oper.wp execOp
    simp only [ho, resolve, invoke, builtin, Sem.run_bind, Sem.run_pure, Result.andThen_ok, List.map_toArray, List.map_cons, List.map_nil, hs, hx, hr]
    exact h v w (by simpa using hown) (World.grownBy.refl w _) (by simp)
  · exact wp_append_own w s x t ho base e i z size bytes ht hi hz hsize hby hzs hsz v n xs hs hown ad m c news hx h1 h3 h2 h63 hbytes hbase h
theorem wpList_app {ops : Array Oper} {rest : List Oper} {o : Oper} {a : Act} {Q : Exit → Act → World → Prop} (hgd : o.guard = none) (s x : Operand) (t : TypeId)
    (ho : o.op = .call { callee := .builtin .append, args := #[s, x], argTypes := #[t, t] })
    (base : Nat) (e : TypeId) (i : TypeInfo) (z : Value) (size bytes : Nat) (ht : P.underlying t = some (.slice e)) (hi : P.info? e = some i) (hz : i.zero = some z)
    (hsize : i.size = size) (hby : i.bytes = bytes) (hzs : z.cells.size = size) (hsz : 0 < size)
    (v : Value) (n : Nat) (xs : List Value) (hs : a.eval s = v) (hown : w.ownsRow base e size v n xs)
    (y : Value) (m : Nat) (news : List Value) (hx : a.eval x = y) (hsrc : Src w size y m news)
    (h63 : n + m ≤ maxLen) (hbytes : (n + m) * bytes ≤ 140737488355328) (hbase : base ≤ w.heap.size)
    (h : ∀ v' w', w'.ownsRow base e size v' (n + m) (xs ++ news) → w.grownBy w' v.ownBlock → (v' = .slice none 0 0 ↔ v = .slice none 0 0 ∧ m = 0) → wpList P ops Q rest (a.put o.dst v') w') : wpList P ops Q (o :: rest) a w :=
  wpList_plain hgd fun _ hK => wp_app s x t ho base e i z size bytes ht hi hz hsize hby hzs hsz v n xs hs hown y m news hx hsrc h63 hbytes hbase fun v' w' h2 h3 h4 => hK _ _ (h v' w' h2 h3 h4)
theorem step_app {ops : Array Oper} {o : Oper} {a : Act} {K : Act → World → Prop} {Q : Exit → Act → World → Prop} {E : Prop} (hgd : o.guard = none) (s x : Operand) (t : TypeId)
    (ho : o.op = .call { callee := .builtin .append, args := #[s, x], argTypes := #[t, t] })
    (base : Nat) (e : TypeId) (i : TypeInfo) (z : Value) (size bytes : Nat) (ht : P.underlying t = some (.slice e)) (hi : P.info? e = some i) (hz : i.zero = some z)
    (hsize : i.size = size) (hby : i.bytes = bytes) (hzs : z.cells.size = size) (hsz : 0 < size)
    (v : Value) (n : Nat) (xs : List Value) (hs : a.eval s = v) (hown : w.ownsRow base e size v n xs)
    (y : Value) (m : Nat) (news : List Value) (hx : a.eval x = y) (hsrc : Src w size y m news)
    (h63 : n + m ≤ maxLen) (hbytes : (n + m) * bytes ≤ 140737488355328) (hbase : base ≤ w.heap.size)
    (h : ∀ v' w', w'.ownsRow base e size v' (n + m) (xs ++ news) → w.grownBy w' v.ownBlock → (v' = .slice none 0 0 ↔ v = .slice none 0 0 ∧ m = 0) → K (a.put o.dst v') w') :
    if Region.wanted o (yielded ops a.tmps) = true then Oper.wp P o a w K Q else E := by
  rw [if_pos (by simp [Region.wanted, hgd])]
  exact wp_app s x t ho base e i z size bytes ht hi hz hsize hby hzs hsz v n xs hs hown y m news hx hsrc h63 hbytes hbase h
end
theorem owns_nil (w : World) (base : Nat) (e : TypeId) (size : Nat) : w.ownsRow base e size (.slice none 0 0) 0 [] := ⟨by simp, .inl ⟨rfl, rfl⟩⟩
theorem owns_empty (w : World) (e : TypeId) (size : Nat) : (w.alloc (.cells #[] e)).ownsRow w.heap.size e size (.slice (some ⟨w.heap.size, 0, none⟩) 0 0) 0 [] := ⟨by simp, .inr ⟨w.heap.size, 0, #[], rfl, Nat.le_refl _, new_block w _, Nat.le_refl _, by unfold maxLen; omega, by simp, by simp⟩⟩
end Go.Proofs.YtlnmpbdnmlpkiaaDoor

namespace Go.Proofs.YtlnmpbdnmlpkiaaDoor
open Go.RowKit

set_option linter.unusedSimpArgs false in
set_option maxRecDepth 10000 in
set_option maxHeartbeats 8000000 in
theorem specLineOk_all (a b c : ByteArray) (ao : Option Addr) (n ca : Nat) (tx hf : Nat → ByteArray) (w : World) (hv : Row2At w (.slice ao n ca) n (fun j => .string (tx j)) (fun j => .string (hf j))) (ha : a.size ≤ 1048576) (hb : b.size ≤ 1048576) (hc : c.size ≤ 1048576) (hx : ∀ j, j < n → (tx j).size ≤ 1048576 ∧ (hf j).size ≤ 1048576) (ok : Bool) (hok : ok = true ↔ LineP a b c n tx hf) :
    Calls Tryd.prog 77 #[.agg #[.string a, .string b, .string c, .slice ao n ca]] w fun e w' => e = .returned (.bool ok) ∧ Ext w w' := by
  obtain ⟨ic, hic, hc0, hc1, hc2⟩ := info_parts infoSnap
  have HX := hide hx
  rw [lineP_iff] at hok
  by_cases hn : n ≤ 50
  · have hnI : (n : Int) ≤ 50 := by omega
    have hxa := hv
    obtain ⟨ao2, ca', hvv, hca, hxb⟩ := id hv
    have HK := hide hok
    have HV := hide hv
    clear hok hv hx hxa hxb hca
    have EW := ((Ext.refl w).alloc (.cells #[.string a, .string b, .string c, .slice ao n ca] 54)).alloc (.cells #[.string a, .string b, .string c, .string noT] 167)
    obtain ⟨U0, hU0⟩ : ∃ U0, U0 = w.alloc (.cells #[.string a, .string b, .string c, .slice ao n ca] 54) := ⟨_, rfl⟩
    have hz0 : U0.heap.size = w.heap.size + 1 := by rw [hU0]; simp
    rw [← hU0] at EW
    have OW := hide (owns_new U0 #[.string a, .string b, .string c, .string noT] 167 2 2 w.heap.size (by omega) rfl (by unfold maxLen; omega))
    rw [hz0] at OW
    obtain ⟨W1, hW1⟩ : ∃ W1, W1 = U0.alloc (.cells #[.string a, .string b, .string c, .string noT] 167) := ⟨_, rfl⟩
    have hz1 : W1.heap.size = w.heap.size + 2 := by rw [hW1]; simp [hz0]
    rw [← hW1] at EW OW
    rw [hU0] at hW1
    have HW := hide hW1
    have HN : Hid (Src W1 2 (.slice ao n ca) n (pairsL (fun j => .string (tx j)) (fun j => .string (hf j)) n)) := by
      refine hide ⟨pairsL_len _ _ _, pairsL_one, ?_⟩
      obtain ⟨ao', ca', hvv, hca, hxb⟩ := ((unhide HV).ext EW)
      simp only [Value.slice.injEq] at hvv
      obtain ⟨rfl, -, rfl⟩ := hvv
      by_cases h0 : n = 0
      · subst h0
        cases ao with
        | none => exact .inl ⟨ca, rfl, rfl⟩
        | some ad => exact .inr ⟨ad, ca, rfl, fun j u hu => by simp [pairsL] at hu⟩
      · obtain ⟨bb, off, e, hcc⟩ := hxb (by omega)
        subst e
        exact .inr ⟨_, ca, rfl, pairsL_news hcc⟩
    clear hU0 hz0 hW1 hvv
    go_enter Tryd.func77, Tryd.ntmps77
    go_wp2_with (at_builtin; rw [← unhide HW]; go_must (refine wpList_app rfl _ _ 52 rfl w.heap.size 167 ic (.agg #[.string noT, .string noT]) 2 32 Tryd.underlying52 hic hc0 hc1 hc2 rfl (by decide) _ 2 [.string a, .string b, .string c, .string noT] rfl (unhide OW) _ n (pairsL (fun j => .string (tx j)) (fun j => .string (hf j)) n) rfl (unhide HN) (by unfold maxLen; omega) (by omega) (by omega) ?_))
    intro v2 w2 o2 G2 _
    have E2 : Ext w w2 := EW.grown G2 (fun q hq => by simp [Value.ownBlock] at hq; omega)
    have o2' := sn_own o2
    obtain ⟨a2, c2, rfl, hc2', hx2⟩ := o2'.reads
    have H2 := hide hx2
    clear o2 o2' hx2 G2 HN OW HV
    go_wp2
    go_loopw [4] (fun i wr => ∃ k : Nat, k ≤ 2 + n ∧ i = .int .i64 k ∧ Hid (∀ j, j < k → SnapP (baL (snT a c tx j)) (baL (snH b hf j))) ∧ Ext w2 wr) (fun i _ => 2 + n - (intOf i).toNat)
    case atStart => exact ⟨0, Nat.zero_le _, rfl, hide (fun j hj => by omega), Ext.refl _⟩
    case round =>
      obtain ⟨k, hk, rfl, HJ, hext⟩ := hrel
      by_cases hlt : k < 2 + n
      · obtain ⟨bb, off, hao, hcc⟩ := (unhide H2) (by omega)
        subst hao
        have g1 := hext.cell (hcc k hlt).1
        have g2 := hext.cell (hcc k hlt).2
        have bk : (k : Int) < 2 + (n : Int) := by omega
        have hsT := snT_size (n := n) ha hc (fun j hj => ((unhide HX) j hj).1) k (by omega)
        have hsH := snH_size (n := n) hb (fun j hj => ((unhide HX) j hj).2) k (by omega)
        have HS2 := hide (fun (h : SnapP (baL (snT a c tx k)) (baL (snH b hf k))) j (hj : j < k + 1) => show SnapP (baL (snT a c tx j)) (baL (snH b hf j)) by
          by_cases e : j = k
          · subst e; exact h
          · exact (unhide HJ) j (by omega))
        have HF := hide (fun (h : ¬ SnapP (baL (snT a c tx k)) (baL (snH b hf k))) => not_ok (unhide HK) (fun hh => h (hh.2 k (by omega))))
        obtain ⟨T, hT⟩ : ∃ T, T = snT a c tx k := ⟨_, rfl⟩
        obtain ⟨H, hH⟩ : ∃ H, H = snH b hf k := ⟨_, rfl⟩
        rw [← hT] at g1 hsT HS2 HF
        rw [← hH] at g2 hsH HS2 HF
        clear hT hH hcc
        have hbU := new_block wr (.cells #[.string T, .string H] 167)
        have EU := hext.alloc (.cells #[.string T, .string H] 167)
        obtain ⟨U, hU⟩ : ∃ U, U = wr.alloc (.cells #[.string T, .string H] 167) := ⟨_, rfl⟩
        rw [← hU] at hbU EU
        have p0 := cells_of hbU 0 _ rfl
        have p1 := cells_of hbU 1 _ rfl
        have HU := hide hU
        clear hU hbU
        by_cases hTP : TextP (baL T)
        · have hcT := hide (fun W => l4TextOk_ba T W hsT true (by simp [hTP]))
          by_cases hHP : TextP (baL H)
          · have hcH := hide (fun W => l4TextOk_ba H W hsH true (by simp [hHP]))
            have hrT := hide (fun W => l4Count_ba T W hsT)
            have hrH := hide (fun W => l4Count_ba H W hsH)
            have hkA := cleanL_len (baL T)
            have hkB := cleanL_len (baL H)
            rw [baL_len] at hkA hkB
            have hw : IntKind.i64.wrap (((cleanL (baL T)).length : Int) + ((cleanL (baL H)).length : Int)) = ((cleanL (baL T)).length : Int) + ((cleanL (baL H)).length : Int) := by rw [IntKind.wrap_i64]; omega
            have tokA : True := trivial
            have tokB : True := trivial
            by_cases hle : ((cleanL (baL T)).length : Int) + ((cleanL (baL H)).length : Int) ≤ 300
            · have HJ2 := hide ((unhide HS2) ⟨hTP.1, hHP.1, by omega⟩)
              clear HS2 HF hTP hHP
              go_wp2
              rw [← unhide HU]
              clear HU
              first
                | (go_region_held_law (fun W => W.cell? ⟨wr.heap.size, 0, none⟩ = some (.string T) ∧ W.cell? ⟨wr.heap.size, 1, none⟩ = some (.string H)) (first | exact ⟨p0, p1⟩ | exact ⟨he'.cell p0, he'.cell p1⟩)
                    (first
                      | (go_at_call 78; have _t := tokA; refine ((unhide hcT) _).mono ?_; rintro e w5 ⟨rfl, F5⟩; have he' := (Ext.refl U).drew.trans F5; clear tokA F5)
                      | (go_at_call 78; refine ((unhide hcH) _).mono ?_; rintro e w6 ⟨rfl, F6⟩; have he' := he'.trans F6; clear F6)
                      | (go_at_call 136; have _t := tokB; refine ((unhide hrT) _).mono ?_; rintro e w7 ⟨rfl, F7⟩; have he' := he'.trans F7; clear tokB F7)
                      | (go_at_call 136; refine ((unhide hrH) _).mono ?_; rintro e w8 ⟨rfl, F8⟩; have he' := he'.trans F8; clear F8)))
                | fail
              all_goals
                have hE2 := EU.trans he'
                go_wp2
                go_roundw
                case rel => exact ⟨k + 1, by omega, by go_num, HJ2, hE2⟩
                case measure => simp [intOf]; omega
            · have hfin := hide ((unhide HF) (fun h => hle (by have := h.2.2; omega)))
              clear HS2 HF hTP hHP
              go_wp2
              rw [← unhide HU]
              clear HU
              first
                | (go_region_held_law (fun W => W.cell? ⟨wr.heap.size, 0, none⟩ = some (.string T) ∧ W.cell? ⟨wr.heap.size, 1, none⟩ = some (.string H)) (first | exact ⟨p0, p1⟩ | exact ⟨he'.cell p0, he'.cell p1⟩)
                    (first
                      | (go_at_call 78; have _t := tokA; refine ((unhide hcT) _).mono ?_; rintro e w5 ⟨rfl, F5⟩; have he' := (Ext.refl U).drew.trans F5; clear tokA F5)
                      | (go_at_call 78; refine ((unhide hcH) _).mono ?_; rintro e w6 ⟨rfl, F6⟩; have he' := he'.trans F6; clear F6)
                      | (go_at_call 136; have _t := tokB; refine ((unhide hrT) _).mono ?_; rintro e w7 ⟨rfl, F7⟩; have he' := he'.trans F7; clear tokB F7)
                      | (go_at_call 136; refine ((unhide hrH) _).mono ?_; rintro e w8 ⟨rfl, F8⟩; have he' := he'.trans F8; clear F8)))
                | fail
              all_goals
                go_wp2
                go_ret
                exact ⟨ret_bool (unhide hfin).symm, E2.trans (EU.trans he')⟩
          · have hcH := hide (fun W => l4TextOk_ba H W hsH false (by simp [hHP]))
            have hfin := hide ((unhide HF) (fun h => hHP ⟨h.2.1, by have := h.2.2; omega⟩))
            clear HS2 HF hTP hHP
            go_wp2
            rw [← unhide HU]
            clear HU
            refine wp_region_held_drew (S := fun W => W.cell? ⟨wr.heap.size, 0, none⟩ = some (.string T) ∧ W.cell? ⟨wr.heap.size, 1, none⟩ = some (.string H)) (by kernel_rfl) ⟨p0, p1⟩ (fun hHeld => ?_)
            refine wpAnyH_take (i := 0) (v := ?_) rfl (by kernel_rfl) (by kernel_rfl) (by kernel_rfl) (fun _ _ _ h => h) (Or.inl ⟨by rfl, ?_⟩) (by assumption) ?_
            rotate_left
            · intro w' hSw; go_simp <;> with_reducible rfl
            simp only [Act.put, List.getElem_toArray, List.getElem_cons_succ, List.getElem_cons_zero, List.setIfInBounds_toArray, List.set_cons_zero, List.set_cons_succ]
            refine wpAnyH_take (i := 1) (v := ?_) rfl (by kernel_rfl) (by kernel_rfl) (by kernel_rfl) (fun _ _ _ h => h) (Or.inl ⟨by rfl, ?_⟩) (by assumption) ?_
            rotate_left
            · intro w' hSw; go_simp <;> with_reducible rfl
            simp only [Act.put, List.getElem_toArray, List.getElem_cons_succ, List.getElem_cons_zero, List.setIfInBounds_toArray, List.set_cons_zero, List.set_cons_succ]
            refine wpAnyH_ready (rs := [2]) (by kernel_rfl) (by simp) ?_
            refine AllReadyH.cons rfl (fun K hK => ?_) AllReadyH.nil
            go_simp
            go_wp2_with (go_at_call 78; refine ((unhide hcT) _).mono ?_; rintro e w5 ⟨rfl, F5⟩; have he' := (Ext.refl U).drew.trans F5; clear F5)
            refine hK.out _ _ ⟨he'.cell p0, he'.cell p1⟩ (fun hHeld => ?_)
            clear hK K
            refine wpAnyH_take (i := 3) (v := ?_) rfl (by kernel_rfl) (by kernel_rfl) (by kernel_rfl) (fun _ _ _ h => h) (Or.inl ⟨by rfl, ?_⟩) (by assumption) ?_
            rotate_left
            · intro w' hSw; go_simp <;> with_reducible rfl
            simp only [Act.put, List.getElem_toArray, List.getElem_cons_succ, List.getElem_cons_zero, List.setIfInBounds_toArray, List.set_cons_zero, List.set_cons_succ]
            refine wpAnyH_take (i := 4) (v := ?_) rfl (by kernel_rfl) (by kernel_rfl) (by kernel_rfl) (fun _ _ _ h => h) (Or.inl ⟨by rfl, ?_⟩) (by assumption) ?_
            rotate_left
            · intro w' hSw; go_simp <;> with_reducible rfl
            simp only [Act.put, List.getElem_toArray, List.getElem_cons_succ, List.getElem_cons_zero, List.setIfInBounds_toArray, List.set_cons_zero, List.set_cons_succ]
            refine wpAnyH_take (i := 5) (v := ?_) rfl (by kernel_rfl) (by kernel_rfl) (by kernel_rfl) (fun _ _ _ h => h) (Or.inl ⟨by rfl, ?_⟩) (by assumption) ?_
            rotate_left
            · intro w' hSw; go_simp <;> with_reducible rfl
            simp only [Act.put, List.getElem_toArray, List.getElem_cons_succ, List.getElem_cons_zero, List.setIfInBounds_toArray, List.set_cons_zero, List.set_cons_succ]
            refine wpAnyH_take (i := 6) (v := ?_) rfl (by kernel_rfl) (by kernel_rfl) (by kernel_rfl) (fun _ _ _ h => h) (Or.inl ⟨by rfl, ?_⟩) (by assumption) ?_
            rotate_left
            · intro w' hSw; go_simp <;> with_reducible rfl
            simp only [Act.put, List.getElem_toArray, List.getElem_cons_succ, List.getElem_cons_zero, List.setIfInBounds_toArray, List.set_cons_zero, List.set_cons_succ]
            refine wpAnyH_ready (rs := [7]) (by kernel_rfl) (by simp) ?_
            refine AllReadyH.cons rfl (fun K hK => ?_) AllReadyH.nil
            go_simp
            go_wp2_with (go_at_call 78; refine ((unhide hcH) _).mono ?_; rintro e w6 ⟨rfl, F6⟩; have he' := he'.trans F6; clear F6)
            refine hK.out _ _ ⟨he'.cell p0, he'.cell p1⟩ (fun hHeld => ?_)
            clear hK K
            refine wpAnyH_take (i := 8) (v := ?_) rfl (by kernel_rfl) (by kernel_rfl) (by kernel_rfl) (fun _ _ _ h => h) (Or.inl ⟨by rfl, ?_⟩) (by assumption) ?_
            rotate_left
            · intro w' hSw; go_simp <;> with_reducible rfl
            simp only [Act.put, List.getElem_toArray, List.getElem_cons_succ, List.getElem_cons_zero, List.setIfInBounds_toArray, List.set_cons_zero, List.set_cons_succ]
            refine wpAnyH_take (i := 9) (v := ?_) rfl (by kernel_rfl) (by kernel_rfl) (by kernel_rfl) (fun _ _ _ h => h) (Or.inl ⟨by rfl, ?_⟩) (by assumption) ?_
            rotate_left
            · intro w' hSw; go_simp <;> with_reducible rfl
            simp only [Act.put, List.getElem_toArray, List.getElem_cons_succ, List.getElem_cons_zero, List.setIfInBounds_toArray, List.set_cons_zero, List.set_cons_succ]
            refine wpAnyH_take (i := 10) (v := ?_) rfl (by kernel_rfl) (by kernel_rfl) (by kernel_rfl) (fun _ _ _ h => h) (Or.inl ⟨by rfl, ?_⟩) (by assumption) ?_
            rotate_left
            · intro w' hSw; go_simp <;> with_reducible rfl
            simp only [Act.put, List.getElem_toArray, List.getElem_cons_succ, List.getElem_cons_zero, List.setIfInBounds_toArray, List.set_cons_zero, List.set_cons_succ]
            refine wpAnyH_take (i := 11) (v := undef) rfl (by kernel_rfl) (by kernel_rfl) (by kernel_rfl) (fun _ _ _ h => h) (Or.inr ⟨by rfl, rfl⟩) (by assumption) ?_
            simp only [Act.put, List.getElem_toArray, List.getElem_cons_succ, List.getElem_cons_zero, List.setIfInBounds_toArray, List.set_cons_zero, List.set_cons_succ]
            refine wpAnyH_take (i := 12) (v := undef) rfl (by kernel_rfl) (by kernel_rfl) (by kernel_rfl) (fun _ _ _ h => h) (Or.inr ⟨by rfl, rfl⟩) (by assumption) ?_
            simp only [Act.put, List.getElem_toArray, List.getElem_cons_succ, List.getElem_cons_zero, List.setIfInBounds_toArray, List.set_cons_zero, List.set_cons_succ]
            refine wpAnyH_take (i := 13) (v := undef) rfl (by kernel_rfl) (by kernel_rfl) (by kernel_rfl) (fun _ _ _ h => h) (Or.inr ⟨by rfl, rfl⟩) (by assumption) ?_
            simp only [Act.put, List.getElem_toArray, List.getElem_cons_succ, List.getElem_cons_zero, List.setIfInBounds_toArray, List.set_cons_zero, List.set_cons_succ]
            refine wpAnyH_take (i := 14) (v := undef) rfl (by kernel_rfl) (by kernel_rfl) (by kernel_rfl) (fun _ _ _ h => h) (Or.inr ⟨by rfl, rfl⟩) (by assumption) ?_
            simp only [Act.put, List.getElem_toArray, List.getElem_cons_succ, List.getElem_cons_zero, List.setIfInBounds_toArray, List.set_cons_zero, List.set_cons_succ]
            refine wpAnyH_take (i := 15) (v := undef) rfl (by kernel_rfl) (by kernel_rfl) (by kernel_rfl) (fun _ _ _ h => h) (Or.inr ⟨by rfl, rfl⟩) (by assumption) ?_
            simp only [Act.put, List.getElem_toArray, List.getElem_cons_succ, List.getElem_cons_zero, List.setIfInBounds_toArray, List.set_cons_zero, List.set_cons_succ]
            refine wpAnyH_take (i := 16) (v := undef) rfl (by kernel_rfl) (by kernel_rfl) (by kernel_rfl) (fun _ _ _ h => h) (Or.inr ⟨by rfl, rfl⟩) (by assumption) ?_
            simp only [Act.put, List.getElem_toArray, List.getElem_cons_succ, List.getElem_cons_zero, List.setIfInBounds_toArray, List.set_cons_zero, List.set_cons_succ]
            refine wpAnyH_take (i := 17) (v := undef) rfl (by kernel_rfl) (by kernel_rfl) (by kernel_rfl) (fun _ _ _ h => h) (Or.inr ⟨by rfl, rfl⟩) (by assumption) ?_
            simp only [Act.put, List.getElem_toArray, List.getElem_cons_succ, List.getElem_cons_zero, List.setIfInBounds_toArray, List.set_cons_zero, List.set_cons_succ]
            refine wpAnyH_take (i := 18) (v := undef) rfl (by kernel_rfl) (by kernel_rfl) (by kernel_rfl) (fun _ _ _ h => h) (Or.inr ⟨by rfl, rfl⟩) (by assumption) ?_
            simp only [Act.put, List.getElem_toArray, List.getElem_cons_succ, List.getElem_cons_zero, List.setIfInBounds_toArray, List.set_cons_zero, List.set_cons_succ]
            refine wpAnyH_take (i := 19) (v := ?_) rfl (by kernel_rfl) (by kernel_rfl) (by kernel_rfl) (fun _ _ _ h => h) (Or.inl ⟨by rfl, ?_⟩) (by assumption) ?_
            rotate_left
            · intro w' hSw; go_simp <;> with_reducible rfl
            simp only [Act.put, List.getElem_toArray, List.getElem_cons_succ, List.getElem_cons_zero, List.setIfInBounds_toArray, List.set_cons_zero, List.set_cons_succ]
            refine wpAnyH_done (by kernel_rfl) ?_ _
            go_wp2
            go_ret
            exact ⟨ret_bool (unhide hfin).symm, E2.trans (EU.trans he')⟩
        · have hcT := hide (fun W => l4TextOk_ba T W hsT false (by simp [hTP]))
          have hfin := hide ((unhide HF) (fun h => hTP ⟨h.1, by have := h.2.2; omega⟩))
          clear HS2 HF hTP
          go_wp2
          rw [← unhide HU]
          clear HU
          refine wp_region_held_drew (S := fun W => W.cell? ⟨wr.heap.size, 0, none⟩ = some (.string T) ∧ W.cell? ⟨wr.heap.size, 1, none⟩ = some (.string H)) (by kernel_rfl) ⟨p0, p1⟩ (fun hHeld => ?_)
          refine wpAnyH_take (i := 0) (v := ?_) rfl (by kernel_rfl) (by kernel_rfl) (by kernel_rfl) (fun _ _ _ h => h) (Or.inl ⟨by rfl, ?_⟩) (by assumption) ?_
          rotate_left
          · intro w' hSw; go_simp <;> with_reducible rfl
          simp only [Act.put, List.getElem_toArray, List.getElem_cons_succ, List.getElem_cons_zero, List.setIfInBounds_toArray, List.set_cons_zero, List.set_cons_succ]
          refine wpAnyH_take (i := 1) (v := ?_) rfl (by kernel_rfl) (by kernel_rfl) (by kernel_rfl) (fun _ _ _ h => h) (Or.inl ⟨by rfl, ?_⟩) (by assumption) ?_
          rotate_left
          · intro w' hSw; go_simp <;> with_reducible rfl
          simp only [Act.put, List.getElem_toArray, List.getElem_cons_succ, List.getElem_cons_zero, List.setIfInBounds_toArray, List.set_cons_zero, List.set_cons_succ]
          refine wpAnyH_ready (rs := [2]) (by kernel_rfl) (by simp) ?_
          refine AllReadyH.cons rfl (fun K hK => ?_) AllReadyH.nil
          go_simp
          go_wp2_with (go_at_call 78; refine ((unhide hcT) _).mono ?_; rintro e w5 ⟨rfl, F5⟩; have he' := (Ext.refl U).drew.trans F5; clear F5)
          refine hK.out _ _ ⟨he'.cell p0, he'.cell p1⟩ (fun hHeld => ?_)
          clear hK K
          refine wpAnyH_take (i := 3) (v := ?_) rfl (by kernel_rfl) (by kernel_rfl) (by kernel_rfl) (fun _ _ _ h => h) (Or.inl ⟨by rfl, ?_⟩) (by assumption) ?_
          rotate_left
          · intro w' hSw; go_simp <;> with_reducible rfl
          simp only [Act.put, List.getElem_toArray, List.getElem_cons_succ, List.getElem_cons_zero, List.setIfInBounds_toArray, List.set_cons_zero, List.set_cons_succ]
          refine wpAnyH_take (i := 4) (v := ?_) rfl (by kernel_rfl) (by kernel_rfl) (by kernel_rfl) (fun _ _ _ h => h) (Or.inl ⟨by rfl, ?_⟩) (by assumption) ?_
          rotate_left
          · intro w' hSw; go_simp <;> with_reducible rfl
          simp only [Act.put, List.getElem_toArray, List.getElem_cons_succ, List.getElem_cons_zero, List.setIfInBounds_toArray, List.set_cons_zero, List.set_cons_succ]
          refine wpAnyH_take (i := 5) (v := undef) rfl (by kernel_rfl) (by kernel_rfl) (by kernel_rfl) (fun _ _ _ h => h) (Or.inr ⟨by rfl, rfl⟩) (by assumption) ?_
          simp only [Act.put, List.getElem_toArray, List.getElem_cons_succ, List.getElem_cons_zero, List.setIfInBounds_toArray, List.set_cons_zero, List.set_cons_succ]
          refine wpAnyH_take (i := 6) (v := undef) rfl (by kernel_rfl) (by kernel_rfl) (by kernel_rfl) (fun _ _ _ h => h) (Or.inr ⟨by rfl, rfl⟩) (by assumption) ?_
          simp only [Act.put, List.getElem_toArray, List.getElem_cons_succ, List.getElem_cons_zero, List.setIfInBounds_toArray, List.set_cons_zero, List.set_cons_succ]
          refine wpAnyH_take (i := 7) (v := undef) rfl (by kernel_rfl) (by kernel_rfl) (by kernel_rfl) (fun _ _ _ h => h) (Or.inr ⟨by rfl, rfl⟩) (by assumption) ?_
          simp only [Act.put, List.getElem_toArray, List.getElem_cons_succ, List.getElem_cons_zero, List.setIfInBounds_toArray, List.set_cons_zero, List.set_cons_succ]
          refine wpAnyH_take (i := 8) (v := undef) rfl (by kernel_rfl) (by kernel_rfl) (by kernel_rfl) (fun _ _ _ h => h) (Or.inr ⟨by rfl, rfl⟩) (by assumption) ?_
          simp only [Act.put, List.getElem_toArray, List.getElem_cons_succ, List.getElem_cons_zero, List.setIfInBounds_toArray, List.set_cons_zero, List.set_cons_succ]
          refine wpAnyH_take (i := 9) (v := ?_) rfl (by kernel_rfl) (by kernel_rfl) (by kernel_rfl) (fun _ _ _ h => h) (Or.inl ⟨by rfl, ?_⟩) (by assumption) ?_
          rotate_left
          · intro w' hSw; go_simp <;> with_reducible rfl
          simp only [Act.put, List.getElem_toArray, List.getElem_cons_succ, List.getElem_cons_zero, List.setIfInBounds_toArray, List.set_cons_zero, List.set_cons_succ]
          refine wpAnyH_take (i := 10) (v := ?_) rfl (by kernel_rfl) (by kernel_rfl) (by kernel_rfl) (fun _ _ _ h => h) (Or.inl ⟨by rfl, ?_⟩) (by assumption) ?_
          rotate_left
          · intro w' hSw; go_simp <;> with_reducible rfl
          simp only [Act.put, List.getElem_toArray, List.getElem_cons_succ, List.getElem_cons_zero, List.setIfInBounds_toArray, List.set_cons_zero, List.set_cons_succ]
          refine wpAnyH_take (i := 11) (v := undef) rfl (by kernel_rfl) (by kernel_rfl) (by kernel_rfl) (fun _ _ _ h => h) (Or.inr ⟨by rfl, rfl⟩) (by assumption) ?_
          simp only [Act.put, List.getElem_toArray, List.getElem_cons_succ, List.getElem_cons_zero, List.setIfInBounds_toArray, List.set_cons_zero, List.set_cons_succ]
          refine wpAnyH_take (i := 12) (v := undef) rfl (by kernel_rfl) (by kernel_rfl) (by kernel_rfl) (fun _ _ _ h => h) (Or.inr ⟨by rfl, rfl⟩) (by assumption) ?_
          simp only [Act.put, List.getElem_toArray, List.getElem_cons_succ, List.getElem_cons_zero, List.setIfInBounds_toArray, List.set_cons_zero, List.set_cons_succ]
          refine wpAnyH_take (i := 13) (v := undef) rfl (by kernel_rfl) (by kernel_rfl) (by kernel_rfl) (fun _ _ _ h => h) (Or.inr ⟨by rfl, rfl⟩) (by assumption) ?_
          simp only [Act.put, List.getElem_toArray, List.getElem_cons_succ, List.getElem_cons_zero, List.setIfInBounds_toArray, List.set_cons_zero, List.set_cons_succ]
          refine wpAnyH_take (i := 14) (v := undef) rfl (by kernel_rfl) (by kernel_rfl) (by kernel_rfl) (fun _ _ _ h => h) (Or.inr ⟨by rfl, rfl⟩) (by assumption) ?_
          simp only [Act.put, List.getElem_toArray, List.getElem_cons_succ, List.getElem_cons_zero, List.setIfInBounds_toArray, List.set_cons_zero, List.set_cons_succ]
          refine wpAnyH_take (i := 15) (v := undef) rfl (by kernel_rfl) (by kernel_rfl) (by kernel_rfl) (fun _ _ _ h => h) (Or.inr ⟨by rfl, rfl⟩) (by assumption) ?_
          simp only [Act.put, List.getElem_toArray, List.getElem_cons_succ, List.getElem_cons_zero, List.setIfInBounds_toArray, List.set_cons_zero, List.set_cons_succ]
          refine wpAnyH_take (i := 16) (v := undef) rfl (by kernel_rfl) (by kernel_rfl) (by kernel_rfl) (fun _ _ _ h => h) (Or.inr ⟨by rfl, rfl⟩) (by assumption) ?_
          simp only [Act.put, List.getElem_toArray, List.getElem_cons_succ, List.getElem_cons_zero, List.setIfInBounds_toArray, List.set_cons_zero, List.set_cons_succ]
          refine wpAnyH_take (i := 17) (v := undef) rfl (by kernel_rfl) (by kernel_rfl) (by kernel_rfl) (fun _ _ _ h => h) (Or.inr ⟨by rfl, rfl⟩) (by assumption) ?_
          simp only [Act.put, List.getElem_toArray, List.getElem_cons_succ, List.getElem_cons_zero, List.setIfInBounds_toArray, List.set_cons_zero, List.set_cons_succ]
          refine wpAnyH_take (i := 18) (v := undef) rfl (by kernel_rfl) (by kernel_rfl) (by kernel_rfl) (fun _ _ _ h => h) (Or.inr ⟨by rfl, rfl⟩) (by assumption) ?_
          simp only [Act.put, List.getElem_toArray, List.getElem_cons_succ, List.getElem_cons_zero, List.setIfInBounds_toArray, List.set_cons_zero, List.set_cons_succ]
          refine wpAnyH_take (i := 19) (v := ?_) rfl (by kernel_rfl) (by kernel_rfl) (by kernel_rfl) (fun _ _ _ h => h) (Or.inl ⟨by rfl, ?_⟩) (by assumption) ?_
          rotate_left
          · intro w' hSw; go_simp <;> with_reducible rfl
          simp only [Act.put, List.getElem_toArray, List.getElem_cons_succ, List.getElem_cons_zero, List.setIfInBounds_toArray, List.set_cons_zero, List.set_cons_succ]
          refine wpAnyH_done (by kernel_rfl) ?_ _
          go_wp2
          go_ret
          exact ⟨ret_bool (unhide hfin).symm, E2.trans (EU.trans he')⟩
      · obtain rfl : k = 2 + n := by omega
        have hfin : Hid (ok = true) := hide ((unhide HK).2 ⟨hn, fun j hj => (unhide HJ) j (by omega)⟩)
        go_wp2
        go_ret
        exact ⟨ret_bool (unhide hfin).symm, E2.trans hext⟩
  · have hnI : ¬ (n : Int) ≤ 50 := by omega
    have hfin : Hid (ok = false) := hide (not_ok hok (fun h => hn h.1))
    clear hok hv hx HX
    go_enter Tryd.func77, Tryd.ntmps77
    go_wp2
    go_ret
    exact ⟨ret_bool (unhide hfin).symm, (Ext.refl _).alloc _⟩
end Go.Proofs.YtlnmpbdnmlpkiaaDoor
