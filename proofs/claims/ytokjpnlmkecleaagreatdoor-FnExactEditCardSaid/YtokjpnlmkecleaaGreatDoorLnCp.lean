import Derived.Test.YtokjpnlmkecleaaGreatDoorWrapW
import Derived.Test.YtokjpnlmkecleaaGreatDoorWhole
import Derived.Deep.AppendLies
import Derived.Deep.RegionHeldLaw
import Derived.Test.YtokjpnlmkecleaaGreatDoorSzLn
namespace Go.Proofs.YtokjpnlmkecleaaGreatDoor
open Go.RowKit

/-- The clusters of a text. -/
def cutC (bs : List Int) : List (List Int × Int) := clusC (cleanL bs)
/-- Every cluster has a width of 1 or 2. -/
def Wides (cs : List (List Int × Int)) : Prop := ∀ j, j < cs.length → 1 ≤ cW cs j ∧ cW cs j ≤ 2
theorem cW_none (cs : List (List Int × Int)) (j : Nat) (h : cs.length ≤ j) : cW cs j = 0 := by simp [cW, List.getElem?_eq_none h]
theorem Wides.all {cs : List (List Int × Int)} (h : Wides cs) (j : Nat) : 0 ≤ cW cs j ∧ cW cs j ≤ 2 := by
  by_cases hj : j < cs.length
  · have := h j hj; omega
  · rw [cW_none cs j (by omega)]; omega
theorem cW_app (xs ys : List (List Int × Int)) (j : Nat) : cW (xs ++ ys) j = if j < xs.length then cW xs j else cW ys (j - xs.length) := by
  unfold cW
  split
  · rename_i h; rw [List.getElem?_append_left h]
  · rename_i h; rw [List.getElem?_append_right (by omega)]
theorem cR_app (xs ys : List (List Int × Int)) (j : Nat) : cR (xs ++ ys) j = if j < xs.length then cR xs j else cR ys (j - xs.length) := by
  unfold cR
  split
  · rename_i h; rw [List.getElem?_append_left h]
  · rename_i h; rw [List.getElem?_append_right (by omega)]
theorem Wides.app {xs ys : List (List Int × Int)} (hx : Wides xs) (hy : Wides ys) : Wides (xs ++ ys) := by
  intro j hj
  rw [cW_app]
  split
  · rename_i h; exact hx j h
  · rename_i h; simp at hj; exact hy _ (by omega)
theorem clF_pos (xs : List Int) : ∀ k j, j < (clF xs k).length → 1 ≤ cW (clF xs k) j
  | 0, j, h => by simp [clF] at h
  | k + 1, j, h => by
    have ih := clF_pos xs k
    rw [clF, clStep] at h ⊢
    split
    · rename_i h1
      rw [if_pos h1] at h
      rw [cW_push]
      split
      · omega
      · rename_i h2; simp at h; exact ih j (by omega)
    · rename_i h1
      rw [if_neg h1] at h
      split
      · rename_i h2
        rw [if_pos h2] at h
        simp at h
        subst h
        simp [cW]
      · rename_i h2
        rw [if_neg h2] at h
        simp at h
        rw [cW_set _ _ _ _ (by omega)]
        split
        · exact ih _ (by omega)
        · exact ih j h
theorem cutC_wides (bs : List Int) : Wides (cutC bs) := fun j hj => ⟨clF_pos _ _ j hj, (clF_wid _ _ j).2⟩
section
variable (cs : List (List Int × Int)) (cols : Nat) (p rows : Nat)
open Classical in
open Classical in
open Classical in
end
variable {cs : List (List Int × Int)} {cols p : Nat}
end Go.Proofs.YtokjpnlmkecleaaGreatDoor

namespace Go.Proofs.YtokjpnlmkecleaaGreatDoor
open Go.RowKit

theorem flat_clus (xs : List Int) : flat (clusC xs) = fl (xs.map shownI) := by
  unfold clusC
  rcases clF_flat xs xs.length (Nat.le_refl _) with ⟨h1, h2⟩ | ⟨_, _, h3⟩
  · have e : xs = [] := List.eq_nil_of_length_eq_zero h2
    subst e
    rfl
  · rw [h3, List.take_length]
theorem flat_clean (xs : List Int) : ∀ x ∈ flat (clusC xs), CleanR x := by
  rw [flat_clus]
  refine fl_clean _ (fun x hx => ?_)
  obtain ⟨y, _, rfl⟩ := List.mem_map.1 hx
  exact cleanR_shown y
/-- The runes of the text of clusters. -/
theorem clean_text (xs : List Int) : cleanL (textC (clusC xs)) = flat (clusC xs) := by
  rw [textC_flat, clean_enc _ (flat_clean xs)]
theorem settled_flat {L : List Int} (h : settleL L = L) : flat (cutC L) = cleanL L := by
  have h1 := clean_text (cleanL L)
  rw [show textC (clusC (cleanL L)) = L from h] at h1
  exact h1.symm
theorem settled_enc {L : List Int} (h : settleL L = L) : encA (cleanL L) = L := by
  rw [← settled_flat h, ← textC_flat]
  exact h
theorem settled_fl {L : List Int} (h : settleL L = L) : fl (cleanL L) = cleanL L := by
  have h1 := settled_flat h
  unfold cutC at h1
  rwa [clus_flat _ (cleanL_mem L)] at h1
theorem fl_app {xs ys : List Int} (hx : fl xs = xs) (hy : fl ys = ys) : fl (xs ++ ys) = xs ++ ys := by
  by_cases e : xs = []
  · subst e
    simpa using hy
  · unfold fl at hx ⊢
    rw [if_neg e] at hx
    have h0 : 0 < xs.length := List.length_pos_iff.2 e
    have ha : at0 (xs ++ ys) 0 = at0 xs 0 := by
      unfold at0
      rw [List.getElem?_append_left h0]
    have hw : 0 < wid (at0 xs 0) := by
      by_cases hw : 0 < wid (at0 xs 0)
      · exact hw
      · rw [if_neg hw] at hx
        have := congrArg List.length hx
        simp at this
    rw [if_neg (by simp [e]), ha, if_pos hw]
/-- A settled text with another behind it. -/
theorem yank_text {L K : List Int} (hL : settleL L = L) (hK : settleL K = K) : textC (clusC (cleanL L ++ cleanL K)) = L ++ K ∧ flat (clusC (cleanL L ++ cleanL K)) = cleanL L ++ cleanL K := by
  have h1 : flat (clusC (cleanL L ++ cleanL K)) = cleanL L ++ cleanL K := by
    rw [clus_flat _ (fun x hx => (List.mem_append.1 hx).elim (cleanL_mem L x) (cleanL_mem K x)), fl_app (settled_fl hL) (settled_fl hK)]
  refine ⟨?_, h1⟩
  rw [textC_flat, h1, encA_app, settled_enc hL, settled_enc hK]
end Go.Proofs.YtokjpnlmkecleaaGreatDoor

namespace Go.Proofs.YtokjpnlmkecleaaGreatDoor
open Go.RowKit

section
variable {P : Program} {w : World}
end
/-- What an append may take: a slice (nil too) of m elements that reads as these cells. -/
def Src (w : World) (size : Nat) (x : Value) (m : Nat) (news : List Value) : Prop :=
  news.length = m * size ∧ (∀ u ∈ news, u.oneCell' = true) ∧ ((∃ c, x = .slice none 0 c ∧ m = 0) ∨ ∃ ad c, x = .slice (some ad) m c ∧ ∀ j u, news[j]? = some u → w.cell? (ad.add j) = some u)
theorem Src.ext {w w' : World} {size : Nat} {x : Value} {m : Nat} {news : List Value} (h : Src w size x m news) (he : Ext w w') : Src w' size x m news := by
  obtain ⟨h1, h2, h3⟩ := h
  refine ⟨h1, h2, ?_⟩
  rcases h3 with h3 | ⟨ad, c, e, h3⟩
  · exact .inl h3
  · exact .inr ⟨ad, c, e, fun j u hj => he.cell (h3 j u hj)⟩
theorem Src.ints {w : World} {k : IntKind} {v : Value} {zs : List Int} (h : IntsAt w k v zs) : Src w 1 v zs.length (zs.map (Value.int k)) := by
  refine ⟨by simp, fun u hu => by obtain ⟨x, _, rfl⟩ := List.mem_map.1 hu; rfl, ?_⟩
  obtain ⟨ao, c, rfl, hc, hx⟩ := h
  by_cases h0 : 0 < zs.length
  · obtain ⟨b, o, rfl, h2⟩ := hx h0
    refine .inr ⟨_, c, rfl, fun j u hj => ?_⟩
    simp only [List.getElem?_map, Option.map_eq_some_iff] at hj
    obtain ⟨x, hx, rfl⟩ := hj
    have hjl : j < zs.length := (List.getElem?_eq_some_iff.1 hx).1
    have := h2 j hjl
    rw [at0, hx] at this
    rw [Addr.add_lit]; simpa using this
  · have e0 : zs = [] := List.eq_nil_of_length_eq_zero (by omega)
    subst e0
    cases ao with
    | none => exact .inl ⟨c, rfl, rfl⟩
    | some ad => exact .inr ⟨ad, c, rfl, fun j u hj => by simp at hj⟩
/-- The elements of a literal slice that the walk has just made. -/
theorem Src.made {w : World} {size : Nat} (zs : List Value) (n : Nat) (t : TypeId) (hl : zs.length = n * size) (h1 : ∀ u ∈ zs, u.oneCell' = true) : Src (w.alloc (.cells zs.toArray t)) size (.slice (some ⟨w.heap.size, 0, none⟩) n n) n zs :=
  ⟨hl, h1, .inr ⟨_, _, rfl, fun j u hj => by rw [Addr.add_lit, Nat.zero_add]; exact cells_of (new_block w _) j u (by simpa using hj)⟩⟩
section
variable {P : Program} {w : World}
theorem run_app_none (base : Nat) (t ty e : TypeId) (i : TypeInfo) (size : Nat) (ht : P.underlying t = some (.slice e)) (hi : P.info? e = some i)
    (v : Value) (n c : Nat) (xs : List Value) (hown : w.ownsRow base e size v n xs) :
    (Builtin.append_ #[t, t] ty #[v, .slice none 0 c]).run P w = .ok v w := by
  rcases hown.2 with ⟨rfl, rfl⟩ | ⟨g, cap, cur, rfl, _, _, hnc, _⟩
  · simp [Builtin.append_, run_underlying ht, sizeOf, typeInfo, hi, Builtin.lenOf, Builtin.firstCells]
  · simp [Builtin.append_, run_underlying ht, sizeOf, typeInfo, hi, Builtin.lenOf, Builtin.firstCells, hnc, storeCells]
/-- append onto an owned row, whatever the source. -/
theorem wp_app {o : Oper} {a : Act} {K : Act → World → Prop} {Q : Exit → Act → World → Prop} (s x : Operand) (t : TypeId)
    (ho : o.op = .call { callee := .builtin .append, args := #[s, x], argTypes := #[t, t] })
    (base : Nat) (e : TypeId) (i : TypeInfo) (z : Value) (size bytes : Nat) (ht : P.underlying t = some (.slice e)) (hi : P.info? e = some i) (hz : i.zero = some z)
    (hsize : i.size = size) (hby : i.bytes = bytes) (hzs : z.cells.size = size) (hsz : 0 < size)
    (v : Value) (n : Nat) (xs : List Value) (hs : a.eval s = v) (hown : w.ownsRow base e size v n xs)
    (y : Value) (m : Nat) (news : List Value) (hx : a.eval x = y) (hsrc : Src w size y m news)
    (h63 : n + m ≤ maxLen) (hbytes : (n + m) * bytes ≤ 140737488355328) (hbase : base ≤ w.heap.size)
    (h : ∀ v' w', w'.ownsRow base e size v' (n + m) (xs ++ news) → w.grownBy w' v.ownBlock → (v' = .slice none 0 0 ↔ v = .slice none 0 0 ∧ m = 0) → K (a.put o.dst v') w') : o.wp P a w K Q := by
  obtain ⟨h1, h2, h3⟩ := hsrc
  rcases h3 with ⟨c, rfl, rfl⟩ | ⟨ad, c, rfl, h3⟩
  · have hn : news = [] := List.eq_nil_of_length_eq_zero (by omega)
    subst hn
    have hr := run_app_none (P := P) (w := w) base t o.type e i size ht hi v n c xs hown
    unfold Oper.wp execOp
    simp only [ho, resolve, invoke, builtin, Sem.run_bind, Sem.run_pure, Result.andThen_ok, List.map_toArray, List.map_cons, List.map_nil, hs, hx, hr]
    exact h v w (by simpa using hown) (World.grownBy.refl w _) (by simp)
  · exact wp_append_own w s x t ho base e i z size bytes ht hi hz hsize hby hzs hsz v n xs hs hown ad m c news hx h1 h3 h2 h63 hbytes hbase h
theorem wpList_app {ops : Array Oper} {rest : List Oper} {o : Oper} {a : Act} {Q : Exit → Act → World → Prop} (hgd : o.guard = none) (s x : Operand) (t : TypeId)
    (ho : o.op = .call { callee := .builtin .append, args := #[s, x], argTypes := #[t, t] })
    (base : Nat) (e : TypeId) (i : TypeInfo) (z : Value) (size bytes : Nat) (ht : P.underlying t = some (.slice e)) (hi : P.info? e = some i) (hz : i.zero = some z)
    (hsize : i.size = size) (hby : i.bytes = bytes) (hzs : z.cells.size = size) (hsz : 0 < size)
    (v : Value) (n : Nat) (xs : List Value) (hs : a.eval s = v) (hown : w.ownsRow base e size v n xs)
    (y : Value) (m : Nat) (news : List Value) (hx : a.eval x = y) (hsrc : Src w size y m news)
    (h63 : n + m ≤ maxLen) (hbytes : (n + m) * bytes ≤ 140737488355328) (hbase : base ≤ w.heap.size)
    (h : ∀ v' w', w'.ownsRow base e size v' (n + m) (xs ++ news) → w.grownBy w' v.ownBlock → (v' = .slice none 0 0 ↔ v = .slice none 0 0 ∧ m = 0) → wpList P ops Q rest (a.put o.dst v') w') : wpList P ops Q (o :: rest) a w :=
  wpList_plain hgd fun _ hK => wp_app s x t ho base e i z size bytes ht hi hz hsize hby hzs hsz v n xs hs hown y m news hx hsrc h63 hbytes hbase fun v' w' h2 h3 h4 => hK _ _ (h v' w' h2 h3 h4)
end
theorem owns_nil (w : World) (base : Nat) (e : TypeId) (size : Nat) : w.ownsRow base e size (.slice none 0 0) 0 [] := ⟨by simp, .inl ⟨rfl, rfl⟩⟩
theorem owns_empty (w : World) (e : TypeId) (size : Nat) : (w.alloc (.cells #[] e)).ownsRow w.heap.size e size (.slice (some ⟨w.heap.size, 0, none⟩) 0 0) 0 [] := ⟨by simp, .inr ⟨w.heap.size, 0, #[], rfl, Nat.le_refl _, new_block w _, Nat.le_refl _, by unfold maxLen; omega, by simp, by simp⟩⟩
end Go.Proofs.YtokjpnlmkecleaaGreatDoor

namespace Go.Proofs.YtokjpnlmkecleaaGreatDoor
open Go.RowKit

/-- A cluster that is a space and nothing more. -/
def spB (xs : List Int) : Bool := decide (xs = [32])
set_option maxRecDepth 10000 in
set_option maxHeartbeats 1000000 in
theorem isSpace_any (v : Value) (d : Int) (xs : List Int) (w : World) (hv : IntsAt w .i32 v xs) :
    Calls Tryz.prog 138 #[.agg #[v, .int .i64 d]] w fun e w' => e = .returned (.bool (spB xs)) ∧ Ext w w' := by
  obtain ⟨ao, ca, rfl, hca, hx⟩ := hv
  by_cases h1 : xs.length = 1
  · obtain ⟨b, off, rfl, hc⟩ := hx (by omega)
    have g1 := hc 0 (by omega)
    obtain ⟨x, rfl⟩ : ∃ x, xs = [x] := List.length_eq_one_iff.1 h1
    have HB := hide (fun o => ((Ext.refl w).alloc o).cell g1)
    have g2 : ∀ o, (w.alloc o).cell? ⟨b, off, none⟩ = some (.int .i32 x) := fun o => (unhide HB) o
    clear hc hx g1
    by_cases h2 : x = 32
    · subst h2
      go_enter Tryz.func138, Tryz.ntmps138
      go_wp2
      go_ret
      exact ⟨rfl, (Ext.refl w).alloc _⟩
    · have HF : Hid ((x == 32) = spB [x]) := hide (by simp [spB, h2])
      go_enter Tryz.func138, Tryz.ntmps138
      go_wp2
      go_ret
      exact ⟨ret_bool (unhide HF), (Ext.refl w).alloc _⟩
  · have HF : Hid (spB xs = false) := hide (by simp [spB]; intro e; rw [e] at h1; simp at h1)
    have h1I : ¬ (xs.length : Int) = 1 := by omega
    clear hx
    go_enter Tryz.func138, Tryz.ntmps138
    go_wp2
    go_ret
    exact ⟨ret_bool (unhide HF).symm, (Ext.refl w).alloc _⟩
set_option maxRecDepth 10000 in
set_option maxHeartbeats 1000000 in
theorem l4Space_any (v : Value) (d : Int) (xs : List Int) (w : World) (hv : IntsAt w .i32 v xs) :
    Calls Tryz.prog 67 #[.agg #[v, .int .i64 d]] w fun e w' => e = .returned (.bool (spB xs)) ∧ Ext w w' := by
  obtain ⟨ao, ca, rfl, hca, hx⟩ := hv
  by_cases h1 : xs.length = 1
  · obtain ⟨b, off, rfl, hc⟩ := hx (by omega)
    have g1 := hc 0 (by omega)
    obtain ⟨x, rfl⟩ : ∃ x, xs = [x] := List.length_eq_one_iff.1 h1
    have HB := hide (fun o => ((Ext.refl w).alloc o).cell g1)
    have g2 : ∀ o, (w.alloc o).cell? ⟨b, off, none⟩ = some (.int .i32 x) := fun o => (unhide HB) o
    clear hc hx g1
    by_cases h2 : x = 32
    · subst h2
      go_enter Tryz.func67, Tryz.ntmps67
      go_wp2
      go_ret
      exact ⟨rfl, (Ext.refl w).alloc _⟩
    · have HF : Hid ((x == 32) = spB [x]) := hide (by simp [spB, h2])
      go_enter Tryz.func67, Tryz.ntmps67
      go_wp2
      go_ret
      exact ⟨ret_bool (unhide HF), (Ext.refl w).alloc _⟩
  · have HF : Hid (spB xs = false) := hide (by simp [spB]; intro e; rw [e] at h1; simp at h1)
    have h1I : ¬ (xs.length : Int) = 1 := by omega
    clear hx
    go_enter Tryz.func67, Tryz.ntmps67
    go_wp2
    go_ret
    exact ⟨ret_bool (unhide HF).symm, (Ext.refl w).alloc _⟩
end Go.Proofs.YtokjpnlmkecleaaGreatDoor

namespace Go.Proofs.YtokjpnlmkecleaaGreatDoor
open Go.RowKit

/-- From i on p holds up to r, and no further. -/
def Sk (p : Nat → Bool) (n i r : Nat) : Prop := i ≤ r ∧ r ≤ n ∧ (∀ j, i ≤ j → j < r → p j = true) ∧ (r < n → p r = false)
theorem Sk.only {p : Nat → Bool} {n i r s : Nat} (h : Sk p n i r) (k : Sk p n i s) : r = s := by
  obtain ⟨h1, h2, h3, h4⟩ := h
  obtain ⟨k1, k2, k3, k4⟩ := k
  by_cases e : r < s
  · have := k3 r h1 e
    rw [h4 (by omega)] at this
    cases this
  · by_cases e2 : s < r
    · have := h3 s k1 e2
      rw [k4 (by omega)] at this
      cases this
    · omega
/-- How far a word goes: spaces, then others. -/
def Wd (p : Nat → Bool) (n r : Nat) : Prop := ∃ m, Sk p n 0 m ∧ Sk (fun j => !p j) n m r
theorem Wd.only {p : Nat → Bool} {n r s : Nat} (h : Wd p n r) (k : Wd p n s) : r = s := by
  obtain ⟨m, h1, h2⟩ := h
  obtain ⟨m', k1, k2⟩ := k
  obtain rfl := h1.only k1
  exact h2.only k2
set_option maxRecDepth 10000 in
set_option maxHeartbeats 2000000 in
theorem l4WordRight_any (v : Value) (cs : List (List Int × Int)) (w : World) (hv : ClsAt w v cs) (hl : cs.length ≤ 16777216) :
    Calls Tryz.prog 64 #[v] w fun e w' => ∃ r : Nat, e = .returned (.int .i64 (r : Int)) ∧ Wd (fun j => spB (cR cs j)) cs.length r ∧ Ext w w' := by
  obtain ⟨rs, ao, ca, rfl, hca, hr, hx⟩ := hv
  have HX := hide hx
  have HR := hide hr
  clear hx hr
  go_enter Tryz.func64, Tryz.ntmps64
  go_wp2
  go_loopw [3] (fun i wr => ∃ (j : Nat), j ≤ cs.length ∧ i = .int .i64 j ∧ Hid (∀ q, q < j → spB (cR cs q) = true) ∧ Ext w wr) (fun i _ => cs.length - (intOf i).toNat)
  case atStart => exact ⟨0, Nat.zero_le _, rfl, hide (fun q hq => by omega), Ext.refl _⟩
  case round =>
    obtain ⟨j, hj, rfl, HJ, hE⟩ := hrel
    by_cases hlt : j < cs.length
    · obtain ⟨b, off, hao, hc⟩ := (unhide HX) (by omega)
      subst hao
      have g1 := hE.cell (hc j hlt).1
      have g2 := hE.cell (hc j hlt).2
      have bj : (j : Int) < (cs.length : Int) := by omega
      have HS := hide (fun W (E : Ext w W) => l4Space_any (rV rs j) (cW cs j) (cR cs j) W (((unhide HR) j hlt).ext E))
      clear hc
      go_wp2_with fail
      refine ((unhide HS) _ hE).mono ?_
      rintro e w1 ⟨rfl, E1⟩
      have hE2 := hE.trans E1
      cases hb : spB (cR cs j) with
      | true =>
        have HJ3 : Hid (∀ q, q < j + 1 → spB (cR cs q) = true) := hide (fun q hq => by
          by_cases e : q = j
          · subst e; exact hb
          · exact (unhide HJ) q (by omega))
        clear HS g1 g2 hb E1
        go_wp2
        go_roundw
        case rel => exact ⟨j + 1, by omega, by go_num, HJ3, hE2⟩
        case measure => simp [intOf]; omega
      | false =>
        have HSK : Hid (Sk (fun j => spB (cR cs j)) cs.length 0 j) := hide ⟨Nat.zero_le _, hj, fun q _ hq => (unhide HJ) q hq, fun _ => hb⟩
        clear HS g1 g2 hb E1 hE
        go_wp2
        go_loopw [3] (fun i wr => ∃ (r : Nat), j ≤ r ∧ r ≤ cs.length ∧ i = .int .i64 r ∧ Hid (∀ q, j ≤ q → q < r → (!spB (cR cs q)) = true) ∧ Ext w wr) (fun i _ => cs.length - (intOf i).toNat)
        case atStart => exact ⟨j, Nat.le_refl _, hj, rfl, hide (fun q h1 h2 => by omega), hE2⟩
        case round =>
          obtain ⟨r, hjr, hr9, rfl, HJ2, hE3⟩ := hrel
          by_cases hlt2 : r < cs.length
          · obtain ⟨b2, off2, hao2, hc2⟩ := (unhide HX) (by omega)
            first | subst hao2 | (obtain ⟨rfl, rfl⟩ := Addr.mk.inj (Option.some.inj hao2) |>.imp id (fun h => h.1))
            have q1 := hE3.cell (hc2 r hlt2).1
            have q2 := hE3.cell (hc2 r hlt2).2
            have bj2 : (r : Int) < (cs.length : Int) := by omega
            have HS2 := hide (l4Space_any (rV rs r) (cW cs r) (cR cs r) _ (((unhide HR) r hlt2).ext hE3))
            clear hc2
            go_wp2_with fail
            refine (unhide HS2).mono ?_
            rintro e w5 ⟨rfl, E5⟩
            have hE5 := hE3.trans E5
            cases hb2 : spB (cR cs r) with
            | false =>
              have HJ3 : Hid (∀ q, j ≤ q → q < r + 1 → (!spB (cR cs q)) = true) := hide (fun q h1 h2 => by
                by_cases e : q = r
                · subst e; rw [hb2]; rfl
                · exact (unhide HJ2) q h1 (by omega))
              clear HS2 q1 q2 hb2 E5
              go_wp2
              go_roundw
              case rel => exact ⟨r + 1, by omega, by omega, by go_num, HJ3, hE5⟩
              case measure => simp [intOf]; omega
            | true =>
              have HW : Hid (Wd (fun j => spB (cR cs j)) cs.length r) := hide ⟨j, unhide HSK, hjr, hr9, unhide HJ2, fun _ => by simp [hb2]⟩
              clear HS2 q1 q2 hb2 E5
              go_wp2
              go_ret
              exact ⟨r, rfl, unhide HW, hE5⟩
          · obtain rfl : r = cs.length := by omega
            have hb7 : ¬ (cs.length : Int) < (cs.length : Int) := by omega
            have HW : Hid (Wd (fun j => spB (cR cs j)) cs.length cs.length) := hide ⟨j, unhide HSK, hjr, hr9, unhide HJ2, fun h => by omega⟩
            go_wp2
            go_ret
            exact ⟨_, rfl, unhide HW, hE3⟩
    · have hb9 : ¬ (j : Int) < (cs.length : Int) := by omega
      have HSK : Hid (Sk (fun j => spB (cR cs j)) cs.length 0 j) := hide ⟨Nat.zero_le _, hj, fun q _ hq => (unhide HJ) q hq, fun h => by omega⟩
      have hE2 := hE
      clear hE
      go_wp2
      go_loopw [3] (fun i wr => ∃ (r : Nat), j ≤ r ∧ r ≤ cs.length ∧ i = .int .i64 r ∧ Hid (∀ q, j ≤ q → q < r → (!spB (cR cs q)) = true) ∧ Ext w wr) (fun i _ => cs.length - (intOf i).toNat)
      case atStart => exact ⟨j, Nat.le_refl _, hj, rfl, hide (fun q h1 h2 => by omega), hE2⟩
      case round =>
        obtain ⟨r, hjr, hr9, rfl, HJ2, hE3⟩ := hrel
        by_cases hlt2 : r < cs.length
        · obtain ⟨b2, off2, hao2, hc2⟩ := (unhide HX) (by omega)
          first | subst hao2 | (obtain ⟨rfl, rfl⟩ := Addr.mk.inj (Option.some.inj hao2) |>.imp id (fun h => h.1))
          have q1 := hE3.cell (hc2 r hlt2).1
          have q2 := hE3.cell (hc2 r hlt2).2
          have bj2 : (r : Int) < (cs.length : Int) := by omega
          have HS2 := hide (l4Space_any (rV rs r) (cW cs r) (cR cs r) _ (((unhide HR) r hlt2).ext hE3))
          clear hc2
          go_wp2_with fail
          refine (unhide HS2).mono ?_
          rintro e w5 ⟨rfl, E5⟩
          have hE5 := hE3.trans E5
          cases hb2 : spB (cR cs r) with
          | false =>
            have HJ3 : Hid (∀ q, j ≤ q → q < r + 1 → (!spB (cR cs q)) = true) := hide (fun q h1 h2 => by
              by_cases e : q = r
              · subst e; rw [hb2]; rfl
              · exact (unhide HJ2) q h1 (by omega))
            clear HS2 q1 q2 hb2 E5
            go_wp2
            go_roundw
            case rel => exact ⟨r + 1, by omega, by omega, by go_num, HJ3, hE5⟩
            case measure => simp [intOf]; omega
          | true =>
            have HW : Hid (Wd (fun j => spB (cR cs j)) cs.length r) := hide ⟨j, unhide HSK, hjr, hr9, unhide HJ2, fun _ => by simp [hb2]⟩
            clear HS2 q1 q2 hb2 E5
            go_wp2
            go_ret
            exact ⟨r, rfl, unhide HW, hE5⟩
        · obtain rfl : r = cs.length := by omega
          have hb7 : ¬ (cs.length : Int) < (cs.length : Int) := by omega
          have HW : Hid (Wd (fun j => spB (cR cs j)) cs.length cs.length) := hide ⟨j, unhide HSK, hjr, hr9, unhide HJ2, fun h => by omega⟩
          go_wp2
          go_ret
          exact ⟨_, rfl, unhide HW, hE3⟩
end Go.Proofs.YtokjpnlmkecleaaGreatDoor

namespace Go.Proofs.YtokjpnlmkecleaaGreatDoor
open Go.RowKit

theorem wd_left {cs : List (List Int × Int)} {m r : Nat} (hm : m ≤ cs.length) (hr : r ≤ m) (h1 : ∀ q, m ≤ q → q < cs.length → spB (cR cs q) = true) (h2 : 0 < m → spB (cR cs (m - 1)) = false) (h3 : ∀ q, r ≤ q → q < m → spB (cR cs q) = false) (h4 : 0 < r → spB (cR cs (r - 1)) = true) : Wd (fun j => spB (cR cs (cs.length - 1 - j))) cs.length (cs.length - r) := by
  refine ⟨cs.length - m, ⟨Nat.zero_le _, by omega, fun j _ hj => h1 _ (by omega) (by omega), fun h => ?_⟩, by omega, by omega, fun j hj1 hj2 => ?_, fun h => ?_⟩
  · show spB (cR cs (cs.length - 1 - (cs.length - m))) = false
    rw [show cs.length - 1 - (cs.length - m) = m - 1 by omega]
    exact h2 (by omega)
  · show (!spB (cR cs (cs.length - 1 - j))) = true
    rw [h3 _ (by omega) (by omega)]
    rfl
  · show (!spB (cR cs (cs.length - 1 - (cs.length - r)))) = false
    rw [show cs.length - 1 - (cs.length - r) = r - 1 by omega, h4 (by omega)]
    rfl
set_option maxRecDepth 10000 in
set_option maxHeartbeats 2000000 in
theorem l4WordLeft_any (v : Value) (cs : List (List Int × Int)) (w : World) (hv : ClsAt w v cs) (hl : cs.length ≤ 16777216) :
    Calls Tryz.prog 36 #[v] w fun e w' => ∃ r : Nat, e = .returned (.int .i64 (r : Int)) ∧ r ≤ cs.length ∧ Wd (fun j => spB (cR cs (cs.length - 1 - j))) cs.length (cs.length - r) ∧ Ext w w' := by
  obtain ⟨rs, ao, ca, rfl, hca, hr, hx⟩ := hv
  have HX := hide hx
  have HR := hide hr
  clear hx hr
  go_enter Tryz.func36, Tryz.ntmps36
  go_wp2
  go_loopw [3] (fun i wr => ∃ (m : Nat), m ≤ cs.length ∧ i = .int .i64 m ∧ Hid (∀ q, m ≤ q → q < cs.length → spB (cR cs q) = true) ∧ Ext w wr) (fun i _ => (intOf i).toNat)
  case atStart => exact ⟨cs.length, Nat.le_refl _, rfl, hide (fun q h1 h2 => by omega), Ext.refl _⟩
  case round =>
    obtain ⟨m, hmn, rfl, HJ, hE⟩ := hrel
    by_cases hlt : 0 < m
    · obtain ⟨b, off, hao, hc⟩ := (unhide HX) (by omega)
      subst hao
      have g1 := hE.cell (hc (m - 1) (by omega)).1
      have g2 := hE.cell (hc (m - 1) (by omega)).2
      have bj : (0 : Int) < (m : Int) := by omega
      have hw1 : IntKind.i64.wrap ((m : Int) - 1) = ((m - 1 : Nat) : Int) := by rw [IntKind.wrap_i64]; omega
      have bk : ((m - 1 : Nat) : Int) < (cs.length : Int) := by omega
      have HS := hide (fun W (E : Ext w W) => l4Space_any (rV rs (m - 1)) (cW cs (m - 1)) (cR cs (m - 1)) W (((unhide HR) (m - 1) (by omega)).ext E))
      clear hc
      go_wp2_with fail
      refine ((unhide HS) _ hE).mono ?_
      rintro e w1 ⟨rfl, E1⟩
      have hE2 := hE.trans E1
      cases hb : spB (cR cs (m - 1)) with
      | true =>
        have HJ3 : Hid (∀ q, m - 1 ≤ q → q < cs.length → spB (cR cs q) = true) := hide (fun q h1 h2 => by
          by_cases e : q = m - 1
          · subst e; exact hb
          · exact (unhide HJ) q (by omega) h2)
        clear HS g1 g2 hb E1
        go_wp2
        go_roundw
        case rel => exact ⟨m - 1, by omega, by go_num, HJ3, hE2⟩
        case measure => simp [intOf]; omega
      | false =>
        have HSK : Hid (0 < m → spB (cR cs (m - 1)) = false) := hide (fun _ => hb)
        clear HS g1 g2 hb E1 hE
        go_wp2
        go_loopw [3] (fun i wr => ∃ (r : Nat), r ≤ m ∧ i = .int .i64 r ∧ Hid (∀ q, r ≤ q → q < m → spB (cR cs q) = false) ∧ Ext w wr) (fun i _ => (intOf i).toNat)
        case atStart => exact ⟨m, Nat.le_refl _, rfl, hide (fun q h1 h2 => by omega), hE2⟩
        case round =>
          obtain ⟨r, hrm, rfl, HJ2, hE3⟩ := hrel
          by_cases hlt2 : 0 < r
          · obtain ⟨b2, off2, hao2, hc2⟩ := (unhide HX) (by omega)
            first | subst hao2 | (obtain ⟨rfl, rfl⟩ := Addr.mk.inj (Option.some.inj hao2) |>.imp id (fun h => h.1))
            have q1 := hE3.cell (hc2 (r - 1) (by omega)).1
            have q2 := hE3.cell (hc2 (r - 1) (by omega)).2
            have bj2 : (0 : Int) < (r : Int) := by omega
            have hw2 : IntKind.i64.wrap ((r : Int) - 1) = ((r - 1 : Nat) : Int) := by rw [IntKind.wrap_i64]; omega
            have bk2 : ((r - 1 : Nat) : Int) < (cs.length : Int) := by omega
            have HS2 := hide (l4Space_any (rV rs (r - 1)) (cW cs (r - 1)) (cR cs (r - 1)) _ (((unhide HR) (r - 1) (by omega)).ext hE3))
            clear hc2
            go_wp2_with fail
            refine (unhide HS2).mono ?_
            rintro e w5 ⟨rfl, E5⟩
            have hE5 := hE3.trans E5
            cases hb2 : spB (cR cs (r - 1)) with
            | false =>
              have HJ3 : Hid (∀ q, r - 1 ≤ q → q < m → spB (cR cs q) = false) := hide (fun q h1 h2 => by
                by_cases e : q = r - 1
                · subst e; exact hb2
                · exact (unhide HJ2) q (by omega) h2)
              clear HS2 q1 q2 hb2 E5
              go_wp2
              go_roundw
              case rel => exact ⟨r - 1, by omega, by go_num, HJ3, hE5⟩
              case measure => simp [intOf]; omega
            | true =>
              have HW : Hid (Wd (fun j => spB (cR cs (cs.length - 1 - j))) cs.length (cs.length - r)) := hide (wd_left hmn hrm (unhide HJ) (unhide HSK) (unhide HJ2) (fun _ => hb2))
              clear HS2 q1 q2 hb2 E5
              go_wp2
              go_ret
              exact ⟨r, rfl, by omega, unhide HW, hE5⟩
          · obtain rfl : r = 0 := by omega
            have HW : Hid (Wd (fun j => spB (cR cs (cs.length - 1 - j))) cs.length (cs.length - 0)) := hide (wd_left hmn hrm (unhide HJ) (unhide HSK) (unhide HJ2) (fun h => by omega))
            go_wp2
            go_ret
            exact ⟨0, rfl, by omega, unhide HW, hE3⟩
    · have hb9 : ¬ (0 : Int) < (m : Int) := by omega
      have HSK : Hid (0 < m → spB (cR cs (m - 1)) = false) := hide (fun h => by omega)
      have hE2 := hE
      clear hE
      go_wp2
      go_loopw [3] (fun i wr => ∃ (r : Nat), r ≤ m ∧ i = .int .i64 r ∧ Hid (∀ q, r ≤ q → q < m → spB (cR cs q) = false) ∧ Ext w wr) (fun i _ => (intOf i).toNat)
      case atStart => exact ⟨m, Nat.le_refl _, rfl, hide (fun q h1 h2 => by omega), hE2⟩
      case round =>
        obtain ⟨r, hrm, rfl, HJ2, hE3⟩ := hrel
        by_cases hlt2 : 0 < r
        · obtain ⟨b2, off2, hao2, hc2⟩ := (unhide HX) (by omega)
          first | subst hao2 | (obtain ⟨rfl, rfl⟩ := Addr.mk.inj (Option.some.inj hao2) |>.imp id (fun h => h.1))
          have q1 := hE3.cell (hc2 (r - 1) (by omega)).1
          have q2 := hE3.cell (hc2 (r - 1) (by omega)).2
          have bj2 : (0 : Int) < (r : Int) := by omega
          have hw2 : IntKind.i64.wrap ((r : Int) - 1) = ((r - 1 : Nat) : Int) := by rw [IntKind.wrap_i64]; omega
          have bk2 : ((r - 1 : Nat) : Int) < (cs.length : Int) := by omega
          have HS2 := hide (l4Space_any (rV rs (r - 1)) (cW cs (r - 1)) (cR cs (r - 1)) _ (((unhide HR) (r - 1) (by omega)).ext hE3))
          clear hc2
          go_wp2_with fail
          refine (unhide HS2).mono ?_
          rintro e w5 ⟨rfl, E5⟩
          have hE5 := hE3.trans E5
          cases hb2 : spB (cR cs (r - 1)) with
          | false =>
            have HJ3 : Hid (∀ q, r - 1 ≤ q → q < m → spB (cR cs q) = false) := hide (fun q h1 h2 => by
              by_cases e : q = r - 1
              · subst e; exact hb2
              · exact (unhide HJ2) q (by omega) h2)
            clear HS2 q1 q2 hb2 E5
            go_wp2
            go_roundw
            case rel => exact ⟨r - 1, by omega, by go_num, HJ3, hE5⟩
            case measure => simp [intOf]; omega
          | true =>
            have HW : Hid (Wd (fun j => spB (cR cs (cs.length - 1 - j))) cs.length (cs.length - r)) := hide (wd_left hmn hrm (unhide HJ) (unhide HSK) (unhide HJ2) (fun _ => hb2))
            clear HS2 q1 q2 hb2 E5
            go_wp2
            go_ret
            exact ⟨r, rfl, by omega, unhide HW, hE5⟩
        · obtain rfl : r = 0 := by omega
          have HW : Hid (Wd (fun j => spB (cR cs (cs.length - 1 - j))) cs.length (cs.length - 0)) := hide (wd_left hmn hrm (unhide HJ) (unhide HSK) (unhide HJ2) (fun h => by omega))
          go_wp2
          go_ret
          exact ⟨0, rfl, by omega, unhide HW, hE3⟩
end Go.Proofs.YtokjpnlmkecleaaGreatDoor

namespace Go.Proofs.YtokjpnlmkecleaaGreatDoor
open Go.RowKit

theorem flat_take (cs : List (List Int × Int)) (j : Nat) (hj : j < cs.length) : flat (cs.take (j + 1)) = flat (cs.take j) ++ cR cs j := by
  rw [List.take_succ_eq_append_getElem hj, flat_app]
  simp [flat, cR, hj]
theorem flat_len (cs : List (List Int × Int)) : (flat cs).length = sumR cs cs.length := by
  have h : ∀ k, k ≤ cs.length → (flat (cs.take k)).length = sumR cs k := by
    intro k
    induction k with
    | zero => intro _; simp [flat, sumR]
    | succ k ih => intro hk; rw [flat_take cs k (by omega), List.length_append, ih (by omega), sumR]
  have := h cs.length (Nat.le_refl _)
  rwa [List.take_length] at this
set_option maxRecDepth 10000 in
set_option maxHeartbeats 2000000 in
theorem runesOf_any (v : Value) (cs : List (List Int × Int)) (w : World) (hv : ClsAt w v cs) (hl : cs.length + sumR cs cs.length ≤ 16777216) :
    Calls Tryz.prog 136 #[v] w fun e w' => ∃ v', e = .returned v' ∧ w'.ownsRow w.heap.size 21 1 v' (flat cs).length ((flat cs).map (Value.int .i32)) ∧ Ext w w' := by
  obtain ⟨ii, hii, hi0, hi1, hi2⟩ := info_parts infoI32u
  obtain ⟨rs, ao, ca, rfl, hca, hr, hx⟩ := hv
  have HX := hide hx
  have HR := hide hr
  clear hx hr
  go_enter Tryz.func136, Tryz.ntmps136
  go_wp2
  go_loopw [3, 8] (fun o i wr => ∃ (j : Nat), j ≤ cs.length ∧ i = .int .i64 j ∧ Hid (wr.ownsRow w.heap.size 21 1 o (flat (cs.take j)).length ((flat (cs.take j)).map (Value.int .i32))) ∧ Ext w wr) (fun _ i _ => cs.length - (intOf i).toNat)
  case atStart => exact ⟨0, Nat.zero_le _, rfl, hide (by simpa [flat] using owns_nil _ _ _ _), Ext.refl _⟩
  case round =>
    obtain ⟨j, hj, rfl, HO, hE⟩ := hrel
    by_cases hlt : j < cs.length
    · obtain ⟨b, off, hao, hc⟩ := (unhide HX) (by omega)
      subst hao
      have g1 := hE.cell (hc j hlt).1
      have g2 := hE.cell (hc j hlt).2
      have hIn := (unhide HR) j hlt
      obtain ⟨ra, rc, hrv, _⟩ := id hIn
      rw [hrv] at g1 hIn
      have bj : (j : Int) < (cs.length : Int) := by omega
      have HSR := hide (fun W (E : Ext w W) => Src.ints (hIn.ext E))
      have hfl := flat_take cs j hlt
      have HFL := hide hfl
      have hb1 : (flat (cs.take j)).length ≤ 16777216 ∧ (cR cs j).length ≤ 16777216 := by
        have h1 := flat_len cs
        have h2 : (flat cs).length = (flat (cs.take (j + 1))).length + (flat (cs.drop (j + 1))).length := by rw [← List.length_append, ← flat_app, List.take_append_drop]
        rw [hfl, List.length_append] at h2
        omega
      clear hc hIn hrv hfl
      go_wp2_with (at_builtin; go_loud (
        refine wpList_app rfl _ _ 26 rfl w.heap.size 21 ii (.int .i32 0) 1 4 Tryz.underlying26 hii hi0 hi1 hi2 rfl (by decide) _ (flat (cs.take j)).length _ rfl ((unhide HO).alloc _) _ (cR cs j).length ((cR cs j).map (Value.int .i32)) rfl ((unhide HSR) _ (hE.alloc _)) (by unfold maxLen; omega) (by omega) (by have := hE.size; simp; omega) ?_
        intro v5 w5 o5 G5 _
        have E5 : Ext w w5 := (hE.alloc _).grown G5 (fun q hq => ((unhide HO).lt q hq).1)
        rw [← List.length_append, ← List.map_append, ← unhide HFL] at o5
        have HO5 := hide o5
        clear o5 G5))
      go_roundw
      case rel => exact ⟨j + 1, by omega, by go_num, HO5, E5⟩
      case measure => simp [intOf]; omega
    · obtain rfl : j = cs.length := by omega
      have hb9 : ¬ (cs.length : Int) < (cs.length : Int) := by omega
      rw [List.take_length] at HO
      go_wp2
      go_ret
      exact ⟨_, rfl, unhide HO, hE⟩
end Go.Proofs.YtokjpnlmkecleaaGreatDoor

namespace Go.Proofs.YtokjpnlmkecleaaGreatDoor
open Go.RowKit

/-- The cells of two rows, side by side. -/
def pairsL (A B : Nat → Value) (n : Nat) : List Value := (List.range (n * 2)).map (fun q => if q % 2 = 0 then A (q / 2) else B (q / 2))
theorem pairsL_len (A B : Nat → Value) (n : Nat) : (pairsL A B n).length = n * 2 := by simp [pairsL]
theorem pairsL_at (A B : Nat → Value) (n j : Nat) (hj : j < n) : (pairsL A B n)[j * 2]? = some (A j) ∧ (pairsL A B n)[j * 2 + 1]? = some (B j) := by
  unfold pairsL
  constructor
  · rw [List.getElem?_map, List.getElem?_range (by omega)]
    simp
  · rw [List.getElem?_map, List.getElem?_range (by omega)]
    have h1 : (j * 2 + 1) % 2 = 1 := by omega
    have h2 : (j * 2 + 1) / 2 = j := by omega
    simp [h1, h2]
theorem pairsL_news {w : World} {A B : Nat → Value} {n b off : Nat} (h : ∀ j, j < n → w.cell? ⟨b, off + j * 2, none⟩ = some (A j) ∧ w.cell? ⟨b, off + j * 2 + 1, none⟩ = some (B j)) :
    ∀ j u, (pairsL A B n)[j]? = some u → w.cell? ((⟨b, off, none⟩ : Addr).add j) = some u := by
  intro j u hu
  rw [Addr.add_lit]
  have hj : j < n * 2 := by
    have := (List.getElem?_eq_some_iff.1 hu).1
    rwa [pairsL_len] at this
  obtain ⟨h1, h2⟩ := pairsL_at A B n (j / 2) (by omega)
  obtain ⟨c1, c2⟩ := h (j / 2) (by omega)
  by_cases e : j % 2 = 0
  · have ej : j / 2 * 2 = j := by omega
    rw [ej] at h1 c1
    rw [h1] at hu
    rw [c1]
    exact hu
  · have ej : j / 2 * 2 + 1 = j := by omega
    rw [ej] at h2
    rw [h2] at hu
    rw [Nat.add_assoc, ej] at c2
    rw [c2]
    exact hu
theorem pairsL_one {A B : Nat → ByteArray} {n : Nat} : ∀ u ∈ pairsL (fun j => .string (A j)) (fun j => .string (B j)) n, u.oneCell' = true := by
  intro u hu
  simp only [pairsL, List.mem_map] at hu
  obtain ⟨q, _, rfl⟩ := hu
  split <;> rfl
end Go.Proofs.YtokjpnlmkecleaaGreatDoor

namespace Go.Proofs.YtokjpnlmkecleaaGreatDoor
open Go.RowKit

/-- Undo behind one more change. -/
def undoN (un : List (ByteArray × ByteArray)) (s : ByteArray × ByteArray) : List (ByteArray × ByteArray) := if 50 < un.length + 1 then (un ++ [s]).drop 1 else un ++ [s]
def unL (tx hf : Nat → ByteArray) (n : Nat) : List (ByteArray × ByteArray) := (List.range n).map (fun j => (tx j, hf j))
theorem unL_succ (tx hf : Nat → ByteArray) (n : Nat) : unL tx hf (n + 1) = unL tx hf n ++ [(tx n, hf n)] := by unfold unL; rw [List.range_succ]; simp
theorem unL_len (tx hf : Nat → ByteArray) (n : Nat) : (unL tx hf n).length = n := by unfold unL; simp
/-- Pairs of texts as two rows. -/
def lnT (un : List (ByteArray × ByteArray)) (j : Nat) : ByteArray := ((un[j]?).getD (noT, noT)).1
def lnH (un : List (ByteArray × ByteArray)) (j : Nat) : ByteArray := ((un[j]?).getD (noT, noT)).2
theorem lnT_at {un : List (ByteArray × ByteArray)} {j : Nat} {s : ByteArray × ByteArray} (h : un[j]? = some s) : lnT un j = s.1 := by simp [lnT, h]
theorem lnH_at {un : List (ByteArray × ByteArray)} {j : Nat} {s : ByteArray × ByteArray} (h : un[j]? = some s) : lnH un j = s.2 := by simp [lnH, h]
theorem unL_at (tx hf : Nat → ByteArray) {n j : Nat} (h : j < n) : (unL tx hf n)[j]? = some (tx j, hf j) := by simp [unL, h]
theorem lnT_un (tx hf : Nat → ByteArray) {n j : Nat} (h : j < n) : lnT (unL tx hf n) j = tx j := lnT_at (unL_at tx hf h)
theorem lnH_un (tx hf : Nat → ByteArray) {n j : Nat} (h : j < n) : lnH (unL tx hf n) j = hf j := lnH_at (unL_at tx hf h)
theorem pairsL_succ (A B : Nat → Value) (n : Nat) : pairsL A B (n + 1) = pairsL A B n ++ [A n, B n] := by
  unfold pairsL
  rw [show (n + 1) * 2 = n * 2 + 1 + 1 by omega, List.range_succ, List.range_succ]
  simp only [List.map_append, List.map_cons, List.map_nil, List.append_assoc]
  rw [show (n * 2) % 2 = 0 by omega, show (n * 2 + 1) % 2 = 1 by omega, show n * 2 / 2 = n by omega, show (n * 2 + 1) / 2 = n by omega]
  simp
theorem unL_eq (tx hf : Nat → ByteArray) (n : Nat) (un : List (ByteArray × ByteArray)) (h : un = unL tx hf n) : un.length = n := by rw [h, unL_len]
theorem undoN_len (un : List (ByteArray × ByteArray)) (s : ByteArray × ByteArray) (h : un.length ≤ 50) : (undoN un s).length ≤ 50 := by
  unfold undoN
  split
  · simp; omega
  · simp; omega
theorem pairsL_congr {A B A' B' : Nat → Value} {n : Nat} (h : ∀ j, j < n → A j = A' j ∧ B j = B' j) : pairsL A B n = pairsL A' B' n := by
  unfold pairsL
  refine List.map_congr_left (fun q hq => ?_)
  have hq' : q < n * 2 := List.mem_range.1 hq
  have := h (q / 2) (by omega)
  split
  · exact this.1
  · exact this.2
/-- Pairs of texts as cells. -/
def prL (un : List (ByteArray × ByteArray)) : List Value := pairsL (fun j => .string (lnT un j)) (fun j => .string (lnH un j)) un.length
theorem prL_snoc (un : List (ByteArray × ByteArray)) (s : ByteArray × ByteArray) : prL (un ++ [s]) = prL un ++ [.string s.1, .string s.2] := by
  unfold prL
  rw [List.length_append, List.length_singleton, pairsL_succ]
  have h0 : (un ++ [s])[un.length]? = some s := by simp
  rw [lnT_at h0, lnH_at h0]
  refine congrArg (· ++ _) (pairsL_congr (fun j hj => ?_))
  have h1 : (un ++ [s])[j]? = un[j]? := List.getElem?_append_left hj
  simp [lnT, lnH, h1]
theorem prL_un (tx hf : Nat → ByteArray) (n : Nat) : prL (unL tx hf n) = pairsL (fun j => .string (tx j)) (fun j => .string (hf j)) n := by
  unfold prL
  rw [unL_len]
  exact pairsL_congr (fun j hj => ⟨by rw [lnT_un tx hf hj], by rw [lnH_un tx hf hj]⟩)
theorem lnT_drop (un : List (ByteArray × ByteArray)) (j : Nat) : lnT (un.drop 1) j = lnT un (j + 1) := by simp [lnT]
theorem lnH_drop (un : List (ByteArray × ByteArray)) (j : Nat) : lnH (un.drop 1) j = lnH un (j + 1) := by simp [lnH]
theorem prL_at (un : List (ByteArray × ByteArray)) (j : Nat) (hj : j < un.length) : (prL un)[j * 2]? = some (.string (lnT un j)) ∧ (prL un)[j * 2 + 1]? = some (.string (lnH un j)) := pairsL_at _ _ _ j hj
theorem own2_list {w : World} {base : Nat} {T : TypeId} {v : Value} {n : Nat} {A B : Nat → Value} (h : Own2 w base T v n A B) : w.ownsRow base T 2 v n (pairsL A B n) := by
  obtain ⟨ys, h1, h2⟩ := h
  have hl : ys.length = n * 2 := h1.1
  have e : ys = pairsL A B n := by
    refine List.ext_getElem? (fun i => ?_)
    by_cases hi : i < n * 2
    · obtain ⟨a1, a2⟩ := h2 (i / 2) (by omega)
      obtain ⟨b1, b2⟩ := pairsL_at A B n (i / 2) (by omega)
      by_cases e : i % 2 = 0
      · rw [show i / 2 * 2 = i by omega] at a1 b1
        rw [a1, b1]
      · rw [show i / 2 * 2 + 1 = i by omega] at a2 b2
        rw [a2, b2]
    · rw [List.getElem?_eq_none (by omega), List.getElem?_eq_none (by rw [pairsL_len]; omega)]
  rw [← e]
  exact h1
end Go.Proofs.YtokjpnlmkecleaaGreatDoor

namespace Go.Proofs.YtokjpnlmkecleaaGreatDoor
open Go.RowKit

theorem goodC_ne {c : List Int × Int} (h : GoodC c) : c.1 ≠ [] := by
  intro e
  unfold GoodC at h
  rw [e] at h
  simp at h
theorem textC_pos {X : List (List Int × Int)} (h : ∀ c ∈ X, GoodC c) (hX : X ≠ []) : textC X ≠ [] := by
  cases X with
  | nil => exact absurd rfl hX
  | cons c cs =>
    have h1 := goodC_ne (h c (by simp))
    intro e
    rw [textC_flat, flat] at e
    cases hc : c.1 with
    | nil => exact h1 hc
    | cons x xs =>
      rw [hc] at e
      have hp := encR_pos x
      simp [encA] at e
      rw [e.1] at hp
      simp at hp
theorem cut_good (L : List Int) : ∀ c ∈ cutC L, GoodC c := clus_good _
theorem cut_nil {L : List Int} (h : settleL L = L) : (cutC L).length = 0 ↔ L = [] := by
  constructor
  · intro h0
    have e : cutC L = [] := List.eq_nil_of_length_eq_zero h0
    have h1 : textC (cutC L) = L := h
    rw [e] at h1
    exact h1.symm
  · rintro rfl
    rfl
/-- How far a word goes. -/
noncomputable def wdN (p : Nat → Bool) (n : Nat) : Nat := by
  classical
  exact if h : ∃ r, Wd p n r then h.choose else 0
theorem wdN_eq {p : Nat → Bool} {n r : Nat} (h : Wd p n r) : wdN p n = r := by
  unfold wdN
  rw [dif_pos ⟨r, h⟩]
  exact (Exists.choose_spec (⟨r, h⟩ : ∃ r, Wd p n r)).only h
theorem Wd.le {p : Nat → Bool} {n r : Nat} (h : Wd p n r) : r ≤ n := by
  obtain ⟨m, _, h2⟩ := h
  exact h2.2.1
noncomputable def wdR (cs : List (List Int × Int)) : Nat := wdN (fun j => spB (cR cs j)) cs.length
noncomputable def wdL (cs : List (List Int × Int)) : Nat := wdN (fun j => spB (cR cs (cs.length - 1 - j))) cs.length
/-- A line and what a key did. -/
structure LD where
  a : ByteArray
  b : ByteArray
  c : ByteArray
  un : List (ByteArray × ByteArray)
  d : Int
section
variable (a b c : ByteArray) (un : List (ByteArray × ByteArray))
def edMv (n : Nat) : LD := ⟨toBA (textC ((cutC (baL a) ++ cutC (baL b)).take n)), toBA (textC ((cutC (baL a) ++ cutC (baL b)).drop n)), c, un, 1⟩
def edSet (l r : ByteArray) : LD := ⟨l, r, c, undoN un (a, b), 1⟩
def edLeft : LD := if (cutC (baL a)).length = 0 then ⟨a, b, c, un, 2⟩ else edMv a b c un ((cutC (baL a)).length - 1)
def edRight : LD := if (cutC (baL b)).length = 0 then ⟨a, b, c, un, 2⟩ else edMv a b c un ((cutC (baL a)).length + 1)
def edHome : LD := if (cutC (baL a)).length = 0 then ⟨a, b, c, un, 0⟩ else edMv a b c un 0
def edEnd : LD := if (cutC (baL b)).length = 0 then ⟨a, b, c, un, 0⟩ else edMv a b c un ((cutC (baL a)).length + (cutC (baL b)).length)
noncomputable def edWl : LD := if wdL (cutC (baL a)) = 0 then ⟨a, b, c, un, 2⟩ else edMv a b c un ((cutC (baL a)).length - wdL (cutC (baL a)))
noncomputable def edWr : LD := if wdR (cutC (baL b)) = 0 then ⟨a, b, c, un, 2⟩ else edMv a b c un ((cutC (baL a)).length + wdR (cutC (baL b)))
def edPut (rs : List Int) : LD := if rs.length = 0 then ⟨a, b, c, un, 0⟩ else if 300 < (flat (clusC (cleanL (baL a) ++ rs))).length + (cleanL (baL b)).length then ⟨a, b, c, un, 2⟩ else edSet a b c un (toBA (textC (clusC (cleanL (baL a) ++ rs)))) b
def edBack : LD := if (cutC (baL a)).length = 0 then ⟨a, b, c, un, 2⟩ else edSet a b c un (toBA (textC ((cutC (baL a)).take ((cutC (baL a)).length - 1)))) b
def edDel : LD := if (cutC (baL b)).length = 0 then (if (cutC (baL a)).length = 0 then ⟨a, b, c, un, 8⟩ else ⟨a, b, c, un, 2⟩) else edSet a b c un a (toBA (textC ((cutC (baL b)).drop 1)))
def edKe : LD := if (cutC (baL b)).length = 0 then ⟨a, b, c, un, 2⟩ else ⟨a, noT, b, undoN un (a, b), 1⟩
def edKs : LD := if (cutC (baL a)).length = 0 then ⟨a, b, c, un, 2⟩ else ⟨noT, b, a, undoN un (a, b), 1⟩
noncomputable def edKw : LD := if wdL (cutC (baL a)) = 0 then ⟨a, b, c, un, 2⟩ else ⟨toBA (textC ((cutC (baL a)).take ((cutC (baL a)).length - wdL (cutC (baL a))))), b, toBA (textC ((cutC (baL a)).drop ((cutC (baL a)).length - wdL (cutC (baL a))))), undoN un (a, b), 1⟩
def edYank : LD := if (baL c).length = 0 then ⟨a, b, c, un, 2⟩ else if 300 < (cleanL (baL a)).length + (cleanL (baL c)).length + (cleanL (baL b)).length then ⟨a, b, c, un, 2⟩ else edSet a b c un (toBA (baL a ++ baL c)) b
def edSwap : LD := if 1 ≤ (cutC (baL a)).length ∧ 1 ≤ (cutC (baL b)).length then edSet a b c un (toBA (textC ((cutC (baL a)).take ((cutC (baL a)).length - 1)) ++ textC ((cutC (baL b)).take 1) ++ textC ((cutC (baL a)).drop ((cutC (baL a)).length - 1)))) (toBA (textC ((cutC (baL b)).drop 1)))
  else if 2 ≤ (cutC (baL a)).length ∧ (cutC (baL b)).length = 0 then edSet a b c un (toBA (textC ((cutC (baL a)).take ((cutC (baL a)).length - 2)) ++ textC ((cutC (baL a)).drop ((cutC (baL a)).length - 1)) ++ textC (((cutC (baL a)).take ((cutC (baL a)).length - 1)).drop ((cutC (baL a)).length - 2)))) noT
  else ⟨a, b, c, un, 2⟩
def edUndo : LD := if un.length = 0 then ⟨a, b, c, un, 2⟩ else ⟨lnT un (un.length - 1), lnH un (un.length - 1), c, un.take (un.length - 1), 1⟩
/-- What a key does to a valid line. -/
noncomputable def edF (kd : Int) (rs : List Int) : LD :=
  if kd = 1 ∨ kd = 2 then edPut a b c un rs else if kd = 4 then edBack a b c un else if kd = 5 then edDel a b c un else if kd = 6 then edLeft a b c un else if kd = 7 then edRight a b c un
  else if kd = 8 then edHome a b c un else if kd = 9 then edEnd a b c un else if kd = 18 then edWl a b c un else if kd = 19 then edWr a b c un
  else if kd = 12 then edKe a b c un else if kd = 13 then edKs a b c un else if kd = 14 then edKw a b c un else if kd = 15 then edYank a b c un else if kd = 16 then edSwap a b c un else if kd = 17 then edUndo a b c un
  else ⟨a, b, c, un, if kd = 3 then 3 else if kd = 21 then 4 else if kd = 10 then 5 else if kd = 11 then 6 else if kd = 20 then 7 else 0⟩
end
theorem unL_ln (un : List (ByteArray × ByteArray)) : unL (lnT un) (lnH un) un.length = un := by
  apply List.ext_getElem?
  intro j
  by_cases h : j < un.length
  · rw [unL_at _ _ h, lnT, lnH, List.getElem?_eq_getElem h]
    rfl
  · rw [List.getElem?_eq_none (by rw [unL_len]; omega), List.getElem?_eq_none (by omega)]
/-- The undo row of a line reads so. -/
def LnAt (w : World) (v : Value) (un : List (ByteArray × ByteArray)) : Prop := Row2At w v un.length (fun j => .string (lnT un j)) (fun j => .string (lnH un j))
theorem LnAt.ext {w w' : World} {v : Value} {un : List (ByteArray × ByteArray)} (h : LnAt w v un) (E : Ext w w') : LnAt w' v un := Row2At.ext h E
/-- The same, owned. -/
def LnO (w : World) (base : Nat) (o : LD) (e : Ending) : Prop := ∃ v, e = .returned (.tuple #[.agg #[.string o.a, .string o.b, .string o.c, v], .int .i64 o.d]) ∧ Own2 w base 49 v o.un.length (fun j => .string (lnT o.un j)) (fun j => .string (lnH o.un j))
end Go.Proofs.YtokjpnlmkecleaaGreatDoor

namespace Go.Proofs.YtokjpnlmkecleaaGreatDoor
open Go.RowKit

theorem set_blk {W : World} {b i : Nat} {cs : Array Value} {T : TypeId} {v : Value} (h : W.heap[b]? = some (.cells cs T (0, 0))) : (W.setCell ⟨b, i, none⟩ v).heap[b]? = some (.cells (cs.setIfInBounds i v) T (0, 0)) := heap_setCell_same W b i _ _ _ h
theorem set_blk2 {W : World} {b i : Nat} {cs cs' : Array Value} {T : TypeId} {v : Value} (h : W.heap[b]? = some (.cells cs T (0, 0))) (e : cs.setIfInBounds i v = cs') : (W.setCell ⟨b, i, none⟩ v).heap[b]? = some (.cells cs' T (0, 0)) := by
  rw [set_blk h, e]
theorem set_else {W : World} {b c i : Nat} {v : Value} {o : Obj} (h : W.heap[b]? = some o) (hne : b ≠ c) : (W.setCell ⟨c, i, none⟩ v).heap[b]? = some o := (Below.heap_setCell W ⟨c, i, none⟩ v b hne).trans h
/-- Where a walk shall stand. -/
def StopQ (p : Prop) : Prop := p
theorem StopQ.intro {p : Prop} (h : StopQ p) : p := h
theorem Src.snaps {w : World} {v : Value} {n : Nat} {tx hf : Nat → ByteArray} (h : Row2At w v n (fun j => .string (tx j)) (fun j => .string (hf j))) : Src w 2 v n (pairsL (fun j => .string (tx j)) (fun j => .string (hf j)) n) := by
  refine ⟨pairsL_len _ _ _, pairsL_one, ?_⟩
  obtain ⟨ao, c, rfl, hc, hx⟩ := h
  by_cases h0 : n = 0
  · subst h0
    cases ao with
    | none => exact .inl ⟨c, rfl, rfl⟩
    | some ad => exact .inr ⟨ad, c, rfl, fun j u hu => by simp [pairsL] at hu⟩
  · obtain ⟨bb, off, e, hcc⟩ := hx (by omega)
    subst e
    exact .inr ⟨_, c, rfl, pairsL_news hcc⟩
theorem own2_pairs {w : World} {base : Nat} {T : TypeId} {v : Value} {n : Nat} {A B : Nat → Value} (h : w.ownsRow base T 2 v n (pairsL A B n)) : Own2 w base T v n A B := ⟨_, h, fun j hj => pairsL_at A B n j hj⟩
theorem owns_ln {w : World} {b : Nat} {T : TypeId} {sz : Nat} {v : Value} {n : Nat} {xs : List Value} (h : w.ownsRow b T sz v n xs) : ∃ a c, v = .slice a n c := by
  rcases h.2 with ⟨rfl, h0⟩ | ⟨g, c, _, rfl, _⟩
  · exact ⟨none, 0, by rw [h0]⟩
  · exact ⟨_, c, rfl⟩
set_option maxRecDepth 10000 in
set_option maxHeartbeats 2000000 in
theorem l4Copy_any (a b c : ByteArray) (v : Value) (n : Nat) (tx hf : Nat → ByteArray) (w : World) (hv : Row2At w v n (fun j => .string (tx j)) (fun j => .string (hf j))) (hn : n ≤ 1048576) :
    Calls Tryz.prog 30 #[.agg #[.string a, .string b, .string c, v]] w fun e w' => ∃ ua uc, e = .returned (.agg #[.string a, .string b, .string c, .slice ua n uc]) ∧ Hid (Own2 w' w.heap.size 49 (.slice ua n uc) n (fun j => .string (tx j)) (fun j => .string (hf j))) ∧ Ext w w' := by
  obtain ⟨ic, hic, hc0, hc1, hc2⟩ := info_parts infoSnap
  have HV := hide hv
  obtain ⟨ao, ca, rfl, _, _⟩ := hv
  obtain ⟨V, hV⟩ : ∃ V, V = (w.alloc (.cells #[.string a, .string b, .string c, .slice ao n ca] 25)).alloc (.cells #[.string { data := #[] }, .string { data := #[] }, .string { data := #[] }, .slice none 0 0] 25) := ⟨_, rfl⟩
  have E0 : Ext w V := by rw [hV]; exact ((Ext.refl w).alloc _).alloc _
  have sz0 : V.heap.size = w.heap.size + 1 + 1 := by rw [hV]; simp
  have HB0 : Hid (V.heap[w.heap.size]? = some (.cells #[.string a, .string b, .string c, .slice ao n ca] 25 (0, 0))) := hide (by rw [hV]; exact ((Ext.refl _).alloc _).kept (new_block w _))
  have HB1 : Hid (V.heap[w.heap.size + 1]? = some (.cells #[.string { data := #[] }, .string { data := #[] }, .string { data := #[] }, .slice none 0 0] 25 (0, 0))) := hide (by rw [hV]; have h := new_block (w.alloc (.cells #[.string a, .string b, .string c, .slice ao n ca] 25)) (.cells #[.string { data := #[] }, .string { data := #[] }, .string { data := #[] }, .slice none 0 0] 25); rw [show (w.alloc (.cells #[.string a, .string b, .string c, .slice ao n ca] 25)).heap.size = w.heap.size + 1 by simp] at h; exact h)
  have HO := hide (owns_empty V 49 2)
  have HSR := hide (Src.snaps ((unhide HV).ext (E0.alloc (.cells #[] 49))))
  obtain ⟨V2, hV2⟩ : ∃ V2, V2 = V.alloc (.cells #[] 49) := ⟨_, rfl⟩
  have EV : Ext V V2 := by rw [hV2]; exact (Ext.refl V).alloc _
  have sz2 : V2.heap.size = w.heap.size + 1 + 1 + 1 := by rw [hV2]; simp [sz0]
  rw [← hV2] at HO HSR
  have HVV : Hid (V2 = ((w.alloc (.cells #[.string a, .string b, .string c, .slice ao n ca] 25)).alloc (.cells #[.string { data := #[] }, .string { data := #[] }, .string { data := #[] }, .slice none 0 0] 25)).alloc (.cells #[] 49)) := hide (by rw [hV2, hV])
  rw [sz0] at HO
  clear hV hV2
  go_enter Tryz.func30, Tryz.ntmps30
  go_wp2_with (at_builtin; refine StopQ.intro ?_)
  show wpList _ _ _ _ _ _
  rw [← unhide HVV]
  clear HVV
  refine wpList_app rfl _ _ 23 rfl (w.heap.size + 1 + 1) 49 ic (.agg #[.string noT, .string noT]) 2 32 Tryz.underlying23 hic hc0 hc1 hc2 rfl (by decide) _ 0 [] rfl (unhide HO) _ n (pairsL (fun j => .string (tx j)) (fun j => .string (hf j)) n) rfl (unhide HSR) (by unfold maxLen; omega) (by omega) (by omega) ?_
  intro v2 w2 o2 G2 _
  have X2 := Fr.grown (S := fun q => q = w.heap.size + 1 + 1) (Fr.of_ext EV) G2 (fun q hq => by cases hq; rfl)
  have E2 : Ext w w2 := X2.ext E0 (fun q hq => by omega)
  rw [Nat.zero_add, List.nil_append] at o2
  obtain ⟨a2, c2, rfl⟩ := owns_ln o2
  replace HB0 := hide (X2.kept (unhide HB0) (by omega))
  replace HB1 := hide (X2.kept (unhide HB1) (by omega))
  have HO2 := hide (own2_pairs o2)
  have x3 : w2.cell? ⟨w.heap.size, 3, none⟩ = some (.slice ao n ca) := cells_of (unhide HB0) 3 _ rfl
  have f0 : ∀ i, w2.frozen? ⟨w.heap.size, i, none⟩ = false := fun i => Lib.frozen_of_heap (unhide HB0) i
  have infoL : (Tryz.prog.info? 25).map (·.size) = some 4 := by kernel_rfl
  have HB0s : Hid ((w2.setCell ⟨w.heap.size, 3, none⟩ (.slice a2 n c2)).heap[w.heap.size]? = some (.cells #[.string a, .string b, .string c, .slice a2 n c2] 25 (0, 0))) := hide (set_blk2 (unhide HB0) rfl)
  have HB1s : Hid ((w2.setCell ⟨w.heap.size, 3, none⟩ (.slice a2 n c2)).heap[w.heap.size + 1]? = some (.cells #[.string { data := #[] }, .string { data := #[] }, .string { data := #[] }, .slice none 0 0] 25 (0, 0))) := hide (set_else (unhide HB1) (by omega))
  clear o2 G2 X2
  go_wp2_with (first
    | (refine wpList_load_blk rfl 25 _ rfl (w.heap.size) rfl _ _ _ _ (unhide HB0s) Tryz.underlying25 rfl infoL ?_)
    | (refine wpList_store_blk rfl 25 _ _ rfl rfl (w.heap.size + 1) rfl _ _ _ rfl (unhide HB1s) infoL rfl (by simp [Value.oneCell']) ?_; intro U HB9 hU9; have HU9 := hide hU9; have HB9' := hide HB9; clear hU9 HB9))
  have HB9 := unhide HB9'
  have hU : Fr (fun q => q = w.heap.size ∨ q = w.heap.size + 1) w2 U := (Fr.setCell (S := fun q => q = w.heap.size ∨ q = w.heap.size + 1) (Fr.refl _ _) (a := ⟨w.heap.size, 3, none⟩) (.inl rfl) _).tr ((unhide HU9).mono (fun q hq => .inr hq))
  clear HU9 HB9' x3 f0
  have v0 : U.cell? ⟨w.heap.size + 1, 0, none⟩ = some (.string a) := cells_of HB9 0 _ rfl
  have v1 : U.cell? ⟨w.heap.size + 1, 1, none⟩ = some (.string b) := cells_of HB9 1 _ rfl
  have v2 : U.cell? ⟨w.heap.size + 1, 2, none⟩ = some (.string c) := cells_of HB9 2 _ rfl
  have v3 : U.cell? ⟨w.heap.size + 1, 3, none⟩ = some (.slice a2 n c2) := cells_of HB9 3 _ rfl
  exact bodyPost_ret (v := .agg #[.string a, .string b, .string c, .slice a2 n c2]) (by simp [results, Tryz.results30, go_sem, v0, v1, v2, v3]) rfl ⟨a2, c2, rfl, hide (((unhide HO2).fr hU (fun g hg e9 => by have := ((unhide HO2).lt g hg).1; omega)).mono (by omega)), hU.ext E2 (fun q hq => by omega)⟩
set_option maxRecDepth 10000 in
set_option maxHeartbeats 2000000 in
theorem copyLine_any (a b c : ByteArray) (v : Value) (n : Nat) (tx hf : Nat → ByteArray) (w : World) (hv : Row2At w v n (fun j => .string (tx j)) (fun j => .string (hf j))) (hn : n ≤ 1048576) :
    Calls Tryz.prog 26 #[.agg #[.string a, .string b, .string c, v]] w fun e w' => ∃ ua uc, e = .returned (.agg #[.string a, .string b, .string c, .slice ua n uc]) ∧ Hid (Own2 w' w.heap.size 49 (.slice ua n uc) n (fun j => .string (tx j)) (fun j => .string (hf j))) ∧ Ext w w' := by
  obtain ⟨ic, hic, hc0, hc1, hc2⟩ := info_parts infoSnap
  have HSR := hide (fun W (hW : Ext w W) => Src.snaps (hv.ext hW))
  obtain ⟨ao, ca, rfl, _, _⟩ := hv
  have infoL : (Tryz.prog.info? 25).map (·.size) = some 4 := by kernel_rfl
  have HA0 : Hid (((w.alloc (.cells #[.string a, .string b, .string c, .slice ao n ca] 25)).alloc (.cells #[.string { data := #[] }, .string { data := #[] }, .string { data := #[] }, .slice none 0 0] 25)).heap[w.heap.size]? = some (.cells #[.string a, .string b, .string c, .slice ao n ca] 25 (0, 0))) := hide (((Ext.refl _).alloc _).kept (new_block w _))
  have HA2 : Hid ((((w.alloc (.cells #[.string a, .string b, .string c, .slice ao n ca] 25)).alloc (.cells #[.string { data := #[] }, .string { data := #[] }, .string { data := #[] }, .slice none 0 0] 25)).alloc (.cells #[.string { data := #[] }, .string { data := #[] }, .string { data := #[] }, .slice none 0 0] 25)).heap[w.heap.size + 1 + 1]? = some (.cells #[.string { data := #[] }, .string { data := #[] }, .string { data := #[] }, .slice none 0 0] 25 (0, 0))) := hide (by have h := new_block ((w.alloc (.cells #[.string a, .string b, .string c, .slice ao n ca] 25)).alloc (.cells #[.string { data := #[] }, .string { data := #[] }, .string { data := #[] }, .slice none 0 0] 25)) (.cells #[.string { data := #[] }, .string { data := #[] }, .string { data := #[] }, .slice none 0 0] 25); rw [show ((w.alloc (.cells #[.string a, .string b, .string c, .slice ao n ca] 25)).alloc (.cells #[.string { data := #[] }, .string { data := #[] }, .string { data := #[] }, .slice none 0 0] 25)).heap.size = w.heap.size + 1 + 1 by simp] at h; exact h)
  have HA1 : Hid ((((w.alloc (.cells #[.string a, .string b, .string c, .slice ao n ca] 25)).alloc (.cells #[.string { data := #[] }, .string { data := #[] }, .string { data := #[] }, .slice none 0 0] 25)).alloc (.cells #[.string { data := #[] }, .string { data := #[] }, .string { data := #[] }, .slice none 0 0] 25)).heap[w.heap.size + 1]? = some (.cells #[.string { data := #[] }, .string { data := #[] }, .string { data := #[] }, .slice none 0 0] 25 (0, 0))) := hide (by refine ((Ext.refl _).alloc _).kept ?_; have h := new_block (w.alloc (.cells #[.string a, .string b, .string c, .slice ao n ca] 25)) (.cells #[.string { data := #[] }, .string { data := #[] }, .string { data := #[] }, .slice none 0 0] 25); rw [show (w.alloc (.cells #[.string a, .string b, .string c, .slice ao n ca] 25)).heap.size = w.heap.size + 1 by simp] at h; exact h)
  have HAE : Hid (Ext w (((w.alloc (.cells #[.string a, .string b, .string c, .slice ao n ca] 25)).alloc (.cells #[.string { data := #[] }, .string { data := #[] }, .string { data := #[] }, .slice none 0 0] 25)).alloc (.cells #[.string { data := #[] }, .string { data := #[] }, .string { data := #[] }, .slice none 0 0] 25))) := hide ((((Ext.refl w).alloc _).alloc _).alloc _)
  have HAs : Hid ((((w.alloc (.cells #[.string a, .string b, .string c, .slice ao n ca] 25)).alloc (.cells #[.string { data := #[] }, .string { data := #[] }, .string { data := #[] }, .slice none 0 0] 25)).alloc (.cells #[.string { data := #[] }, .string { data := #[] }, .string { data := #[] }, .slice none 0 0] 25)).heap.size = w.heap.size + 1 + 1 + 1) := hide (by simp)
  go_enter Tryz.func26, Tryz.ntmps26
  go_wp2_with (first
    | (refine wpList_load_blk rfl 25 _ rfl (w.heap.size) rfl _ _ _ _ (unhide HA0) Tryz.underlying25 rfl infoL ?_)
    | (refine wpList_store_blk rfl 25 _ _ rfl rfl (w.heap.size + 1 + 1) rfl _ _ _ rfl (unhide HA2) infoL rfl (by simp [Value.oneCell']) ?_; intro U HB9 hU9; have k3 : U.cell? ⟨w.heap.size, 3, none⟩ = some (.slice ao n ca) := cells_of (hU9.kept (((Ext.refl _).alloc _).kept (unhide HA0)) (by omega)) 3 _ rfl; have HU9 := hide hU9; have HB2 := hide HB9; clear hU9 HB9)
    | (at_builtin; refine StopQ.intro ?_))
  show wpList _ _ _ _ _ _
  have E0 : Ext w U := (unhide HU9).ext (unhide HAE) (fun q hq => by omega)
  have zU : w.heap.size + 1 + 1 + 1 ≤ U.heap.size := by have h1 := (unhide HU9).size; have h2 := unhide HAs; omega
  have HB0 := hide ((unhide HU9).kept (((Ext.refl _).alloc _).kept (unhide HA0)) (by omega))
  have HB1 := hide ((unhide HU9).kept (unhide HA1) (by omega))
  clear HU9 HA0 HA1 HA2 HAE HAs k3 HB0
  refine wpList_app rfl _ _ 23 rfl U.heap.size 49 ic (.agg #[.string noT, .string noT]) 2 32 Tryz.underlying23 hic hc0 hc1 hc2 rfl (by decide) _ 0 [] rfl (owns_nil _ _ _ _) _ n (pairsL (fun j => .string (tx j)) (fun j => .string (hf j)) n) rfl ((unhide HSR) _ E0) (by unfold maxLen; omega) (by omega) (Nat.le_refl _) ?_
  intro v2 w2 o2 G2 _
  have X2 : Ext U w2 := (Ext.refl U).grown G2 (fun q hq => by cases hq)
  have E2 := E0.trans X2
  rw [Nat.zero_add, List.nil_append] at o2
  obtain ⟨a2, c2, rfl⟩ := owns_ln o2
  replace HB1 := hide (X2.kept (unhide HB1))
  replace HB2 := hide (X2.kept (unhide HB2))
  have HO2 := hide (own2_pairs o2)
  have y3 : w2.cell? ⟨w.heap.size + 1 + 1, 3, none⟩ = some (.slice ao n ca) := cells_of (unhide HB2) 3 _ rfl
  have f2 : ∀ i, w2.frozen? ⟨w.heap.size + 1 + 1, i, none⟩ = false := fun i => Lib.frozen_of_heap (unhide HB2) i
  have HB2s : Hid ((w2.setCell ⟨w.heap.size + 1 + 1, 3, none⟩ (.slice a2 n c2)).heap[w.heap.size + 1 + 1]? = some (.cells #[.string a, .string b, .string c, .slice a2 n c2] 25 (0, 0))) := hide (set_blk2 (unhide HB2) rfl)
  have HB1s : Hid ((w2.setCell ⟨w.heap.size + 1 + 1, 3, none⟩ (.slice a2 n c2)).heap[w.heap.size + 1]? = some (.cells #[.string { data := #[] }, .string { data := #[] }, .string { data := #[] }, .slice none 0 0] 25 (0, 0))) := hide (set_else (unhide HB1) (by omega))
  clear o2 G2 HSR
  go_wp2_with (first
    | (refine wpList_load_blk rfl 25 _ rfl (w.heap.size + 1 + 1) rfl _ _ _ _ (unhide HB2s) Tryz.underlying25 rfl infoL ?_)
    | (refine wpList_store_blk rfl 25 _ _ rfl rfl (w.heap.size + 1) rfl _ _ _ rfl (unhide HB1s) infoL rfl (by simp [Value.oneCell']) ?_; intro Y HB9 hU9; have HU9 := hide hU9; have HB9' := hide HB9; clear hU9 HB9))
  have HB9 := unhide HB9'
  have hU : Fr (fun q => q = w.heap.size + 1 + 1 ∨ q = w.heap.size + 1) w2 Y := (Fr.setCell (S := fun q => q = w.heap.size + 1 + 1 ∨ q = w.heap.size + 1) (Fr.refl _ _) (a := ⟨w.heap.size + 1 + 1, 3, none⟩) (.inl rfl) _).tr ((unhide HU9).mono (fun q hq => .inr hq))
  clear HU9 HB9' y3 f2
  have v0 : Y.cell? ⟨w.heap.size + 1, 0, none⟩ = some (.string a) := cells_of HB9 0 _ rfl
  have v1 : Y.cell? ⟨w.heap.size + 1, 1, none⟩ = some (.string b) := cells_of HB9 1 _ rfl
  have v2 : Y.cell? ⟨w.heap.size + 1, 2, none⟩ = some (.string c) := cells_of HB9 2 _ rfl
  have v3 : Y.cell? ⟨w.heap.size + 1, 3, none⟩ = some (.slice a2 n c2) := cells_of HB9 3 _ rfl
  exact bodyPost_ret (v := .agg #[.string a, .string b, .string c, .slice a2 n c2]) (by simp [results, Tryz.results26, go_sem, v0, v1, v2, v3]) rfl ⟨a2, c2, rfl, hide (((unhide HO2).fr hU (fun g hg e9 => by have := ((unhide HO2).lt g hg).1; omega)).mono (by omega)), hU.ext E2 (fun q hq => by omega)⟩
end Go.Proofs.YtokjpnlmkecleaaGreatDoor
