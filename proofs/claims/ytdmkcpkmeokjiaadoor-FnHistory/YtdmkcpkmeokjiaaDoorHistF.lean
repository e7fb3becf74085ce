import Derived.Test.YtdmkcpkmeokjiaaDoorHistE
namespace Go.Proofs.YtdmkcpkmeokjiaaDoor
open Go.RowKit

/-- Texts with more behind them. -/
def moreT (n : Nat) (tx : Nat → ByteArray) (L : List ByteArray) (j : Nat) : ByteArray := if j < n then tx j else (L[j - n]?).getD { data := #[] }
theorem own1_more {w : World} {base : Nat} {T : TypeId} {v : Value} {n : Nat} {ys : List Value} {tx : Nat → ByteArray} {L : List ByteArray} (h : w.ownsRow base T 1 v (n + L.length) (ys ++ L.map Value.string)) (hl : ys.length = n) (hy : ∀ j, j < n → ys[j]? = some (.string (tx j))) : Own1 w base T v (n + L.length) (fun j => .string (moreT n tx L j)) := by
  refine ⟨_, h, fun j hj => ?_⟩
  show (ys ++ L.map Value.string)[j]? = some (.string (moreT n tx L j))
  unfold moreT
  by_cases e : j < n
  · rw [List.getElem?_append_left (by omega), hy j e, if_pos e]
  · rw [List.getElem?_append_right (by omega), if_neg e, hl]
    simp [List.getElem?_eq_getElem (show j - n < L.length by omega)]
theorem moreT_size {n : Nat} {tx : Nat → ByteArray} {L : List ByteArray} (h : ∀ j, j < n → (tx j).size ≤ 400) (hL : ∀ s ∈ L, s.size ≤ 400) (j : Nat) : (moreT n tx L j).size ≤ 400 := by
  unfold moreT
  split
  · exact h j ‹_›
  · cases e : L[j - n]? with
    | none => show (0 : Nat) ≤ 400; omega
    | some s => exact hL s (List.mem_of_getElem? e)
theorem fr_D {w0 w w' : World} {D : Nat} {S : Nat → Prop} (h : Fr (fun q => q = D) w0 w) (k : Fr S w w') (hS : ∀ x, S x → x = D ∨ w0.heap.size ≤ x) : Fr (fun q => q = D) w0 w' := fr_off h k hS
theorem rest5 (x : Nat) : x % 5 = 0 ∨ ∃ L : List ByteArray, (∀ s ∈ L, s.size ≤ 400) ∧ L.length ≤ 2 ∧ 0 < L.length ∧ ((x % 5 = 1 ∧ L = [⟨#[97]⟩, ⟨#[97]⟩]) ∨ (x % 5 = 2 ∧ L = [⟨#[]⟩]) ∨ (x % 5 = 3 ∧ L = [⟨#[1]⟩]) ∨ (x % 5 = 4 ∧ L = [⟨#[110, 101, 119]⟩])) := by
  have : x % 5 = 0 ∨ x % 5 = 1 ∨ x % 5 = 2 ∨ x % 5 = 3 ∨ x % 5 = 4 := by omega
  rcases this with h | h | h | h | h
  · exact .inl h
  · exact .inr ⟨_, by intro s hs; simp at hs; rw [hs]; decide, by simp, by simp, .inl ⟨h, rfl⟩⟩
  · exact .inr ⟨_, by intro s hs; simp at hs; rw [hs]; decide, by simp, by simp, .inr (.inl ⟨h, rfl⟩)⟩
  · exact .inr ⟨_, by intro s hs; simp at hs; rw [hs]; decide, by simp, by simp, .inr (.inr (.inl ⟨h, rfl⟩))⟩
  · exact .inr ⟨_, by intro s hs; simp at hs; rw [hs]; decide, by simp, by simp, .inr (.inr (.inr ⟨h, rfl⟩))⟩
set_option maxRecDepth 10000 in
set_option maxHeartbeats 2000000 in
theorem l5Spoil_any (D : Nat) (v : Value) (bs : List Int) (q0 p0 : Nat) (w0 w : World) (hR0 : RdAt w0 D v bs q0) (hF0 : Fr (fun k => k = D) w0 w) (h : RdAt w D v bs p0) (hB : Bytes bs) (hl : bs.length ≤ 16777216) (cap : Int) (g n c : Nat) (tx : Nat → ByteArray) (hO : Own1 w w0.heap.size 9 (.slice (some ⟨g, 0, none⟩) n c) n (fun j => .string (tx j))) (hn : n ≤ 9) (hS : ∀ j, j < n → (tx j).size ≤ 400) :
    Calls Tryd.prog 29 #[.pointer (some ⟨D, 0, none⟩), .agg #[.int .i64 cap, .slice (some ⟨g, 0, none⟩) n c]] w fun e w' => ∃ (cap : Int) (g n c : Nat), e = .returned (.agg #[.int .i64 cap, .slice (some ⟨g, 0, none⟩) n c]) ∧ n ≤ 100 ∧ ∃ (p : Nat) (tx : Nat → ByteArray), (∀ j, j < n → (tx j).size ≤ 400) ∧ Own1 w' w0.heap.size 9 (.slice (some ⟨g, 0, none⟩) n c) n (fun j => .string (tx j)) ∧ RdAt w' D v bs p ∧ Fr (fun k => k = D) w0 w' := by
  obtain ⟨ic, hic, hc0, hc1, hc2⟩ := info_parts infoStrs
  obtain ⟨x, hx, hx2⟩ := byte_nat hB p0
  have hDw : D < w0.heap.size := lt_of_cell hR0.1
  have hww := hF0.size
  have HR := hide hR0
  have HN := hide (fun W (E : Ext w W) => next_any D v bs p0 W (h.ext E) hB hl)
  rw [hx] at HN
  have HO := hide hO
  have HS := hide hS
  have HF0 := hide hF0
  have hgl := (hO.lt g rfl).1
  clear h hx hR0 hF0 hO hS
  obtain ⟨V, hV⟩ : ∃ V, V = (w.alloc (.cells #[.int .i64 cap, .slice (some ⟨g, 0, none⟩) n c] 25)).alloc (.cells #[.int .i64 0, .slice none 0 0] 25) := ⟨_, rfl⟩
  have E0 : Ext w V := by rw [hV]; exact ((Ext.refl w).alloc _).alloc _
  have HB0 : Hid (V.heap[w.heap.size]? = some (.cells #[.int .i64 cap, .slice (some ⟨g, 0, none⟩) n c] 25 (0, 0))) := hide (by rw [hV]; exact ((Ext.refl _).alloc _).kept (new_block w _))
  have HB1 : Hid (V.heap[w.heap.size + 1]? = some (.cells #[.int .i64 0, .slice none 0 0] 25 (0, 0))) := hide (by rw [hV]; have h := new_block (w.alloc (.cells #[.int .i64 cap, .slice (some ⟨g, 0, none⟩) n c] 25)) (.cells #[.int .i64 0, .slice none 0 0] 25); rw [show (w.alloc (.cells #[.int .i64 cap, .slice (some ⟨g, 0, none⟩) n c] 25)).heap.size = w.heap.size + 1 by simp] at h; exact h)
  have HW := hide hV
  clear hV
  go_enter Tryd.func29, Tryd.ntmps29
  go_wp2_with fail
  rw [← unhide HW]
  clear HW
  refine ((unhide HN) _ E0).mono ?_
  rintro e w1 ⟨rfl, r1, f1⟩
  obtain ⟨p1, hp1⟩ : ∃ p1, p1 = (if p0 < bs.length then p0 + 1 else p0) := ⟨_, rfl⟩
  rw [← hp1] at r1
  have f1' := (Fr.of_ext (S := fun k => k = D) E0).tr f1
  have HF1 := hide ((unhide HF0).tr f1')
  replace HB0 := hide (f1.kept (unhide HB0) (by omega))
  replace HB1 := hide (f1.kept (unhide HB1) (by omega))
  replace HO := hide ((unhide HO).fr f1' (fun q hq e9 => by have := ((unhide HO).lt q hq).1; omega))
  have HR1 := hide r1
  have a0 : w1.cell? ⟨w.heap.size, 0, none⟩ = some (.int .i64 cap) := cells_of (unhide HB0) 0 _ rfl
  have a1 : w1.cell? ⟨w.heap.size, 1, none⟩ = some (.slice (some ⟨g, 0, none⟩) n c) := cells_of (unhide HB0) 1 _ rfl
  have b0 : w1.cell? ⟨w.heap.size + 1, 0, none⟩ = some (.int .i64 0) := cells_of (unhide HB1) 0 _ rfl
  have b1 : w1.cell? ⟨w.heap.size + 1, 1, none⟩ = some (.slice none 0 0) := cells_of (unhide HB1) 1 _ rfl
  have fa : ∀ i, w1.frozen? ⟨w.heap.size, i, none⟩ = false := fun i => Lib.frozen_of_heap (unhide HB0) i
  have fb : ∀ i, w1.frozen? ⟨w.heap.size + 1, i, none⟩ = false := fun i => Lib.frozen_of_heap (unhide HB1) i
  clear HN E0 r1 f1 f1' hp1 HF0
  rcases rest5 x with h5 | ⟨L, hL, hL2, hL0, hc⟩
  · have hq : (x : Int) % 5 = 0 := by omega
    obtain ⟨k, hk⟩ : ∃ k : Int, k = (100 + (x : Int) / 128) * ((x : Int) / 5 % 2) := ⟨_, rfl⟩
    have hw1 : IntKind.i64.wrap (100 + (x : Int) / 128) = 100 + (x : Int) / 128 := by rw [IntKind.wrap_i64]; omega
    have hw2 : IntKind.i64.wrap ((100 + (x : Int) / 128) * ((x : Int) / 5 % 2)) = k := by
      have : (x : Int) / 5 % 2 = 0 ∨ (x : Int) / 5 % 2 = 1 := by omega
      rw [hk, IntKind.wrap_i64]
      rcases this with h | h <;> rw [h] <;> omega
    clear hk
    go_wp2
    have FT : Fr (fun q => q = w.heap.size ∨ q = w.heap.size + 1) w1 (((w1.setCell ⟨w.heap.size, 0, none⟩ (.int .i64 k)).setCell ⟨w.heap.size + 1, 0, none⟩ (.int .i64 k)).setCell ⟨w.heap.size + 1, 1, none⟩ (.slice (some ⟨g, 0, none⟩) n c)) := ((Fr.setCell (S := fun q => q = w.heap.size ∨ q = w.heap.size + 1) (Fr.refl _ w1) (a := ⟨w.heap.size, 0, none⟩) (.inl rfl) _).setCell (a := ⟨w.heap.size + 1, 0, none⟩) (.inr rfl) _).setCell (a := ⟨w.heap.size + 1, 1, none⟩) (.inr rfl) _
    have hBX := hist_two (x' := .int .i64 k) (y' := .slice (some ⟨g, 0, none⟩) n c) (w := w1.setCell ⟨w.heap.size, 0, none⟩ (.int .i64 k)) (B := w.heap.size + 1) (by rw [heap_far (by omega)]; exact unhide HB1)
    have v0 := cells_of hBX 0 _ rfl
    have v1 := cells_of hBX 1 _ rfl
    have FX := fr_off (unhide HF1) FT (fun x hx => .inr (by omega))
    exact bodyPost_ret (v := .agg #[.int .i64 k, .slice (some ⟨g, 0, none⟩) n c]) (by simp [results, Tryd.results29, go_sem, v0, v1]) rfl ⟨k, g, n, c, rfl, by omega, p1, tx, unhide HS, (unhide HO).fr FT (fun q hq e9 => by
      rcases e9 with e9 | e9
      · exact hist_kind (unhide HO) (unhide HB0) (by rw [hq, e9])
      · exact hist_kind (unhide HO) (unhide HB1) (by rw [hq, e9])), (unhide HR).keep (unhide HR1) FX (by rw [heap_far (by omega), heap_far (by omega), heap_far (by omega)]), FX⟩
  · obtain ⟨ys, hys, hy⟩ := unhide HO
    have hyl : ys.length = n := by have := hys.1; omega
    have HL := hide hL
    have HY := hide hy
    have HYL := hide hyl
    have hz1 := (unhide HF1).size
    have hA1 := lt_of_block (unhide HB1)
    have HOW := hide (fun W (f : Fr (fun q => q = w.heap.size) w1 W) => f.owns hys (fun q hq e9 => hist_kind (unhide HO) (unhide HB0) (by rw [hq, e9])))
    have HEND : Hid (∀ (k : Int) (W w5 : World) (v5 : Value), Fr (fun q => q = w.heap.size) w1 W → w5.ownsRow w0.heap.size 9 1 v5 (n + L.length) (ys ++ L.map Value.string) → (W.alloc (.cells (L.map Value.string).toArray 9)).grownBy w5 (some g) → ∃ g5 c5, v5 = .slice (some ⟨g5, 0, none⟩) (n + L.length) c5 ∧ Fr (fun k => k = D) w0 w5 ∧ w5.heap[D]? = w1.heap[D]? ∧ w5.heap[w.heap.size]? = W.heap[w.heap.size]? ∧ w5.heap[w.heap.size + 1]? = some (.cells #[.int .i64 0, .slice none 0 0] 25 (0, 0)) ∧ Own1 w5 w0.heap.size 9 v5 (n + L.length) (fun j => .string (moreT n tx L j))) := hide (by
      intro k W w5 v5 f o5 G5
      have hgA : g ≠ w.heap.size := fun e => hist_kind (unhide HO) (unhide HB0) (by rw [← e]; rfl)
      have hgB : g ≠ w.heap.size + 1 := fun e => hist_kind (unhide HO) (unhide HB1) (by rw [← e]; rfl)
      have EA := (Ext.refl W).alloc (.cells (L.map Value.string).toArray 9)
      have X5 := Fr.grown (S := fun q => q = g) (w := W) (Fr.of_ext EA) G5 (fun q hq => by cases hq; rfl)
      have hOn := own1_more o5 hyl hy
      have zW := f.size
      obtain ⟨g5, c5, rfl⟩ : ∃ g5 c5, v5 = .slice (some ⟨g5, 0, none⟩) (n + L.length) c5 := by
        rcases hOn.form with ⟨_, h3⟩ | ⟨g5, c5, e5⟩
        · omega
        · exact ⟨g5, c5, e5⟩
      refine ⟨g5, c5, rfl, fr_off (fr_off (unhide HF1) f (fun x hx => .inr (by omega))) X5 (fun x hx => .inr (by omega)), ?_, ?_, ?_, hOn⟩
      · rw [X5.block D (by omega) (by omega), f.block D (by omega) (by omega)]
      · exact X5.block _ (by omega) (by omega)
      · rw [X5.block _ (by omega) (by omega), f.block _ (by omega) (by omega)]; exact unhide HB1)
    clear hys hy hyl hL
    rcases hc with ⟨h5, rfl⟩ | ⟨h5, rfl⟩ | ⟨h5, rfl⟩ | ⟨h5, rfl⟩
    · have hq : (x : Int) % 5 = 1 := by omega
      have HSR := hide (Src.made (w := w1) (size := 1) ([.string ⟨#[97]⟩, .string ⟨#[97]⟩] : List Value) 2 9 rfl (by simp [Value.oneCell']))
      have HOa := hide (((unhide HOW) _ (Fr.refl _ w1)).alloc (.cells #[.string ⟨#[97]⟩, .string ⟨#[97]⟩] 9))
      have HbW : Hid (w1.heap[w.heap.size]? = some (.cells #[.int .i64 cap, .slice (some ⟨g, 0, none⟩) n c] 25 (0, 0))) := hide (unhide HB0)
      have hzW : w.heap.size + 1 < w1.heap.size := by omega
      have y1 : ∀ o, (w1.alloc o).cell? ⟨w.heap.size, 1, none⟩ = some (.slice (some ⟨g, 0, none⟩) n c) := fun o => ((Ext.refl _).alloc o).cell (cells_of (unhide HbW) 1 _ rfl)
      go_wp2_with (at_builtin; go_loud (
        refine wpList_app rfl _ _ 23 rfl w0.heap.size 9 ic (.string { data := #[] }) 1 16 Tryd.underlying23 hic hc0 hc1 hc2 rfl (by decide) _ n ys rfl (unhide HOa) _ 2 [.string ⟨#[97]⟩, .string ⟨#[97]⟩] rfl (unhide HSR) (by unfold maxLen; omega) (by omega) (by simp; omega) ?_
        intro v5 w5 o5 G5 _
        obtain ⟨g5, c5, rfl, F5, hD5, hA5, hB5, O5⟩ := (unhide HEND) cap w1 w5 v5 (Fr.refl _ w1) o5 G5
        rw [unhide HbW] at hA5
        have m0 : w5.cell? ⟨w.heap.size, 0, none⟩ = some (.int .i64 cap) := cells_of hA5 0 _ rfl
        have m1 : w5.cell? ⟨w.heap.size, 1, none⟩ = some (.slice (some ⟨g, 0, none⟩) n c) := cells_of hA5 1 _ rfl
        have n0 : w5.cell? ⟨w.heap.size + 1, 0, none⟩ = some (.int .i64 0) := cells_of hB5 0 _ rfl
        have n1 : w5.cell? ⟨w.heap.size + 1, 1, none⟩ = some (.slice none 0 0) := cells_of hB5 1 _ rfl
        have fA : ∀ i, w5.frozen? ⟨w.heap.size, i, none⟩ = false := fun i => Lib.frozen_of_heap hA5 i
        have fB : ∀ i, w5.frozen? ⟨w.heap.size + 1, i, none⟩ = false := fun i => Lib.frozen_of_heap hB5 i
        have HF5 := hide F5
        have HD5 := hide hD5
        have HA5 := hide hA5
        have HB5 := hide hB5
        have HO5 := hide O5
        clear o5 G5 F5 hD5 hA5 hB5 O5))
      have FT : Fr (fun q => q = w.heap.size ∨ q = w.heap.size + 1) w5 (((w5.setCell ⟨w.heap.size, 1, none⟩ (.slice (some ⟨g5, 0, none⟩) (n + 2) c5)).setCell ⟨w.heap.size + 1, 0, none⟩ (.int .i64 cap)).setCell ⟨w.heap.size + 1, 1, none⟩ (.slice (some ⟨g5, 0, none⟩) (n + 2) c5)) := ((Fr.setCell (S := fun q => q = w.heap.size ∨ q = w.heap.size + 1) (Fr.refl _ w5) (a := ⟨w.heap.size, 1, none⟩) (.inl rfl) _).setCell (a := ⟨w.heap.size + 1, 0, none⟩) (.inr rfl) _).setCell (a := ⟨w.heap.size + 1, 1, none⟩) (.inr rfl) _
      have hBX := hist_two (x' := .int .i64 cap) (y' := .slice (some ⟨g5, 0, none⟩) (n + 2) c5) (w := w5.setCell ⟨w.heap.size, 1, none⟩ (.slice (some ⟨g5, 0, none⟩) (n + 2) c5)) (B := w.heap.size + 1) (by rw [heap_far (by omega)]; exact unhide HB5)
      have v0 := cells_of hBX 0 _ rfl
      have v1 := cells_of hBX 1 _ rfl
      have FX := fr_off (unhide HF5) FT (fun x hx => .inr (by omega))
      exact bodyPost_ret (v := .agg #[.int .i64 cap, .slice (some ⟨g5, 0, none⟩) (n + 2) c5]) (by simp [results, Tryd.results29, go_sem, v0, v1]) rfl ⟨cap, g5, n + 2, c5, rfl, by omega, p1, _, fun j _ => moreT_size (unhide HS) (unhide HL) j, (unhide HO5).fr FT (fun q hq e9 => by
        rcases e9 with e9 | e9
        · exact hist_kind (unhide HO5) (unhide HA5) (by rw [hq, e9])
        · exact hist_kind (unhide HO5) (unhide HB5) (by rw [hq, e9])), (unhide HR).keep (unhide HR1) FX (by rw [heap_far (by omega), heap_far (by omega), heap_far (by omega)]; exact unhide HD5), FX⟩
    · have hq : (x : Int) % 5 = 2 := by omega
      have HSR := hide (Src.made (w := w1) (size := 1) ([.string ⟨#[]⟩] : List Value) 1 9 rfl (by simp [Value.oneCell']))
      have HOa := hide (((unhide HOW) _ (Fr.refl _ w1)).alloc (.cells #[.string ⟨#[]⟩] 9))
      have HbW : Hid (w1.heap[w.heap.size]? = some (.cells #[.int .i64 cap, .slice (some ⟨g, 0, none⟩) n c] 25 (0, 0))) := hide (unhide HB0)
      have hzW : w.heap.size + 1 < w1.heap.size := by omega
      have y1 : ∀ o, (w1.alloc o).cell? ⟨w.heap.size, 1, none⟩ = some (.slice (some ⟨g, 0, none⟩) n c) := fun o => ((Ext.refl _).alloc o).cell (cells_of (unhide HbW) 1 _ rfl)
      go_wp2_with (at_builtin; go_loud (
        refine wpList_app rfl _ _ 23 rfl w0.heap.size 9 ic (.string { data := #[] }) 1 16 Tryd.underlying23 hic hc0 hc1 hc2 rfl (by decide) _ n ys rfl (unhide HOa) _ 1 [.string ⟨#[]⟩] rfl (unhide HSR) (by unfold maxLen; omega) (by omega) (by simp; omega) ?_
        intro v5 w5 o5 G5 _
        obtain ⟨g5, c5, rfl, F5, hD5, hA5, hB5, O5⟩ := (unhide HEND) cap w1 w5 v5 (Fr.refl _ w1) o5 G5
        rw [unhide HbW] at hA5
        have m0 : w5.cell? ⟨w.heap.size, 0, none⟩ = some (.int .i64 cap) := cells_of hA5 0 _ rfl
        have m1 : w5.cell? ⟨w.heap.size, 1, none⟩ = some (.slice (some ⟨g, 0, none⟩) n c) := cells_of hA5 1 _ rfl
        have n0 : w5.cell? ⟨w.heap.size + 1, 0, none⟩ = some (.int .i64 0) := cells_of hB5 0 _ rfl
        have n1 : w5.cell? ⟨w.heap.size + 1, 1, none⟩ = some (.slice none 0 0) := cells_of hB5 1 _ rfl
        have fA : ∀ i, w5.frozen? ⟨w.heap.size, i, none⟩ = false := fun i => Lib.frozen_of_heap hA5 i
        have fB : ∀ i, w5.frozen? ⟨w.heap.size + 1, i, none⟩ = false := fun i => Lib.frozen_of_heap hB5 i
        have HF5 := hide F5
        have HD5 := hide hD5
        have HA5 := hide hA5
        have HB5 := hide hB5
        have HO5 := hide O5
        clear o5 G5 F5 hD5 hA5 hB5 O5))
      have FT : Fr (fun q => q = w.heap.size ∨ q = w.heap.size + 1) w5 (((w5.setCell ⟨w.heap.size, 1, none⟩ (.slice (some ⟨g5, 0, none⟩) (n + 1) c5)).setCell ⟨w.heap.size + 1, 0, none⟩ (.int .i64 cap)).setCell ⟨w.heap.size + 1, 1, none⟩ (.slice (some ⟨g5, 0, none⟩) (n + 1) c5)) := ((Fr.setCell (S := fun q => q = w.heap.size ∨ q = w.heap.size + 1) (Fr.refl _ w5) (a := ⟨w.heap.size, 1, none⟩) (.inl rfl) _).setCell (a := ⟨w.heap.size + 1, 0, none⟩) (.inr rfl) _).setCell (a := ⟨w.heap.size + 1, 1, none⟩) (.inr rfl) _
      have hBX := hist_two (x' := .int .i64 cap) (y' := .slice (some ⟨g5, 0, none⟩) (n + 1) c5) (w := w5.setCell ⟨w.heap.size, 1, none⟩ (.slice (some ⟨g5, 0, none⟩) (n + 1) c5)) (B := w.heap.size + 1) (by rw [heap_far (by omega)]; exact unhide HB5)
      have v0 := cells_of hBX 0 _ rfl
      have v1 := cells_of hBX 1 _ rfl
      have FX := fr_off (unhide HF5) FT (fun x hx => .inr (by omega))
      exact bodyPost_ret (v := .agg #[.int .i64 cap, .slice (some ⟨g5, 0, none⟩) (n + 1) c5]) (by simp [results, Tryd.results29, go_sem, v0, v1]) rfl ⟨cap, g5, n + 1, c5, rfl, by omega, p1, _, fun j _ => moreT_size (unhide HS) (unhide HL) j, (unhide HO5).fr FT (fun q hq e9 => by
        rcases e9 with e9 | e9
        · exact hist_kind (unhide HO5) (unhide HA5) (by rw [hq, e9])
        · exact hist_kind (unhide HO5) (unhide HB5) (by rw [hq, e9])), (unhide HR).keep (unhide HR1) FX (by rw [heap_far (by omega), heap_far (by omega), heap_far (by omega)]; exact unhide HD5), FX⟩
    · have hq : (x : Int) % 5 = 3 := by omega
      have HSR := hide (Src.made (w := w1) (size := 1) ([.string ⟨#[1]⟩] : List Value) 1 9 rfl (by simp [Value.oneCell']))
      have HOa := hide (((unhide HOW) _ (Fr.refl _ w1)).alloc (.cells #[.string ⟨#[1]⟩] 9))
      have HbW : Hid (w1.heap[w.heap.size]? = some (.cells #[.int .i64 cap, .slice (some ⟨g, 0, none⟩) n c] 25 (0, 0))) := hide (unhide HB0)
      have hzW : w.heap.size + 1 < w1.heap.size := by omega
      have y1 : ∀ o, (w1.alloc o).cell? ⟨w.heap.size, 1, none⟩ = some (.slice (some ⟨g, 0, none⟩) n c) := fun o => ((Ext.refl _).alloc o).cell (cells_of (unhide HbW) 1 _ rfl)
      go_wp2_with (at_builtin; go_loud (
        refine wpList_app rfl _ _ 23 rfl w0.heap.size 9 ic (.string { data := #[] }) 1 16 Tryd.underlying23 hic hc0 hc1 hc2 rfl (by decide) _ n ys rfl (unhide HOa) _ 1 [.string ⟨#[1]⟩] rfl (unhide HSR) (by unfold maxLen; omega) (by omega) (by simp; omega) ?_
        intro v5 w5 o5 G5 _
        obtain ⟨g5, c5, rfl, F5, hD5, hA5, hB5, O5⟩ := (unhide HEND) cap w1 w5 v5 (Fr.refl _ w1) o5 G5
        rw [unhide HbW] at hA5
        have m0 : w5.cell? ⟨w.heap.size, 0, none⟩ = some (.int .i64 cap) := cells_of hA5 0 _ rfl
        have m1 : w5.cell? ⟨w.heap.size, 1, none⟩ = some (.slice (some ⟨g, 0, none⟩) n c) := cells_of hA5 1 _ rfl
        have n0 : w5.cell? ⟨w.heap.size + 1, 0, none⟩ = some (.int .i64 0) := cells_of hB5 0 _ rfl
        have n1 : w5.cell? ⟨w.heap.size + 1, 1, none⟩ = some (.slice none 0 0) := cells_of hB5 1 _ rfl
        have fA : ∀ i, w5.frozen? ⟨w.heap.size, i, none⟩ = false := fun i => Lib.frozen_of_heap hA5 i
        have fB : ∀ i, w5.frozen? ⟨w.heap.size + 1, i, none⟩ = false := fun i => Lib.frozen_of_heap hB5 i
        have HF5 := hide F5
        have HD5 := hide hD5
        have HA5 := hide hA5
        have HB5 := hide hB5
        have HO5 := hide O5
        clear o5 G5 F5 hD5 hA5 hB5 O5))
      have FT : Fr (fun q => q = w.heap.size ∨ q = w.heap.size + 1) w5 (((w5.setCell ⟨w.heap.size, 1, none⟩ (.slice (some ⟨g5, 0, none⟩) (n + 1) c5)).setCell ⟨w.heap.size + 1, 0, none⟩ (.int .i64 cap)).setCell ⟨w.heap.size + 1, 1, none⟩ (.slice (some ⟨g5, 0, none⟩) (n + 1) c5)) := ((Fr.setCell (S := fun q => q = w.heap.size ∨ q = w.heap.size + 1) (Fr.refl _ w5) (a := ⟨w.heap.size, 1, none⟩) (.inl rfl) _).setCell (a := ⟨w.heap.size + 1, 0, none⟩) (.inr rfl) _).setCell (a := ⟨w.heap.size + 1, 1, none⟩) (.inr rfl) _
      have hBX := hist_two (x' := .int .i64 cap) (y' := .slice (some ⟨g5, 0, none⟩) (n + 1) c5) (w := w5.setCell ⟨w.heap.size, 1, none⟩ (.slice (some ⟨g5, 0, none⟩) (n + 1) c5)) (B := w.heap.size + 1) (by rw [heap_far (by omega)]; exact unhide HB5)
      have v0 := cells_of hBX 0 _ rfl
      have v1 := cells_of hBX 1 _ rfl
      have FX := fr_off (unhide HF5) FT (fun x hx => .inr (by omega))
      exact bodyPost_ret (v := .agg #[.int .i64 cap, .slice (some ⟨g5, 0, none⟩) (n + 1) c5]) (by simp [results, Tryd.results29, go_sem, v0, v1]) rfl ⟨cap, g5, n + 1, c5, rfl, by omega, p1, _, fun j _ => moreT_size (unhide HS) (unhide HL) j, (unhide HO5).fr FT (fun q hq e9 => by
        rcases e9 with e9 | e9
        · exact hist_kind (unhide HO5) (unhide HA5) (by rw [hq, e9])
        · exact hist_kind (unhide HO5) (unhide HB5) (by rw [hq, e9])), (unhide HR).keep (unhide HR1) FX (by rw [heap_far (by omega), heap_far (by omega), heap_far (by omega)]; exact unhide HD5), FX⟩
    · have hq : (x : Int) % 5 = 4 := by omega
      have HSR := hide (Src.made (w := (w1.setCell ⟨w.heap.size, 0, none⟩ (.int .i64 (n : Int)))) (size := 1) ([.string ⟨#[110, 101, 119]⟩] : List Value) 1 9 rfl (by simp [Value.oneCell']))
      rw [show (w1.setCell ⟨w.heap.size, 0, none⟩ (.int .i64 (n : Int))).heap.size = w1.heap.size by simp [go_sem]] at HSR
      have HOa := hide (((unhide HOW) _ (Fr.setCell (S := fun q => q = w.heap.size) (Fr.refl _ w1) (a := ⟨w.heap.size, 0, none⟩) rfl (.int .i64 (n : Int)))).alloc (.cells #[.string ⟨#[110, 101, 119]⟩] 9))
      have HbW : Hid ((w1.setCell ⟨w.heap.size, 0, none⟩ (.int .i64 (n : Int))).heap[w.heap.size]? = some (.cells #[.int .i64 (n : Int), .slice (some ⟨g, 0, none⟩) n c] 25 (0, 0))) := hide (heap_setCell_same w1 w.heap.size 0 _ _ (.int .i64 (n : Int)) (unhide HB0))
      have hzW : w.heap.size + 1 < (w1.setCell ⟨w.heap.size, 0, none⟩ (.int .i64 (n : Int))).heap.size := by have h1 := (Fr.setCell (S := fun q => q = w.heap.size) (Fr.refl _ w1) (a := ⟨w.heap.size, 0, none⟩) rfl (.int .i64 (n : Int))).size; omega
      have y1 : ∀ o, ((w1.setCell ⟨w.heap.size, 0, none⟩ (.int .i64 (n : Int))).alloc o).cell? ⟨w.heap.size, 1, none⟩ = some (.slice (some ⟨g, 0, none⟩) n c) := fun o => ((Ext.refl _).alloc o).cell (cells_of (unhide HbW) 1 _ rfl)
      go_wp2_with (at_builtin; go_loud (
        refine wpList_app rfl _ _ 23 rfl w0.heap.size 9 ic (.string { data := #[] }) 1 16 Tryd.underlying23 hic hc0 hc1 hc2 rfl (by decide) _ n ys rfl (unhide HOa) _ 1 [.string ⟨#[110, 101, 119]⟩] rfl (unhide HSR) (by unfold maxLen; omega) (by omega) (by simp; omega) ?_
        intro v5 w5 o5 G5 _
        obtain ⟨g5, c5, rfl, F5, hD5, hA5, hB5, O5⟩ := (unhide HEND) (n : Int) (w1.setCell ⟨w.heap.size, 0, none⟩ (.int .i64 (n : Int))) w5 v5 (Fr.setCell (S := fun q => q = w.heap.size) (Fr.refl _ w1) (a := ⟨w.heap.size, 0, none⟩) rfl (.int .i64 (n : Int))) o5 G5
        rw [unhide HbW] at hA5
        have m0 : w5.cell? ⟨w.heap.size, 0, none⟩ = some (.int .i64 (n : Int)) := cells_of hA5 0 _ rfl
        have m1 : w5.cell? ⟨w.heap.size, 1, none⟩ = some (.slice (some ⟨g, 0, none⟩) n c) := cells_of hA5 1 _ rfl
        have n0 : w5.cell? ⟨w.heap.size + 1, 0, none⟩ = some (.int .i64 0) := cells_of hB5 0 _ rfl
        have n1 : w5.cell? ⟨w.heap.size + 1, 1, none⟩ = some (.slice none 0 0) := cells_of hB5 1 _ rfl
        have fA : ∀ i, w5.frozen? ⟨w.heap.size, i, none⟩ = false := fun i => Lib.frozen_of_heap hA5 i
        have fB : ∀ i, w5.frozen? ⟨w.heap.size + 1, i, none⟩ = false := fun i => Lib.frozen_of_heap hB5 i
        have HF5 := hide F5
        have HD5 := hide hD5
        have HA5 := hide hA5
        have HB5 := hide hB5
        have HO5 := hide O5
        clear o5 G5 F5 hD5 hA5 hB5 O5))
      have FT : Fr (fun q => q = w.heap.size ∨ q = w.heap.size + 1) w5 (((w5.setCell ⟨w.heap.size, 1, none⟩ (.slice (some ⟨g5, 0, none⟩) (n + 1) c5)).setCell ⟨w.heap.size + 1, 0, none⟩ (.int .i64 (n : Int))).setCell ⟨w.heap.size + 1, 1, none⟩ (.slice (some ⟨g5, 0, none⟩) (n + 1) c5)) := ((Fr.setCell (S := fun q => q = w.heap.size ∨ q = w.heap.size + 1) (Fr.refl _ w5) (a := ⟨w.heap.size, 1, none⟩) (.inl rfl) _).setCell (a := ⟨w.heap.size + 1, 0, none⟩) (.inr rfl) _).setCell (a := ⟨w.heap.size + 1, 1, none⟩) (.inr rfl) _
      have hBX := hist_two (x' := .int .i64 (n : Int)) (y' := .slice (some ⟨g5, 0, none⟩) (n + 1) c5) (w := w5.setCell ⟨w.heap.size, 1, none⟩ (.slice (some ⟨g5, 0, none⟩) (n + 1) c5)) (B := w.heap.size + 1) (by rw [heap_far (by omega)]; exact unhide HB5)
      have v0 := cells_of hBX 0 _ rfl
      have v1 := cells_of hBX 1 _ rfl
      have FX := fr_off (unhide HF5) FT (fun x hx => .inr (by omega))
      exact bodyPost_ret (v := .agg #[.int .i64 (n : Int), .slice (some ⟨g5, 0, none⟩) (n + 1) c5]) (by simp [results, Tryd.results29, go_sem, v0, v1]) rfl ⟨(n : Int), g5, n + 1, c5, rfl, by omega, p1, _, fun j _ => moreT_size (unhide HS) (unhide HL) j, (unhide HO5).fr FT (fun q hq e9 => by
        rcases e9 with e9 | e9
        · exact hist_kind (unhide HO5) (unhide HA5) (by rw [hq, e9])
        · exact hist_kind (unhide HO5) (unhide HB5) (by rw [hq, e9])), (unhide HR).keep (unhide HR1) FX (by rw [heap_far (by omega), heap_far (by omega), heap_far (by omega)]; exact unhide HD5), FX⟩
end Go.Proofs.YtdmkcpkmeokjiaaDoor
