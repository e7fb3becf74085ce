import Derived.Test.YtdmkcpkmeokjiaaDoorSnapOk
import Derived.Test.YtdmkcpkmeokjiaaDoorRd
import Derived.Test.YtdmkcpkmeokjiaaDoorSpecRune
import Derived.Deep.RegionHeld3
import Derived.Test.YtdmkcpkmeokjiaaDoorProg
import Derived.Test.YtdmkcpkmeokjiaaDoorTabs
import Derived.Deep.SlicePairs
import Derived.Deep.Strs
import Derived.Lib.ItoaNum
import Derived.Lib.Join
namespace Go.Proofs.YtdmkcpkmeokjiaaDoor
open Go.RowKit

theorem toBA_nil : toBA [] = { data := #[] } := rfl
/-- What textOk says. -/
def TextP (bs : List Int) : Prop := settleL bs = bs ∧ (cleanL bs).length ≤ 300
theorem TextP_snap (bs : List Int) : TextP bs ↔ SnapP bs [] := by
  unfold TextP SnapP
  have e1 : settleL [] = [] := rfl
  have e2 : cleanL [] = [] := rfl
  simp [e1, e2]
set_option maxRecDepth 10000 in
set_option maxHeartbeats 1000000 in
theorem textOk_any (bs : List Int) (hb : Bytes bs) (w : World) (hl : bs.length ≤ 16777216) (hT : Tabs3 w) (ok : Bool) (hok : ok = true ↔ TextP bs) :
    Calls Tryd.prog 31 #[.string (toBA bs)] w fun e w' => e = .returned (.bool ok) ∧ Ext w w' := by
  have hs := fun W (hW : Ext w W) => snapOk_any bs [] hb (fun x hx => by simp at hx) W hl (by simp) (hT.ext hW) ok (by rw [hok, TextP_snap])
  rw [toBA_nil] at hs
  have HS := hide hs
  clear hs hok
  go_enter Tryd.func31, Tryd.ntmps31
  go_wp2_with fail
  refine ((unhide HS) _ (Ext.refl _)).mono ?_
  rintro e w1 ⟨rfl, F1⟩
  go_wp2
  go_ret
  exact ⟨rfl, F1⟩
end Go.Proofs.YtdmkcpkmeokjiaaDoor

namespace Go.Proofs.YtdmkcpkmeokjiaaDoor
open Go.RowKit

/-- A slice of one-cell elements reads as A. -/
def Row1At (w : World) (v : Value) (n : Nat) (A : Nat → Value) : Prop :=
  ∃ ao cap, v = .slice ao n cap ∧ n ≤ cap ∧ (0 < n → ∃ b off, ao = some ⟨b, off, none⟩ ∧ ∀ j, j < n → w.cell? ⟨b, off + j, none⟩ = some (A j))
/-- A slice of two-cell elements reads as A, B. -/
def Row2At (w : World) (v : Value) (n : Nat) (A B : Nat → Value) : Prop :=
  ∃ ao cap, v = .slice ao n cap ∧ n ≤ cap ∧ (0 < n → ∃ b off, ao = some ⟨b, off, none⟩ ∧ ∀ j, j < n → w.cell? ⟨b, off + j * 2, none⟩ = some (A j) ∧ w.cell? ⟨b, off + j * 2 + 1, none⟩ = some (B j))
theorem Row1At.ext {w w' : World} {v : Value} {n : Nat} {A : Nat → Value} (h : Row1At w v n A) (he : Ext w w') : Row1At w' v n A := by
  obtain ⟨ao, cap, e, hc, hx⟩ := h
  exact ⟨ao, cap, e, hc, fun hp => by obtain ⟨b, off, e2, hcell⟩ := hx hp; exact ⟨b, off, e2, fun j hj => he.cell (hcell j hj)⟩⟩
theorem Row2At.ext {w w' : World} {v : Value} {n : Nat} {A B : Nat → Value} (h : Row2At w v n A B) (he : Ext w w') : Row2At w' v n A B := by
  obtain ⟨ao, cap, e, hc, hx⟩ := h
  exact ⟨ao, cap, e, hc, fun hp => by obtain ⟨b, off, e2, hcell⟩ := hx hp; exact ⟨b, off, e2, fun j hj => ⟨he.cell (hcell j hj).1, he.cell (hcell j hj).2⟩⟩⟩
def Own1 (w : World) (base : Nat) (T : TypeId) (v : Value) (n : Nat) (A : Nat → Value) : Prop := ∃ ys, w.ownsRow base T 1 v n ys ∧ ∀ j, j < n → ys[j]? = some (A j)
def Own2 (w : World) (base : Nat) (T : TypeId) (v : Value) (n : Nat) (A B : Nat → Value) : Prop := ∃ ys, w.ownsRow base T 2 v n ys ∧ ∀ j, j < n → ys[j * 2]? = some (A j) ∧ ys[j * 2 + 1]? = some (B j)
section
variable {w w' : World} {base : Nat} {T : TypeId} {v : Value} {n : Nat} {A B : Nat → Value}
theorem Own1.ext (h : Own1 w base T v n A) (he : Ext w w') : Own1 w' base T v n A := by obtain ⟨ys, h1, h2⟩ := h; exact ⟨ys, he.owns h1, h2⟩
theorem Own2.ext (h : Own2 w base T v n A B) (he : Ext w w') : Own2 w' base T v n A B := by obtain ⟨ys, h1, h2⟩ := h; exact ⟨ys, he.owns h1, h2⟩
theorem Own1.lt (h : Own1 w base T v n A) : ∀ g, v.ownBlock = some g → base ≤ g ∧ g < w.heap.size := by obtain ⟨ys, h1, _⟩ := h; exact h1.lt
theorem Own2.lt (h : Own2 w base T v n A B) : ∀ g, v.ownBlock = some g → base ≤ g ∧ g < w.heap.size := by obtain ⟨ys, h1, _⟩ := h; exact h1.lt
theorem Own1.fr {S : Nat → Prop} (h : Own1 w base T v n A) (hf : Fr S w w') (hS : ∀ g, v.ownBlock = some g → ¬ S g) : Own1 w' base T v n A := by obtain ⟨ys, h1, h2⟩ := h; exact ⟨ys, hf.owns h1 hS, h2⟩
theorem Own2.fr {S : Nat → Prop} (h : Own2 w base T v n A B) (hf : Fr S w w') (hS : ∀ g, v.ownBlock = some g → ¬ S g) : Own2 w' base T v n A B := by obtain ⟨ys, h1, h2⟩ := h; exact ⟨ys, hf.owns h1 hS, h2⟩
theorem Own1.mono {base' : Nat} (h : Own1 w base T v n A) (hb : base' ≤ base) : Own1 w base' T v n A := by obtain ⟨ys, h1, h2⟩ := h; exact ⟨ys, owns_mono h1 hb, h2⟩
theorem Own2.mono {base' : Nat} (h : Own2 w base T v n A B) (hb : base' ≤ base) : Own2 w base' T v n A B := by obtain ⟨ys, h1, h2⟩ := h; exact ⟨ys, owns_mono h1 hb, h2⟩
theorem Own1.congr {A' : Nat → Value} (h : Own1 w base T v n A) (e : ∀ j, j < n → A j = A' j) : Own1 w base T v n A' := by obtain ⟨ys, h1, h2⟩ := h; exact ⟨ys, h1, fun j hj => by rw [← e j hj]; exact h2 j hj⟩
theorem Own2.congr {A' B' : Nat → Value} (h : Own2 w base T v n A B) (e : ∀ j, j < n → A j = A' j ∧ B j = B' j) : Own2 w base T v n A' B' := by obtain ⟨ys, h1, h2⟩ := h; exact ⟨ys, h1, fun j hj => by rw [← (e j hj).1, ← (e j hj).2]; exact h2 j hj⟩
theorem Own1.reads (h : Own1 w base T v n A) : Row1At w v n A := by
  obtain ⟨ys, h1, h2⟩ := h
  rcases h1.2 with ⟨rfl, h0⟩ | ⟨g, cap, cur, rfl, hb, hg, hn, hm, hs, ht⟩
  · exact ⟨none, 0, by rw [h0], by omega, fun hp => by omega⟩
  · refine ⟨_, cap, rfl, hn, fun _ => ⟨g, 0, rfl, fun j hj => ?_⟩⟩
    rw [Nat.zero_add, h1.cellAt _ (by omega)]
    exact h2 j hj
theorem Own2.reads (h : Own2 w base T v n A B) : Row2At w v n A B := by
  obtain ⟨ys, h1, h2⟩ := h
  rcases h1.2 with ⟨rfl, h0⟩ | ⟨g, cap, cur, rfl, hb, hg, hn, hm, hs, ht⟩
  · exact ⟨none, 0, by rw [h0], by omega, fun hp => by omega⟩
  · refine ⟨_, cap, rfl, hn, fun _ => ⟨g, 0, rfl, fun j hj => ?_⟩⟩
    rw [Nat.zero_add, h1.cellAt _ (by omega), h1.cellAt _ (by omega)]
    exact h2 j hj
theorem Own1.form (h : Own1 w base T v n A) : (v = .slice none 0 0 ∧ n = 0) ∨ ∃ g cap, v = .slice (some ⟨g, 0, none⟩) n cap := by
  obtain ⟨ys, h1, h2⟩ := h
  rcases h1.2 with h0 | ⟨g, cap, cur, rfl, _⟩
  · exact .inl h0
  · exact .inr ⟨g, cap, rfl⟩
theorem Own2.form (h : Own2 w base T v n A B) : (v = .slice none 0 0 ∧ n = 0) ∨ ∃ g cap, v = .slice (some ⟨g, 0, none⟩) n cap := by
  obtain ⟨ys, h1, h2⟩ := h
  rcases h1.2 with h0 | ⟨g, cap, cur, rfl, _⟩
  · exact .inl h0
  · exact .inr ⟨g, cap, rfl⟩
theorem Own1.cell {g cap j : Nat} (h : Own1 w base T (.slice (some ⟨g, 0, none⟩) n cap) n A) (hj : j < n) : w.cell? ⟨g, j, none⟩ = some (A j) ∧ w.frozen? ⟨g, j, none⟩ = false := by
  obtain ⟨ys, h1, h2⟩ := h
  exact ⟨by rw [h1.cellAt _ (by omega)]; exact h2 j hj, h1.frozenAt j⟩
theorem Own2.cell {g cap j : Nat} (h : Own2 w base T (.slice (some ⟨g, 0, none⟩) n cap) n A B) (hj : j < n) : (w.cell? ⟨g, j * 2, none⟩ = some (A j) ∧ w.frozen? ⟨g, j * 2, none⟩ = false) ∧ w.cell? ⟨g, j * 2 + 1, none⟩ = some (B j) ∧ w.frozen? ⟨g, j * 2 + 1, none⟩ = false := by
  obtain ⟨ys, h1, h2⟩ := h
  exact ⟨⟨by rw [h1.cellAt _ (by omega)]; exact (h2 j hj).1, h1.frozenAt _⟩, by rw [h1.cellAt _ (by omega)]; exact (h2 j hj).2, h1.frozenAt _⟩
theorem Own1.set {g cap j : Nat} (h : Own1 w base T (.slice (some ⟨g, 0, none⟩) n cap) n A) (hj : j < n) (u : Value) : Own1 (w.setCell ⟨g, j, none⟩ u) base T (.slice (some ⟨g, 0, none⟩) n cap) n (fun i => if i = j then u else A i) := by
  obtain ⟨ys, h1, h2⟩ := h
  have hl := h1.1
  refine ⟨_, (h1.stored j u).1, fun i hi => ?_⟩
  dsimp only
  by_cases e : i = j
  · subst e; rw [if_pos rfl, List.getElem?_set_self (by omega)]
  · rw [if_neg e, List.getElem?_set_ne (by omega)]; exact h2 i hi
theorem Own2.set {g cap j : Nat} (h : Own2 w base T (.slice (some ⟨g, 0, none⟩) n cap) n A B) (hj : j < n) (u u' : Value) :
    Own2 ((w.setCell ⟨g, j * 2, none⟩ u).setCell ⟨g, j * 2 + 1, none⟩ u') base T (.slice (some ⟨g, 0, none⟩) n cap) n (fun i => if i = j then u else A i) (fun i => if i = j then u' else B i) := by
  obtain ⟨ys, h1, h2⟩ := h
  have hl := h1.1
  refine ⟨_, ((h1.stored (j * 2) u).1.stored (j * 2 + 1) u').1, fun i hi => ?_⟩
  dsimp only
  by_cases e : i = j
  · subst e
    rw [if_pos rfl, if_pos rfl, List.getElem?_set_ne (by omega), List.getElem?_set_self (by omega), List.getElem?_set_self (by simp; omega)]
    exact ⟨rfl, rfl⟩
  · rw [if_neg e, if_neg e, List.getElem?_set_ne (by omega), List.getElem?_set_ne (by omega), List.getElem?_set_ne (by omega), List.getElem?_set_ne (by omega)]
    exact h2 i hi
end
/-- One element more at the end. -/
theorem own1_push {w' : World} {base : Nat} {T : TypeId} {v' : Value} {n : Nat} {A : Nat → Value} {ys : List Value} {u : Value} (hl : ys.length = n) (h2 : ∀ j, j < n → ys[j]? = some (A j)) (ho : w'.ownsRow base T 1 v' (n + 1) (ys ++ [u])) : Own1 w' base T v' (n + 1) (fun j => if j = n then u else A j) := by
  refine ⟨_, ho, fun j hj => ?_⟩
  dsimp only
  by_cases e : j = n
  · subst e; rw [if_pos rfl, List.getElem?_append_right (by omega)]; simp [hl]
  · rw [if_neg e, List.getElem?_append_left (by omega)]; exact h2 j (by omega)
end Go.Proofs.YtdmkcpkmeokjiaaDoor

namespace Go.Proofs.YtdmkcpkmeokjiaaDoor
open Go.RowKit

def dgs : Nat → Nat → List Int
  | 0, _ => []
  | f + 1, k => if k = 0 then [] else dgs f (k / 10) ++ [48 + ((k % 10 : Nat) : Int)]
theorem dgs_fuel : ∀ (f g k : Nat), k ≤ f → k ≤ g → dgs f k = dgs g k
  | 0, 0, _, _, _ => rfl
  | 0, g + 1, k, h, _ => by have : k = 0 := by omega
                            subst this; simp [dgs]
  | f + 1, 0, k, _, h => by have : k = 0 := by omega
                            subst this; simp [dgs]
  | f + 1, g + 1, k, h1, h2 => by
    simp only [dgs]
    split
    · rfl
    · rw [dgs_fuel f g (k / 10) (by omega) (by omega)]
def dg (k : Nat) : List Int := dgs k k
theorem dg_step (k : Nat) (h : 0 < k) : dg k = dg (k / 10) ++ [48 + ((k % 10 : Nat) : Int)] := by
  unfold dg
  obtain ⟨m, rfl⟩ : ∃ m, k = m + 1 := ⟨k - 1, by omega⟩
  rw [dgs, if_neg (by omega), dgs_fuel m ((m + 1) / 10) _ (by omega) (Nat.le_refl _)]
theorem dg_len (k : Nat) : (dg k).length ≤ k := by
  have : ∀ f k, k ≤ f → (dgs f k).length ≤ k := by
    intro f
    induction f with
    | zero => intro k h; simp [dgs]
    | succ f ih =>
      intro k h
      rw [dgs]
      split
      · simp
      · have := ih (k / 10) (by omega); simp; omega
  exact this k k (Nat.le_refl _)
/-- What a mark reads as. -/
def mtx (k : Int) : ByteArray := if k ≤ 0 then toBA [109, 48] else toBA (109 :: dg k.toNat)
theorem toBA_app (xs ys : List Int) : toBA xs ++ toBA ys = toBA (xs ++ ys) := by
  apply WideShapes.bytes_inj
  rw [ByteArray.data_append]
  simp [toBA_list]
end Go.Proofs.YtdmkcpkmeokjiaaDoor

namespace Go.Proofs.YtdmkcpkmeokjiaaDoor
open Go.RowKit

def noS : ByteArray := { data := #[] }
theorem infoStrs : (Tryd.prog.info? 9).map (fun i => (i.zero, i.size, i.bytes)) = some (some (.string noS), 1, 16) := by kernel_rfl

/-- What 'mark' lays into cells. -/
def mkT (k : Int) (j : Nat) : Value := .string (mtx (k + 2 * (j : Int)))
end Go.Proofs.YtdmkcpkmeokjiaaDoor

namespace Go.Proofs.YtdmkcpkmeokjiaaDoor
open Go.RowKit


/-- What 'mark' lays: the numbers from k on, each made an int32. -/
def mkU8 (k : Int) (n : Nat) : List Int := (List.range n).map fun (j : Nat) => IntKind.u8.wrap (k + (j : Int))
theorem mkU8_len (k : Int) (n : Nat) : (mkU8 k n).length = n := by simp [mkU8]
theorem mkU8_at (k : Int) (n j : Nat) (h : j < n) : at0 (mkU8 k n) j = IntKind.u8.wrap (k + (j : Int)) := by simp [at0, mkU8, h]
/-- The row while 'mark' is at place j. -/
def midU8 (k : Int) (xs : List Value) (j : Nat) : List Value := ((mkU8 k j).map (Value.int .u8)) ++ xs.drop j
theorem midU8_zero (k : Int) (xs : List Value) : midU8 k xs 0 = xs := by simp [midU8, mkU8]
theorem midU8_step (k : Int) (xs : List Value) (j : Nat) (h : j < xs.length) : (midU8 k xs j).set j (.int .u8 (IntKind.u8.wrap (k + (j : Int)))) = midU8 k xs (j + 1) := by
  have e : mkU8 k (j + 1) = mkU8 k j ++ [IntKind.u8.wrap (k + (j : Int))] := by simp [mkU8, List.range_succ]
  have hl : ((mkU8 k j).map (Value.int .u8)).length = j := by simp [mkU8_len]
  unfold midU8
  rw [e, List.set_append_right _ _ (by omega), hl, Nat.sub_self, List.drop_eq_getElem_cons h, List.set_cons_zero]
  simp
theorem midU8_end (k : Int) (xs : List Value) (n : Nat) (h : xs.length = n) : midU8 k xs n = (mkU8 k n).map (Value.int .u8) := by
  unfold midU8
  rw [List.drop_of_length_le (by omega)]
  simp

theorem infoU8 : (Tryd.prog.info? 5).map (fun i => (i.zero, i.size, i.bytes)) = some (some (.int .u8 0), 1, 1) := by kernel_rfl
/-- The copy while it is at place j. -/
def cpU8 (zs : List Int) (xs : List Value) (j : Nat) : List Value := ((zs.take j).map (Value.int .u8)) ++ xs.drop j
theorem cpU8_zero (zs : List Int) (xs : List Value) : cpU8 zs xs 0 = xs := by simp [cpU8]
theorem cpU8_step (zs : List Int) (xs : List Value) (j : Nat) (h : j < xs.length) (h2 : j < zs.length) : (cpU8 zs xs j).set j (.int .u8 (at0 zs j)) = cpU8 zs xs (j + 1) := by
  have e : zs.take (j + 1) = zs.take j ++ [at0 zs j] := by rw [List.take_add_one, at0_lt h2]; rfl
  have hl : ((zs.take j).map (Value.int .u8)).length = j := by simp; omega
  unfold cpU8
  rw [e, List.set_append_right _ _ (by omega), hl, Nat.sub_self, List.drop_eq_getElem_cons h, List.set_cons_zero]
  simp
theorem cpU8_end (zs : List Int) (xs : List Value) (n : Nat) (h : xs.length = n) (h2 : zs.length = n) : cpU8 zs xs n = zs.map (Value.int .u8) := by
  unfold cpU8
  rw [List.drop_of_length_le (by omega), List.take_of_length_le (by omega)]
  simp

end Go.Proofs.YtdmkcpkmeokjiaaDoor

namespace Go.Proofs.YtdmkcpkmeokjiaaDoor
open Go.RowKit

/-- What a measure answers: -1, or what is left. -/
def SzR (l : Int) (n : Nat) (r : Int) : Prop := (r = -1 ∧ l < (n : Int)) ∨ (r = l - (n : Int) ∧ 0 ≤ r)
end Go.Proofs.YtdmkcpkmeokjiaaDoor

namespace Go.Proofs.YtdmkcpkmeokjiaaDoor
open Go.ChangeShapes Go.WideShapes Go.ChangeAt Go.RowKit Go.Deep

theorem addr_plain {W : World} {a : Addr} {v : Value} (h : W.cell? (a.add 0) = some v) : a = ⟨a.block, a.off, none⟩ := by
  obtain ⟨b, off, spot⟩ := a
  have hspot : spot = none := by simpa [Addr.add] using World.cell?_spot h
  subst hspot
  rfl
theorem bytes_trod {H : Type} {enc : TypeId × Value → H} {P : Program} {W : World} {t e : TypeId} {k : IntKind} {fuel : Nat} {v : Value} {x : DataW H × List MemPlace} (ht : P.underlying t = some (.slice e)) (he : P.underlying e = some (.int k)) (hc : P.cellsOf e = 1)
    (h : DataW.trod enc P W 0 (fun _ => true) true fuel t [v] = some x) : ∃ zs, IntsAt W k v zs ∧ (∀ n ∈ zs, (Lit.int k n).wf = true) ∧ zs.length ≤ maxLen := by
  rcases open_ints ht he hc h with ⟨hcs, _⟩ | ⟨a, len', cap', zs, hcs, _, hl, hm, hz, hx, hcell, hwz⟩
  · simp at hcs
    subst hcs
    exact ⟨[], ⟨none, 0, rfl, Nat.le_refl _, fun h => by simp at h⟩, fun n hn => by simp at hn, by simp⟩
  · simp at hcs
    subst hcs
    simp at hz
    have hlen : (zs.take len').length = len' := by simp; omega
    refine ⟨zs.take len', ⟨some a, cap', by rw [hlen], by omega, fun hp => ?_⟩, fun n hn => hwz n (List.mem_of_mem_take hn), by omega⟩
    obtain ⟨b, off, rfl, hc2⟩ := ints_at hcell (by omega)
    refine ⟨b, off, rfl, fun j hj => ?_⟩
    rw [hlen] at hj
    rw [hc2 j (by omega)]
    simp [at0, hj, List.getD]
theorem strs_trod {H : Type} {enc : TypeId × Value → H} {P : Program} {W : World} {t e : TypeId} {fuel : Nat} {v : Value} {x : DataW H × List MemPlace} (ht : P.underlying t = some (.slice e)) (he : P.underlying e = some .string) (hc : P.cellsOf e = 1)
    (h : DataW.trod enc P W 0 (fun _ => true) true fuel t [v] = some x) : ∃ (n : Nat) (tx : Nat → ByteArray), Row1At W v n (fun j => .string (tx j)) ∧ n ≤ maxLen ∧ ∀ j, j < n → (tx j).size ≤ maxLen := by
  rcases open_strs ht he hc h with ⟨hcs, _⟩ | ⟨a, len, cap, m, Sx, hcs, _, hl, hm, hmm, _, hx⟩
  · simp at hcs
    subst hcs
    exact ⟨0, fun _ => { data := #[] }, ⟨none, 0, rfl, Nat.le_refl _, fun h => by omega⟩, by simp, fun j hj => by omega⟩
  · simp at hcs
    subst hcs
    simp at hmm
    refine ⟨len, Sx, ⟨some a, cap, rfl, hl, fun hp => ?_⟩, by omega, fun j hj => (hx j (by omega)).2⟩
    have ha := addr_plain (by simpa using (hx 0 (by omega)).1)
    refine ⟨a.block, a.off, by rw [← ha], fun j hj => ?_⟩
    have c0 := (hx j (by omega)).1
    rw [ha, Addr.add_lit] at c0
    exact c0
end Go.Proofs.YtdmkcpkmeokjiaaDoor

namespace Go.Proofs.YtdmkcpkmeokjiaaDoor
open Go.RowKit

/-- A string's bytes as numbers. -/
def baL (s : ByteArray) : List Int := s.data.toList.map fun b => ((b.toNat : Nat) : Int)
theorem toBA_baL (s : ByteArray) : toBA (baL s) = s := by
  apply WideShapes.bytes_inj
  rw [toBA_list, baL, List.map_map]
  conv => rhs; rw [← List.map_id s.data.toList]
  apply List.map_congr_left
  intro b _
  simp
theorem baL_len (s : ByteArray) : (baL s).length = s.size := by simp [baL]
theorem baL_bytes (s : ByteArray) : Bytes (baL s) := by
  intro n hn
  obtain ⟨b, _, rfl⟩ := List.mem_map.1 hn
  have := b.toNat_lt
  omega
theorem Bytes.app {xs ys : List Int} (hx : Bytes xs) (hy : Bytes ys) : Bytes (xs ++ ys) := by
  intro n hn
  rcases List.mem_append.1 hn with h | h
  · exact hx n h
  · exact hy n h
theorem baL_toBA {xs : List Int} (h : Bytes xs) : baL (toBA xs) = xs := toBA_inj (baL_bytes _) h (toBA_baL _)
end Go.Proofs.YtdmkcpkmeokjiaaDoor

namespace Go.Proofs.YtdmkcpkmeokjiaaDoor
open Go.RowKit

/-- The rows of a block with CR LF between them. -/
def rowsL (tx : Nat → ByteArray) : Nat → List Int
  | 0 => []
  | i + 1 => rowsL tx i ++ ((if i = 0 then [] else [13, 10]) ++ baL (tx i))
/-- The bytes of the first rows together. -/
def slen (tx : Nat → ByteArray) : Nat → Nat
  | 0 => 0
  | i + 1 => slen tx i + (tx i).size
theorem rowsL_bytes (tx : Nat → ByteArray) : ∀ n, Bytes (rowsL tx n)
  | 0 => by intro x hx; simp [rowsL] at hx
  | n + 1 => by
    refine (rowsL_bytes tx n).app (Bytes.app ?_ (baL_bytes _))
    intro x hx
    split at hx
    · simp at hx
    · simp at hx; omega
theorem rowsL_len (tx : Nat → ByteArray) : ∀ n, (rowsL tx n).length ≤ slen tx n + 2 * n
  | 0 => by simp [rowsL]
  | n + 1 => by
    have := rowsL_len tx n
    have h2 : (if n = 0 then ([] : List Int) else [13, 10]).length ≤ 2 := by split <;> simp
    simp only [rowsL, slen, List.length_append, baL_len]
    omega
theorem slen_le (tx : Nat → ByteArray) (n : Nat) : ∀ k, k ≤ n → slen tx k ≤ slen tx n := by
  have aux : ∀ m k, slen tx k ≤ slen tx (k + m) := by
    intro m
    induction m with
    | zero => intro k; exact Nat.le_refl _
    | succ m ih => intro k; have := ih k; rw [← Nat.add_assoc, slen]; omega
  intro k hk
  have := aux (n - k) k
  rwa [show k + (n - k) = n by omega] at this
theorem inter_snoc {α : Type} (sep : List α) : ∀ (xs : List (List α)) (y : List α), sep.intercalate (xs ++ [y]) = if xs = [] then y else sep.intercalate xs ++ sep ++ y
  | [], y => by simp [List.intercalate]
  | [x], y => by simp [List.intercalate]
  | x :: x' :: xs, y => by
    have ih := inter_snoc sep (x' :: xs) y
    simp only [List.intercalate] at ih ⊢
    simp only [List.cons_append, List.intersperse, List.flatten_cons] at ih ⊢
    simp at ih ⊢
    rw [ih]
theorem join_rows (tx : Nat → ByteArray) : ∀ n : Nat, (Lib.join (((List.range n).map tx).map (fun x => x.data.toList)) [13, 10]).map (fun b => ((b.toNat : Nat) : Int)) = rowsL tx n
  | 0 => by simp [Lib.join, rowsL, List.intercalate]
  | n + 1 => by
    have ih := join_rows tx n
    unfold Lib.join at ih ⊢
    rw [List.range_succ, List.map_append, List.map_append, List.map_cons, List.map_nil, List.map_cons, List.map_nil, inter_snoc]
    by_cases h : n = 0
    · subst h
      simp [rowsL, baL]
    · rw [if_neg (by simp [h]), List.map_append, List.map_append, ih, rowsL, if_neg h, List.append_assoc]
      rfl
theorem dec_dg : ∀ u : Nat, 0 < u → (Lib.decDigits u).map (fun b => ((b.toNat : Nat) : Int)) = dg u := by
  intro u
  induction u using Nat.strongRecOn with
  | _ u ih =>
    intro h
    rw [dg_step u h, Lib.decDigits]
    by_cases h1 : u < 10
    · rw [dif_pos h1, show u / 10 = 0 by omega]
      simp [dg, dgs, Nat.mod_eq_of_lt h1]
      omega
    · rw [dif_neg h1, List.map_append, ih (u / 10) (by omega) (by omega)]
      simp
      omega
theorem itoa_dg (n : Int) (h : 0 < n) : (Lib.itoa n).map (fun b => ((b.toNat : Nat) : Int)) = dg n.toNat := by
  rw [Lib.itoa, if_neg (by omega)]
  exact dec_dg _ (by omega)
theorem dg_bytes : ∀ u : Nat, Bytes (dg u) := by
  intro u
  induction u using Nat.strongRecOn with
  | _ u ih =>
    by_cases h : u = 0
    · subst h; intro x hx; simp [dg, dgs] at hx
    · rw [dg_step u (by omega)]
      refine (ih (u / 10) (by omega)).app ?_
      intro x hx
      simp at hx
      omega
theorem dg_short : ∀ (k u : Nat), u < 10 ^ k → (dg u).length ≤ k := by
  intro k
  induction k with
  | zero => intro u h; simp at h; subst h; simp [dg, dgs]
  | succ k ih =>
    intro u h
    by_cases h0 : u = 0
    · subst h0; simp [dg, dgs]
    · rw [dg_step u (by omega)]
      have := ih (u / 10) (by rw [Nat.pow_succ] at h; omega)
      simp; omega
/-- A sequence with a number; nothing where it is not above 0. -/
def goL (n c : Int) : List Int := if n ≤ 0 then [] else 27 :: 91 :: (dg n.toNat ++ [c])
theorem goL_bytes (n c : Int) (h0 : 0 ≤ c) (h1 : c ≤ 255) : Bytes (goL n c) := by
  unfold goL
  split
  · intro x hx; simp at hx
  · intro x hx
    simp at hx
    rcases hx with rfl | rfl | hx | rfl
    · omega
    · omega
    · exact dg_bytes _ x hx
    · omega
theorem goL_len (n c : Int) (h : n ≤ 99999999) : (goL n c).length ≤ 11 := by
  unfold goL
  split
  · simp
  · have := dg_short 8 n.toNat (by omega)
    simp; omega
/-- Whether a block may be drawn. -/
def bOk (n : Nat) (row col : Int) : Prop := 0 ≤ row ∧ row < (n : Int) ∧ 0 ≤ col ∧ col < 200
abbrev bOkD (n : Nat) (row col : Int) : Decidable (bOk n row col) := inferInstanceAs (Decidable (0 ≤ row ∧ row < (n : Int) ∧ 0 ≤ col ∧ col < 200))
theorem bOk_t {n : Nat} {row col : Int} (h : bOk n row col) : @decide (bOk n row col) (bOkD n row col) = true := @decide_eq_true _ (bOkD n row col) h
theorem bOk_f {n : Nat} {row col : Int} (h : ¬ bOk n row col) : @decide (bOk n row col) (bOkD n row col) = false := @decide_eq_false _ (bOkD n row col) h
def paintL (n : Nat) (tx : Nat → ByteArray) (row col : Int) : List Int := @ite _ (bOk n row col) (bOkD n row col) (rowsL tx n ++ (goL ((n : Int) - 1 - row) 65 ++ goL (col + 1) 71)) []
def eraseL (n : Nat) (row col : Int) : List Int := @ite _ (bOk n row col) (bOkD n row col) (13 :: (goL row 65 ++ [27, 91, 74])) []
theorem paintL_len (n : Nat) (tx : Nat → ByteArray) (row col : Int) (hn : n ≤ 1048576) : (paintL n tx row col).length ≤ slen tx n + 2 * n + 22 := by
  unfold paintL
  split
  · rename_i h
    unfold bOk at h
    have h1 := rowsL_len tx n
    have h2 := goL_len ((n : Int) - 1 - row) 65 (by omega)
    have h3 := goL_len (col + 1) 71 (by omega)
    simp only [List.length_append]; omega
  · simp
theorem eraseL_len (n : Nat) (row col : Int) (hn : n ≤ 1048576) : (eraseL n row col).length ≤ 15 := by
  unfold eraseL
  split
  · rename_i h
    unfold bOk at h
    have h2 := goL_len row 65 (by omega)
    simp only [List.length_append, List.length_cons, List.length_nil]; omega
  · simp
theorem paintL_bytes (n : Nat) (tx : Nat → ByteArray) (row col : Int) : Bytes (paintL n tx row col) := by
  unfold paintL
  split
  · exact (rowsL_bytes tx n).app ((goL_bytes _ _ (by omega) (by omega)).app (goL_bytes _ _ (by omega) (by omega)))
  · intro x hx; simp at hx
theorem eraseL_bytes (n : Nat) (row col : Int) : Bytes (eraseL n row col) := by
  unfold eraseL
  split
  · refine Bytes.app (xs := [13]) (fun x hx => ?_) ((goL_bytes _ _ (by omega) (by omega)).app (fun x hx => ?_))
    · simp at hx; omega
    · simp at hx; omega
  · intro x hx; simp at hx
end Go.Proofs.YtdmkcpkmeokjiaaDoor

namespace Go.Proofs.YtdmkcpkmeokjiaaDoor
open Go.RowKit

theorem Fr.tr {S : Nat → Prop} {a b c : World} (h : Fr S a b) (k : Fr S b c) : Fr S a c :=
  ⟨k.os.trans h.os, k.tape.trans h.tape, k.output.trans h.output, Nat.le_trans h.size k.size, fun i hi hn => (k.block i (Nat.lt_of_lt_of_le hi h.size) hn).trans (h.block i hi hn)⟩
end Go.Proofs.YtdmkcpkmeokjiaaDoor

namespace Go.Proofs.YtdmkcpkmeokjiaaDoor
open Go.RowKit

/-- A text that may be an item. -/
def ItemP (bs : List Int) : Prop := bs ≠ [] ∧ settleL bs = bs ∧ (cleanL bs).length ≤ 300
theorem encA_len : ∀ xs : List Int, (encA xs).length ≤ 4 * xs.length
  | [] => by simp [encA]
  | x :: xs => by
    have := encA_len xs
    have h2 : (encR x).length ≤ 4 := by
      unfold encR encL
      repeat' split
      all_goals simp
    simp only [encA, List.length_append, List.length_cons]
    omega
theorem settled_short (bs : List Int) (h : settleL bs = bs) : bs.length ≤ 4 * (cleanL bs).length := by
  have hv := ((settled_iff bs).1 h).2.2
  have h1 := encA_len (runesL bs)
  rw [hv] at h1
  rw [clean_runes, List.length_map]
  exact h1
theorem toBA_some {bs : List Int} (h : bs ≠ []) : (toBA bs).toList.isEmpty = false := by
  rw [toList_data, toBA_list]
  cases bs with
  | nil => exact absurd rfl h
  | cons a r => rfl
set_option maxRecDepth 10000 in
set_option maxHeartbeats 1000000 in
theorem itemOk_any (bs : List Int) (hb : Bytes bs) (w : World) (hl : bs.length ≤ 16777216) (hT : Tabs3 w) (ok : Bool) (hok : ok = true ↔ ItemP bs) :
    Calls Tryd.prog 17 #[.string (toBA bs)] w fun e w' => e = .returned (.bool ok) ∧ Ext w w' := by
  by_cases h0 : bs = []
  · have hfin : Hid (ok = false) := by
      refine hide ?_
      cases hc : ok with
      | false => rfl
      | true => exact absurd h0 (hok.1 hc).1
    subst h0
    rw [toBA_nil]
    go_enter Tryd.func17, Tryd.ntmps17
    go_wp2
    go_ret
    exact ⟨ret_bool (unhide hfin).symm, Ext.refl _⟩
  · have hs := textOk_any bs hb w hl hT ok (by
      rw [hok]
      unfold ItemP TextP
      simp [h0])
    have HS := hide hs
    have hne := toBA_some h0
    clear hs hok
    go_enter Tryd.func17, Tryd.ntmps17
    go_wp2_with fail
    refine (unhide HS).mono ?_
    rintro e w1 ⟨rfl, F1⟩
    go_wp2
    go_ret
    exact ⟨rfl, F1⟩
set_option maxRecDepth 10000 in
set_option maxHeartbeats 1000000 in
theorem l5TextOk_any (bs : List Int) (hb : Bytes bs) (w : World) (hl : bs.length ≤ 4194304) (ok : Bool) (hok : ok = true ↔ ItemP bs) :
    Calls Tryd.prog 16 #[.string (toBA bs)] w fun e w' => e = .returned (.bool ok) ∧ Ext w w' := by
  by_cases h0 : bs = []
  · have hfin : Hid (ok = false) := by
      refine hide ?_
      cases hc : ok with
      | false => rfl
      | true => exact absurd h0 (hok.1 hc).1
    subst h0
    rw [toBA_nil]
    go_enter Tryd.func16, Tryd.ntmps16
    go_wp2
    go_ret
    exact ⟨ret_bool (unhide hfin).symm, Ext.refl _⟩
  · have hs := l4TextOk_any bs hb w hl ok (by
      rw [hok]
      unfold ItemP
      constructor
      · rintro ⟨_, h1, h2⟩
        have := settled_short bs h1
        exact ⟨by omega, h2, h1⟩
      · rintro ⟨_, h1, h2⟩
        exact ⟨h0, h2, h1⟩)
    have HS := hide hs
    have hne := toBA_some h0
    clear hs hok
    go_enter Tryd.func16, Tryd.ntmps16
    go_wp2_with fail
    refine (unhide HS).mono ?_
    rintro e w1 ⟨rfl, F1⟩
    go_wp2
    go_ret
    exact ⟨rfl, F1⟩
end Go.Proofs.YtdmkcpkmeokjiaaDoor
