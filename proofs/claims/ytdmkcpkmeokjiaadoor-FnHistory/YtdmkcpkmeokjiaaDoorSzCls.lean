import Derived.Test.YtdmkcpkmeokjiaaDoorSpecRune
import Derived.Test.YtdmkcpkmeokjiaaDoorProg
import Derived.Deep.RegionHeld3
namespace Go.Proofs.YtdmkcpkmeokjiaaDoor
open Go.RowKit


/-- What 'mark' lays: the numbers from k on, each made an int32. -/
def mkI32 (k : Int) (n : Nat) : List Int := (List.range n).map fun (j : Nat) => wrap32 (k + (j : Int))
theorem mkI32_len (k : Int) (n : Nat) : (mkI32 k n).length = n := by simp [mkI32]
theorem mkI32_at (k : Int) (n j : Nat) (h : j < n) : at0 (mkI32 k n) j = wrap32 (k + (j : Int)) := by simp [at0, mkI32, h]
/-- The row while 'mark' is at place j. -/
def midI32 (k : Int) (xs : List Value) (j : Nat) : List Value := ((mkI32 k j).map (Value.int .i32)) ++ xs.drop j
theorem midI32_zero (k : Int) (xs : List Value) : midI32 k xs 0 = xs := by simp [midI32, mkI32]
theorem midI32_step (k : Int) (xs : List Value) (j : Nat) (h : j < xs.length) : (midI32 k xs j).set j (.int .i32 (wrap32 (k + (j : Int)))) = midI32 k xs (j + 1) := by
  have e : mkI32 k (j + 1) = mkI32 k j ++ [wrap32 (k + (j : Int))] := by simp [mkI32, List.range_succ]
  have hl : ((mkI32 k j).map (Value.int .i32)).length = j := by simp [mkI32_len]
  unfold midI32
  rw [e, List.set_append_right _ _ (by omega), hl, Nat.sub_self, List.drop_eq_getElem_cons h, List.set_cons_zero]
  simp
theorem midI32_end (k : Int) (xs : List Value) (n : Nat) (h : xs.length = n) : midI32 k xs n = (mkI32 k n).map (Value.int .i32) := by
  unfold midI32
  rw [List.drop_of_length_le (by omega)]
  simp

theorem infoI32 : (Tryd.prog.info? 21).map (fun i => (i.zero, i.size, i.bytes)) = some (some (.int .i32 0), 1, 4) := by kernel_rfl
/-- The copy while it is at place j. -/
def cpI32 (zs : List Int) (xs : List Value) (j : Nat) : List Value := ((zs.take j).map (Value.int .i32)) ++ xs.drop j
theorem cpI32_zero (zs : List Int) (xs : List Value) : cpI32 zs xs 0 = xs := by simp [cpI32]
theorem cpI32_step (zs : List Int) (xs : List Value) (j : Nat) (h : j < xs.length) (h2 : j < zs.length) : (cpI32 zs xs j).set j (.int .i32 (at0 zs j)) = cpI32 zs xs (j + 1) := by
  have e : zs.take (j + 1) = zs.take j ++ [at0 zs j] := by rw [List.take_add_one, at0_lt h2]; rfl
  have hl : ((zs.take j).map (Value.int .i32)).length = j := by simp; omega
  unfold cpI32
  rw [e, List.set_append_right _ _ (by omega), hl, Nat.sub_self, List.drop_eq_getElem_cons h, List.set_cons_zero]
  simp
theorem cpI32_end (zs : List Int) (xs : List Value) (n : Nat) (h : xs.length = n) (h2 : zs.length = n) : cpI32 zs xs n = zs.map (Value.int .i32) := by
  unfold cpI32
  rw [List.drop_of_length_le (by omega), List.take_of_length_le (by omega)]
  simp

end Go.Proofs.YtdmkcpkmeokjiaaDoor

namespace Go.Proofs.YtdmkcpkmeokjiaaDoor
open Go.RowKit

def rV (rs : List Value) (j : Nat) : Value := rs[j]?.getD (.slice none 0 0)
def cR (cs : List (List Int × Int)) (j : Nat) : List Int := (cs[j]?.getD ([], 0)).1
def cW (cs : List (List Int × Int)) (j : Nat) : Int := (cs[j]?.getD ([], 0)).2
/-- THE SLICE VALUE v READS AS THE CLUSTERS cs. -/
def ClsAt (w : World) (v : Value) (cs : List (List Int × Int)) : Prop :=
  ∃ (rs : List Value) (ao : Option Addr) (cap : Nat), v = .slice ao cs.length cap ∧ cs.length ≤ cap ∧ (∀ j, j < cs.length → IntsAt w .i32 (rV rs j) (cR cs j)) ∧
    (0 < cs.length → ∃ b off, ao = some ⟨b, off, none⟩ ∧ ∀ j, j < cs.length → w.cell? ⟨b, off + j * 2, none⟩ = some (rV rs j) ∧ w.cell? ⟨b, off + j * 2 + 1, none⟩ = some (.int .i64 (cW cs j)))
theorem ClsAt.ext {w w' : World} {v : Value} {cs : List (List Int × Int)} (h : ClsAt w v cs) (he : Ext w w') : ClsAt w' v cs := by
  obtain ⟨rs, ao, cap, e, hc, hr, hx⟩ := h
  exact ⟨rs, ao, cap, e, hc, fun j hj => (hr j hj).ext he, fun hp => by
    obtain ⟨b, off, e2, hcell⟩ := hx hp
    exact ⟨b, off, e2, fun j hj => ⟨he.cell (hcell j hj).1, he.cell (hcell j hj).2⟩⟩⟩
theorem rV_push (rs : List Value) (r : Value) (i : Nat) (h : i < rs.length) : rV (rs ++ [r]) i = rV rs i := by
  unfold rV; rw [List.getElem?_append_left h]
theorem rV_last (rs : List Value) (r : Value) : rV (rs ++ [r]) rs.length = r := by simp [rV]
/-- THE CALL OWNS v AND ALL ITS RUNES: rs are the runes' slices. -/
def OwnCls (w : World) (base : Nat) (v : Value) (rs : List Value) (cs : List (List Int × Int)) : Prop :=
  rs.length = cs.length ∧ (∃ ys, w.ownsRow base 70 2 v cs.length ys ∧ ∀ j, j < cs.length → ys[j * 2]? = some (rV rs j) ∧ ys[j * 2 + 1]? = some (.int .i64 (cW cs j))) ∧
  (∀ j, j < cs.length → w.ownsRow base 21 1 (rV rs j) (cR cs j).length ((cR cs j).map (Value.int .i32))) ∧
  (∀ i j g, i < j → j < cs.length → (rV rs i).ownBlock = some g → (rV rs j).ownBlock ≠ some g)
theorem OwnCls.ext {w w' : World} {base : Nat} {v : Value} {rs : List Value} {cs : List (List Int × Int)} (h : OwnCls w base v rs cs) (he : Ext w w') : OwnCls w' base v rs cs := by
  obtain ⟨h0, ⟨ys, h1, h2⟩, h3, h4⟩ := h
  exact ⟨h0, ⟨ys, he.owns h1, h2⟩, fun j hj => he.owns (h3 j hj), h4⟩
theorem OwnCls.cls {w : World} {base : Nat} {v : Value} {rs : List Value} {cs : List (List Int × Int)} (h : OwnCls w base v rs cs) : ClsAt w v cs := by
  obtain ⟨_, ⟨ys, h1, h2⟩, h3, _⟩ := h
  rcases h1.2 with ⟨rfl, h0⟩ | ⟨g, cap, cur, rfl, hb, hg, hn, hm, hs, ht⟩
  · exact ⟨rs, none, 0, by rw [h0], by omega, fun j hj => by omega, fun hp => by omega⟩
  · refine ⟨rs, _, cap, rfl, hn, fun j hj => ints_of_owns (h3 j hj), fun _ => ⟨g, 0, rfl, fun j hj => ?_⟩⟩
    have := h2 j hj
    rw [Nat.zero_add, h1.cellAt _ (by omega), h1.cellAt _ (by omega)]
    exact this
end Go.Proofs.YtdmkcpkmeokjiaaDoor

namespace Go.Proofs.YtdmkcpkmeokjiaaDoor
open Go.RowKit

def sumR (cs : List (List Int × Int)) : Nat → Nat
  | 0 => 0
  | j + 1 => sumR cs j + (cR cs j).length
theorem sumR_le (cs : List (List Int × Int)) (j : Nat) : ∀ n, j < n → (cR cs j).length ≤ sumR cs n := by
  intro n
  induction n with
  | zero => intro h; omega
  | succ n ih =>
    intro h
    rw [sumR]
    by_cases e : j = n
    · subst e; omega
    · have := ih (by omega); omega
end Go.Proofs.YtdmkcpkmeokjiaaDoor
