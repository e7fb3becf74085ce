import Derived.Test.YtinfdhbnljnifaaGreatDoorEdN
import Derived.Test.YtinfdhbnljnifaaGreatDoorFdY
import Derived.Test.YtinfdhbnljnifaaGreatDoorOkImpl
import Derived.Test.YtinfdhbnljnifaaGreatDoorRowTx
import Derived.Test.YtinfdhbnljnifaaGreatDoorRd
import Derived.Test.YtinfdhbnljnifaaGreatDoorLinesT
import Derived.Test.YtinfdhbnljnifaaGreatDoorFdE
namespace Go.Proofs.YtinfdhbnljnifaaGreatDoor
open Go.RowKit
structure zfl (w : World) (base : Nat) (X : Nat → Prop) (d : SD) (gv : Value) (rv : Nat → Value) (bv : Value) : Prop where
 grid : zbg w base 81 gv d.R rv
 row : ∀ i, i < d.R → zaG w base 83 (rv i) (d.C i) (fun j => .string (d.tx i j)) (fun j => .bool (d.hf i j))
 apart : ∀ i j g, i < j → j < d.R → (rv i).ownBlock = some g → (rv j).ownBlock ≠ some g
 back : za4 w base 9 bv d.nb (fun j => .string (d.bk j))
 top : base ≤ w.heap.size
 kept : ∀ k, X k → k < w.heap.size ∧ ¬ zbZ d gv rv bv k
section
variable {w w' : World} {F base : Nat} {X : Nat → Prop} {d : SD} {gv : Value} {rv : Nat → Value} {hv bv : Value}
theorem zfl.foot (h : zfl w base X d gv rv bv) {g : Nat} (hg : zbZ d gv rv bv g) : base ≤ g ∧ g < w.heap.size := by
 rcases hg with hg | ⟨i, hi, hg⟩ | hg
 ·exact h.grid.lt g hg
 ·exact (h.row i hi).lt g hg
 ·exact h.back.lt g hg
theorem zfl.ext (h : zfl w base X d gv rv bv) (he : Ext w w') : zfl w' base X d gv rv bv :=
 ⟨h.grid.ext he, fun i hi => (h.row i hi).ext he, h.apart, h.back.ext he, Nat.le_trans h.top he.size, fun k hk => ⟨Nat.lt_of_lt_of_le (h.kept k hk).1 he.size, (h.kept k hk).2⟩⟩
theorem zfl.toW (h : zfl w base X d gv rv bv) (hb : w.heap[F]? = some (.cells #[.int .i64 d.cols, .int .i64 d.rows, gv, .int .i64 d.row, .int .i64 d.col, .bool d.late, hv, bv] 26 (0, 0))) (hF : ¬ zbZ d gv rv bv F) : zab w F base X d gv rv hv bv :=
 ⟨hb, h.grid, h.row, h.apart, h.back, ⟨zq hb, hF⟩, h.top, h.kept⟩
structure SpB (w V : World) (d : SD) (gv hv bv : Value) : Prop where
 ext : Ext w V
 s : V.heap[w.heap.size]? = some (.cells #[.int .i64 d.cols, .int .i64 d.rows, gv, .int .i64 d.row, .int .i64 d.col, .bool d.late, hv, bv] 26 (0, 0))
 z : V.heap[w.heap.size + 1]? = some (.cells zS8 26 (0, 0))
theorem SpB.scr {V : World} (b : SpB w V d gv hv bv) (h : zfl w base X d gv rv bv) : zab V w.heap.size base X d gv rv hv bv := (h.ext b.ext).toW b.s (fun hw => by have := (h.foot hw).2; omega)
theorem zab.keepY {Y : Nat → Prop} (h : zab w F base X d gv rv hv bv) (hY : ∀ k, Y k → k < w.heap.size ∧ ¬ zbZ d gv rv bv k) : zab w F base Y d gv rv hv bv :=
 ⟨h.box, h.grid, h.row, h.apart, h.back, h.below, h.top, hY⟩
theorem zoS : (Tryz.prog.info? 26).map (·.size) = some 8 := by kernel_rfl
end
section
variable {base : Nat} {X : Nat → Prop} {d : SD} {gv : Value} {rv : Nat → Value} {hv bv : Value}
theorem zfl.fr {S : Nat → Prop} {w w' : World} (h : zfl w base X d gv rv bv) (hf : Fr S w w') (hS : ∀ g, zbZ d gv rv bv g → ¬ S g) : zfl w' base X d gv rv bv :=
 ⟨h.grid.fr hf (fun g hg => hS g (.inl hg)), fun i hi => (h.row i hi).fr hf (fun g hg => hS g (.inr (.inl ⟨i, hi, hg⟩))), h.apart, h.back.fr hf (fun g hg => hS g (.inr (.inr hg))), Nat.le_trans h.top hf.size, fun k hk => ⟨Nat.lt_of_lt_of_le (h.kept k hk).1 hf.size, (h.kept k hk).2⟩⟩
theorem zfl.keep {Y : Nat → Prop} {w : World} (h : zfl w base X d gv rv bv) (hY : ∀ k, Y k → X k) : zfl w base Y d gv rv bv := ⟨h.grid, h.row, h.apart, h.back, h.top, fun k hk => h.kept k (hY k hk)⟩
end
theorem zax.push {wr w' w3 : World} {base j g cap : Nat} {gv : Value} {rv : Nat → Value} {C : Nat → Nat} {A B : Nat → Nat → Value} {xs : List Value} {u : Value} (og : zax wr base gv rv j C A B) (hxs : ∀ i, i < j → xs[i]? = some (rv i)) (hl : xs.length = j) (E : Ext wr w') (row : zaG w' base 83 u (C j) (A j) (B j)) (hu : ∀ q, u.ownBlock = some q → wr.heap.size ≤ q)
  (fr : Fr (fun k => gv.ownBlock = some k) w' w3) (hown : w3.ownsRow base 81 1 (.slice (some ⟨g, 0, none⟩) (j + 1) cap) (j + 1) (xs ++ [u])) :
  zax w3 base (.slice (some ⟨g, 0, none⟩) (j + 1) cap) (fun i => if i = j then u else rv i) (j + 1) C A B := by
 have fr1 : Fr (fun k => gv.ownBlock = some k) wr w3 := (Fr.of_ext E).trans fr
 refine ⟨⟨_, hown, fun i hi => ?_⟩, fun i hi => ?_, fun i i' k hii hi hk => ?_⟩
 ·dsimp only
  by_cases e : i = j
  ·subst e
   rw [if_pos rfl, List.getElem?_append_right (by omega), hl]
   simp
  ·rw [if_neg e, List.getElem?_append_left (by omega)]
   exact hxs i (by omega)
 ·dsimp only
  by_cases e : i = j
  ·subst e
   rw [if_pos rfl]
   exact row.fr fr (fun k hk e => by have := hu k hk; have := (og.1.lt k e).2; omega)
  ·rw [if_neg e]
   exact (og.2.1 i (by omega)).fr fr1 (fun k hk e => og.apart (by omega) hk e)
 ·dsimp only at hk ⊢
  rw [if_neg (by omega)] at hk
  by_cases e : i' = j
  ·subst e
   rw [if_pos rfl]
   intro h9
   have := ((og.2.1 i (by omega)).lt k hk).2
   have := hu k h9
   omega
  ·rw [if_neg e]
   exact og.2.2 i i' k hii (by omega) hk
end Go.Proofs.YtinfdhbnljnifaaGreatDoor
