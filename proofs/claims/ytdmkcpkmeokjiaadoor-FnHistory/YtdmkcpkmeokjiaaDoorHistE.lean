import Derived.Test.YtdmkcpkmeokjiaaDoorAddI
import Derived.Test.YtdmkcpkmeokjiaaDoorLatest
import Derived.Test.YtdmkcpkmeokjiaaDoorItemOk
import Derived.Test.YtdmkcpkmeokjiaaDoorBlocks
import Derived.Laws.Rows
import Derived.Laws.Tables
import Derived.OwnWalk
import Derived.Deep.DeepCutAuto
import Derived.Deep.RegionLaw
import Derived.Deep.CutBlock
import Derived.Deep.RegionHeld3
import Derived.Test.YtdmkcpkmeokjiaaDoorHistD
namespace Go.Proofs.YtdmkcpkmeokjiaaDoor
open Go.RowKit

section
variable {cap : Int} {n : Nat} {tx : Nat → ByteArray} {text : ByteArray}
theorem addN_or (h : AddP cap n tx text) : (addN true cap n = n ∧ (n : Int) = cap ∧ 1 ≤ n) ∨ (addN true cap n = n + 1 ∧ (n : Int) < cap) := by
  have h1 := h.1.1
  have h2 := h.1.2.2.1
  unfold addN
  by_cases e : (n : Int) = cap
  · left; simp [e]; omega
  · right; simp [e]; omega
theorem addT_last (h : AddP cap n tx text) : addT true cap n tx text (addN true cap n - 1) = text := by
  rcases addN_or h with ⟨e1, e2, e3⟩ | ⟨e1, e2⟩
  · rw [e1]; unfold addT; simp [e2]; omega
  · rw [e1]; unfold addT; simp [show ¬ (n : Int) = cap by omega]
theorem addT_pre (h : AddP cap n tx text) (j : Nat) (hj : j < addN true cap n - 1) : addT true cap n tx text j = tx (n - (addN true cap n - 1) + j) := by
  rcases addN_or h with ⟨e1, e2, e3⟩ | ⟨e1, e2⟩
  · rw [e1] at hj ⊢
    unfold addT
    simp [e2, show j + 1 < n by omega, show n - (n - 1) + j = j + 1 by omega]
  · rw [e1] at hj ⊢
    unfold addT
    simp [show ¬ (n : Int) = cap by omega, show j < n by omega]
theorem addT_hist (h : AddP cap n tx text) : HistP cap (addN true cap n) (addT true cap n tx text) := by
  obtain ⟨⟨a1, a2, a3, a4⟩, hi, hl⟩ := id h
  have hm : ((addN true cap n : Nat) : Int) ≤ cap := by rcases addN_or h with ⟨e1, e2, e3⟩ | ⟨e1, e2⟩ <;> omega
  have hm1 : 1 ≤ addN true cap n := by rcases addN_or h with ⟨e1, e2, e3⟩ | ⟨e1, e2⟩ <;> omega
  have hmn : addN true cap n - 1 ≤ n := by rcases addN_or h with ⟨e1, e2, e3⟩ | ⟨e1, e2⟩ <;> omega
  refine ⟨a1, a2, hm, fun j hj => ?_⟩
  by_cases e : j < addN true cap n - 1
  · rw [addT_pre h j e]
    refine ⟨(a4 _ (by omega)).1, fun h0 => ?_⟩
    rw [addT_pre h (j - 1) (by omega)]
    have := (a4 (n - (addN true cap n - 1) + j) (by omega)).2 (by omega)
    rw [show n - (addN true cap n - 1) + j - 1 = n - (addN true cap n - 1) + (j - 1) by omega] at this
    exact this
  · obtain rfl : j = addN true cap n - 1 := by omega
    rw [addT_last h]
    refine ⟨hi, fun h0 => ?_⟩
    rw [addT_pre h _ (by omega)]
    rcases hl with hl | hl
    · omega
    · rw [show n - (addN true cap n - 1) + (addN true cap n - 1 - 1) = n - 1 by omega]
      exact fun e => hl e.symm
theorem addT_again (h : AddP cap n tx text) : ¬ AddP cap (addN true cap n) (addT true cap n tx text) text := by
  rintro ⟨_, _, h1 | h1⟩
  · rcases addN_or h with ⟨e1, e2, e3⟩ | ⟨e1, e2⟩ <;> omega
  · exact h1 (addT_last h)
theorem addT_size {B : Nat} (ok : Bool) (hx : ∀ j, j < n → (tx j).size ≤ B) (ht : text.size ≤ B) (j : Nat) (hj : j < addN ok cap n) : (addT ok cap n tx text j).size ≤ B := by
  unfold addT addN at *
  repeat' split
  all_goals first | exact ht | (refine hx _ ?_; simp_all; try omega)
end
theorem lat_found (text : ByteArray) (ty : Nat → ByteArray) (m : Nat) (hm : 1 ≤ m) (hl : ty (m - 1) = text) (h2 : 2 ≤ text.size) : latR true (text.extract 0 1) ty m = text := by
  obtain ⟨k, rfl⟩ : ∃ k, m = k + 1 := ⟨m - 1, by omega⟩
  rw [Nat.add_sub_cancel] at hl
  have hL : LatP (text.extract 0 1) (ty k) := by
    rw [hl]
    refine ⟨fun e => ?_, ?_⟩
    · have := congrArg ByteArray.size e
      rw [ByteArray.size_extract] at this
      omega
    · rw [contains_iff]
      refine ⟨0, ?_, ?_⟩
      · have : text.data.size = text.size := rfl
        first | (simp; done) | (simp; omega)
      · have : text.data.size = text.size := rfl
        first | (simp; done) | (simp; omega)
  simp only [latR, if_true]
  rw [lastF_hit hL, hl]
end Go.Proofs.YtdmkcpkmeokjiaaDoor

namespace Go.Proofs.YtdmkcpkmeokjiaaDoor
open Go.RowKit

/-- A datum as values bear it: how a value reads as it, how one owns it (from a block on, its blocks). -/
structure Kd where
  R : World → Value → Prop
  O : World → Nat → (Nat → Prop) → Value → Prop
  rext : ∀ {w w' : World} {v : Value}, R w v → Ext w w' → R w' v
  oext : ∀ {w w' : World} {b : Nat} {S : Nat → Prop} {v : Value}, O w b S v → Ext w w' → O w' b S v
  ofr : ∀ {w w' : World} {b : Nat} {S S' : Nat → Prop} {v : Value}, O w b S v → Fr S' w w' → (∀ g, S g → ¬ S' g) → O w' b S v
  reads : ∀ {w : World} {b : Nat} {S : Nat → Prop} {v : Value}, O w b S v → R w v
  lt : ∀ {w : World} {b : Nat} {S : Nat → Prop} {v : Value}, O w b S v → ∀ g, S g → b ≤ g ∧ g < w.heap.size
def EqOk (F : Nat) (K : Kd) : Prop := ∀ (w : World) (a b : Value), K.R w a → K.R w b → Calls Tryd.prog F #[a, b] w fun e w' => e = .returned (.bool true) ∧ Ext w w'
def MarkOk (F : Nat) (K : Kd) (M : Int → Kd) (m : Nat) : Prop :=
  ∀ (w : World) (b : Nat) (S : Nat → Prop) (v : Value) (k : Int), K.O w b S v → 0 ≤ k → k ≤ 68719476736 → Calls Tryd.prog F #[v, .int .i64 k] w fun e w' => e = .returned (.int .i64 (k + (m : Int))) ∧ (M k).O w' b S v ∧ Fr S w w'
def HeldOk (F : Nat) (M : Int → Kd) (m : Nat) : Prop :=
  ∀ (w : World) (v : Value) (k : Int), (M k).R w v → 0 ≤ k → k ≤ 68719476736 → Calls Tryd.prog F #[v, .int .i64 k] w fun e w' => e = .returned (.int .i64 (k + (m : Int))) ∧ Ext w w'
theorem Fr.kept {S : Nat → Prop} {w w' : World} {p : Nat} {o : Obj} (h : Fr S w w') (hp : w.heap[p]? = some o) (hS : ¬ S p) : w'.heap[p]? = some o := (h.block p (Array.getElem?_eq_some_iff.1 hp).1 hS).trans hp
theorem lt_of_block {w : World} {p : Nat} {o : Obj} (h : w.heap[p]? = some o) : p < w.heap.size := (Array.getElem?_eq_some_iff.1 h).1
/-- Texts. -/
def strsK (n : Nat) (tx : Nat → ByteArray) : Kd where
  R w v := Row1At w v n (fun j => .string (tx j))
  O w b S v := Own1 w b 9 v n (fun j => .string (tx j)) ∧ ∀ g, S g ↔ v.ownBlock = some g
  rext h e := h.ext e
  oext h e := ⟨h.1.ext e, h.2⟩
  ofr h f d := ⟨h.1.fr f (fun g hg => d g ((h.2 g).2 hg)), h.2⟩
  reads h := h.1.reads
  lt h g hg := h.1.lt g ((h.2 g).1 hg)
theorem strsK_shape {n : Nat} {tx : Nat → ByteArray} {w : World} {v : Value} (h : (strsK n tx).R w v) : ∃ a c, v = .slice a n c := by
  obtain ⟨a, c, e, _⟩ := h
  exact ⟨a, c, e⟩
theorem strsK_own {n : Nat} {tx : Nat → ByteArray} {w : World} {b : Nat} {v : Value} (h : Own1 w b 9 v n (fun j => .string (tx j))) : (strsK n tx).O w b (fun g => v.ownBlock = some g) v := ⟨h, fun _ => Iff.rfl⟩
/-- Bytes. -/
def bytesK (zs : List Int) : Kd where
  R w v := IntsAt w .u8 v zs
  O w b S v := w.ownsRow b 5 1 v zs.length (zs.map (Value.int .u8)) ∧ ∀ g, S g ↔ v.ownBlock = some g
  rext h e := h.ext e
  oext h e := ⟨e.owns h.1, h.2⟩
  ofr h f d := ⟨f.owns h.1 (fun g hg => d g ((h.2 g).2 hg)), h.2⟩
  reads h := ints_of_owns h.1
  lt h g hg := h.1.lt g ((h.2 g).1 hg)
theorem bytesK_shape {zs : List Int} {w : World} {v : Value} (h : (bytesK zs).R w v) : ∃ a c, v = .slice a zs.length c := by
  obtain ⟨a, c, e, _⟩ := h
  exact ⟨a, c, e⟩
theorem bytesK_own {zs : List Int} {w : World} {b : Nat} {v : Value} (h : w.ownsRow b 5 1 v zs.length (zs.map (Value.int .u8))) : (bytesK zs).O w b (fun g => v.ownBlock = some g) v := ⟨h, fun _ => Iff.rfl⟩
end Go.Proofs.YtdmkcpkmeokjiaaDoor

namespace Go.Proofs.YtdmkcpkmeokjiaaDoor
open Go.RowKit

section
variable {P : Program} {w : World}
theorem run_loadAt_blk (t : TypeId) (b : Nat) (T : TypeId) (cs : Array Value) (z : Nat × Nat) (d : TypeDesc) (hg : w.heap[b]? = some (.cells cs T z)) (hu : P.underlying t = some d) (hd : (match d with | .struct _ | .array _ _ => true | _ => false) = true) (hi : (P.info? t).map (·.size) = some cs.size) :
    (Instr.loadAt t (.pointer (some ⟨b, 0, none⟩))).run P w = .ok (.agg cs) w := by
  simp only [Instr.loadAt, Instr.sureAddr, Sem.run_bind, Sem.run_pure, Result.andThen]
  exact run_loadVar_row w b T t cs z d hg hu hd hi
theorem run_storeAt_blk (t : TypeId) (b : Nat) (T : TypeId) (old cs : Array Value) (hg : w.heap[b]? = some (.cells old T (0, 0))) (hi : (P.info? t).map (·.size) = some cs.size) (ho : old.size = cs.size) (h1 : cs.all (·.oneCell') = true) :
    (Instr.storeAt t (.pointer (some ⟨b, 0, none⟩)) (.agg cs)).run P w = .ok () (w.setRow b cs) := by
  simp only [Instr.storeAt, Instr.sureAddr, Sem.run_bind, Sem.run_pure, Result.andThen]
  exact run_storeVar_row w b T t old cs hg hi ho h1
/-- A struct is read whole. -/
theorem wp_load_blk {o : Oper} {a : Act} {K : Act → World → Prop} {Q : Exit → Act → World → Prop} (t : TypeId) (s : Operand) (ho : o.op = .load t s) (b : Nat) (hs : a.eval s = .pointer (some ⟨b, 0, none⟩)) (T : TypeId) (cs : Array Value) (z : Nat × Nat) (d : TypeDesc)
    (hg : w.heap[b]? = some (.cells cs T z)) (hu : P.underlying t = some d) (hd : (match d with | .struct _ | .array _ _ => true | _ => false) = true) (hi : (P.info? t).map (·.size) = some cs.size) (h : K (a.put o.dst (.agg cs)) w) : o.wp P a w K Q := by
  have hr := run_loadAt_blk (P := P) (w := w) t b T cs z d hg hu hd hi
  unfold Oper.wp
  simp [execOp, ho, hs, hr, Result.andThen]
  exact h
theorem wpList_load_blk {ops : Array Oper} {rest : List Oper} {o : Oper} {a : Act} {Q : Exit → Act → World → Prop} (hgd : o.guard = none) (t : TypeId) (s : Operand) (ho : o.op = .load t s) (b : Nat) (hs : a.eval s = .pointer (some ⟨b, 0, none⟩)) (T : TypeId) (cs : Array Value) (z : Nat × Nat) (d : TypeDesc)
    (hg : w.heap[b]? = some (.cells cs T z)) (hu : P.underlying t = some d) (hd : (match d with | .struct _ | .array _ _ => true | _ => false) = true) (hi : (P.info? t).map (·.size) = some cs.size) (h : wpList P ops Q rest (a.put o.dst (.agg cs)) w) : wpList P ops Q (o :: rest) a w :=
  wpList_plain hgd fun _ hK => wp_load_blk t s ho b hs T cs z d hg hu hd hi (hK _ _ h)
theorem wpList_load_blk_g {ops : Array Oper} {rest : List Oper} {o : Oper} {a : Act} {Q : Exit → Act → World → Prop} (hgd : Region.wanted o (yielded ops a.tmps) = true) (t : TypeId) (s : Operand) (ho : o.op = .load t s) (b : Nat) (hs : a.eval s = .pointer (some ⟨b, 0, none⟩)) (T : TypeId) (cs : Array Value) (z : Nat × Nat) (d : TypeDesc)
    (hg : w.heap[b]? = some (.cells cs T z)) (hu : P.underlying t = some d) (hd : (match d with | .struct _ | .array _ _ => true | _ => false) = true) (hi : (P.info? t).map (·.size) = some cs.size) (h : wpList P ops Q rest (a.put o.dst (.agg cs)) w) : wpList P ops Q (o :: rest) a w :=
  wpList_step fun K hK => by
    rw [if_pos hgd]
    exact wp_load_blk t s ho b hs T cs z d hg hu hd hi (hK _ _ h)
theorem step_load_blk {ops : Array Oper} {o : Oper} {a : Act} {K : Act → World → Prop} {Q : Exit → Act → World → Prop} {E : Prop} (hgd : o.guard = none) (t : TypeId) (s : Operand) (ho : o.op = .load t s) (b : Nat) (hs : a.eval s = .pointer (some ⟨b, 0, none⟩)) (T : TypeId) (cs : Array Value) (z : Nat × Nat) (d : TypeDesc)
    (hg : w.heap[b]? = some (.cells cs T z)) (hu : P.underlying t = some d) (hd : (match d with | .struct _ | .array _ _ => true | _ => false) = true) (hi : (P.info? t).map (·.size) = some cs.size) (h : K (a.put o.dst (.agg cs)) w) :
    if Region.wanted o (yielded ops a.tmps) = true then Oper.wp P o a w K Q else E := by
  rw [if_pos (by simp [Region.wanted, hgd])]
  exact wp_load_blk t s ho b hs T cs z d hg hu hd hi h
theorem yields_load_blk {a : Act} {o : Oper} (t : TypeId) (s : Operand) (ho : o.op = .load t s) (b : Nat) (hs : a.eval s = .pointer (some ⟨b, 0, none⟩)) (T : TypeId) (cs : Array Value) (z : Nat × Nat) (d : TypeDesc)
    (hg : w.heap[b]? = some (.cells cs T z)) (hu : P.underlying t = some d) (hd : (match d with | .struct _ | .array _ _ => true | _ => false) = true) (hi : (P.info? t).map (·.size) = some cs.size) : (execOp a.eval o).run P w = .ok (Next.value (.agg cs)) w := by
  have hr := run_loadAt_blk (P := P) (w := w) t b T cs z d hg hu hd hi
  simp [execOp, ho, hs, hr, Result.andThen]
theorem setRow_fr (b : Nat) (cs : Array Value) : Fr (fun q => q = b) w (w.setRow b cs) := by
  refine ⟨rfl, rfl, rfl, by simp [World.setRow], fun i hi hn => ?_⟩
  simp only [World.setRow, Array.getElem?_modify]
  rw [if_neg (fun e => hn e.symm)]
theorem setRow_blk {b : Nat} {old cs : Array Value} {T : TypeId} {z : Nat × Nat} (hg : w.heap[b]? = some (.cells old T z)) : (w.setRow b cs).heap[b]? = some (.cells cs T z) := by
  simp [World.setRow, Array.getElem?_modify, hg]
/-- A struct is written whole. -/
theorem wpList_store_blk {ops : Array Oper} {rest : List Oper} {o : Oper} {a : Act} {Q : Exit → Act → World → Prop} (hgd : o.guard = none) (t : TypeId) (s x : Operand) (ho : o.op = .store t s x) (hdst : o.dst = none) (b : Nat) (hs : a.eval s = .pointer (some ⟨b, 0, none⟩)) (T : TypeId) (old cs : Array Value) (hx : a.eval x = .agg cs)
    (hg : w.heap[b]? = some (.cells old T (0, 0))) (hi : (P.info? t).map (·.size) = some cs.size) (hso : old.size = cs.size) (h1 : cs.all (·.oneCell') = true)
    (h : ∀ w', w'.heap[b]? = some (.cells cs T (0, 0)) → Fr (fun q => q = b) w w' → wpList P ops Q rest a w') : wpList P ops Q (o :: rest) a w := by
  refine wpList_plain hgd fun _ hK => ?_
  have hr := run_storeAt_blk (P := P) (w := w) t b T old cs hg hi hso h1
  have hk := hK _ _ (h _ (setRow_blk hg) (setRow_fr b cs))
  unfold Oper.wp
  simp [execOp, ho, hs, hx, hr, Result.andThen]
  simp [Oper.upon]
  rw [hdst]
  exact hk
theorem wp_store_blk {o : Oper} {a : Act} {K : Act → World → Prop} {Q : Exit → Act → World → Prop} (t : TypeId) (s x : Operand) (ho : o.op = .store t s x) (hdst : o.dst = none) (b : Nat) (hs : a.eval s = .pointer (some ⟨b, 0, none⟩)) (T : TypeId) (old cs : Array Value) (hx : a.eval x = .agg cs)
    (hg : w.heap[b]? = some (.cells old T (0, 0))) (hi : (P.info? t).map (·.size) = some cs.size) (hso : old.size = cs.size) (h1 : cs.all (·.oneCell') = true)
    (h : ∀ w', w'.heap[b]? = some (.cells cs T (0, 0)) → Fr (fun q => q = b) w w' → K a w') : o.wp P a w K Q := by
  have hr := run_storeAt_blk (P := P) (w := w) t b T old cs hg hi hso h1
  have hk := h _ (setRow_blk hg) (setRow_fr b cs)
  unfold Oper.wp
  simp [execOp, ho, hs, hx, hr, Result.andThen]
  simp [Oper.upon]
  rw [hdst]
  exact hk
end
theorem run_cells_blk {P : Program} {w : World} {b : Nat} {T : TypeId} {cs : Array Value} {z : Nat × Nat} (n : Nat) (hn : cs.size = n) (hg : w.heap[b]? = some (.cells cs T z)) : (loadCellsFrom ⟨b, 0, none⟩ 0 n #[]).run P w = .ok cs w := by
  subst hn
  have := run_loadCells_list (P := P) w ⟨b, 0, none⟩ cs.toList (fun j v hv => by
    have hadd : (⟨b, 0, none⟩ : Addr).add j = ⟨b, j, none⟩ := by unfold Addr.add; split <;> simp_all
    rw [hadd, cell_of_row _ _ j cs T z hg]
    simpa using hv)
  simpa [loadCells] using this
end Go.Proofs.YtdmkcpkmeokjiaaDoor

namespace Go.Proofs.YtdmkcpkmeokjiaaDoor
open Go.RowKit

theorem hist_kind {w : World} {base : Nat} {v : Value} {n B : Nat} {A : Nat → Value} {cs : Array Value} (h : Own1 w base 9 v n A) (hB : w.heap[B]? = some (.cells cs 25 (0, 0))) : ¬ v.ownBlock = some B := by
  intro e
  obtain ⟨ys, h1, _⟩ := h
  obtain ⟨c9, k9⟩ := owns_kind h1 e
  rw [hB] at k9
  injection k9 with k9
  injection k9 with _ k9
  exact absurd k9 (by decide)
theorem hist_two {w : World} {B : Nat} {x y x' y' : Value} {T : TypeId} (h : w.heap[B]? = some (.cells #[x, y] T (0, 0))) : ((w.setCell ⟨B, 0, none⟩ x').setCell ⟨B, 1, none⟩ y').heap[B]? = some (.cells #[x', y'] T (0, 0)) := heap_setCell_same _ B 1 _ _ y' (heap_setCell_same w B 0 _ _ x' h)
theorem heap_far {w : World} {B q i : Nat} {v : Value} (h : q ≠ B) : (w.setCell ⟨B, i, none⟩ v).heap[q]? = w.heap[q]? := Below.heap_setCell w ⟨B, i, none⟩ v q h
theorem fr_off {P : Nat} {S : Nat → Prop} {W0 W w' : World} (h : Fr (fun q => q = P) W0 W) (k : Fr S W w') (hS : ∀ x, S x → x = P ∨ W0.heap.size ≤ x) : Fr (fun q => q = P) W0 w' := by
  refine ⟨k.os.trans h.os, k.tape.trans h.tape, k.output.trans h.output, Nat.le_trans h.size k.size, fun i hi hn => (k.block i (Nat.lt_of_lt_of_le hi h.size) (fun e => ?_)).trans (h.block i hi hn)⟩
  rcases hS i e with e | e
  · exact hn e
  · omega
theorem fr_two (w : World) (B : Nat) (x y : Value) : Fr (fun q => q = B) w ((w.setCell ⟨B, 0, none⟩ x).setCell ⟨B, 1, none⟩ y) := (Fr.setCell (S := fun q => q = B) (Fr.refl _ w) (a := ⟨B, 0, none⟩) rfl _).setCell (a := ⟨B, 1, none⟩) rfl _
set_option maxRecDepth 10000 in
set_option maxHeartbeats 2000000 in
theorem l5Draw_any (D : Nat) (v : Value) (bs : List Int) (p0 : Nat) (w : World) (h : RdAt w D v bs p0) (hB : Bytes bs) (hl : bs.length ≤ 16777216) :
    Calls Tryd.prog 28 #[.pointer (some ⟨D, 0, none⟩)] w fun e w' => ∃ (cap : Int) (g n c p : Nat) (tx : Nat → ByteArray), e = .returned (.agg #[.int .i64 cap, .slice (some ⟨g, 0, none⟩) n c]) ∧ (0 ≤ cap ∧ cap ≤ 200) ∧ n ≤ 9 ∧ (∀ j, j < n → (tx j).size ≤ 400) ∧ Own1 w' w.heap.size 9 (.slice (some ⟨g, 0, none⟩) n c) n (fun j => .string (tx j)) ∧ RdAt w' D v bs p ∧ Fr (fun k => k = D) w w' := by
  obtain ⟨x, hx, hx2⟩ := byte_nat hB p0
  have hDw : D < w.heap.size := lt_of_cell h.1
  have HR := hide h
  have HN := hide (fun W (E : Ext w W) => next_any D v bs p0 W (h.ext E) hB hl)
  rw [hx] at HN
  have hw1 : IntKind.i64.wrap (1 + (x : Int) % 6) = ((1 + x % 6 : Nat) : Int) := by rw [IntKind.wrap_i64]; omega
  obtain ⟨m, hm⟩ : ∃ m, m = x / 8 % 9 := ⟨_, rfl⟩
  have hmI : (x : Int) / 8 % 9 = (m : Int) := by omega
  obtain ⟨cap, hcap⟩ : ∃ cap : Int, cap = ((1 + x % 6 : Nat) : Int) := ⟨_, rfl⟩
  rw [← hcap] at hw1
  have hc1 : 0 ≤ cap ∧ cap ≤ 200 := by omega
  have hm8 : m ≤ 8 := by omega
  have hxI : (0 : Int) ≤ (x : Int) := by omega
  clear h hx hm hcap
  go_enter Tryd.func28, Tryd.ntmps28
  go_wp2_with fail
  have E0 := (Ext.refl w).alloc (.cells #[.int .i64 0, .slice none 0 0] 25)
  refine ((unhide HN) _ E0).mono ?_
  rintro e w1 ⟨rfl, r1, f1⟩
  have HR0 := hide (f1.kept (new_block w (.cells #[.int .i64 0, .slice none 0 0] 25)) (by omega))
  have F1 := (Fr.of_ext (S := fun k => k = D) E0).tr f1
  have hz1 := lt_of_block (unhide HR0)
  obtain ⟨p1, hp1⟩ : ∃ p1, p1 = (if p0 < bs.length then p0 + 1 else p0) := ⟨_, rfl⟩
  rw [← hp1] at r1
  have HR1 := hide r1
  have HF1 := hide F1
  clear HN r1 f1 F1 E0 hp1
  go_wp2
  obtain ⟨B, hBd⟩ : ∃ B, B = w1.heap.size + 1 := ⟨_, rfl⟩
  obtain ⟨W2, hW2⟩ : ∃ W2, W2 = (w1.alloc (.cells #[] 9)).alloc (.cells #[.int .i64 cap, .slice (some ⟨w1.heap.size, 0, none⟩) 0 0] 25) := ⟨_, rfl⟩
  have E2 : Ext w1 W2 := by rw [hW2]; exact ((Ext.refl w1).alloc _).alloc _
  have HB2 : Hid (W2.heap[B]? = some (.cells #[.int .i64 cap, .slice (some ⟨w1.heap.size, 0, none⟩) 0 0] 25 (0, 0))) := hide (by
    have h := new_block (w1.alloc (.cells #[] 9)) (.cells #[.int .i64 cap, .slice (some ⟨w1.heap.size, 0, none⟩) 0 0] 25)
    rw [show (w1.alloc (.cells #[] 9)).heap.size = B by rw [hBd]; simp, ← hW2] at h
    exact h)
  have HO2 : Hid (Own1 W2 w1.heap.size 9 (.slice (some ⟨w1.heap.size, 0, none⟩) 0 0) 0 (fun _ => .string { data := #[] })) := hide (by rw [hW2]; exact Own1.ext ⟨[], owns_empty w1 9 1, fun j hj => by omega⟩ ((Ext.refl _).alloc _))
  rw [← hBd, ← hW2]
  have hBw : w1.heap.size < B := by omega
  have HRD := hide ((unhide HR1).ext E2)
  have HF2 := hide ((unhide HF1).tr (Fr.of_ext E2))
  replace HR0 := hide (E2.kept (unhide HR0))
  have z2 := E2.size
  clear hBd hW2 E2 HR1 HF1
  go_loopw [5] (fun i wr => ∃ (j n g c p : Nat) (tx : Nat → ByteArray), j ≤ m ∧ n ≤ j ∧ i = .int .i64 j ∧ Hid (∀ i, i < n → (tx i).size ≤ 400) ∧ Hid (wr.heap[B]? = some (.cells #[.int .i64 cap, .slice (some ⟨g, 0, none⟩) n c] 25 (0, 0))) ∧ Hid (wr.heap[w.heap.size]? = some (.cells #[.int .i64 0, .slice none 0 0] 25 (0, 0))) ∧ Hid (Own1 wr w1.heap.size 9 (.slice (some ⟨g, 0, none⟩) n c) n (fun i => .string (tx i))) ∧ Hid (RdAt wr D v bs p) ∧ Hid (Fr (fun k => k = D) w wr) ∧ w1.heap.size ≤ wr.heap.size) (fun i _ => m - (intOf i).toNat)
  case atStart => exact ⟨0, 0, w1.heap.size, 0, p1, fun _ => { data := #[] }, Nat.zero_le _, Nat.le_refl _, rfl, hide (fun i hi => by omega), HB2, HR0, HO2, HRD, HF2, z2⟩
  case round =>
    obtain ⟨j, n, g, c, p, tx, hj, hnj, rfl, HS, HB', HR', HO, HRd, HF, hzr⟩ := hrel
    clear HB2 HR0 HO2 HRD HF2
    have y0 : wr.cell? ⟨B, 0, none⟩ = some (.int .i64 cap) := cells_of (unhide HB') 0 _ rfl
    have y1 : wr.cell? ⟨B, 1, none⟩ = some (.slice (some ⟨g, 0, none⟩) n c) := cells_of (unhide HB') 1 _ rfl
    by_cases hlt : j < m
    · have bj : (j : Int) < (m : Int) := by omega
      have HI := hide (l5Item_any D v bs p wr.drew ((unhide HRd).ext (Ext.refl wr).drew) hB hl)
      have hgw : ∀ q, (Value.slice (some ⟨g, 0, none⟩) n c).ownBlock = some q → w1.heap.size ≤ q := fun q hq => ((unhide HO).lt q hq).1
      have HZ : Hid (w.heap.size < w1.heap.size) := hide hz1
      go_upto_region 6 with fail
      go_region_law (first
        | (go_simp; go_at_call 13
           refine (unhide HI).mono ?_
           rintro e w4 ⟨t4, p4, rfl, ht4, r4, f4⟩
           have f4' := (Fr.of_ext (S := fun k => k = D) (Ext.refl wr).drew).tr f4
           have hb4 := f4'.kept (unhide HB') (by omega)
           have k0 := cells_of hb4 0 _ rfl
           have k1 := cells_of hb4 1 _ rfl
           have HB4 := hide hb4
           have HR4 := hide (f4'.kept (unhide HR') (by omega))
           have HO4 := hide ((unhide HO).fr f4' (fun q hq e9 => by have := hgw q hq; omega))
           have HRd4 := hide r4
           have HF4 := hide ((unhide HF).tr f4')
           have hz4 := f4'.size
           clear hb4 r4 f4 f4')
        | (go_simp; go_at_call 5
           obtain ⟨ok, hok⟩ := yes_no (AddP cap n tx t4)
           refine (specAdd_nn cap ⟨g, 0, none⟩ n c tx t4 w4 (unhide HO4).reads (by omega) (fun i hi => by have := (unhide HS) i hi; omega) (by omega) ok hok).mono ?_
           rintro e w5 ⟨g5, c5, rfl, o5, E5⟩
           have hb5 := E5.kept (unhide HB4)
           have q0 := cells_of hb5 0 _ rfl
           have q1 := cells_of hb5 1 _ rfl
           have HB5 := hide hb5
           have fz : ∀ i, w5.frozen? ⟨B, i, none⟩ = false := fun i => Lib.frozen_of_heap hb5 i
           have HO5 := hide o5
           have HE5 := hide E5
           have hn5 : addN ok cap n ≤ n + 1 := (by unfold addN; split <;> (try split) <;> omega)
           have HS5 := hide (addT_size (cap := cap) ok (unhide HS) ht4)
           clear hb5 o5 E5 hok))
      all_goals
        have FT := fr_two w5 B (.int .i64 cap) (.slice (some ⟨g5, 0, none⟩) (addN ok cap n) c5)
        have hBn : w.heap.size < B := by omega
        have HFX := hide (fr_off ((unhide HF4).tr (Fr.of_ext (unhide HE5))) FT (fun x hx => .inr (by omega)))
        have HDX := hide ((unhide HR).keep ((unhide HRd4).ext (unhide HE5)) (unhide HFX) (by rw [heap_far (by omega), heap_far (by omega)]))
        have HBX := hide (hist_two (x' := .int .i64 cap) (y' := .slice (some ⟨g5, 0, none⟩) (addN ok cap n) c5) (unhide HB5))
        have HRX := hide (FT.kept ((unhide HE5).kept (unhide HR4)) (by omega))
        have HOX := hide (((unhide HO5).fr FT (fun q hq e9 => hist_kind (unhide HO5) (unhide HB5) (by rw [hq, e9]))).mono (base' := w1.heap.size) (by omega))
        have hzX : w1.heap.size ≤ ((w5.setCell ⟨B, 0, none⟩ (.int .i64 cap)).setCell ⟨B, 1, none⟩ (.slice (some ⟨g5, 0, none⟩) (addN ok cap n) c5)).heap.size := by have h1 := FT.size; have h2 := (unhide HE5).size; omega
        clear FT
        go_wp2
        go_roundw
        case rel => exact ⟨j + 1, addN ok cap n, g5, c5, p4, addT ok cap n tx t4, by omega, by omega, by go_num, HS5, HBX, HRX, HOX, HDX, HFX, hzX⟩
        case measure => simp [intOf]; omega
    · obtain rfl : j = m := by omega
      have hb9 : ¬ (j : Int) < (j : Int) := by omega
      have f0 : ∀ i, wr.frozen? ⟨w.heap.size, i, none⟩ = false := fun i => Lib.frozen_of_heap (unhide HR') i
      have s0 : wr.cell? ⟨w.heap.size, 0, none⟩ = some (.int .i64 0) := cells_of (unhide HR') 0 _ rfl
      have s1 : wr.cell? ⟨w.heap.size, 1, none⟩ = some (.slice none 0 0) := cells_of (unhide HR') 1 _ rfl
      go_wp2
      have FT := fr_two wr w.heap.size (.int .i64 cap) (.slice (some ⟨g, 0, none⟩) n c)
      have hBX := hist_two (x' := .int .i64 cap) (y' := .slice (some ⟨g, 0, none⟩) n c) (unhide HR')
      have v0 := cells_of hBX 0 _ rfl
      have v1 := cells_of hBX 1 _ rfl
      have FX := fr_off (unhide HF) FT (fun x hx => .inr (by omega))
      exact bodyPost_ret (v := .agg #[.int .i64 cap, .slice (some ⟨g, 0, none⟩) n c]) (by simp [results, Tryd.results28, go_sem, v0, v1]) rfl ⟨cap, g, n, c, rfl, hc1, by omega, p, tx, unhide HS, ((unhide HO).fr FT (fun q hq e9 => hist_kind (unhide HO) (unhide HR') (by rw [hq, e9]))).mono (by omega), (unhide HR).keep (unhide HRd) FX (by rw [heap_far (by omega), heap_far (by omega)]), FX⟩
end Go.Proofs.YtdmkcpkmeokjiaaDoor
