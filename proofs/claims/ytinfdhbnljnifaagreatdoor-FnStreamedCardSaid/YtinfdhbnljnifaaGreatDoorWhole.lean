import Derived.Test.YtinfdhbnljnifaaGreatDoorKd
import Derived.Laws.Rows
import Derived.Laws.Tables
import Derived.OwnWalk
namespace Go.Proofs.YtinfdhbnljnifaaGreatDoor
open Go.RowKit
section
variable {P : Program} {w : World}
theorem run_loadAt_blk (t : TypeId) (b : Nat) (T : TypeId) (cs : Array Value) (z : Nat × Nat) (d : TypeDesc) (hg : w.heap[b]? = some (.cells cs T z)) (hu : P.underlying t = some d) (hd : (match d with | .struct _ | .array _ _ => true | _ => false) = true) (hi : (P.info? t).map (·.size) = some cs.size) :
    (Instr.loadAt t (.pointer (some ⟨b, 0, none⟩))).run P w = .ok (.agg cs) w := by
  simp only [Instr.loadAt, Instr.sureAddr, Sem.run_bind, Sem.run_pure, Result.andThen]
  exact run_loadVar_row w b T t cs z d hg hu hd hi
theorem run_storeAt_blk (t : TypeId) (b : Nat) (T : TypeId) (old cs : Array Value) (hg : w.heap[b]? = some (.cells old T (0, 0))) (hi : (P.info? t).map (·.size) = some cs.size) (ho : old.size = cs.size) (h1 : cs.all (·.oneCell') = true) :
    (Instr.storeAt t (.pointer (some ⟨b, 0, none⟩)) (.agg cs)).run P w = .ok () (w.setRow b cs) := by
  simp only [Instr.storeAt, Instr.sureAddr, Sem.run_bind, Sem.run_pure, Result.andThen]
  exact run_storeVar_row w b T t old cs hg hi ho h1
theorem wp_load_blk {o : Oper} {a : Act} {K : Act → World → Prop} {Q : Exit → Act → World → Prop} (t : TypeId) (s : Operand) (ho : o.op = .load t s) (b : Nat) (hs : a.eval s = .pointer (some ⟨b, 0, none⟩)) (T : TypeId) (cs : Array Value) (z : Nat × Nat) (d : TypeDesc)
    (hg : w.heap[b]? = some (.cells cs T z)) (hu : P.underlying t = some d) (hd : (match d with | .struct _ | .array _ _ => true | _ => false) = true) (hi : (P.info? t).map (·.size) = some cs.size) (h : K (a.put o.dst (.agg cs)) w) : o.wp P a w K Q := by
  have hr := run_loadAt_blk (P := P) (w := w) t b T cs z d hg hu hd hi
  unfold Oper.wp
  simp [execOp, ho, hs, hr, Result.andThen]
  exact h
theorem wpList_load_blk {ops : Array Oper} {rest : List Oper} {o : Oper} {a : Act} {Q : Exit → Act → World → Prop} (hgd : o.guard = none) (t : TypeId) (s : Operand) (ho : o.op = .load t s) (b : Nat) (hs : a.eval s = .pointer (some ⟨b, 0, none⟩)) (T : TypeId) (cs : Array Value) (z : Nat × Nat) (d : TypeDesc)
    (hg : w.heap[b]? = some (.cells cs T z)) (hu : P.underlying t = some d) (hd : (match d with | .struct _ | .array _ _ => true | _ => false) = true) (hi : (P.info? t).map (·.size) = some cs.size) (h : wpList P ops Q rest (a.put o.dst (.agg cs)) w) : wpList P ops Q (o :: rest) a w :=
  wpList_plain hgd fun _ hK => wp_load_blk t s ho b hs T cs z d hg hu hd hi (hK _ _ h)
theorem wpList_load_blk_g {ops : Array Oper} {rest : List Oper} {o : Oper} {a : Act} {Q : Exit → Act → World → Prop} (hgd : Region.wanted o (yielded ops a.tmps) = true) (t : TypeId) (s : Operand) (ho : o.op = .load t s) (b : Nat) (hs : a.eval s = .pointer (some ⟨b, 0, none⟩)) (T : TypeId) (cs : Array Value) (z : Nat × Nat) (d : TypeDesc)
    (hg : w.heap[b]? = some (.cells cs T z)) (hu : P.underlying t = some d) (hd : (match d with | .struct _ | .array _ _ => true | _ => false) = true) (hi : (P.info? t).map (·.size) = some cs.size) (h : wpList P ops Q rest (a.put o.dst (.agg cs)) w) : wpList P ops Q (o :: rest) a w :=
  wpList_step fun K hK => by
    rw [if_pos hgd]
    exact wp_load_blk t s ho b hs T cs z d hg hu hd hi (hK _ _ h)
theorem step_load_blk {ops : Array Oper} {o : Oper} {a : Act} {K : Act → World → Prop} {Q : Exit → Act → World → Prop} {E : Prop} (hgd : o.guard = none) (t : TypeId) (s : Operand) (ho : o.op = .load t s) (b : Nat) (hs : a.eval s = .pointer (some ⟨b, 0, none⟩)) (T : TypeId) (cs : Array Value) (z : Nat × Nat) (d : TypeDesc)
    (hg : w.heap[b]? = some (.cells cs T z)) (hu : P.underlying t = some d) (hd : (match d with | .struct _ | .array _ _ => true | _ => false) = true) (hi : (P.info? t).map (·.size) = some cs.size) (h : K (a.put o.dst (.agg cs)) w) :
    if Region.wanted o (yielded ops a.tmps) = true then Oper.wp P o a w K Q else E := by
  rw [if_pos (by simp [Region.wanted, hgd])]
  exact wp_load_blk t s ho b hs T cs z d hg hu hd hi h
theorem yields_load_blk {a : Act} {o : Oper} (t : TypeId) (s : Operand) (ho : o.op = .load t s) (b : Nat) (hs : a.eval s = .pointer (some ⟨b, 0, none⟩)) (T : TypeId) (cs : Array Value) (z : Nat × Nat) (d : TypeDesc)
    (hg : w.heap[b]? = some (.cells cs T z)) (hu : P.underlying t = some d) (hd : (match d with | .struct _ | .array _ _ => true | _ => false) = true) (hi : (P.info? t).map (·.size) = some cs.size) : (execOp a.eval o).run P w = .ok (Next.value (.agg cs)) w := by
  have hr := run_loadAt_blk (P := P) (w := w) t b T cs z d hg hu hd hi
  simp [execOp, ho, hs, hr, Result.andThen]
theorem setRow_fr (b : Nat) (cs : Array Value) : Fr (fun q => q = b) w (w.setRow b cs) := by
  refine ⟨rfl, rfl, rfl, by simp [World.setRow], fun i hi hn => ?_⟩
  simp only [World.setRow, Array.getElem?_modify]
  rw [if_neg (fun e => hn e.symm)]
theorem setRow_blk {b : Nat} {old cs : Array Value} {T : TypeId} {z : Nat × Nat} (hg : w.heap[b]? = some (.cells old T z)) : (w.setRow b cs).heap[b]? = some (.cells cs T z) := by
  simp [World.setRow, Array.getElem?_modify, hg]
theorem wpList_store_blk {ops : Array Oper} {rest : List Oper} {o : Oper} {a : Act} {Q : Exit → Act → World → Prop} (hgd : o.guard = none) (t : TypeId) (s x : Operand) (ho : o.op = .store t s x) (hdst : o.dst = none) (b : Nat) (hs : a.eval s = .pointer (some ⟨b, 0, none⟩)) (T : TypeId) (old cs : Array Value) (hx : a.eval x = .agg cs)
    (hg : w.heap[b]? = some (.cells old T (0, 0))) (hi : (P.info? t).map (·.size) = some cs.size) (hso : old.size = cs.size) (h1 : cs.all (·.oneCell') = true)
    (h : ∀ w', w'.heap[b]? = some (.cells cs T (0, 0)) → Fr (fun q => q = b) w w' → wpList P ops Q rest a w') : wpList P ops Q (o :: rest) a w := by
  refine wpList_plain hgd fun _ hK => ?_
  have hr := run_storeAt_blk (P := P) (w := w) t b T old cs hg hi hso h1
  have hk := hK _ _ (h _ (setRow_blk hg) (setRow_fr b cs))
  unfold Oper.wp
  simp [execOp, ho, hs, hx, hr, Result.andThen]
  simp [Oper.upon]
  rw [hdst]
  exact hk
theorem wp_store_blk {o : Oper} {a : Act} {K : Act → World → Prop} {Q : Exit → Act → World → Prop} (t : TypeId) (s x : Operand) (ho : o.op = .store t s x) (hdst : o.dst = none) (b : Nat) (hs : a.eval s = .pointer (some ⟨b, 0, none⟩)) (T : TypeId) (old cs : Array Value) (hx : a.eval x = .agg cs)
    (hg : w.heap[b]? = some (.cells old T (0, 0))) (hi : (P.info? t).map (·.size) = some cs.size) (hso : old.size = cs.size) (h1 : cs.all (·.oneCell') = true)
    (h : ∀ w', w'.heap[b]? = some (.cells cs T (0, 0)) → Fr (fun q => q = b) w w' → K a w') : o.wp P a w K Q := by
  have hr := run_storeAt_blk (P := P) (w := w) t b T old cs hg hi hso h1
  have hk := h _ (setRow_blk hg) (setRow_fr b cs)
  unfold Oper.wp
  simp [execOp, ho, hs, hx, hr, Result.andThen]
  simp [Oper.upon]
  rw [hdst]
  exact hk
end
end Go.Proofs.YtinfdhbnljnifaaGreatDoor
