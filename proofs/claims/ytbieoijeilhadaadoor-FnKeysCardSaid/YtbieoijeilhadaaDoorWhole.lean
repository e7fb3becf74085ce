import Derived.Test.YtbieoijeilhadaaDoorKdKr
import Derived.Laws.Rows
import Derived.Laws.Tables
import Derived.OwnWalk
namespace Go.Proofs.YtbieoijeilhadaaDoor
open Go.RowKit
section
variable {P : Program} {w : World}
theorem run_storeAt_blk (t : TypeId) (b : Nat) (T : TypeId) (old cs : Array Value) (hg : w.heap[b]? = some (.cells old T (0, 0))) (hi : (P.info? t).map (·.size) = some cs.size) (ho : old.size = cs.size) (h1 : cs.all (·.oneCell') = true) :
    (Instr.storeAt t (.pointer (some ⟨b, 0, none⟩)) (.agg cs)).run P w = .ok () (w.setRow b cs) := by
  simp only [Instr.storeAt, Instr.sureAddr, Sem.run_bind, Sem.run_pure, Result.andThen]
  exact run_storeVar_row w b T t old cs hg hi ho h1
theorem setRow_fr (b : Nat) (cs : Array Value) : Fr (fun q => q = b) w (w.setRow b cs) := by
  refine ⟨rfl, rfl, rfl, by simp [World.setRow], fun i hi hn => ?_⟩
  simp only [World.setRow, Array.getElem?_modify]
  rw [if_neg (fun e => hn e.symm)]
theorem setRow_blk {b : Nat} {old cs : Array Value} {T : TypeId} {z : Nat × Nat} (hg : w.heap[b]? = some (.cells old T z)) : (w.setRow b cs).heap[b]? = some (.cells cs T z) := by
  simp [World.setRow, Array.getElem?_modify, hg]
theorem wpList_store_blk {ops : Array Oper} {rest : List Oper} {o : Oper} {a : Act} {Q : Exit → Act → World → Prop} (hgd : o.guard = none) (t : TypeId) (s x : Operand) (ho : o.op = .store t s x) (hdst : o.dst = none) (b : Nat) (hs : a.eval s = .pointer (some ⟨b, 0, none⟩)) (T : TypeId) (old cs : Array Value) (hx : a.eval x = .agg cs)
    (hg : w.heap[b]? = some (.cells old T (0, 0))) (hi : (P.info? t).map (·.size) = some cs.size) (hso : old.size = cs.size) (h1 : cs.all (·.oneCell') = true)
    (h : ∀ w', w'.heap[b]? = some (.cells cs T (0, 0)) → Fr (fun q => q = b) w w' → wpList P ops Q rest a w') : wpList P ops Q (o :: rest) a w := by
  refine wpList_plain hgd fun _ hK => ?_
  have hr := run_storeAt_blk (P := P) (w := w) t b T old cs hg hi hso h1
  have hk := hK _ _ (h _ (setRow_blk hg) (setRow_fr b cs))
  unfold Oper.wp
  simp [execOp, ho, hs, hx, hr, Result.andThen]
  simp [Oper.upon]
  rw [hdst]
  exact hk
end
end Go.Proofs.YtbieoijeilhadaaDoor
