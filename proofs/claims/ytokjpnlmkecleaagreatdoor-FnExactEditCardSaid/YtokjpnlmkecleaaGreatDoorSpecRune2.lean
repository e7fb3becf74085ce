import Derived.Test.YtokjpnlmkecleaaGreatDoorU8s
import Derived.Test.YtokjpnlmkecleaaGreatDoorBlocks
import Derived.Deep.SlicePairs
import Derived.Deep.Strs
import Derived.Lib.ItoaNum
import Derived.Lib.Join
import Derived.Laws.Rows
import Derived.Laws.Tables
import Derived.OwnWalk
import Derived.Deep.RegionHeld3
import Derived.Test.YtokjpnlmkecleaaGreatDoorAppRune
namespace Go.Proofs.YtokjpnlmkecleaaGreatDoor
open Go.RowKit

/-- What a measure answers: -1, or what is left. -/
def SzR (l : Int) (n : Nat) (r : Int) : Prop := (r = -1 ∧ l < (n : Int)) ∨ (r = l - (n : Int) ∧ 0 ≤ r)
end Go.Proofs.YtokjpnlmkecleaaGreatDoor

namespace Go.Proofs.YtokjpnlmkecleaaGreatDoor
open Go.ChangeShapes Go.WideShapes Go.ChangeAt Go.RowKit Go.Deep

theorem addr_plain {W : World} {a : Addr} {v : Value} (h : W.cell? (a.add 0) = some v) : a = ⟨a.block, a.off, none⟩ := by
  obtain ⟨b, off, spot⟩ := a
  have hspot : spot = none := by simpa [Addr.add] using World.cell?_spot h
  subst hspot
  rfl
theorem bytes_trod {H : Type} {enc : TypeId × Value → H} {P : Program} {W : World} {t e : TypeId} {k : IntKind} {fuel : Nat} {v : Value} {x : DataW H × List MemPlace} (ht : P.underlying t = some (.slice e)) (he : P.underlying e = some (.int k)) (hc : P.cellsOf e = 1)
    (h : DataW.trod enc P W 0 (fun _ => true) true fuel t [v] = some x) : ∃ zs, IntsAt W k v zs ∧ (∀ n ∈ zs, (Lit.int k n).wf = true) ∧ zs.length ≤ maxLen := by
  rcases open_ints ht he hc h with ⟨hcs, _⟩ | ⟨a, len', cap', zs, hcs, _, hl, hm, hz, hx, hcell, hwz⟩
  · simp at hcs
    subst hcs
    exact ⟨[], ⟨none, 0, rfl, Nat.le_refl _, fun h => by simp at h⟩, fun n hn => by simp at hn, by simp⟩
  · simp at hcs
    subst hcs
    simp at hz
    have hlen : (zs.take len').length = len' := by simp; omega
    refine ⟨zs.take len', ⟨some a, cap', by rw [hlen], by omega, fun hp => ?_⟩, fun n hn => hwz n (List.mem_of_mem_take hn), by omega⟩
    obtain ⟨b, off, rfl, hc2⟩ := ints_at hcell (by omega)
    refine ⟨b, off, rfl, fun j hj => ?_⟩
    rw [hlen] at hj
    rw [hc2 j (by omega)]
    simp [at0, hj, List.getD]
end Go.Proofs.YtokjpnlmkecleaaGreatDoor

namespace Go.Proofs.YtokjpnlmkecleaaGreatDoor
open Go.RowKit

/-- A string's bytes as numbers. -/
def baL (s : ByteArray) : List Int := s.data.toList.map fun b => ((b.toNat : Nat) : Int)
theorem toBA_baL (s : ByteArray) : toBA (baL s) = s := by
  apply WideShapes.bytes_inj
  rw [toBA_list, baL, List.map_map]
  conv => rhs; rw [← List.map_id s.data.toList]
  apply List.map_congr_left
  intro b _
  simp
theorem baL_len (s : ByteArray) : (baL s).length = s.size := by simp [baL]
theorem baL_bytes (s : ByteArray) : Bytes (baL s) := by
  intro n hn
  obtain ⟨b, _, rfl⟩ := List.mem_map.1 hn
  have := b.toNat_lt
  omega
end Go.Proofs.YtokjpnlmkecleaaGreatDoor

namespace Go.Proofs.YtokjpnlmkecleaaGreatDoor
open Go.RowKit

end Go.Proofs.YtokjpnlmkecleaaGreatDoor

namespace Go.Proofs.YtokjpnlmkecleaaGreatDoor
open Go.RowKit

theorem Fr.tr {S : Nat → Prop} {a b c : World} (h : Fr S a b) (k : Fr S b c) : Fr S a c :=
  ⟨k.os.trans h.os, k.tape.trans h.tape, k.output.trans h.output, Nat.le_trans h.size k.size, fun i hi hn => (k.block i (Nat.lt_of_lt_of_le hi h.size) hn).trans (h.block i hi hn)⟩
end Go.Proofs.YtokjpnlmkecleaaGreatDoor

namespace Go.Proofs.YtokjpnlmkecleaaGreatDoor
open Go.RowKit

/-- A datum as values bear it: how a value reads as it, how one owns it (from a block on, its blocks). -/
structure Kd where
  R : World → Value → Prop
  O : World → Nat → (Nat → Prop) → Value → Prop
  rext : ∀ {w w' : World} {v : Value}, R w v → Ext w w' → R w' v
  oext : ∀ {w w' : World} {b : Nat} {S : Nat → Prop} {v : Value}, O w b S v → Ext w w' → O w' b S v
  ofr : ∀ {w w' : World} {b : Nat} {S S' : Nat → Prop} {v : Value}, O w b S v → Fr S' w w' → (∀ g, S g → ¬ S' g) → O w' b S v
  reads : ∀ {w : World} {b : Nat} {S : Nat → Prop} {v : Value}, O w b S v → R w v
  lt : ∀ {w : World} {b : Nat} {S : Nat → Prop} {v : Value}, O w b S v → ∀ g, S g → b ≤ g ∧ g < w.heap.size
def EqOk (F : Nat) (K : Kd) : Prop := ∀ (w : World) (a b : Value), K.R w a → K.R w b → Calls Tryz.prog F #[a, b] w fun e w' => e = .returned (.bool true) ∧ Ext w w'
def MarkOk (F : Nat) (K : Kd) (M : Int → Kd) (m : Nat) : Prop :=
  ∀ (w : World) (b : Nat) (S : Nat → Prop) (v : Value) (k : Int), K.O w b S v → 0 ≤ k → k ≤ 68719476736 → Calls Tryz.prog F #[v, .int .i64 k] w fun e w' => e = .returned (.int .i64 (k + (m : Int))) ∧ (M k).O w' b S v ∧ Fr S w w'
def HeldOk (F : Nat) (M : Int → Kd) (m : Nat) : Prop :=
  ∀ (w : World) (v : Value) (k : Int), (M k).R w v → 0 ≤ k → k ≤ 68719476736 → Calls Tryz.prog F #[v, .int .i64 k] w fun e w' => e = .returned (.int .i64 (k + (m : Int))) ∧ Ext w w'
theorem Fr.kept {S : Nat → Prop} {w w' : World} {p : Nat} {o : Obj} (h : Fr S w w') (hp : w.heap[p]? = some o) (hS : ¬ S p) : w'.heap[p]? = some o := (h.block p (Array.getElem?_eq_some_iff.1 hp).1 hS).trans hp
theorem lt_of_block {w : World} {p : Nat} {o : Obj} (h : w.heap[p]? = some o) : p < w.heap.size := (Array.getElem?_eq_some_iff.1 h).1
end Go.Proofs.YtokjpnlmkecleaaGreatDoor

namespace Go.Proofs.YtokjpnlmkecleaaGreatDoor
open Go.RowKit

section
variable {P : Program} {w : World}
theorem run_loadAt_blk (t : TypeId) (b : Nat) (T : TypeId) (cs : Array Value) (z : Nat × Nat) (d : TypeDesc) (hg : w.heap[b]? = some (.cells cs T z)) (hu : P.underlying t = some d) (hd : (match d with | .struct _ | .array _ _ => true | _ => false) = true) (hi : (P.info? t).map (·.size) = some cs.size) :
    (Instr.loadAt t (.pointer (some ⟨b, 0, none⟩))).run P w = .ok (.agg cs) w := by
  simp only [Instr.loadAt, Instr.sureAddr, Sem.run_bind, Sem.run_pure, Result.andThen]
  exact run_loadVar_row w b T t cs z d hg hu hd hi
theorem run_storeAt_blk (t : TypeId) (b : Nat) (T : TypeId) (old cs : Array Value) (hg : w.heap[b]? = some (.cells old T (0, 0))) (hi : (P.info? t).map (·.size) = some cs.size) (ho : old.size = cs.size) (h1 : cs.all (·.oneCell') = true) :
    (Instr.storeAt t (.pointer (some ⟨b, 0, none⟩)) (.agg cs)).run P w = .ok () (w.setRow b cs) := by
  simp only [Instr.storeAt, Instr.sureAddr, Sem.run_bind, Sem.run_pure, Result.andThen]
  exact run_storeVar_row w b T t old cs hg hi ho h1
/-- A struct is read whole. -/
theorem wp_load_blk {o : Oper} {a : Act} {K : Act → World → Prop} {Q : Exit → Act → World → Prop} (t : TypeId) (s : Operand) (ho : o.op = .load t s) (b : Nat) (hs : a.eval s = .pointer (some ⟨b, 0, none⟩)) (T : TypeId) (cs : Array Value) (z : Nat × Nat) (d : TypeDesc)
    (hg : w.heap[b]? = some (.cells cs T z)) (hu : P.underlying t = some d) (hd : (match d with | .struct _ | .array _ _ => true | _ => false) = true) (hi : (P.info? t).map (·.size) = some cs.size) (h : K (a.put o.dst (.agg cs)) w) : o.wp P a w K Q := by
  have hr := run_loadAt_blk (P := P) (w := w) t b T cs z d hg hu hd hi
  unfold Oper.wp
  simp [execOp, ho, hs, hr, Result.andThen]
  exact h
theorem wpList_load_blk {ops : Array Oper} {rest : List Oper} {o : Oper} {a : Act} {Q : Exit → Act → World → Prop} (hgd : o.guard = none) (t : TypeId) (s : Operand) (ho : o.op = .load t s) (b : Nat) (hs : a.eval s = .pointer (some ⟨b, 0, none⟩)) (T : TypeId) (cs : Array Value) (z : Nat × Nat) (d : TypeDesc)
    (hg : w.heap[b]? = some (.cells cs T z)) (hu : P.underlying t = some d) (hd : (match d with | .struct _ | .array _ _ => true | _ => false) = true) (hi : (P.info? t).map (·.size) = some cs.size) (h : wpList P ops Q rest (a.put o.dst (.agg cs)) w) : wpList P ops Q (o :: rest) a w :=
  wpList_plain hgd fun _ hK => wp_load_blk t s ho b hs T cs z d hg hu hd hi (hK _ _ h)
theorem yields_load_blk {a : Act} {o : Oper} (t : TypeId) (s : Operand) (ho : o.op = .load t s) (b : Nat) (hs : a.eval s = .pointer (some ⟨b, 0, none⟩)) (T : TypeId) (cs : Array Value) (z : Nat × Nat) (d : TypeDesc)
    (hg : w.heap[b]? = some (.cells cs T z)) (hu : P.underlying t = some d) (hd : (match d with | .struct _ | .array _ _ => true | _ => false) = true) (hi : (P.info? t).map (·.size) = some cs.size) : (execOp a.eval o).run P w = .ok (Next.value (.agg cs)) w := by
  have hr := run_loadAt_blk (P := P) (w := w) t b T cs z d hg hu hd hi
  simp [execOp, ho, hs, hr, Result.andThen]
theorem setRow_fr (b : Nat) (cs : Array Value) : Fr (fun q => q = b) w (w.setRow b cs) := by
  refine ⟨rfl, rfl, rfl, by simp [World.setRow], fun i hi hn => ?_⟩
  simp only [World.setRow, Array.getElem?_modify]
  rw [if_neg (fun e => hn e.symm)]
theorem setRow_blk {b : Nat} {old cs : Array Value} {T : TypeId} {z : Nat × Nat} (hg : w.heap[b]? = some (.cells old T z)) : (w.setRow b cs).heap[b]? = some (.cells cs T z) := by
  simp [World.setRow, Array.getElem?_modify, hg]
/-- A struct is written whole. -/
theorem wpList_store_blk {ops : Array Oper} {rest : List Oper} {o : Oper} {a : Act} {Q : Exit → Act → World → Prop} (hgd : o.guard = none) (t : TypeId) (s x : Operand) (ho : o.op = .store t s x) (hdst : o.dst = none) (b : Nat) (hs : a.eval s = .pointer (some ⟨b, 0, none⟩)) (T : TypeId) (old cs : Array Value) (hx : a.eval x = .agg cs)
    (hg : w.heap[b]? = some (.cells old T (0, 0))) (hi : (P.info? t).map (·.size) = some cs.size) (hso : old.size = cs.size) (h1 : cs.all (·.oneCell') = true)
    (h : ∀ w', w'.heap[b]? = some (.cells cs T (0, 0)) → Fr (fun q => q = b) w w' → wpList P ops Q rest a w') : wpList P ops Q (o :: rest) a w := by
  refine wpList_plain hgd fun _ hK => ?_
  have hr := run_storeAt_blk (P := P) (w := w) t b T old cs hg hi hso h1
  have hk := hK _ _ (h _ (setRow_blk hg) (setRow_fr b cs))
  unfold Oper.wp
  simp [execOp, ho, hs, hx, hr, Result.andThen]
  simp [Oper.upon]
  rw [hdst]
  exact hk
theorem wp_store_blk {o : Oper} {a : Act} {K : Act → World → Prop} {Q : Exit → Act → World → Prop} (t : TypeId) (s x : Operand) (ho : o.op = .store t s x) (hdst : o.dst = none) (b : Nat) (hs : a.eval s = .pointer (some ⟨b, 0, none⟩)) (T : TypeId) (old cs : Array Value) (hx : a.eval x = .agg cs)
    (hg : w.heap[b]? = some (.cells old T (0, 0))) (hi : (P.info? t).map (·.size) = some cs.size) (hso : old.size = cs.size) (h1 : cs.all (·.oneCell') = true)
    (h : ∀ w', w'.heap[b]? = some (.cells cs T (0, 0)) → Fr (fun q => q = b) w w' → K a w') : o.wp P a w K Q := by
  have hr := run_storeAt_blk (P := P) (w := w) t b T old cs hg hi hso h1
  have hk := h _ (setRow_blk hg) (setRow_fr b cs)
  unfold Oper.wp
  simp [execOp, ho, hs, hx, hr, Result.andThen]
  simp [Oper.upon]
  rw [hdst]
  exact hk
end
end Go.Proofs.YtokjpnlmkecleaaGreatDoor

namespace Go.Proofs.YtokjpnlmkecleaaGreatDoor
open Go.RowKit

abbrev noT : ByteArray := { data := #[] }
set_option maxHeartbeats 1000000 in
theorem eqSnap_same (s : ByteArray) (h : ByteArray) (w : World) : Calls Tryz.prog 72 #[.agg #[.string s, .string h], .agg #[.string s, .string h]] w fun e w' => e = .returned (.bool true) ∧ Ext w w' := by
  go_enter Tryz.func72, Tryz.ntmps72
  go_wp2
  go_ret
  exact ⟨rfl, ((Ext.refl _).alloc _).alloc _⟩
set_option maxHeartbeats 1000000 in
theorem eqSnapS_same (va vb : Value) (n : Nat) (tx : Nat → ByteArray) (hf : Nat → ByteArray) (w : World) (ha : Row2At w va n (fun j => .string (tx j)) (fun j => .string (hf j))) (hb : Row2At w vb n (fun j => .string (tx j)) (fun j => .string (hf j))) (hl : n ≤ 4398046511104) :
    Calls Tryz.prog 46 #[va, vb] w fun e w' => e = .returned (.bool true) ∧ Ext w w' := by
  obtain ⟨ao, ca, rfl, hca, hxa⟩ := ha
  obtain ⟨bo, cb, rfl, hcb, hxb⟩ := hb
  by_cases h0 : n = 0
  · subst h0
    clear hxa hxb
    go_enter Tryz.func46, Tryz.ntmps46
    go_wp2
    go_loop [5] (fun i => i = .int .i64 0) (fun _ => 0)
    case atStart => rfl
    case round =>
      subst hrel
      go_wp2
      go_ret
      exact ⟨rfl, Ext.refl _⟩
  · obtain ⟨b1, o1, rfl, h1⟩ := hxa (by omega)
    obtain ⟨b2, o2, rfl, h2⟩ := hxb (by omega)
    clear hxa hxb
    have H1 := hide h1
    have H2 := hide h2
    clear h1 h2
    go_enter Tryz.func46, Tryz.ntmps46
    go_wp2
    go_loopw [5] (fun i w' => ∃ k : Nat, k ≤ n ∧ i = .int .i64 k ∧ Ext w w') (fun i _ => n - (intOf i).toNat)
    case atStart => exact ⟨0, Nat.zero_le _, rfl, Ext.refl _⟩
    case round =>
      obtain ⟨k, hk, rfl, hext⟩ := hrel
      by_cases hlt : k < n
      · have g1 := hext.cell ((unhide H1) k hlt).1
        have g2 := hext.cell ((unhide H1) k hlt).2
        have g3 := hext.cell ((unhide H2) k hlt).1
        have g4 := hext.cell ((unhide H2) k hlt).2
        have bk : (k : Int) < (n : Int) := by omega
        go_wp2
        go_region_held3 (fun W => Ext wr W ∧ W.cell? ⟨b1, o1 + k * 2, none⟩ = some (.string (tx k)) ∧ W.cell? ⟨b1, o1 + k * 2 + 1, none⟩ = some (.string (hf k)) ∧ W.cell? ⟨b2, o2 + k * 2, none⟩ = some (.string (tx k)) ∧ W.cell? ⟨b2, o2 + k * 2 + 1, none⟩ = some (.string (hf k))) (first | exact ⟨(Ext.refl wr).drew, g1, g2, g3, g4⟩ | exact ⟨(Ext.refl wr).drew.trans he', he'.cell g1, he'.cell g2, he'.cell g3, he'.cell g4⟩) (first | (go_at_call 72; refine (eqSnap_same _ _ _).mono ?_; rintro e w' ⟨rfl, he'⟩))
        rename_i hS
        have hE := hext.trans hS.1
        clear hS g1 g2 g3 g4
        go_wp2
        go_roundw
        case rel => exact ⟨k + 1, by omega, by go_num, hE⟩
        case measure => simp [intOf]; omega
      · go_wp2
        go_ret
        exact ⟨rfl, hext⟩
theorem madeS_two (a b : Value) (n j : Nat) (hj : j < n) : (madeCells (Value.agg #[a, b]).cells (n * 2)).toList[j * 2]? = some a ∧ (madeCells (Value.agg #[a, b]).cells (n * 2)).toList[j * 2 + 1]? = some b := by
  have e0 : j * 2 % 2 = 0 := by omega
  have e1 : (j * 2 + 1) % 2 = 1 := by omega
  constructor
  · simp [madeCells, Value.cells, show j * 2 < n * 2 by omega, e0]
  · simp [madeCells, Value.cells, show j * 2 + 1 < n * 2 by omega, e1]
theorem madeS_row {w : World} {base : Nat} {T : TypeId} {v : Value} {n : Nat} {a b : Value} (h : w.ownsRow base T 2 v n (madeCells (Value.agg #[a, b]).cells (n * 2)).toList) : Own2 w base T v n (fun _ => a) (fun _ => b) :=
  ⟨_, h, fun j hj => madeS_two a b n j hj⟩
theorem infoSnap : (Tryz.prog.info? 49).map (fun i => (i.zero, i.size, i.bytes)) = some (some (.agg #[.string noT, .string noT]), 2, 32) := by kernel_rfl
set_option maxHeartbeats 1000000 in
theorem toSnap_any (s : ByteArray) (b : ByteArray) (w : World) :
    Calls Tryz.prog 71 #[.agg #[.string s, .string b]] w fun e w' => e = .returned (.agg #[.string s, .string b]) ∧ Ext w w' := by
  go_enter Tryz.func71, Tryz.ntmps71
  go_wp2
  refine bodyPost_ret (v := .agg #[.string s, .string b]) (by simp [results, Tryz.results71, go_sem]) rfl ⟨rfl, ?_⟩
  exact (((Ext.refl _).alloc _).alloc _).alloc _
set_option maxHeartbeats 1000000 in
theorem toSnapS_any (v : Value) (n : Nat) (tx : Nat → ByteArray) (hf : Nat → ByteArray) (w : World) (hv : Row2At w v n (fun j => .string (tx j)) (fun j => .string (hf j))) (hn : n ≤ 1048576) :
    Calls Tryz.prog 44 #[v] w fun e w' => e = .returned (.slice (some ⟨w.heap.size, 0, none⟩) n n) ∧ Own2 w' w.heap.size 49 (.slice (some ⟨w.heap.size, 0, none⟩) n n) n (fun j => .string (tx j)) (fun j => .string (hf j)) ∧ Ext w w' := by
  obtain ⟨ic, hic, hc0, hc1, hc2⟩ := info_parts infoSnap
  obtain ⟨ao, ca, rfl, hca, hxa⟩ := hv
  have HXA := hide hxa
  clear hxa
  go_enter Tryz.func44, Tryz.ntmps44
  go_wp2_with (at_make; refine wpList_make_full _ rfl _ _ 23 rfl w.heap.size 49 ic (.agg #[.string noT, .string noT]) 2 Tryz.underlying23 hic hc0 hc1 _ _ _ _ n rfl rfl rfl rfl (by rw [hc2]; omega) (by unfold maxLen; omega) (Nat.le_refl _) ?_; intro w1 hown hgr)
  have H0 := hide ((madeS_row hown).congr (A' := fun i => if i < 0 then .string (tx i) else .string noT) (B' := fun i => if i < 0 then .string (hf i) else .string noT) (fun i _ => ⟨by simp, by simp⟩))
  have HG := hide hgr
  clear hown hgr
  go_loopw [4] (fun i wr => ∃ (j : Nat), j ≤ n ∧ i = .int .i64 j ∧ Hid (Own2 wr w.heap.size 49 (.slice (some ⟨w.heap.size, 0, none⟩) n n) n (fun i => if i < j then .string (tx i) else .string noT) (fun i => if i < j then .string (hf i) else .string noT)) ∧ Ext w wr) (fun i _ => n - (intOf i).toNat)
  case atStart => exact ⟨0, Nat.zero_le _, rfl, H0, unhide HG⟩
  case round =>
    clear H0 HG
    obtain ⟨j, hj, rfl, HO, hext⟩ := hrel
    by_cases hlt : j < n
    · obtain ⟨b, off, rfl, hc⟩ := (unhide HXA) (by omega)
      have bj : (j : Int) < (n : Int) := by omega
      have g1 := hext.cell (hc j hlt).1
      have g2 := hext.cell (hc j hlt).2
      clear hc
      go_wp2_with fail
      refine (toSnap_any (tx j) (hf j) wr).mono ?_
      rintro e w2 ⟨rfl, he⟩
      obtain ⟨⟨c0', f0⟩, c1', f1⟩ := ((unhide HO).ext he).cell hlt
      obtain ⟨u0, c0⟩ : ∃ u, w2.cell? ⟨w.heap.size, j * 2, none⟩ = some u := ⟨_, c0'⟩
      obtain ⟨u1, c1⟩ : ∃ u, w2.cell? ⟨w.heap.size, j * 2 + 1, none⟩ = some u := ⟨_, c1'⟩
      have HS := hide ((((unhide HO).ext he).set hlt (.string (tx j)) (.string (hf j))).congr (A' := fun i => if i < j + 1 then .string (tx i) else .string noT) (B' := fun i => if i < j + 1 then .string (hf i) else .string noT) (fun i _ => by
        by_cases e : i = j
        · subst e; simp
        · by_cases e2 : i < j
          · rw [if_neg e, if_neg e, if_pos e2, if_pos e2, if_pos (by omega), if_pos (by omega)]; exact ⟨rfl, rfl⟩
          · rw [if_neg e, if_neg e, if_neg e2, if_neg e2, if_neg (by omega), if_neg (by omega)]; exact ⟨rfl, rfl⟩))
      have hE := hext.trans he
      clear c0' c1'
      go_wp2
      go_roundw
      case rel => exact ⟨j + 1, by omega, by go_num, HS, (hE.setCell (Nat.le_refl _) _).setCell (Nat.le_refl _) _⟩
      case measure => simp [intOf]; omega
    · obtain rfl : j = n := by omega
      have HFIN := hide ((unhide HO).congr (A' := fun i => .string (tx i)) (B' := fun i => .string (hf i)) (fun i hi => ⟨by simp [hi], by simp [hi]⟩))
      go_wp2
      go_ret
      exact ⟨rfl, unhide HFIN, hext⟩
/-- The letters of the first j of two rows of strings. -/
def tl2 (t h : Nat → ByteArray) : Nat → Nat
  | 0 => 0
  | j + 1 => tl2 t h j + ((t j).size + (h j).size)
set_option maxHeartbeats 400000 in
theorem szSnap_any (s b : ByteArray) (l : Int) (w : World) (h0 : 0 ≤ l) (h1 : l ≤ 4398046511104) (hn : (s.size : Int) ≤ 9223372036854775807) (hm : (b.size : Int) ≤ 9223372036854775807) :
    Calls Tryz.prog 70 #[.agg #[.string s, .string b], .int .i64 l] w fun e w' => e = .returned (.int .i64 (if l < ((s.size + b.size : Nat) : Int) then -1 else l - ((s.size + b.size : Nat) : Int))) ∧ Ext w w' := by
  by_cases h : l < (s.size : Int)
  · rw [if_pos (by omega)]
    go_enter Tryz.func70, Tryz.ntmps70
    go_wp2
    go_ret
    exact ⟨rfl, (Ext.refl _).alloc _⟩
  · have h2 : ¬ l - (s.size : Int) < 0 := by omega
    by_cases h3 : l - (s.size : Int) < (b.size : Int)
    · rw [if_pos (by omega)]
      go_enter Tryz.func70, Tryz.ntmps70
      go_wp2
      go_ret
      exact ⟨rfl, (Ext.refl _).alloc _⟩
    · have h4 : ¬ l - (s.size : Int) - (b.size : Int) < 0 := by omega
      rw [if_neg (by omega)]
      have he : Hid (l - ((s.size : Int) + (b.size : Int)) = l - (s.size : Int) - (b.size : Int)) := by show _ = _; omega
      go_enter Tryz.func70, Tryz.ntmps70
      go_wp2
      go_ret
      exact ⟨by rw [he.out]; rfl, (Ext.refl _).alloc _⟩
set_option maxHeartbeats 1000000 in
theorem szSnapS_any (v : Value) (n : Nat) (tx : Nat → ByteArray) (hf : Nat → ByteArray) (l : Int) (w : World) (hv : Row2At w v n (fun j => .string (tx j)) (fun j => .string (hf j))) (h0 : 0 ≤ l) (h1 : l ≤ 4398046511104) (hn : (n : Int) ≤ 9223372036854775807) (hx : ∀ j, j < n → ((tx j).size : Int) ≤ 9223372036854775807 ∧ ((hf j).size : Int) ≤ 9223372036854775807) :
    Calls Tryz.prog 42 #[v, .int .i64 l] w fun e w' => ∃ r : Int, e = .returned (.int .i64 r) ∧ SzR l (n + tl2 tx hf n) r ∧ Ext w w' := by
  obtain ⟨ao, ca, rfl, hca, hxa⟩ := hv
  have HX := hide hx
  have HXA := hide hxa
  have hmono : Hid (∀ k, k ≤ n → tl2 tx hf k ≤ tl2 tx hf n) := by
    have aux : ∀ m k, tl2 tx hf k ≤ tl2 tx hf (k + m) := by
      intro m
      induction m with
      | zero => intro k; exact Nat.le_refl _
      | succ m ih => intro k; have := ih k; rw [← Nat.add_assoc, tl2]; omega
    intro k hk
    have := aux (n - k) k
    rwa [show k + (n - k) = n by omega] at this
  clear hx hxa
  by_cases hz : l < (n : Int)
  · go_enter Tryz.func42, Tryz.ntmps42
    go_wp2
    go_ret
    exact ⟨_, rfl, .inl ⟨rfl, by omega⟩, Ext.refl _⟩
  by_cases hz0 : n = 0
  · subst hz0
    go_enter Tryz.func42, Tryz.ntmps42
    go_wp2
    go_loop [1, 5] (fun a i => a = .int .i64 l ∧ i = .int .i64 0) (fun _ _ => 0)
    case atStart => exact ⟨by go_num, rfl⟩
    case round =>
      obtain ⟨rfl, rfl⟩ := hrel
      go_wp2
      go_ret
      exact ⟨_, rfl, .inr ⟨by simp [tl2], h0⟩, Ext.refl _⟩
  · obtain ⟨b, off, rfl, hc⟩ := (unhide HXA) (by omega)
    have HC := hide hc
    clear HXA hc
    go_enter Tryz.func42, Tryz.ntmps42
    go_wp2
    go_loopw [1, 5] (fun a i wr => ∃ (k : Nat), k ≤ n ∧ (0 : Int) ≤ l - (n : Int) - (tl2 tx hf k : Int) ∧ a = .int .i64 (l - (n : Int) - (tl2 tx hf k : Int)) ∧ i = .int .i64 k ∧ Ext w wr) (fun _ i _ => n - (intOf i).toNat)
    case atStart => exact ⟨0, Nat.zero_le _, by simp [tl2]; omega, by simp [tl2], rfl, Ext.refl _⟩
    case round =>
      obtain ⟨k, hk, hp, rfl, rfl, hext⟩ := hrel
      by_cases hlt : k < n
      · have g1 := hext.cell ((unhide HC) k hlt).1
        have g2 := hext.cell ((unhide HC) k hlt).2
        have bk : (k : Int) < (n : Int) := by omega
        have hm := (unhide HX) k hlt
        have hs : Hid (tl2 tx hf (k + 1) = tl2 tx hf k + ((tx k).size + (hf k).size)) := rfl
        have hmn := (unhide hmono) (k + 1) (by omega)
        rw [hs.out] at hmn
        obtain ⟨s, hss⟩ : ∃ s, s = tl2 tx hf k := ⟨_, rfl⟩
        rw [← hss] at hs hp hmn ⊢
        clear hss
        have hcon := hide (fun W => szSnap_any (tx k) (hf k) (l - (n : Int) - (s : Int)) W hp (by omega) hm.1 hm.2)
        by_cases hq : l - (n : Int) - (s : Int) < (((tx k).size + (hf k).size : Nat) : Int)
        · rw [if_pos hq] at hcon
          go_wp2_with fail
          refine ((unhide hcon) _).mono ?_
          rintro e w2 ⟨rfl, he⟩
          go_wp2
          go_ret
          exact ⟨_, rfl, .inl ⟨rfl, by omega⟩, hext.trans he⟩
        · rw [if_neg hq] at hcon
          go_wp2_with fail
          refine ((unhide hcon) _).mono ?_
          rintro e w2 ⟨rfl, he⟩
          go_wp2
          go_roundw
          case rel => exact ⟨k + 1, by omega, by rw [hs.out]; omega, by rw [hs.out]; go_num, by go_num, hext.trans he⟩
          case measure => simp [intOf]; omega
      · obtain rfl : k = n := by omega
        go_wp2
        go_ret
        exact ⟨_, rfl, .inr ⟨by omega, hp⟩, hext⟩
set_option maxHeartbeats 1000000 in
theorem toLine_any (a b c : ByteArray) (v : Value) (n : Nat) (tx hf : Nat → ByteArray) (w : World) (hv : Row2At w v n (fun j => .string (tx j)) (fun j => .string (hf j))) (hn : n ≤ 1048576) :
    Calls Tryz.prog 12 #[.agg #[.string a, .string b, .string c, v]] w fun e w' => e = .returned (.agg #[.string a, .string b, .string c, .slice (some ⟨w.heap.size + 3, 0, none⟩) n n]) ∧ Own2 w' (w.heap.size + 3) 49 (.slice (some ⟨w.heap.size + 3, 0, none⟩) n n) n (fun j => .string (tx j)) (fun j => .string (hf j)) ∧ Ext w w' := by
  have HV := hide hv
  obtain ⟨ao, cap, rfl, _, _⟩ := hv
  have hcon := hide (fun W (hW : Ext w W) => toSnapS_any (.slice ao n cap) n tx hf W ((unhide HV).ext hW) hn)
  go_enter Tryz.func12, Tryz.ntmps12
  go_wp2_with fail
  refine ((unhide hcon) _ (by repeat' first | exact Ext.refl _ | refine Ext.alloc ?_ _ | refine Ext.setCell ?_ (by dsimp only; omega) _)).mono ?_
  rintro e w1 ⟨rfl, o1, F1⟩
  obtain ⟨hc, hf'⟩ := F1.rules
  have hz3 : ∀ o1 o2 o3, (((w.alloc o1).alloc o2).alloc o3).heap.size = w.heap.size + 3 := fun o1 o2 o3 => by simp
  rw [hz3] at o1 ⊢
  have hz : w.heap.size + 3 < w1.heap.size := by
    obtain ⟨ys, h1, _⟩ := o1
    exact (h1.lt _ rfl).2
  have a0 : w1.cell? ⟨w.heap.size + 1, 0, none⟩ = some (.string noT) := by rw [hc _ _ (by simp)]; simp [go_sem]
  have a1 : w1.cell? ⟨w.heap.size + 1, 1, none⟩ = some (.string noT) := by rw [hc _ _ (by simp)]; simp [go_sem]
  have a2 : w1.cell? ⟨w.heap.size + 1, 2, none⟩ = some (.string noT) := by rw [hc _ _ (by simp)]; simp [go_sem]
  have a3 : w1.cell? ⟨w.heap.size + 1, 3, none⟩ = some (.slice none 0 0) := by rw [hc _ _ (by simp)]; simp [go_sem]
  have O1 := hide o1
  have E1 : Ext w w1 := Ext.trans ((((Ext.refl w).alloc _).alloc _).alloc _) F1
  clear o1
  go_wp2
  refine bodyPost_ret (v := .agg #[.string a, .string b, .string c, .slice (some ⟨w.heap.size + 3, 0, none⟩) n n]) (by simp [results, Tryz.results12, go_sem, a0, a1, a2, a3]) rfl ⟨rfl, ?_, ?_⟩
  · obtain ⟨ys, h1, h2⟩ := unhide O1
    refine ⟨ys, ?_, h2⟩
    repeat (refine owns_setCell ?_ (by simp [Value.ownBlock]) _)
    exact h1
  · repeat (refine Ext.setCell ?_ (by dsimp only; omega) _)
    exact E1
set_option maxHeartbeats 1000000 in
theorem eqLine_same (a b c : ByteArray) (va vb : Value) (n : Nat) (tx hf : Nat → ByteArray) (w : World) (ha : Row2At w va n (fun j => .string (tx j)) (fun j => .string (hf j))) (hb : Row2At w vb n (fun j => .string (tx j)) (fun j => .string (hf j))) (hn : n ≤ 4398046511104) :
    Calls Tryz.prog 14 #[.agg #[.string a, .string b, .string c, va], .agg #[.string a, .string b, .string c, vb]] w fun e w' => e = .returned (.bool true) ∧ Ext w w' := by
  have hcon := hide (fun W (hW : Ext w W) => eqSnapS_same va vb n tx hf W (ha.ext hW) (hb.ext hW) hn)
  obtain ⟨ao, cap, rfl, _, _⟩ := ha
  obtain ⟨bo, cbp, rfl, _, _⟩ := hb
  go_enter Tryz.func14, Tryz.ntmps14
  go_wp2_with fail
  refine ((unhide hcon) _ (((Ext.refl _).alloc _).alloc _)).mono ?_
  rintro e w1 ⟨rfl, F1⟩
  go_wp2
  go_ret
  exact ⟨rfl, (((Ext.refl _).alloc _).alloc _).trans F1⟩
end Go.Proofs.YtokjpnlmkecleaaGreatDoor

namespace Go.Proofs.YtokjpnlmkecleaaGreatDoor
open Go.RowKit

set_option maxHeartbeats 1000000 in
theorem szLine_le (a b c : ByteArray) (v : Value) (n : Nat) (tx hf : Nat → ByteArray) (l : Int) (w : World) (hv : Row2At w v n (fun j => .string (tx j)) (fun j => .string (hf j))) (h0 : 0 ≤ l) (h1 : l ≤ 4398046511104) (ha : (a.size : Int) ≤ 9223372036854775807) (hb : (b.size : Int) ≤ 9223372036854775807) (hc : (c.size : Int) ≤ 9223372036854775807) (hn : (n : Int) ≤ 9223372036854775807) (hx : ∀ j, j < n → ((tx j).size : Int) ≤ 9223372036854775807 ∧ ((hf j).size : Int) ≤ 9223372036854775807) :
    Calls Tryz.prog 10 #[.agg #[.string a, .string b, .string c, v], .int .i64 l] w fun e w' => ∃ r : Int, e = .returned (.int .i64 r) ∧ r ≤ l ∧ (0 ≤ r → ((a.size + b.size + c.size + (n + tl2 tx hf n) : Nat) : Int) ≤ l) ∧ Ext w w' := by
  obtain ⟨ao, cap, hvv, _, _⟩ := id hv
  have HV := hide hv
  subst hvv
  clear hv
  have H1 := hide hx
  clear hx
  by_cases q1 : l < (a.size : Int)
  · go_enter Tryz.func10, Tryz.ntmps10
    go_wp2
    go_ret
    exact ⟨-1, rfl, by omega, fun h9 => by omega, (Ext.refl _).alloc _⟩
  have q1b : ¬ l - (a.size : Int) < 0 := by omega
  by_cases q2 : l - (a.size : Int) < (b.size : Int)
  · go_enter Tryz.func10, Tryz.ntmps10
    go_wp2
    go_ret
    exact ⟨-1, rfl, by omega, fun h9 => by omega, (Ext.refl _).alloc _⟩
  have q2b : ¬ l - (a.size : Int) - (b.size : Int) < 0 := by omega
  by_cases q3 : l - (a.size : Int) - (b.size : Int) < (c.size : Int)
  · go_enter Tryz.func10, Tryz.ntmps10
    go_wp2
    go_ret
    exact ⟨-1, rfl, by omega, fun h9 => by omega, (Ext.refl _).alloc _⟩
  have q3b : ¬ l - (a.size : Int) - (b.size : Int) - (c.size : Int) < 0 := by omega
  have hcon := hide (fun W (hW : Ext w W) => szSnapS_any (.slice ao n cap) n tx hf (l - (a.size : Int) - (b.size : Int) - (c.size : Int)) W ((unhide HV).ext hW) (by omega) (by omega) hn (unhide H1))
  go_enter Tryz.func10, Tryz.ntmps10
  go_wp2_with fail
  refine ((unhide hcon) _ ((Ext.refl _).alloc _)).mono ?_
  rintro e w1 ⟨r, rfl, hr, F1⟩
  rcases hr with ⟨rfl, _⟩ | ⟨hr, hr0⟩
  · go_wp2
    go_ret
    exact ⟨-1, rfl, by omega, fun h9 => by omega, ((Ext.refl _).alloc _).trans F1⟩
  · have hrn : ¬ r < 0 := by omega
    have hfin : Hid (((a.size + b.size + c.size + (n + tl2 tx hf n) : Nat) : Int) ≤ l) := by refine hide ?_; omega
    have hle : Hid (r ≤ l) := hide (by omega)
    clear hr
    go_wp2
    go_ret
    exact ⟨r, rfl, unhide hle, fun _ => unhide hfin, ((Ext.refl _).alloc _).trans F1⟩
end Go.Proofs.YtokjpnlmkecleaaGreatDoor

namespace Go.Proofs.YtokjpnlmkecleaaGreatDoor
open Go.RowKit

def sumR (cs : List (List Int × Int)) : Nat → Nat
  | 0 => 0
  | j + 1 => sumR cs j + (cR cs j).length
theorem szInt32S_any (ao : Option Addr) (n cap : Nat) (l : Int) (w : World) (h0 : 0 ≤ l) (h1 : l ≤ 4398046511104) (hn : (n : Int) ≤ 9223372036854775807) :
    Calls Tryz.prog 43 #[.slice ao n cap, .int .i64 l] w fun e w' => e = .returned (.int .i64 (if l < (n : Int) then -1 else l - (n : Int))) ∧ w' = w := by
  by_cases h : l < (n : Int)
  · rw [if_pos h]
    go_enter Tryz.func43, Tryz.ntmps43
    go_wp2
    go_ret
    exact ⟨rfl, rfl⟩
  · rw [if_neg h]
    go_enter Tryz.func43, Tryz.ntmps43
    go_wp2
    go_ret
    exact ⟨rfl, rfl⟩
end Go.Proofs.YtokjpnlmkecleaaGreatDoor

namespace Go.Proofs.YtokjpnlmkecleaaGreatDoor
open Go.RowKit

def txR (xs : List Int) : Nat → List Int
  | 0 => []
  | k + 1 => txR xs k ++ encR (at0 xs k)
def txT (cs : List (List Int × Int)) : Nat → List Int
  | 0 => []
  | i + 1 => txT cs i ++ txR (cR cs i) (cR cs i).length
theorem txR_len (xs : List Int) : ∀ k, (txR xs k).length ≤ 4 * k
  | 0 => by simp [txR]
  | k + 1 => by have := txR_len xs k; have := encR_len (at0 xs k); simp [txR]; omega
theorem txT_len (cs : List (List Int × Int)) : ∀ i, (txT cs i).length ≤ 4 * sumR cs i
  | 0 => by simp [txT]
  | i + 1 => by have := txT_len cs i; have := txR_len (cR cs i) (cR cs i).length; simp [txT, sumR]; omega
theorem sumR_mono (cs : List (List Int × Int)) (i : Nat) : ∀ n, i ≤ n → sumR cs i ≤ sumR cs n := by
  intro n
  induction n with
  | zero => intro h; have : i = 0 := by omega
            subst this; exact Nat.le_refl _
  | succ n ih =>
    intro h
    by_cases e : i = n + 1
    · subst e; exact Nat.le_refl _
    · have := ih (by omega); rw [sumR]; omega
theorem encR_enc (r : Int) : encR r = encL (if Utf8.valid r = true then r else 65533) := by
  unfold encR
  split
  · rfl
  · decide
/-- The text of clusters, as bytes. -/
def textC (cs : List (List Int × Int)) : List Int := txT cs cs.length

theorem run_s2b {P : Program} (w : World) (src dst e : TypeId) (hs : P.underlying src = some .string) (hd : P.underlying dst = some (.slice e)) (he : P.underlying e = some (.int .u8)) (zs : List Int) (hz : Bytes zs) :
    ∃ cap W', (convert src dst (.string (toBA zs))).run P w = .ok (.slice (some ⟨w.heap.size, 0, none⟩) zs.length cap) W' ∧ Ext w W' ∧ W'.heap.size = w.heap.size + 1 ∧
      ∀ j u, (zs.map (Value.int .u8))[j]? = some u → W'.cell? ((⟨w.heap.size, 0, none⟩ : Addr).add j) = some u := by
  have hr := run_bytes_of_string (P := P) w src dst e (toBA zs) hs hd he
  rw [toBA_size] at hr
  refine ⟨_, _, hr, ((Ext.refl w).drew.alloc _), by rw [World.size_alloc]; rfl, fun j u hj => ?_⟩
  have hjl : j < zs.length := by
    have := (List.getElem?_eq_some_iff.1 hj).1
    simpa using this
  rw [Addr.add_lit, Nat.zero_add]
  have hc := World.cell?_alloc_mark w.drew (bytesRow (toBA zs) (grownCap w zs.length 0 e)) e ((bytesRow (toBA zs) (grownCap w zs.length 0 e)).size, (bytesRow (toBA zs) (grownCap w zs.length 0 e)).size + 1) j
  have hsz : j < (toBA zs).data.size := by
    have : (toBA zs).data.size = zs.length := toBA_size zs
    omega
  rw [bytesRow_at _ _ _ hsz] at hc
  refine Eq.trans hc ?_
  have hb := hz.at0 j
  have hg := toBA_get zs hz j
  have e1 : (toBA zs).get! j = (toBA zs).data[j] := by
    show (toBA zs).data[j]! = _
    rw [getElem!_pos]
  rw [e1] at hg
  rw [hg]
  have e2 : zs[j]? = some (at0 zs j) := at0_lt hjl
  simp [e2] at hj
  rw [← hj]
  congr 2
  omega

set_option maxRecDepth 10000 in
set_option maxHeartbeats 2000000 in
theorem specTextOf_any (v : Value) (cs : List (List Int × Int)) (w : World) (hv : ClsAt w v cs) (hl : cs.length + sumR cs cs.length ≤ 16777216) (hI : ∀ j, j < cs.length → I32s (cR cs j)) :
    Calls Tryz.prog 37 #[v] w fun e w' => e = .returned (.string (toBA (textC cs))) ∧ Ext w w' := by
  obtain ⟨i0, hi, hz0, hz1, hz2⟩ := info_parts infoByteA
  obtain ⟨ra, ao, ca, rfl, hca, hra, hxa⟩ := hv
  have HF : Hid (textC cs = txT cs cs.length) := rfl
  obtain ⟨n, hnn⟩ : ∃ n, n = cs.length := ⟨_, rfl⟩
  rw [← hnn] at hca hra hxa hl hI HF ⊢
  have HA := hide hra
  have HI := hide hI
  have HXA := hide hxa
  clear hra hI hxa hnn
  go_enter Tryz.func37, Tryz.ntmps37
  go_wp2
  go_loopw [3, 4] (fun o i wr => ∃ (k : Nat), k ≤ n ∧ i = .int .i64 k ∧ wr.ownsRow w.heap.size 5 1 o (txT cs k).length ((txT cs k).map (Value.int .u8)) ∧ Ext w wr) (fun _ i _ => n - (intOf i).toNat)
  case atStart => exact ⟨0, Nat.zero_le _, rfl, by simpa [txT] using World.ownsRow_made w #[] 0 (Nat.le_refl _) (by unfold maxLen; omega) (by simp), (Ext.refl _).alloc _⟩
  case round =>
    obtain ⟨k, hk, rfl, hown, hext⟩ := hrel
    by_cases hlt : k < n
    · obtain ⟨b, off, hao, hc⟩ := (unhide HXA) (by omega)
      subst hao
      have HC := hide hc
      have hk2 := sumR_mono cs (k + 1) n (by omega)
      have hk3 := txT_len cs k
      have hk4 : Hid (sumR cs (k + 1) = sumR cs k + (cR cs k).length) := rfl
      rw [hk4.out] at hk2
      obtain ⟨a2, c2, hrv, hc2, hrx⟩ := (unhide HA) k hlt
      have h1 := (hc k hlt).1
      rw [hrv] at h1
      have hII := hide ((unhide HI) k hlt)
      obtain ⟨m, hm⟩ : ∃ m, m = (cR cs k).length := ⟨_, rfl⟩
      rw [← hm] at h1 hk2 hc2 hrx
      have HM := hide hm
      have HRX := hide hrx
      clear hc hrx hrv hm
      have bk : (k : Int) < (n : Int) := by omega
      go_wp2
      go_loopw [3, 5] (fun o i wr2 => ∃ (q : Nat), q ≤ m ∧ i = .int .i64 q ∧ wr2.ownsRow w.heap.size 5 1 o (txT cs k ++ txR (cR cs k) q).length ((txT cs k ++ txR (cR cs k) q).map (Value.int .u8)) ∧ Ext w wr2) (fun _ i _ => m - (intOf i).toNat)
      case atStart => exact ⟨0, Nat.zero_le _, rfl, by simpa [txR] using hown, hext⟩
      case round =>
        clear hown hext
        obtain ⟨q, hq, rfl, hown2, hext2⟩ := hrel
        have g1 := hext2.cell h1
        by_cases hlq : q < m
        · obtain ⟨b3, o3, ha3, hc3⟩ := (unhide HRX) (by omega)
          subst ha3
          have g3 := hext2.cell (hc3 q hlq)
          clear hc3
          have bq : (q : Int) < (m : Int) := by omega
          obtain ⟨x, hx⟩ : ∃ x, x = at0 (cR cs k) q := ⟨_, rfl⟩
          have hxb := (unhide hII).at0 q
          rw [← hx] at hxb g3
          have hst : Hid (txT cs k ++ txR (cR cs k) (q + 1) = (txT cs k ++ txR (cR cs k) q) ++ encR x) := by
            show _ = _
            rw [hx, List.append_assoc]; rfl
          have hql := txR_len (cR cs k) q
          have hql2 : (txT cs k ++ txR (cR cs k) q).length ≤ 67108864 := by simp; omega
          have henc := encR_enc x
          clear hx
          cases hval : Utf8.valid x
          · rw [hval] at henc
            have HE : Hid (encR x = encL 65533) := henc
            clear henc
            go_wp2_with fail
            refine (l1Valid_any _ _).mono ?_
            rintro e w3 ⟨rfl, rfl⟩
            go_wp2_with fail
            refine (l1Utf8_any _ _ (by omega) (by omega)).mono ?_
            rintro e w4 ⟨rfl, he4⟩
            rw [← unhide HE]
            obtain ⟨capb, w5, hrun, he5, hsz5, hcells⟩ := run_s2b (P := Tryz.prog) w4 _ _ _ Tryz.underlying9 Tryz.underlying22 Tryz.underlying5 (encR x) (encR_bytes x)
            have E5 := (hext2.trans he4).trans he5
            have hown5 := he5.owns (he4.owns hown2)
            have z5 := E5.size
            have el := encR_len x
            have HCE := hide hcells
            clear hcells
            go_wp2_with (at_builtin; go_must (refine wpList_append_own _ rfl _ _ 22 rfl w.heap.size 5 i0 (.int .u8 0) 1 1 Tryz.underlying22 hi hz0 hz1 hz2 rfl (by decide) _ _ _ rfl hown5 ⟨w4.heap.size, 0, none⟩ (encR x).length capb ((encR x).map (Value.int .u8)) rfl (by simp) (unhide HCE) (ints_oneCell _ _) ?_ ?_ ?_ ?_))
            · unfold maxLen; omega
            · omega
            · omega
            · intro v' w6 hown' hgrow _
              have hE : Ext w w6 := E5.grown hgrow (fun k hk => (hown5.lt k hk).1)
              have hO : w6.ownsRow w.heap.size 5 1 v' (txT cs k ++ txR (cR cs k) (q + 1)).length ((txT cs k ++ txR (cR cs k) (q + 1)).map (Value.int .u8)) := by
                rw [hst.out]; simpa [Nat.add_assoc] using hown'
              clear hown' hgrow hown5 hown2 hrun
              go_wp2
              go_roundw
              case rel => exact ⟨q + 1, by omega, by go_num, hO, hE⟩
              case measure => simp [intOf]; omega
          · rw [hval] at henc
            have HE : Hid (encR x = encL x) := henc
            have hvb := valid_bd hval
            clear henc
            go_wp2_with fail
            refine (l1Valid_any _ _).mono ?_
            rintro e w3 ⟨rfl, rfl⟩
            go_wp2_with fail
            refine (l1Utf8_any _ _ (by omega) (by omega)).mono ?_
            rintro e w4 ⟨rfl, he4⟩
            rw [← unhide HE]
            obtain ⟨capb, w5, hrun, he5, hsz5, hcells⟩ := run_s2b (P := Tryz.prog) w4 _ _ _ Tryz.underlying9 Tryz.underlying22 Tryz.underlying5 (encR x) (encR_bytes x)
            have E5 := (hext2.trans he4).trans he5
            have hown5 := he5.owns (he4.owns hown2)
            have z5 := E5.size
            have el := encR_len x
            have HCE := hide hcells
            clear hcells
            go_wp2_with (at_builtin; go_must (refine wpList_append_own _ rfl _ _ 22 rfl w.heap.size 5 i0 (.int .u8 0) 1 1 Tryz.underlying22 hi hz0 hz1 hz2 rfl (by decide) _ _ _ rfl hown5 ⟨w4.heap.size, 0, none⟩ (encR x).length capb ((encR x).map (Value.int .u8)) rfl (by simp) (unhide HCE) (ints_oneCell _ _) ?_ ?_ ?_ ?_))
            · unfold maxLen; omega
            · omega
            · omega
            · intro v' w6 hown' hgrow _
              have hE : Ext w w6 := E5.grown hgrow (fun k hk => (hown5.lt k hk).1)
              have hO : w6.ownsRow w.heap.size 5 1 v' (txT cs k ++ txR (cR cs k) (q + 1)).length ((txT cs k ++ txR (cR cs k) (q + 1)).map (Value.int .u8)) := by
                rw [hst.out]; simpa [Nat.add_assoc] using hown'
              clear hown' hgrow hown5 hown2 hrun
              go_wp2
              go_roundw
              case rel => exact ⟨q + 1, by omega, by go_num, hO, hE⟩
              case measure => simp [intOf]; omega
        · obtain rfl : q = m := by omega
          have hst : Hid (txT cs (k + 1) = txT cs k ++ txR (cR cs k) q) := by rw [unhide HM]; rfl
          rw [← hst.out] at hown2
          go_wp2
          go_roundw
          case rel => exact ⟨k + 1, by omega, by go_num, hown2, hext2⟩
          case measure => simp [intOf]; omega
    · obtain rfl : k = n := by omega
      have hcv := run_b2s (P := Tryz.prog) wr _ _ _ Tryz.underlying22 Tryz.underlying5 Tryz.underlying9 _ _ (ints_of_owns hown)
      rw [← HF.out] at hcv
      go_wp2
      go_ret
      exact ⟨rfl, hext⟩
set_option maxRecDepth 10000 in
set_option maxHeartbeats 2000000 in
theorem implTextOf_any (v : Value) (cs : List (List Int × Int)) (w : World) (hv : ClsAt w v cs) (hl : cs.length + sumR cs cs.length ≤ 16777216) (hI : ∀ j, j < cs.length → I32s (cR cs j)) :
    Calls Tryz.prog 103 #[v] w fun e w' => e = .returned (.string (toBA (textC cs))) ∧ Ext w w' := by
  obtain ⟨ra, ao, ca, rfl, hca, hra, hxa⟩ := hv
  have HF : Hid (textC cs = txT cs cs.length) := rfl
  obtain ⟨n, hnn⟩ : ∃ n, n = cs.length := ⟨_, rfl⟩
  rw [← hnn] at hca hra hxa hl hI HF ⊢
  have HA := hide hra
  have HI := hide hI
  have HXA := hide hxa
  clear hra hI hxa hnn
  go_enter Tryz.func103, Tryz.ntmps103
  go_wp2
  go_loopw [3, 10] (fun o i wr => ∃ (k : Nat), k ≤ n ∧ i = .int .i64 k ∧ wr.ownsRow w.heap.size 5 1 o (txT cs k).length ((txT cs k).map (Value.int .u8)) ∧ Ext w wr) (fun _ i _ => n - (intOf i).toNat)
  case atStart => exact ⟨0, Nat.zero_le _, rfl, by simpa [txT] using World.ownsRow_nil w w.heap.size 5 1, Ext.refl _⟩
  case round =>
    obtain ⟨k, hk, rfl, hown, hext⟩ := hrel
    by_cases hlt : k < n
    · obtain ⟨b, off, hao, hc⟩ := (unhide HXA) (by omega)
      subst hao
      have hk2 := sumR_mono cs (k + 1) n (by omega)
      have hk3 := txT_len cs k
      have hk4 : Hid (sumR cs (k + 1) = sumR cs k + (cR cs k).length) := rfl
      rw [hk4.out] at hk2
      obtain ⟨a2, c2, hrv, hc2, hrx⟩ := (unhide HA) k hlt
      have h1 := hext.cell (hc k hlt).1
      have h2 := hext.cell (hc k hlt).2
      rw [hrv] at h1
      have hII := hide ((unhide HI) k hlt)
      obtain ⟨m, hm⟩ : ∃ m, m = (cR cs k).length := ⟨_, rfl⟩
      rw [← hm] at h1 hk2 hc2 hrx
      have HM := hide hm
      have HRX := hide hrx
      clear hc hrx hrv hm
      have bk : (k : Int) < (n : Int) := by omega
      have hsz := hext.size
      go_wp2
      go_loopw [3, 17] (fun o i wr2 => ∃ (q : Nat), q ≤ m ∧ i = .int .i64 q ∧ wr2.ownsRow w.heap.size 5 1 o (txT cs k ++ txR (cR cs k) q).length ((txT cs k ++ txR (cR cs k) q).map (Value.int .u8)) ∧ Ext w wr2) (fun _ i _ => m - (intOf i).toNat)
      case atStart =>
        refine ⟨0, Nat.zero_le _, rfl, ?_, ?_⟩
        · rw [show txR (cR cs k) 0 = [] from rfl, List.append_nil]
          exact ((Ext.refl _).alloc _).owns hown
        · exact hext.alloc _
      case round =>
        clear hown hext h1 h2
        obtain ⟨q, hq, rfl, hown2, hext2⟩ := hrel
        by_cases hlq : q < m
        · obtain ⟨b3, o3, ha3, hc3⟩ := (unhide HRX) (by omega)
          subst ha3
          have g3 := hext2.cell (hc3 q hlq)
          clear hc3
          have bq : (q : Int) < (m : Int) := by omega
          obtain ⟨x, hx⟩ : ∃ x, x = at0 (cR cs k) q := ⟨_, rfl⟩
          have hxb := (unhide hII).at0 q
          rw [← hx] at hxb g3
          have hst : Hid (txT cs k ++ txR (cR cs k) (q + 1) = (txT cs k ++ txR (cR cs k) q) ++ encR x) := by
            show _ = _
            rw [hx, List.append_assoc]; rfl
          have hql := txR_len (cR cs k) q
          have hql2 : (txT cs k ++ txR (cR cs k) q).length ≤ 67108864 := by simp; omega
          have z2 := hext2.size
          clear hx
          go_wp2_with fail
          refine (AppendRune_any w.heap.size _ _ _ x _ z2 (by omega) hown2 hxb.1 hxb.2).mono ?_
          rintro e w4 ⟨v', rfl, hown', o, hgrow⟩
          have hE : Ext w w4 := (hext2.alloc o).grown hgrow (fun k hk => (hown2.lt k hk).1)
          have hO : w4.ownsRow w.heap.size 5 1 v' (txT cs k ++ txR (cR cs k) (q + 1)).length ((txT cs k ++ txR (cR cs k) (q + 1)).map (Value.int .u8)) := by
            rw [hst.out]; simpa [Nat.add_assoc] using hown'
          clear hown' hgrow hown2
          go_wp2
          go_roundw
          case rel => exact ⟨q + 1, by omega, by go_num, hO, hE⟩
          case measure => simp [intOf]; omega
        · obtain rfl : q = m := by omega
          have hst : Hid (txT cs (k + 1) = txT cs k ++ txR (cR cs k) q) := by rw [unhide HM]; rfl
          rw [← hst.out] at hown2
          go_wp2
          go_roundw
          case rel => exact ⟨k + 1, by omega, by go_num, hown2, hext2⟩
          case measure => simp [intOf]; omega
    · obtain rfl : k = n := by omega
      have hcv := run_b2s (P := Tryz.prog) wr _ _ _ Tryz.underlying22 Tryz.underlying5 Tryz.underlying9 _ _ (ints_of_owns hown)
      rw [← HF.out] at hcv
      go_wp2
      go_ret
      exact ⟨rfl, hext⟩
end Go.Proofs.YtokjpnlmkecleaaGreatDoor

namespace Go.Proofs.YtokjpnlmkecleaaGreatDoor
open Go.RowKit

theorem infoByte : (Tryz.prog.info? 5).map (fun i => (i.zero, i.size, i.bytes)) = some (some (.int .u8 0), 1, 1) := by kernel_rfl
theorem str_eq {a b : ByteArray} (h : a.toList = b.toList) : a = b := by
  rw [ByteArray.toList_eq, ByteArray.toList_eq] at h
  exact WideShapes.bytes_inj h
theorem ints_cut {w : World} {bs : List Int} {b off cap : Nat} (i n : Nat) (hc : ∀ j, j < bs.length → w.cell? ⟨b, off + j, none⟩ = some (.int .u8 (at0 bs j))) (h : i + n ≤ bs.length) (hn : n ≤ cap) :
    IntsAt w .u8 (.slice (some ⟨b, off + i, none⟩) n cap) ((bs.drop i).take n) := by
  have hl : ((bs.drop i).take n).length = n := by simp; omega
  refine ⟨some ⟨b, off + i, none⟩, cap, by rw [hl], by omega, fun _ => ⟨b, off + i, rfl, fun j hj => ?_⟩⟩
  rw [hl] at hj
  have := hc (i + j) (by omega)
  rw [← Nat.add_assoc] at this
  rw [this]
  simp [at0, hj]
/-- b[i:i+n], n above 0: the cut's value. -/
theorem run_cut {P : Program} (t e : TypeId) (I : TypeInfo) (b off len cap i n : Nat) (ht : P.underlying t = some (.slice (P.elem t))) (he : P.elem t = e) (hi : P.info? e = some I) (hz : I.size = 1) (h : i + n ≤ cap) (h0 : 0 < n) (w : World) :
    (Instr.slice t (.slice (some ⟨b, off, none⟩) len cap) (some (.int .i64 (i : Int))) (some (.int .i64 ((i : Int) + (n : Int)))) none).run P w = .ok (.slice (some ⟨b, off + i, none⟩) n (cap - i)) w := by
  rw [run_slice_lh (P := P) w t _ _ _ ht .i64 .i64 _ _ (by omega) (by omega) (by omega)]
  have e1 : ((i : Int) + (n : Int)).toNat - i = n := by omega
  have e2 : ¬ cap = i := by omega
  simp [sizeOf, typeInfo, he, hi, hz, sliced, e1, e2, Addr.add_lit]
set_option maxHeartbeats 400000 in
theorem l1Rune_any (bs : List Int) (hb : Bytes bs) (v : Value) (i : Nat) (w : World) (hv : IntsAt w .u8 v bs) (hi : i < bs.length) (hl : bs.length ≤ 4398046511104) :
    Calls Tryz.prog 81 #[v, .int .i64 i] w fun e w' => e = .returned (.tuple #[.int .i64 (decL (bs.drop i)).1, .int .i64 (decL (bs.drop i)).2]) ∧ Ext w w' := by
  have hv0 := hv
  obtain ⟨ao, cap, rfl, hcap, hr⟩ := hv
  obtain ⟨b, off, rfl, hc⟩ := hr (by omega)
  clear hr
  have g0 := hc i (by omega)
  have hbi : (i : Int) < (bs.length : Int) := by omega
  have q0 : at0 (bs.drop i) 0 = at0 bs i := by rw [at0_drop]; rfl
  have hlen : (bs.drop i).length = bs.length - i := by simp
  obtain ⟨n, hn⟩ : ∃ n, n = need (at0 bs i) := ⟨_, rfl⟩
  have h4 : n ≤ 4 := by rw [hn]; unfold need; (repeat' split) <;> omega
  by_cases hA : n = 0 ∨ bs.length < i + n
  · have HF : Hid (decL (bs.drop i) = (65533, 1)) := rune_short _ (hb.drop i) (by rw [q0, ← hn, hlen]; omega) (by omega)
    have HN : Hid (n = need (at0 bs i)) := hn
    clear hn hc q0 hlen
    go_enter Tryz.func81, Tryz.ntmps81
    go_wp2_with fail
    refine (l1Need_any _ _).mono ?_
    rw [← HN.out]
    rintro e w1 ⟨rfl, rfl⟩
    rcases hA with hA | hA
    · subst hA
      go_wp2
      go_ret2
      rw [HF.out]
      exact ⟨rfl, Ext.refl _⟩
    · by_cases h0 : n = 0
      · subst h0; omega
      have hz : ((n : Int) == 0) = false := by simp; omega
      have hy : (bs.length : Int) < (i : Int) + (n : Int) := by omega
      go_wp2
      go_ret2
      rw [HF.out]
      exact ⟨rfl, Ext.refl _⟩
  · obtain ⟨R1, R2, R3⟩ := rune_long (bs.drop i) (hb.drop i) n (by rw [q0]; exact hn) (by omega) (by rw [hlen]; omega)
    have HN : Hid (n = need (at0 bs i)) := hn
    have hz : ((n : Int) == 0) = false := by simp; omega
    have hy : (i : Int) + (n : Int) ≤ (bs.length : Int) := by omega
    clear hn q0 hlen
    obtain ⟨V, hV⟩ : ∃ V, V = valL (bs.drop i) n := ⟨_, rfl⟩
    have HV : Hid (V = valL (bs.drop i) n) := hV
    rw [← hV] at R1 R2 R3
    clear hV
    cases hval : Utf8.valid V
    · have HF : Hid (decL (bs.drop i) = (65533, 1)) := R1 hval
      clear R1 R2 R3 hc
      go_enter Tryz.func81, Tryz.ntmps81
      go_wp2_with fail
      refine (l1Need_any _ _).mono ?_
      rw [← HN.out]
      rintro e w1 ⟨rfl, rfl⟩
      go_wp2_with fail
      refine (l1Value_any bs hb _ i n _ hv0 (by omega) (by omega) h4 hl).mono ?_
      rw [← HV.out]
      rintro e w2 ⟨rfl, he⟩
      go_wp2_with fail
      go_quiet ((go_at_call 68; exact Calls.quiet_of_same (l1Valid_any _ _)))
      go_wp2
      go_ret2
      rw [HF.out]
      exact ⟨rfl, he.drewN _⟩
    · have hbd := valid_bd hval
      have hcut := fun {W : World} (he : Ext w W) => run_b2s (P := Tryz.prog) W _ _ _ Tryz.underlying22 Tryz.underlying5 Tryz.underlying9 _ _ (ints_cut (cap := cap - i) i n (fun j hj => he.cell (hc j hj)) (by omega) (by omega))
      have HCUT : Hid (∀ {W : World}, Ext w W → (convert 22 9 (.slice (some ⟨b, off + i, none⟩) n (cap - i))).run Tryz.prog W = .ok (.string (toBA ((bs.drop i).take n))) W) := hcut
      clear hcut R1 hc
      obtain ⟨S, hS⟩ : ∃ S, S = toBA ((bs.drop i).take n) := ⟨_, rfl⟩
      have HS : Hid (S = toBA ((bs.drop i).take n)) := hS
      rw [← hS] at HCUT
      clear hS
      go_enter Tryz.func81, Tryz.ntmps81
      go_wp2_with fail
      refine (l1Need_any _ _).mono ?_
      rw [← HN.out]
      rintro e w1 ⟨rfl, rfl⟩
      go_wp2_with fail
      refine (l1Value_any bs hb _ i n _ hv0 (by omega) (by omega) h4 hl).mono ?_
      rw [← HV.out]
      rintro e w2 ⟨rfl, he⟩
      obtain ⟨I0, hI, hI0, hI1, hI2⟩ := info_parts infoByte
      have hcv := run_cut (P := Tryz.prog) 22 5 I0 b off bs.length cap i n (by kernel_rfl) (by kernel_rfl) hI hI1 (by omega) (by omega)
      clear hI hI0 hI1 hI2
      have hwr : IntKind.i64.wrap ((i : Int) + (n : Int)) = (i : Int) + (n : Int) := by rw [IntKind.wrap_i64]; omega
      go_wp2_with fail
      go_region_held3 (fun W => Ext w1 W ∧ (convert 22 9 (.slice (some ⟨b, off + i, none⟩) n (cap - i))).run Tryz.prog W = .ok (.string S) W) (first | exact ⟨he.drew, HCUT.out he.drew⟩ | exact ⟨he.trans' he' rfl rfl rfl rfl, HCUT.out (he.trans' he' rfl rfl rfl rfl)⟩) (first | (go_at_call 68; refine (l1Valid_any _ _).mono ?_; rintro e w' ⟨rfl, rfl⟩) | (go_at_call 69; refine (l1Utf8_any _ _ hbd.1 hbd.2).mono ?_; rintro e w' ⟨rfl, he'⟩))
      have hsame : toBA (encL V) = S ↔ encL V = (bs.drop i).take n := by
        rw [HS.out]
        exact ⟨toBA_inj (encL_bytes V hbd.1 (by omega)) (fun x hx => hb x (List.mem_of_mem_drop (List.mem_of_mem_take hx))), fun h => by rw [h]⟩
      have HSAME : Hid (toBA (encL V) = S ↔ encL V = (bs.drop i).take n) := hsame
      clear hsame
      have HR2 : Hid (¬ encL V = (bs.drop i).take n → decL (bs.drop i) = (65533, 1)) := R2 hval
      have HR3 : Hid (encL V = (bs.drop i).take n → decL (bs.drop i) = (V, n)) := R3 hval
      clear R2 R3
      go_wp2
      · have hne : ¬ toBA (encL V) = S := by
          have h0 : (!(toBA (encL V)).toList == S.toList) = true := by assumption
          intro e; rw [e] at h0; simp at h0
        go_ret2
        rw [HR2.out (fun h => hne (HSAME.out.2 h))]
        rename_i hx _
        exact ⟨rfl, hx.1⟩
      · have heq : toBA (encL V) = S := by
          have h0 : (!(toBA (encL V)).toList == S.toList) = false := by assumption
          exact str_eq (by simpa using h0)
        go_ret2
        rw [HR3.out (HSAME.out.1 heq)]
        rename_i hx _
        exact ⟨rfl, hx.1⟩
end Go.Proofs.YtokjpnlmkecleaaGreatDoor
