import Derived.Maps.Own
import Derived.Test.YtokjpnlmkecleaaGreatDoorKys
import Derived.Test.YtokjpnlmkecleaaGreatDoorBlocks
namespace Go.Proofs.YtokjpnlmkecleaaGreatDoor
open Go.RowKit Go.Maps Go.MapKept
open Go.ChangeMaps (setBlock heap_setBlock_same heap_setBlock_other)
def entL : Nat → List (Int × Value) → List MapEntry
  | _, [] => []
  | i, (c, v) :: l => { key := .int .i64 c, val := v, born := i } :: entL (i + 1) l
def mapO (l : List (Int × Value)) : Obj := .map (entL 0 l).toArray l.length
theorem entL_snoc (c : Int) (v : Value) : ∀ (l : List (Int × Value)) (i : Nat), entL i (l ++ [(c, v)]) = entL i l ++ [{ key := .int .i64 c, val := v, born := i + l.length }]
  | [], i => by simp [entL]
  | (d, u) :: l, i => by
    rw [List.cons_append, entL, entL_snoc c v l (i + 1), entL]
    simp
    omega
theorem find_none (c : Int) : ∀ (l : List (Int × Value)) (i j : Nat), (∀ x ∈ l, x.1 ≠ c) → Instr.findNow (.int .i64) (.int .i64 c) (entL i l) j = some none
  | [], _, _, _ => rfl
  | (d, u) :: l, i, j, h => by
    have h1 : d ≠ c := h (d, u) (by simp)
    have h2 : (c == d) = false := by simp; exact fun e => h1 e.symm
    rw [entL, Instr.findNow]
    simp only [Instr.sameNow, h2, if_true]
    exact find_none c l (i + 1) (j + 1) (fun x hx => h x (by simp [hx]))
theorem find_some (c : Int) (v : Value) : ∀ (l : List (Int × Value)) (i j : Nat), (l.find? (fun x => x.1 == c)).map (·.2) = some v → ∃ n, Instr.findNow (.int .i64) (.int .i64 c) (entL i l) j = some (some (n, v))
  | [], _, _, h => by simp at h
  | (d, u) :: l, i, j, h => by
    by_cases e : d = c
    · subst e
      simp at h
      subst h
      rw [entL, Instr.findNow]
      simp [Instr.sameNow]
    · have h2 : (c == d) = false := by simp; exact fun x => e x.symm
      have h3 : (d == c) = false := by simp [e]
      rw [List.find?_cons] at h
      simp only [h3] at h
      obtain ⟨n, hn⟩ := find_some c v l (i + 1) (j + 1) h
      refine ⟨n, ?_⟩
      rw [entL, Instr.findNow]
      simp only [Instr.sameNow, h2, if_true]
      exact hn
section
variable {P : Program}
theorem run_ck (b : Bool) (n : Nat) {w : World} {k : TypeId} (hk : P.underlying k = some (.int .i64)) (c : Int) : (Instr.checkKey b (n + 1) k (.int .i64 c)).run P w = .ok () w := by
  simp [Instr.checkKey, run_underlying hk]
theorem run_ck4 (b : Bool) {w : World} {k : TypeId} (hk : P.underlying k = some (.int .i64)) (c : Int) : (Instr.checkKey b 10000 k (.int .i64 c)).run P w = .ok () w := run_ck b 9999 hk c
theorem run_fk {w : World} {k : TypeId} (hk : P.underlying k = some (.int .i64)) (c : Int) (es : List MapEntry) (r : Option (Nat × Value)) (h : Instr.findNow (.int .i64) (.int .i64 c) es 0 = some r) : (Instr.findKey k (.int .i64 c) es).run P w = .ok r w := by
  simp [Instr.findKey, run_underlying hk, h]
theorem run_insert_new {w : World} {t k e : TypeId} {b : Nat} {l : List (Int × Value)} {c : Int} {v : Value} (ht : P.underlying t = some (.map k e)) (hk : P.underlying k = some (.int .i64)) (hb : w.heap[b]? = some (mapO l)) (hn : ∀ x ∈ l, x.1 ≠ c) :
    (Instr.mapUpdate t (.map (some b)) (.int .i64 c) v).run P w = .ok () (setBlock w b (mapO (l ++ [(c, v)]))) := by
  have hf := run_fk (P := P) (w := w) hk c _ _ (find_none c l 0 0 hn)
  have hm : mapO (l ++ [(c, v)]) = .map ((entL 0 l).toArray.push { key := .int .i64 c, val := v, born := l.length }) (l.length + 1) := by
    unfold mapO
    rw [entL_snoc]
    simp
  rw [hm]
  unfold mapO at hb
  simp [Instr.mapUpdate, run_underlying ht, run_ck4 _ hk, hf, Go.MapKept.run_getObj_map hb, Go.MapKept.run_setObj_map _ hb, setBlock]
theorem run_lookup_some {w : World} {t k e : TypeId} {b : Nat} {l : List (Int × Value)} {c : Int} {v : Value} (ht : P.underlying t = some (.map k e)) (hk : P.underlying k = some (.int .i64)) (hb : w.heap[b]? = some (mapO l)) (hl : (l.find? (fun x => x.1 == c)).map (·.2) = some v) :
    (Instr.lookup t (.map (some b)) (.int .i64 c) true).run P w = .ok (.tuple #[v, .bool true]) w := by
  obtain ⟨n, hn⟩ := find_some c v l 0 0 hl
  have hf := run_fk (P := P) (w := w) hk c _ _ hn
  unfold mapO at hb
  simp [Instr.lookup, run_underlying ht, run_ck4 _ hk, hf, Go.MapKept.run_getObj_map hb]
theorem run_lookup_none {w : World} {t k e : TypeId} {b : Nat} {l : List (Int × Value)} {c : Int} {z : Value} (ht : P.underlying t = some (.map k e)) (hk : P.underlying k = some (.int .i64)) (hb : w.heap[b]? = some (mapO l)) (hn : ∀ x ∈ l, x.1 ≠ c) (hz : (zeroValue e).run P w = .ok z w) :
    (Instr.lookup t (.map (some b)) (.int .i64 c) true).run P w = .ok (.tuple #[z, .bool false]) w := by
  have hf := run_fk (P := P) (w := w) hk c _ _ (find_none c l 0 0 hn)
  unfold mapO at hb
  simp [Instr.lookup, run_underlying ht, run_ck4 _ hk, hf, Go.MapKept.run_getObj_map hb, hz]
theorem setBlock_fr {w : World} (b : Nat) (o : Obj) : Fr (fun q => q = b) w (setBlock w b o) :=
  ⟨rfl, rfl, rfl, by simp [setBlock], fun i hi hn => by simp [setBlock, show ¬ b = i from fun e => hn e.symm]⟩
theorem wpList_insert_new {w : World} {ops : Array Oper} {rest : List Oper} {o : Oper} {a : Act} {Q : Exit → Act → World → Prop} (hgd : o.guard = none) (t : TypeId) (m x y : Operand) (ho : o.op = .insert t m x y) (hdst : o.dst = none) (k e : TypeId) (ht : P.underlying t = some (.map k e)) (hk : P.underlying k = some (.int .i64)) (b : Nat) (hm : a.eval m = .map (some b)) (l : List (Int × Value)) (hb : w.heap[b]? = some (mapO l)) (c : Int) (hx : a.eval x = .int .i64 c) (hn : (l.all (fun z => z.1 != c)) = true) (v : Value) (hv : a.eval y = v)
    (h : ∀ w', w'.heap[b]? = some (mapO (l ++ [(c, v)])) → Fr (fun q => q = b) w w' → wpList P ops Q rest a w') : wpList P ops Q (o :: rest) a w := by
  refine wpList_plain hgd fun _ hK => ?_
  have hr := run_insert_new (P := P) (w := w) (v := v) ht hk hb (fun x hx e => by have := (List.all_eq_true.1 hn) x hx; simp at this; exact this e)
  have hk2 := hK _ _ (h _ (heap_setBlock_same hb _) (setBlock_fr b _))
  unfold Oper.wp
  simp [execOp, ho, hm, hx, hv, hr, Result.andThen]
  simp [Oper.upon]
  rw [hdst]
  exact hk2
end
end Go.Proofs.YtokjpnlmkecleaaGreatDoor

namespace Go.Proofs.YtokjpnlmkecleaaGreatDoor
open Go.RowKit Go.Maps
def mth (f : FuncId) (P : Nat) : Value := .func (.func f) #[.pointer (some ⟨P, 0, none⟩)] #[]
def ansr (d : Int) : Value := .func (.func 102) #[.int .i64 d] #[]
def actL (P : Nat) : List (Int × Value) := [(1, mth 87 P), (2, mth 87 P), (4, mth 88 P), (5, mth 89 P), (6, mth 90 P), (7, mth 91 P), (8, mth 92 P), (9, mth 93 P), (18, mth 94 P), (19, mth 95 P), (12, mth 96 P), (13, mth 97 P), (14, mth 98 P), (15, mth 99 P), (16, mth 100 P), (17, mth 101 P), (3, ansr 3), (21, ansr 4), (10, ansr 5), (11, ansr 6), (20, ansr 7)]
set_option maxRecDepth 10000 in
set_option maxHeartbeats 8000000 in
theorem acts_any (P : Nat) (w : World) :
    Calls Tryz.prog 62 #[.pointer (some ⟨P, 0, none⟩)] w fun e w' => e = .returned (.map (some w.heap.size)) ∧ w'.heap[w.heap.size]? = some (mapO (actL P)) ∧ Ext w w' := by
  have hmm := @run_makeMap Tryz.prog
  have hmf : ∀ (fn : Fn) (first cap : Array Value) (w : World), (Instr.makeFunc fn first cap).run Tryz.prog w = .ok (.func fn first cap) w := fun _ _ _ _ => rfl
  have HM : Hid ((w.alloc (.map #[] 0)).heap[w.heap.size]? = some (mapO [])) := hide (new_block w _)
  have HF : Hid (Fr (fun q => q = w.heap.size) (w.alloc (.map #[] 0)) (w.alloc (.map #[] 0))) := hide (Fr.refl _ _)
  go_enter Tryz.func62, Tryz.ntmps62
  go_wp2_with (first
    | (first
       | refine wpList_insert_new rfl _ _ _ _ rfl rfl 3 _ Tryz.underlying102 Tryz.underlying3 w.heap.size rfl _ (unhide HM) _ rfl (by rfl) (.func (.func _) #[.pointer (some ⟨P, 0, none⟩)] #[]) rfl ?_
       | refine wpList_insert_new rfl _ _ _ _ rfl rfl 3 _ Tryz.underlying102 Tryz.underlying3 w.heap.size rfl _ (unhide HM) _ rfl (by rfl) (.func (.func _) #[.int .i64 _] #[]) rfl ?_
       intro W1 hb hf
       simp only [List.nil_append, List.cons_append] at hb
       replace HM := hide hb
       replace HF := hide ((unhide HF).tr hf)
       clear hb hf))
  exact bodyPost_ret (v := .map (some w.heap.size)) (by simp [results, Tryz.results62, go_sem]) rfl ⟨rfl, unhide HM, (unhide HF).ext ((Ext.refl w).alloc _) (fun q hq => by omega)⟩
end Go.Proofs.YtokjpnlmkecleaaGreatDoor
