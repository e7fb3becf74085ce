import Derived.Maps.Own
import Derived.Test.YtbieoijeilhadaaDoorWhole
import Derived.Test.YtbieoijeilhadaaDoorRkM
import Derived.Test.YtbieoijeilhadaaDoorBlocks
namespace Go.Proofs.YtbieoijeilhadaaDoor
open Go.RowKit Go.Maps Go.MapKept
open Go.ChangeMaps (setBlock heap_setBlock_same heap_setBlock_other)
section
variable {P : Program}
theorem setBlock_fr {w : World} (b : Nat) (o : Obj) : Fr (fun q => q = b) w (setBlock w b o) :=
  ⟨rfl, rfl, rfl, by simp [setBlock], fun i hi hn => by simp [setBlock, show ¬ b = i from fun e => hn e.symm]⟩
end
end Go.Proofs.YtbieoijeilhadaaDoor

namespace Go.Proofs.YtbieoijeilhadaaDoor
open Go.RowKit Go.Maps Go.MapKept
open Go.ChangeMaps (setBlock heap_setBlock_same heap_setBlock_other)
def entG {α : Type} (K : α → Value) : Nat → List (α × Value) → List MapEntry
  | _, [] => []
  | i, (c, v) :: l => { key := K c, val := v, born := i } :: entG K (i + 1) l
def mapG {α : Type} (K : α → Value) (l : List (α × Value)) : Obj := .map (entG K 0 l).toArray l.length
structure KeyD {α : Type} [DecidableEq α] (T : TypeDesc) (K : α → Value) : Prop where
  same : ∀ a b, Instr.sameNow T (K a) (K b) = some (decide (a = b))
  check : ∀ (P : Program) (b : Bool) (w : World) (k : TypeId), P.underlying k = some T → ∀ a, (Instr.checkKey b 10000 k (K a)).run P w = .ok () w
theorem entG_snoc {α : Type} {K : α → Value} (c : α) (v : Value) : ∀ (l : List (α × Value)) (i : Nat), entG K i (l ++ [(c, v)]) = entG K i l ++ [{ key := K c, val := v, born := i + l.length }]
  | [], i => by simp [entG]
  | (d, u) :: l, i => by
    rw [List.cons_append, entG, entG_snoc c v l (i + 1), entG]
    simp
    omega
section
variable {α : Type} [DecidableEq α] {T : TypeDesc} {K : α → Value}
theorem findG_none (hd : KeyD T K) (c : α) : ∀ (l : List (α × Value)) (i j : Nat), (∀ x ∈ l, x.1 ≠ c) → Instr.findNow T (K c) (entG K i l) j = some none
  | [], _, _, _ => rfl
  | (d, u) :: l, i, j, h => by
    have h1 : d ≠ c := h (d, u) (by simp)
    have h2 : decide (c = d) = false := by simp; exact fun e => h1 e.symm
    rw [entG, Instr.findNow]
    simp only [hd.same, h2]
    exact findG_none hd c l (i + 1) (j + 1) (fun x hx => h x (by simp [hx]))
theorem findG_some (hd : KeyD T K) (c : α) (v : Value) : ∀ (l : List (α × Value)) (i j : Nat), (l.find? (fun x => decide (x.1 = c))).map (·.2) = some v → ∃ n, Instr.findNow T (K c) (entG K i l) j = some (some (n, v))
  | [], _, _, h => by simp at h
  | (d, u) :: l, i, j, h => by
    by_cases e : d = c
    · subst e
      simp at h
      subst h
      rw [entG, Instr.findNow]
      simp [hd.same]
    · have h2 : decide (c = d) = false := by simp; exact fun x => e x.symm
      have h3 : decide (d = c) = false := by simp [e]
      rw [List.find?_cons] at h
      simp only [h3] at h
      obtain ⟨n, hn⟩ := findG_some hd c v l (i + 1) (j + 1) h
      refine ⟨n, ?_⟩
      rw [entG, Instr.findNow]
      simp only [hd.same, h2]
      exact hn
variable {P : Program}
theorem run_fkG {w : World} {k : TypeId} (hk : P.underlying k = some T) (c : Value) (es : List MapEntry) (r : Option (Nat × Value)) (h : Instr.findNow T c es 0 = some r) : (Instr.findKey k c es).run P w = .ok r w := by
  simp [Instr.findKey, run_underlying hk, h]
theorem run_insertG (hd : KeyD T K) {w : World} {t k e : TypeId} {b : Nat} {l : List (α × Value)} {c : α} {v : Value} (ht : P.underlying t = some (.map k e)) (hk : P.underlying k = some T) (hb : w.heap[b]? = some (mapG K l)) (hn : ∀ x ∈ l, x.1 ≠ c) :
    (Instr.mapUpdate t (.map (some b)) (K c) v).run P w = .ok () (setBlock w b (mapG K (l ++ [(c, v)]))) := by
  have hf := run_fkG (P := P) (w := w) hk _ _ _ (findG_none hd c l 0 0 hn)
  have hm : mapG K (l ++ [(c, v)]) = .map ((entG K 0 l).toArray.push { key := K c, val := v, born := l.length }) (l.length + 1) := by
    unfold mapG
    rw [entG_snoc]
    simp
  rw [hm]
  unfold mapG at hb
  simp [Instr.mapUpdate, run_underlying ht, hd.check P _ w k hk c, hf, Go.MapKept.run_getObj_map hb, Go.MapKept.run_setObj_map _ hb, setBlock]
theorem run_lookupG_some (hd : KeyD T K) {w : World} {t k e : TypeId} {b : Nat} {l : List (α × Value)} {c : α} {v : Value} (ht : P.underlying t = some (.map k e)) (hk : P.underlying k = some T) (hb : w.heap[b]? = some (mapG K l)) (hl : (l.find? (fun x => decide (x.1 = c))).map (·.2) = some v) :
    (Instr.lookup t (.map (some b)) (K c) true).run P w = .ok (.tuple #[v, .bool true]) w := by
  obtain ⟨n, hn⟩ := findG_some hd c v l 0 0 hl
  have hf := run_fkG (P := P) (w := w) hk _ _ _ hn
  unfold mapG at hb
  simp [Instr.lookup, run_underlying ht, hd.check P _ w k hk c, hf, Go.MapKept.run_getObj_map hb]
theorem run_lookupG_none (hd : KeyD T K) {w : World} {t k e : TypeId} {b : Nat} {l : List (α × Value)} {c : α} {z : Value} (ht : P.underlying t = some (.map k e)) (hk : P.underlying k = some T) (hb : w.heap[b]? = some (mapG K l)) (hn : ∀ x ∈ l, x.1 ≠ c) (hz : (zeroValue e).run P w = .ok z w) :
    (Instr.lookup t (.map (some b)) (K c) true).run P w = .ok (.tuple #[z, .bool false]) w := by
  have hf := run_fkG (P := P) (w := w) hk _ _ _ (findG_none hd c l 0 0 hn)
  unfold mapG at hb
  simp [Instr.lookup, run_underlying ht, hd.check P _ w k hk c, hf, Go.MapKept.run_getObj_map hb, hz]
theorem wpList_insertG (hd : KeyD T K) {w : World} {ops : Array Oper} {rest : List Oper} {o : Oper} {a : Act} {Q : Exit → Act → World → Prop} (hgd : o.guard = none) (t : TypeId) (m x y : Operand) (ho : o.op = .insert t m x y) (hdst : o.dst = none) (k e : TypeId) (ht : P.underlying t = some (.map k e)) (hk : P.underlying k = some T) (b : Nat) (hm : a.eval m = .map (some b)) (l : List (α × Value)) (hb : w.heap[b]? = some (mapG K l)) (c : α) (hx : a.eval x = K c) (hn : (l.all fun x => decide (x.1 ≠ c)) = true) (v : Value) (hv : a.eval y = v)
    (h : ∀ w', w'.heap[b]? = some (mapG K (l ++ [(c, v)])) → Fr (fun q => q = b) w w' → wpList P ops Q rest a w') : wpList P ops Q (o :: rest) a w := by
  refine wpList_plain hgd fun _ hK => ?_
  have hr := run_insertG (P := P) (w := w) (v := v) hd ht hk hb (fun x hx => by simpa using (List.all_eq_true.1 hn) x hx)
  have hk2 := hK _ _ (h _ (heap_setBlock_same hb _) (setBlock_fr b _))
  unfold Oper.wp
  simp [execOp, ho, hm, hx, hv, hr, Result.andThen]
  simp [Oper.upon]
  rw [hdst]
  exact hk2
end
theorem run_ckU (b : Bool) (n : Nat) {P : Program} {w : World} {k : TypeId} (hk : P.underlying k = some (.int .u8)) (c : Int) : (Instr.checkKey b (n + 1) k (.int .u8 c)).run P w = .ok () w := by
  simp [Instr.checkKey, run_underlying hk]
theorem run_ckS (b : Bool) (n : Nat) {P : Program} {w : World} {k : TypeId} (hk : P.underlying k = some .string) (c : ByteArray) : (Instr.checkKey b (n + 1) k (.string c)).run P w = .ok () w := by
  simp [Instr.checkKey, run_underlying hk]
theorem ba_beq (a b : ByteArray) : (a == b) = decide (a = b) := by
  rw [Bool.eq_iff_iff, decide_eq_true_iff]
  constructor
  · intro h
    cases a; cases b
    have h2 : (_ == _) = true := h
    congr
    exact eq_of_beq h2
  · rintro rfl
    cases a with
    | mk d =>
      have h2 : (d == d) = true := beq_self_eq_true d
      exact h2
theorem keyU8 : KeyD (.int .u8) (Value.int .u8) := ⟨fun a b => by simp [Instr.sameNow]; rfl, fun _ b _ _ hk a => run_ckU b 9999 hk a⟩
theorem keyStr : KeyD .string Value.string := ⟨fun a b => by simp [Instr.sameNow]; exact ba_beq a b, fun _ b _ _ hk a => run_ckS b 9999 hk a⟩
end Go.Proofs.YtbieoijeilhadaaDoor

namespace Go.Proofs.YtbieoijeilhadaaDoor
open Go.RowKit Go.Maps
def kindsV {α : Type} (l : List (α × Int)) : List (α × Value) := l.map (fun x => (x.1, .int .i64 x.2))
def loneL : List (Int × Int) := [(13, 3), (10, 3), (8, 4), (127, 4), (4, 5), (2, 6), (6, 7), (1, 8), (5, 9), (16, 10), (14, 11), (11, 12), (21, 13), (23, 14), (25, 15), (20, 16), (31, 17), (18, 20), (3, 21)]
def metaL : List (Int × Int) := [(98, 18), (102, 19)]
def endsL : List (ByteArray × Int) := [({ data := #[65] }, 10), ({ data := #[66] }, 11), ({ data := #[67] }, 7), ({ data := #[68] }, 6), ({ data := #[72] }, 8), ({ data := #[70] }, 9), ({ data := #[51, 126] }, 5), ({ data := #[49, 126] }, 8), ({ data := #[55, 126] }, 8), ({ data := #[52, 126] }, 9), ({ data := #[56, 126] }, 9)]
def kindOf {α : Type} [DecidableEq α] (l : List (α × Int)) (c : α) : Int := match l.find? (fun x => decide (x.1 = c)) with | some x => x.2 | none => 23
theorem kinds_find {α : Type} [DecidableEq α] (c : α) : ∀ l : List (α × Int), ((kindsV l).find? (fun x => decide (x.1 = c))).map (·.2) = (l.find? (fun x => decide (x.1 = c))).map (fun x => .int .i64 x.2)
  | [] => rfl
  | (d, k) :: l => by
    unfold kindsV
    rw [List.map_cons, List.find?_cons, List.find?_cons]
    by_cases e : d = c
    · simp [e]
    · simp only [e, decide_false]
      exact kinds_find c l
theorem lookup_kind {α : Type} [DecidableEq α] {T : TypeDesc} {K : α → Value} (hd : KeyD T K) {P : Program} {w : World} {t k e : TypeId} {b : Nat} {l : List (α × Int)} (ht : P.underlying t = some (.map k e)) (hk : P.underlying k = some T) (hb : w.heap[b]? = some (mapG K (kindsV l))) (hz : (zeroValue e).run P w = .ok (.int .i64 0) w) (c : α) :
    (∃ n, l.find? (fun x => decide (x.1 = c)) = some n ∧ (Instr.lookup t (.map (some b)) (K c) true).run P w = .ok (.tuple #[.int .i64 n.2, .bool true]) w) ∨ (l.find? (fun x => decide (x.1 = c)) = none ∧ (Instr.lookup t (.map (some b)) (K c) true).run P w = .ok (.tuple #[.int .i64 0, .bool false]) w) := by
  cases hf : l.find? (fun x => decide (x.1 = c)) with
  | some n =>
    left
    refine ⟨n, rfl, run_lookupG_some hd ht hk hb ?_⟩
    rw [kinds_find, hf]
    rfl
  | none =>
    right
    refine ⟨rfl, run_lookupG_none hd ht hk hb (fun x hx e => ?_) hz⟩
    obtain ⟨y, hy, rfl⟩ := List.mem_map.1 hx
    have := List.find?_eq_none.1 hf y hy
    simp at this
    exact this e
set_option maxRecDepth 10000 in
set_option maxHeartbeats 8000000 in
theorem loneBytes_any (w : World) :
    Calls Tryd.prog 70 #[] w fun e w' => e = .returned (.map (some w.heap.size)) ∧ w'.heap[w.heap.size]? = some (mapG (Value.int .u8) (kindsV loneL)) ∧ Ext w w' := by
  have hmm := @run_makeMap Tryd.prog
  have HM : Hid ((w.alloc (.map #[] 0)).heap[w.heap.size]? = some (mapG (Value.int .u8) [])) := hide (new_block w _)
  have HF : Hid (Fr (fun q => q = w.heap.size) (w.alloc (.map #[] 0)) (w.alloc (.map #[] 0))) := hide (Fr.refl _ _)
  go_enter Tryd.func70, Tryd.ntmps70
  go_wp2_with (
       refine wpList_insertG keyU8 rfl _ _ _ _ rfl rfl 5 _ Tryd.underlying79 Tryd.underlying5 w.heap.size rfl _ (unhide HM) _ rfl (by rfl) (.int .i64 _) rfl ?_
       intro W1 hb hf
       simp only [List.nil_append, List.cons_append] at hb
       replace HM := hide hb
       replace HF := hide ((unhide HF).tr hf)
       clear hb hf)
  exact bodyPost_ret (v := .map (some w.heap.size)) (by simp [results, Tryd.results70, go_sem]) rfl ⟨rfl, unhide HM, (unhide HF).ext ((Ext.refl w).alloc _) (fun q hq => by omega)⟩
set_option maxRecDepth 10000 in
set_option maxHeartbeats 8000000 in
theorem ends_any (w : World) :
    Calls Tryd.prog 71 #[] w fun e w' => e = .returned (.map (some w.heap.size)) ∧ w'.heap[w.heap.size]? = some (mapG Value.string (kindsV endsL)) ∧ Ext w w' := by
  have hmm := @run_makeMap Tryd.prog
  have HM : Hid ((w.alloc (.map #[] 0)).heap[w.heap.size]? = some (mapG Value.string [])) := hide (new_block w _)
  have HF : Hid (Fr (fun q => q = w.heap.size) (w.alloc (.map #[] 0)) (w.alloc (.map #[] 0))) := hide (Fr.refl _ _)
  go_enter Tryd.func71, Tryd.ntmps71
  go_wp2_with (
       refine wpList_insertG keyStr rfl _ _ _ _ rfl rfl 9 _ Tryd.underlying80 Tryd.underlying9 w.heap.size rfl _ (unhide HM) _ rfl (by decide) (.int .i64 _) rfl ?_
       intro W1 hb hf
       simp only [List.nil_append, List.cons_append] at hb
       replace HM := hide hb
       replace HF := hide ((unhide HF).tr hf)
       clear hb hf)
  exact bodyPost_ret (v := .map (some w.heap.size)) (by simp [results, Tryd.results71, go_sem]) rfl ⟨rfl, unhide HM, (unhide HF).ext ((Ext.refl w).alloc _) (fun q hq => by omega)⟩
set_option maxHeartbeats 1000000 in
theorem kindByte_any (b : Nat) (l : List (Int × Int)) (c : Int) (w : World) (hb : w.heap[b]? = some (mapG (Value.int .u8) (kindsV l))) :
    Calls Tryd.prog 74 #[.map (some b), .int .u8 c] w fun e w' => e = .returned (.int .i64 (kindOf l c)) ∧ w' = w := by
  unfold kindOf
  rcases lookup_kind (P := Tryd.prog) keyU8 Tryd.underlying79 Tryd.underlying5 hb (Tryd.zeroValue3 w) c with ⟨n, hn, hr⟩ | ⟨hn, hr⟩
  · rw [hn]
    clear hn hb
    go_enter Tryd.func74, Tryd.ntmps74
    go_wp2
    go_ret
    exact ⟨rfl, rfl⟩
  · rw [hn]
    clear hn hb
    go_enter Tryd.func74, Tryd.ntmps74
    go_wp2
    go_ret
    exact ⟨rfl, rfl⟩
set_option maxHeartbeats 1000000 in
theorem kindStr_any (b : Nat) (l : List (ByteArray × Int)) (c : ByteArray) (w : World) (hb : w.heap[b]? = some (mapG Value.string (kindsV l))) :
    Calls Tryd.prog 104 #[.map (some b), .string c] w fun e w' => e = .returned (.int .i64 (kindOf l c)) ∧ w' = w := by
  unfold kindOf
  rcases lookup_kind (P := Tryd.prog) keyStr Tryd.underlying80 Tryd.underlying9 hb (Tryd.zeroValue3 w) c with ⟨n, hn, hr⟩ | ⟨hn, hr⟩
  · rw [hn]
    clear hn hb
    go_enter Tryd.func104, Tryd.ntmps104
    go_wp2
    go_ret
    exact ⟨rfl, rfl⟩
  · rw [hn]
    clear hn hb
    go_enter Tryd.func104, Tryd.ntmps104
    go_wp2
    go_ret
    exact ⟨rfl, rfl⟩
end Go.Proofs.YtbieoijeilhadaaDoor
