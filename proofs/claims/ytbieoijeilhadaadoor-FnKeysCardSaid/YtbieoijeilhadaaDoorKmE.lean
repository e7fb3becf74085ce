import Derived.Test.YtbieoijeilhadaaDoorKmN
import Derived.Deep.DeepCutAuto
namespace Go.Proofs.YtbieoijeilhadaaDoor
open Go.RowKit Go.Maps
abbrev ptr (b : Nat) : Value := .pointer (some ⟨b, 0, none⟩)
def Box (w : World) (b : Nat) (T : TypeId) (v : Value) : Prop := w.heap[b]? = some (.cells #[v] T (0, 0))
theorem Box.ext {w w' : World} {b : Nat} {T : TypeId} {v : Value} (h : Box w b T v) (he : Ext w w') : Box w' b T v := he.kept h
theorem Box.fr {S : Nat → Prop} {w w' : World} {b : Nat} {T : TypeId} {v : Value} (h : Box w b T v) (hf : Fr S w w') (hS : ¬ S b) : Box w' b T v := hf.kept h hS
theorem Box.cell {w : World} {b : Nat} {T : TypeId} {v : Value} (h : Box w b T v) : w.cell? ⟨b, 0, none⟩ = some v := cells_of h 0 _ rfl
theorem Box.lt {w : World} {b : Nat} {T : TypeId} {v : Value} (h : Box w b T v) : b < w.heap.size := lt_of_block h
theorem run_store_func {P : Program} {w : World} {a : Addr} {old : Value} (hc : w.cell? a = some old) (hf : w.frozen? a = false) (fn : Fn) (first cap : Array Value) : (store a (.func fn first cap)).run P w = .ok () (w.setCell a (.func fn first cap)) := by
  rw [run_store P w a _ _ rfl, hc]
  simp [hf]
def groundF (dB gB bB eB : Nat) : Value := .func (.func 72) #[] #[ptr dB, ptr eB, ptr bB, ptr gB]
def begunF (q : Nat) : Value := .func (.func 97) #[] #[ptr q, ptr (q + 3), ptr (q + 2), ptr (q + 1)]
def foundF (D : Nat) : Value := .func (.func 40) #[ptr D] #[]
def pastedF (q : Nat) : Value := .func (.func 101) #[] #[ptr q, ptr (q + 2), ptr (q + 1)]
def betweenF (q : Nat) : Value := .func (.func 118) #[] #[ptr q, ptr (q + 3), ptr (q + 1), ptr (q + 2)]
def singleF (q : Nat) : Value := .func (.func 103) #[] #[ptr q, ptr (q + 1)]
def escapedF (q z : Nat) : Value := .func (.func 107) #[] #[ptr q, ptr z, ptr (q + 2), ptr (q + 1)]
set_option maxRecDepth 10000 in
set_option maxHeartbeats 8000000 in
theorem runeState_any (D : Nat) (gf : FuncId) (gc : Array Value) (ff : FuncId) (f1 : Array Value) (w : World) :
    Calls Tryd.prog 75 #[ptr D, .func (.func gf) #[] gc, .func (.func ff) f1 #[]] w fun e w' => e = .returned (begunF w.heap.size) ∧ Ext w w' ∧ Box w' w.heap.size 126 (ptr D) ∧ Box w' (w.heap.size + 1) 75 (.func (.func gf) #[] gc) ∧ Box w' (w.heap.size + 2) 83 (.func (.func ff) f1 #[]) ∧ Box w' (w.heap.size + 3) 75 (begunF w.heap.size) := by
  have hmf : ∀ (fn : Fn) (first cap : Array Value) (w : World), (Instr.makeFunc fn first cap).run Tryd.prog w = .ok (.func fn first cap) w := fun _ _ _ _ => rfl
  obtain ⟨V1, hV1⟩ : ∃ V, V = w.alloc (.cells #[(ptr D)] 126) := ⟨_, rfl⟩
  obtain ⟨V2, hV2⟩ : ∃ V, V = V1.alloc (.cells #[(.func (.func gf) #[] gc)] 75) := ⟨_, rfl⟩
  obtain ⟨V3, hV3⟩ : ∃ V, V = V2.alloc (.cells #[(.func (.func ff) f1 #[])] 83) := ⟨_, rfl⟩
  obtain ⟨V4, hV4⟩ : ∃ V, V = V3.alloc (.cells #[.nilFunc] 75) := ⟨_, rfl⟩
  have s1 : V1.heap.size = w.heap.size + 1 := by rw [hV1]; simp
  have s2 : V2.heap.size = w.heap.size + 2 := by rw [hV2]; simp [s1]
  have s3 : V3.heap.size = w.heap.size + 3 := by rw [hV3]; simp [s2]
  have E1 : Ext w V1 := by rw [hV1]; exact (Ext.refl _).alloc _
  have E2 : Ext V1 V2 := by rw [hV2]; exact (Ext.refl _).alloc _
  have E3 : Ext V2 V3 := by rw [hV3]; exact (Ext.refl _).alloc _
  have E4 : Ext V3 V4 := by rw [hV4]; exact (Ext.refl _).alloc _
  have b1 : Box V1 w.heap.size 126 ((ptr D)) := by rw [hV1]; exact new_block w _
  have b2 : Box V2 (w.heap.size + 1) 75 ((.func (.func gf) #[] gc)) := by rw [hV2, ← s1]; exact new_block V1 _
  have b3 : Box V3 (w.heap.size + 2) 83 ((.func (.func ff) f1 #[])) := by rw [hV3, ← s2]; exact new_block V2 _
  have b4 : Box V4 (w.heap.size + 3) 75 .nilFunc := by rw [hV4, ← s3]; exact new_block V3 _
  have hVV : ((((w.alloc (.cells #[(ptr D)] 126)).alloc (.cells #[(.func (.func gf) #[] gc)] 75)).alloc (.cells #[(.func (.func ff) f1 #[])] 83)).alloc (.cells #[.nilFunc] 75)) = V4 := by rw [hV4, hV3, hV2, hV1]
  have c4 : V4.cell? ⟨w.heap.size + 1 + 1 + 1, 0, none⟩ = some .nilFunc := b4.cell
  have k4 : V4.frozen? ⟨w.heap.size + 1 + 1 + 1, 0, none⟩ = false := Lib.frozen_of_heap b4 0
  have hst := fun fn first cap => run_store_func (P := Tryd.prog) c4 k4 fn first cap
  have HV := hide hVV
  have HE := hide (((E1.trans E2).trans E3).trans E4)
  have HB1 := hide (((b1.ext E2).ext E3).ext E4)
  have HB2 := hide ((b2.ext E3).ext E4)
  have HB3 := hide (b3.ext E4)
  have HB4 := hide b4
  clear hVV b1 b2 b3 b4 E1 E2 E3 E4 hV1 hV2 hV3 hV4 s1 s2 s3 V1 V2 V3
  go_enter Tryd.func75, Tryd.ntmps75
  go_upto_region 2 with fail
  rw [unhide HV]
  clear HV
  go_wp2
  have fs : Fr (fun q => q = w.heap.size + 3) V4 (V4.setCell ⟨w.heap.size + 3, 0, none⟩ (begunF w.heap.size)) := Fr.setCell (S := fun q => q = w.heap.size + 3) (Fr.refl _ _) (a := ⟨w.heap.size + 3, 0, none⟩) rfl _
  exact bodyPost_ret (v := begunF w.heap.size) (by simp [results, Tryd.results75, go_sem, begunF]) rfl ⟨rfl, fs.ext (unhide HE) (fun q hq => by omega), (unhide HB1).fr fs (by omega), (unhide HB2).fr fs (by omega), (unhide HB3).fr fs (by omega), set_blk2 (unhide HB4) rfl⟩
set_option maxRecDepth 10000 in
set_option maxHeartbeats 8000000 in
theorem pasteState_any (D : Nat) (gf : FuncId) (gc : Array Value) (w : World) :
    Calls Tryd.prog 76 #[ptr D, .func (.func gf) #[] gc] w fun e w' => e = .returned (pastedF w.heap.size) ∧ Ext w w' ∧ Box w' w.heap.size 71 (ptr D) ∧ Box w' (w.heap.size + 1) 75 (.func (.func gf) #[] gc) ∧ Box w' (w.heap.size + 2) 75 (pastedF w.heap.size) := by
  have hmf : ∀ (fn : Fn) (first cap : Array Value) (w : World), (Instr.makeFunc fn first cap).run Tryd.prog w = .ok (.func fn first cap) w := fun _ _ _ _ => rfl
  obtain ⟨V1, hV1⟩ : ∃ V, V = w.alloc (.cells #[(ptr D)] 71) := ⟨_, rfl⟩
  obtain ⟨V2, hV2⟩ : ∃ V, V = V1.alloc (.cells #[(.func (.func gf) #[] gc)] 75) := ⟨_, rfl⟩
  obtain ⟨V3, hV3⟩ : ∃ V, V = V2.alloc (.cells #[.nilFunc] 75) := ⟨_, rfl⟩
  have s1 : V1.heap.size = w.heap.size + 1 := by rw [hV1]; simp
  have s2 : V2.heap.size = w.heap.size + 2 := by rw [hV2]; simp [s1]
  have E1 : Ext w V1 := by rw [hV1]; exact (Ext.refl _).alloc _
  have E2 : Ext V1 V2 := by rw [hV2]; exact (Ext.refl _).alloc _
  have E3 : Ext V2 V3 := by rw [hV3]; exact (Ext.refl _).alloc _
  have b1 : Box V1 w.heap.size 71 ((ptr D)) := by rw [hV1]; exact new_block w _
  have b2 : Box V2 (w.heap.size + 1) 75 ((.func (.func gf) #[] gc)) := by rw [hV2, ← s1]; exact new_block V1 _
  have b3 : Box V3 (w.heap.size + 2) 75 .nilFunc := by rw [hV3, ← s2]; exact new_block V2 _
  have hVV : (((w.alloc (.cells #[(ptr D)] 71)).alloc (.cells #[(.func (.func gf) #[] gc)] 75)).alloc (.cells #[.nilFunc] 75)) = V3 := by rw [hV3, hV2, hV1]
  have c4 : V3.cell? ⟨w.heap.size + 1 + 1, 0, none⟩ = some .nilFunc := b3.cell
  have k4 : V3.frozen? ⟨w.heap.size + 1 + 1, 0, none⟩ = false := Lib.frozen_of_heap b3 0
  have hst := fun fn first cap => run_store_func (P := Tryd.prog) c4 k4 fn first cap
  have HV := hide hVV
  have HE := hide ((E1.trans E2).trans E3)
  have HB1 := hide ((b1.ext E2).ext E3)
  have HB2 := hide (b2.ext E3)
  have HB3 := hide b3
  clear hVV b1 b2 b3 E1 E2 E3 hV1 hV2 hV3 s1 s2 V1 V2
  go_enter Tryd.func76, Tryd.ntmps76
  go_upto_region 2 with fail
  rw [unhide HV]
  clear HV
  go_wp2
  have fs : Fr (fun q => q = w.heap.size + 2) V3 (V3.setCell ⟨w.heap.size + 2, 0, none⟩ (pastedF w.heap.size)) := Fr.setCell (S := fun q => q = w.heap.size + 2) (Fr.refl _ _) (a := ⟨w.heap.size + 2, 0, none⟩) rfl _
  exact bodyPost_ret (v := pastedF w.heap.size) (by simp [results, Tryd.results76, go_sem, pastedF]) rfl ⟨rfl, fs.ext (unhide HE) (fun q hq => by omega), (unhide HB1).fr fs (by omega), (unhide HB2).fr fs (by omega), set_blk2 (unhide HB3) rfl⟩
set_option maxRecDepth 10000 in
set_option maxHeartbeats 8000000 in
theorem betweenState_any (D : Nat) (gf : FuncId) (gc : Array Value) (pf : FuncId) (pc : Array Value) (w : World) :
    Calls Tryd.prog 106 #[ptr D, .func (.func gf) #[] gc, .func (.func pf) #[] pc] w fun e w' => e = .returned (betweenF w.heap.size) ∧ Ext w w' ∧ Box w' w.heap.size 71 (ptr D) ∧ Box w' (w.heap.size + 1) 75 (.func (.func gf) #[] gc) ∧ Box w' (w.heap.size + 2) 75 (.func (.func pf) #[] pc) ∧ Box w' (w.heap.size + 3) 75 (betweenF w.heap.size) := by
  have hmf : ∀ (fn : Fn) (first cap : Array Value) (w : World), (Instr.makeFunc fn first cap).run Tryd.prog w = .ok (.func fn first cap) w := fun _ _ _ _ => rfl
  obtain ⟨V1, hV1⟩ : ∃ V, V = w.alloc (.cells #[(ptr D)] 71) := ⟨_, rfl⟩
  obtain ⟨V2, hV2⟩ : ∃ V, V = V1.alloc (.cells #[(.func (.func gf) #[] gc)] 75) := ⟨_, rfl⟩
  obtain ⟨V3, hV3⟩ : ∃ V, V = V2.alloc (.cells #[(.func (.func pf) #[] pc)] 75) := ⟨_, rfl⟩
  obtain ⟨V4, hV4⟩ : ∃ V, V = V3.alloc (.cells #[.nilFunc] 75) := ⟨_, rfl⟩
  have s1 : V1.heap.size = w.heap.size + 1 := by rw [hV1]; simp
  have s2 : V2.heap.size = w.heap.size + 2 := by rw [hV2]; simp [s1]
  have s3 : V3.heap.size = w.heap.size + 3 := by rw [hV3]; simp [s2]
  have E1 : Ext w V1 := by rw [hV1]; exact (Ext.refl _).alloc _
  have E2 : Ext V1 V2 := by rw [hV2]; exact (Ext.refl _).alloc _
  have E3 : Ext V2 V3 := by rw [hV3]; exact (Ext.refl _).alloc _
  have E4 : Ext V3 V4 := by rw [hV4]; exact (Ext.refl _).alloc _
  have b1 : Box V1 w.heap.size 71 ((ptr D)) := by rw [hV1]; exact new_block w _
  have b2 : Box V2 (w.heap.size + 1) 75 ((.func (.func gf) #[] gc)) := by rw [hV2, ← s1]; exact new_block V1 _
  have b3 : Box V3 (w.heap.size + 2) 75 ((.func (.func pf) #[] pc)) := by rw [hV3, ← s2]; exact new_block V2 _
  have b4 : Box V4 (w.heap.size + 3) 75 .nilFunc := by rw [hV4, ← s3]; exact new_block V3 _
  have hVV : ((((w.alloc (.cells #[(ptr D)] 71)).alloc (.cells #[(.func (.func gf) #[] gc)] 75)).alloc (.cells #[(.func (.func pf) #[] pc)] 75)).alloc (.cells #[.nilFunc] 75)) = V4 := by rw [hV4, hV3, hV2, hV1]
  have c4 : V4.cell? ⟨w.heap.size + 1 + 1 + 1, 0, none⟩ = some .nilFunc := b4.cell
  have k4 : V4.frozen? ⟨w.heap.size + 1 + 1 + 1, 0, none⟩ = false := Lib.frozen_of_heap b4 0
  have hst := fun fn first cap => run_store_func (P := Tryd.prog) c4 k4 fn first cap
  have HV := hide hVV
  have HE := hide (((E1.trans E2).trans E3).trans E4)
  have HB1 := hide (((b1.ext E2).ext E3).ext E4)
  have HB2 := hide ((b2.ext E3).ext E4)
  have HB3 := hide (b3.ext E4)
  have HB4 := hide b4
  clear hVV b1 b2 b3 b4 E1 E2 E3 E4 hV1 hV2 hV3 hV4 s1 s2 s3 V1 V2 V3
  go_enter Tryd.func106, Tryd.ntmps106
  go_upto_region 2 with fail
  rw [unhide HV]
  clear HV
  go_wp2
  have fs : Fr (fun q => q = w.heap.size + 3) V4 (V4.setCell ⟨w.heap.size + 3, 0, none⟩ (betweenF w.heap.size)) := Fr.setCell (S := fun q => q = w.heap.size + 3) (Fr.refl _ _) (a := ⟨w.heap.size + 3, 0, none⟩) rfl _
  exact bodyPost_ret (v := betweenF w.heap.size) (by simp [results, Tryd.results106, go_sem, betweenF]) rfl ⟨rfl, fs.ext (unhide HE) (fun q hq => by omega), (unhide HB1).fr fs (by omega), (unhide HB2).fr fs (by omega), (unhide HB3).fr fs (by omega), set_blk2 (unhide HB4) rfl⟩
end Go.Proofs.YtbieoijeilhadaaDoor

namespace Go.Proofs.YtbieoijeilhadaaDoor
open Go.RowKit Go.Maps
theorem run_store_new {P : Program} (W : World) (T : TypeId) (n : Nat) (hn : n = W.heap.size) (fn : Fn) (first cap : Array Value) : (store ⟨n, 0, none⟩ (.func fn first cap)).run P (W.alloc (.cells #[.nilFunc] T)) = .ok () ((W.alloc (.cells #[.nilFunc] T)).setCell ⟨n, 0, none⟩ (.func fn first cap)) := by
  subst hn
  have n4 := new_block W (.cells #[.nilFunc] T)
  exact run_store_func (cells_of n4 0 _ rfl) (Lib.frozen_of_heap n4 0) fn first cap
def BetAt (w : World) (q D : Nat) (g p : Value) : Prop :=
  Box w q 71 (ptr D) ∧ Box w (q + 1) 75 g ∧ Box w (q + 2) 75 p ∧ Box w (q + 3) 75 (betweenF q)
def EscAt (w : World) (q y z D : Nat) (g p : Value) : Prop :=
  Box w q 71 (ptr D) ∧ Box w (q + 1) 75 g ∧ Box w (q + 2) 74 (singleF q) ∧ Box w z 75 (betweenF y) ∧ BetAt w y D g p
theorem BetAt.fr {S : Nat → Prop} {w w' : World} {q D : Nat} {g p : Value} (h : BetAt w q D g p) (hf : Fr S w w') (hS : ∀ k, q ≤ k → k ≤ q + 3 → ¬ S k) : BetAt w' q D g p :=
  ⟨h.1.fr hf (hS _ (by omega) (by omega)), h.2.1.fr hf (hS _ (by omega) (by omega)), h.2.2.1.fr hf (hS _ (by omega) (by omega)), h.2.2.2.fr hf (hS _ (by omega) (by omega))⟩
theorem BetAt.ext {w w' : World} {q D : Nat} {g p : Value} (h : BetAt w q D g p) (he : Ext w w') : BetAt w' q D g p := ⟨h.1.ext he, h.2.1.ext he, h.2.2.1.ext he, h.2.2.2.ext he⟩
set_option maxRecDepth 10000 in
set_option maxHeartbeats 8000000 in
theorem escapeState_any (D : Nat) (gf : FuncId) (gc : Array Value) (pf : FuncId) (pc : Array Value) (w : World) :
    Calls Tryd.prog 77 #[ptr D, .func (.func gf) #[] gc, .func (.func pf) #[] pc] w fun e w' => (∃ y z, e = .returned (escapedF w.heap.size z) ∧ EscAt w' w.heap.size y z D (.func (.func gf) #[] gc) (.func (.func pf) #[] pc) ∧ w.heap.size + 2 < y ∧ y + 3 < z ∧ z < w'.heap.size) ∧ Ext w w' := by
  have hmf : ∀ (fn : Fn) (first cap : Array Value) (w : World), (Instr.makeFunc fn first cap).run Tryd.prog w = .ok (.func fn first cap) w := fun _ _ _ _ => rfl
  obtain ⟨V1, hV1⟩ : ∃ V, V = w.alloc (.cells #[ptr D] 71) := ⟨_, rfl⟩
  obtain ⟨V2, hV2⟩ : ∃ V, V = V1.alloc (.cells #[.func (.func gf) #[] gc] 75) := ⟨_, rfl⟩
  obtain ⟨U, hU⟩ : ∃ V, V = V2.alloc (.cells #[singleF w.heap.size] 74) := ⟨_, rfl⟩
  have s1 : V1.heap.size = w.heap.size + 1 := by rw [hV1]; simp
  have s2 : V2.heap.size = w.heap.size + 2 := by rw [hV2]; simp [s1]
  have E1 : Ext w V1 := by rw [hV1]; exact (Ext.refl _).alloc _
  have E2 : Ext V1 V2 := by rw [hV2]; exact (Ext.refl _).alloc _
  have E3 : Ext V2 U := by rw [hU]; exact (Ext.refl _).alloc _
  have b1 : Box V1 w.heap.size 71 (ptr D) := by rw [hV1]; exact new_block w _
  have b2 : Box V2 (w.heap.size + 1) 75 (.func (.func gf) #[] gc) := by rw [hV2, ← s1]; exact new_block V1 _
  have b3 : Box U (w.heap.size + 2) 74 (singleF w.heap.size) := by rw [hU, ← s2]; exact new_block V2 _
  have HB1 := hide ((b1.ext E2).ext E3)
  have HB2 := hide (b2.ext E3)
  have HB3 := hide b3
  have HE := hide ((E1.trans E2).trans E3)
  have d1 := (unhide HB1).cell
  have d2 := (unhide HB2).cell
  have HU := hide (show ((w.alloc (.cells #[ptr D] 71)).alloc (.cells #[.func (.func gf) #[] gc] 75)).alloc (.cells #[.func (.func 103) #[] #[.pointer (some ⟨w.heap.size, 0, none⟩), .pointer (some ⟨w.heap.size + 1, 0, none⟩)]] 74) = U by rw [hU, hV2, hV1]; rfl)
  clear b1 b2 b3 E1 E2 E3 hV1 hV2 s1 s2 V1 V2 hU
  have hst := fun fn first cap => run_store_new (P := Tryd.prog) ((w.alloc (.cells #[ptr D] 71)).alloc (.cells #[.func (.func gf) #[] gc] 75)) 74 (w.heap.size + 1 + 1) (by simp) fn first cap
  go_enter Tryd.func77, Tryd.ntmps77
  go_upto_region 2 with fail
  rw [unhide HU]
  clear HU hst
  go_wp2_with fail
  refine (betweenState_any D gf gc pf pc U).mono ?_
  rintro e w1 ⟨rfl, F1, y1, y2, y3, y4⟩
  have z4 := y4.lt
  have HY := hide (show BetAt w1 U.heap.size D (.func (.func gf) #[] gc) (.func (.func pf) #[] pc) from ⟨y1, y2, y3, y4⟩)
  have HF := hide F1
  have hbf : betweenF U.heap.size = .func (.func 118) #[] #[ptr U.heap.size, ptr (U.heap.size + 3), ptr (U.heap.size + 1), ptr (U.heap.size + 2)] := rfl
  rw [hbf]
  clear y1 y2 y3 y4 d1 d2 F1
  have hst := fun fn first cap => run_store_new (P := Tryd.prog) w1 75 w1.heap.size rfl fn first cap
  go_wp2
  have F2 := (Ext.refl w1).alloc (.cells #[betweenF U.heap.size] 75)
  have F3 := (unhide HF).trans F2
  have hz : (w1.alloc (.cells #[betweenF U.heap.size] 75)).heap.size = w1.heap.size + 1 := by simp
  exact bodyPost_ret (v := escapedF w.heap.size w1.heap.size) (by simp [results, Tryd.results77, go_sem, escapedF]) rfl ⟨⟨U.heap.size, w1.heap.size, rfl, ⟨(unhide HB1).ext F3, (unhide HB2).ext F3, (unhide HB3).ext F3, new_block w1 _, (unhide HY).ext F2⟩, (unhide HB3).lt, z4, by show w1.heap.size < (w1.alloc (.cells #[betweenF U.heap.size] 75)).heap.size; rw [hz]; omega⟩, (unhide HE).trans F3⟩
def StsAt (w : World) (D q r s t y z : Nat) : Prop :=
  Box w q 71 (ptr D) ∧ Box w (q + 1) 75 (groundF q (q + 1) (q + 2) (q + 3)) ∧ Box w (q + 2) 75 (begunF r) ∧ Box w (q + 3) 75 (escapedF t z) ∧
  (Box w r 126 (ptr D) ∧ Box w (r + 1) 75 (groundF q (q + 1) (q + 2) (q + 3)) ∧ Box w (r + 2) 83 (foundF D) ∧ Box w (r + 3) 75 (begunF r)) ∧
  (Box w s 71 (ptr D) ∧ Box w (s + 1) 75 (groundF q (q + 1) (q + 2) (q + 3)) ∧ Box w (s + 2) 75 (pastedF s)) ∧
  EscAt w t y z D (groundF q (q + 1) (q + 2) (q + 3)) (pastedF s)
def StartOut (w w' : World) (D : Nat) (p : Bool) (e : Ending) : Prop :=
  ∃ q r s t y z, e = .returned (if p = true then pastedF s else groundF q (q + 1) (q + 2) (q + 3)) ∧ StsAt w' D q r s t y z ∧ w.heap.size ≤ q ∧ q + 3 < r ∧ r + 3 < s ∧ s + 2 < t ∧ t + 2 < y ∧ y + 3 < z ∧ z < w'.heap.size
set_option linter.unusedSimpArgs false in
set_option maxRecDepth 10000 in
set_option maxHeartbeats 8000000 in
theorem start_any (D : Nat) (hv kv m1 m2 m3 : Value) (p : Bool) (w : World) (hB : w.heap[D]? = some (.cells #[hv, .bool p, kv, m1, m2, m3] 82 (0, 0))) :
    Calls Tryd.prog 38 #[ptr D] w fun e w' => StartOut w w' D p e ∧ Ext w w' := by
  have hmf : ∀ (fn : Fn) (first cap : Array Value) (w : World), (Instr.makeFunc fn first cap).run Tryd.prog w = .ok (.func fn first cap) w := fun _ _ _ _ => rfl
  have hD := lt_of_block hB
  obtain ⟨V1, hV1⟩ : ∃ V, V = w.alloc (.cells #[ptr D] 71) := ⟨_, rfl⟩
  obtain ⟨V2, hV2⟩ : ∃ V, V = V1.alloc (.cells #[.nilFunc] 75) := ⟨_, rfl⟩
  obtain ⟨V3, hV3⟩ : ∃ V, V = V2.alloc (.cells #[.nilFunc] 75) := ⟨_, rfl⟩
  obtain ⟨V4, hV4⟩ : ∃ V, V = V3.alloc (.cells #[.nilFunc] 75) := ⟨_, rfl⟩
  have s1 : V1.heap.size = w.heap.size + 1 := by rw [hV1]; simp
  have s2 : V2.heap.size = w.heap.size + 2 := by rw [hV2]; simp [s1]
  have s3 : V3.heap.size = w.heap.size + 3 := by rw [hV3]; simp [s2]
  have s4 : V4.heap.size = w.heap.size + 4 := by rw [hV4]; simp [s3]
  have E1 : Ext w V1 := by rw [hV1]; exact (Ext.refl _).alloc _
  have E2 : Ext V1 V2 := by rw [hV2]; exact (Ext.refl _).alloc _
  have E3 : Ext V2 V3 := by rw [hV3]; exact (Ext.refl _).alloc _
  have E4 : Ext V3 V4 := by rw [hV4]; exact (Ext.refl _).alloc _
  have b1 : Box V1 w.heap.size 71 (ptr D) := by rw [hV1]; exact new_block w _
  have b2 : Box V2 (w.heap.size + 1) 75 .nilFunc := by rw [hV2, ← s1]; exact new_block V1 _
  have b3 : Box V3 (w.heap.size + 2) 75 .nilFunc := by rw [hV3, ← s2]; exact new_block V2 _
  have b4 : Box V4 (w.heap.size + 3) 75 .nilFunc := by rw [hV4, ← s3]; exact new_block V3 _
  have hVV : (((w.alloc (.cells #[ptr D] 71)).alloc (.cells #[.nilFunc] 75)).alloc (.cells #[.nilFunc] 75)).alloc (.cells #[.nilFunc] 75) = V4 := by rw [hV4, hV3, hV2, hV1]
  have HE := hide (((E1.trans E2).trans E3).trans E4)
  have B1 := ((b1.ext E2).ext E3).ext E4
  have B2 := (b2.ext E3).ext E4
  have B3 := b3.ext E4
  have c2 : V4.cell? ⟨w.heap.size + 1, 0, none⟩ = some .nilFunc := B2.cell
  have k2 : V4.frozen? ⟨w.heap.size + 1, 0, none⟩ = false := Lib.frozen_of_heap B2 0
  have hst := fun fn first cap => run_store_func (P := Tryd.prog) c2 k2 fn first cap
  have HV := hide hVV
  obtain ⟨G, hG⟩ : ∃ G, G = groundF w.heap.size (w.heap.size + 1) (w.heap.size + 2) (w.heap.size + 3) := ⟨_, rfl⟩
  obtain ⟨U, hU⟩ : ∃ U, U = V4.setCell ⟨w.heap.size + 1, 0, none⟩ G := ⟨_, rfl⟩
  have fs : Fr (fun q => q = w.heap.size + 1) V4 U := by rw [hU]; exact Fr.setCell (S := fun q => q = w.heap.size + 1) (Fr.refl _ _) (a := ⟨w.heap.size + 1, 0, none⟩) rfl _
  have HU := hide (show V4.setCell ⟨w.heap.size + 1, 0, none⟩ (.func (.func 72) #[] #[.pointer (some ⟨w.heap.size, 0, none⟩), .pointer (some ⟨w.heap.size + 1 + 1 + 1, 0, none⟩), .pointer (some ⟨w.heap.size + 1 + 1, 0, none⟩), .pointer (some ⟨w.heap.size + 1, 0, none⟩)]) = U by rw [hU, hG]; rfl)
  have HU1 := hide (B1.fr fs (by omega))
  have HU2 : Hid (Box U (w.heap.size + 1) 75 G) := hide (by rw [hU]; exact set_blk2 B2 rfl)
  have HU3 := hide (B3.fr fs (by omega))
  have HU4 := hide (b4.fr fs (by omega))
  have HUE := hide (fs.ext (unhide HE) (fun q hq => by omega))
  have HB := hide hB
  have zU : w.heap.size + 4 ≤ U.heap.size := by have := fs.size; omega
  have HG := hide hG
  clear hVV b1 b2 b3 b4 B1 B2 B3 E1 E2 E3 E4 hV1 hV2 hV3 hV4 s1 s2 s3 s4 V1 V2 V3 fs hU hB c2 k2 HE
  go_enter Tryd.func38, Tryd.ntmps38
  go_upto_region 2 with fail
  rw [unhide HV]
  clear HV
  go_upto_region 3 with fail
  rw [unhide HU]
  clear HU hst
  subst hG
  clear HG
  refine wp_region_held_drew (S := fun W => W.cell? ⟨w.heap.size, 0, none⟩ = some (ptr D) ∧ W.cell? ⟨w.heap.size + 1, 0, none⟩ = some (groundF w.heap.size (w.heap.size + 1) (w.heap.size + 2) (w.heap.size + 3))) (by kernel_rfl) ⟨(unhide HU1).cell, (unhide HU2).cell⟩ (fun hHeld => ?_)
  refine wpAnyH_take (i := 0) (v := ?_) rfl (by kernel_rfl) (by kernel_rfl) (by kernel_rfl) (fun _ _ _ h => h) (Or.inl ⟨by rfl, ?_⟩) (by assumption) ?_
  rotate_left
  · intro w' hSw; obtain ⟨e1, e2⟩ := hSw; go_simp <;> with_reducible rfl
  simp only [Act.put, qA, qB, qC, qD, qE, qF]
  refine wpAnyH_take (i := 1) (v := ?_) rfl (by kernel_rfl) (by kernel_rfl) (by kernel_rfl) (fun _ _ _ h => h) (Or.inl ⟨by rfl, ?_⟩) (by assumption) ?_
  rotate_left
  · intro w' hSw; obtain ⟨e1, e2⟩ := hSw; go_simp <;> with_reducible rfl
  simp only [Act.put, qA, qB, qC, qD, qE, qF]
  refine wpAnyH_take (i := 2) (v := ?_) rfl (by kernel_rfl) (by kernel_rfl) (by kernel_rfl) (fun _ _ _ h => h) (Or.inl ⟨by rfl, ?_⟩) (by assumption) ?_
  rotate_left
  · intro w' hSw; obtain ⟨e1, e2⟩ := hSw; go_simp <;> with_reducible rfl
  simp only [Act.put, qA, qB, qC, qD, qE, qF]
  refine wpAnyH_take (i := 3) (v := ?_) rfl (by kernel_rfl) (by kernel_rfl) (by kernel_rfl) (fun _ _ _ h => h) (Or.inl ⟨by rfl, ?_⟩) (by assumption) ?_
  rotate_left
  · intro w' hSw; obtain ⟨e1, e2⟩ := hSw; go_simp <;> with_reducible rfl
  simp only [Act.put, qA, qB, qC, qD, qE, qF]
  refine wpAnyH_take (i := 4) (v := ?_) rfl (by kernel_rfl) (by kernel_rfl) (by kernel_rfl) (fun _ _ _ h => h) (Or.inl ⟨by rfl, ?_⟩) (by assumption) ?_
  rotate_left
  · intro w' hSw; obtain ⟨e1, e2⟩ := hSw; go_simp <;> with_reducible rfl
  simp only [Act.put, qA, qB, qC, qD, qE, qF]
  refine wpAnyH_take (i := 5) (v := ?_) rfl (by kernel_rfl) (by kernel_rfl) (by kernel_rfl) (fun _ _ _ h => h) (Or.inl ⟨by rfl, ?_⟩) (by assumption) ?_
  rotate_left
  · intro w' hSw; obtain ⟨e1, e2⟩ := hSw; go_simp <;> with_reducible rfl
  simp only [Act.put, qA, qB, qC, qD, qE, qF]
  have GV := (Ext.refl U).drew
  replace HU1 := hide ((unhide HU1).ext GV)
  replace HU2 := hide ((unhide HU2).ext GV)
  replace HU3 := hide ((unhide HU3).ext GV)
  replace HU4 := hide ((unhide HU4).ext GV)
  replace HUE := hide ((unhide HUE).trans GV)
  have zG := GV.size
  clear GV
  generalize U.drew = W0 at *
  refine wpAnyH_ready (rs := [6]) (by kernel_rfl) (by simp) ?_
  refine AllReadyH.cons rfl (fun K hK => ?_) AllReadyH.nil
  go_simp
  refine (runeState_any D _ _ _ _ W0).mono ?_
  rintro e W1 ⟨rfl, F1, r1, r2, r3, r4⟩
  replace HU1 := hide ((unhide HU1).ext F1)
  replace HU2 := hide ((unhide HU2).ext F1)
  replace HU3 := hide ((unhide HU3).ext F1)
  replace HU4 := hide ((unhide HU4).ext F1)
  replace HUE := hide ((unhide HUE).trans F1)
  have zr := r4.lt
  have HR := hide (And.intro r1 (And.intro r2 (And.intro r3 r4)))
  clear r1 r2 r3 r4 F1
  rw [show begunF W0.heap.size = .func (.func 97) #[] #[ptr W0.heap.size, ptr (W0.heap.size + 3), ptr (W0.heap.size + 2), ptr (W0.heap.size + 1)] from rfl]
  refine hK.out _ _ ⟨(unhide HU1).cell, (unhide HU2).cell⟩ (fun hHeld => ?_)
  clear hK K
  have hst0 : (store ⟨w.heap.size + 1 + 1, 0, none⟩ (begunF W0.heap.size)).run Tryd.prog W1 = .ok () (W1.setCell ⟨w.heap.size + 1 + 1, 0, none⟩ (begunF W0.heap.size)) := run_store_func (unhide HU3).cell (Lib.frozen_of_heap (unhide HU3) 0) _ _ _
  have hst := fun fn first cap => run_store_func (P := Tryd.prog) (a := ⟨w.heap.size + 1 + 1, 0, none⟩) (unhide HU3).cell (Lib.frozen_of_heap (unhide HU3) 0) fn first cap
  clear hst0
  obtain ⟨X, hX⟩ : ∃ X, X = W1.setCell ⟨w.heap.size + 1 + 1, 0, none⟩ (begunF W0.heap.size) := ⟨_, rfl⟩
  have fs : Fr (fun q => q = w.heap.size + 2) W1 X := by rw [hX]; exact Fr.setCell (S := fun q => q = w.heap.size + 2) (Fr.refl _ _) (a := ⟨w.heap.size + 2, 0, none⟩) rfl _
  have HX3 : Hid (Box X (w.heap.size + 2) 75 (begunF W0.heap.size)) := hide (by rw [hX]; exact set_blk2 (unhide HU3) rfl)
  replace HU1 := hide ((unhide HU1).fr fs (by omega))
  replace HU2 := hide ((unhide HU2).fr fs (by omega))
  replace HU4 := hide ((unhide HU4).fr fs (by omega))
  replace HUE := hide (fs.ext (unhide HUE) (fun q hq => by omega))
  replace HR := hide (And.intro ((unhide HR).1.fr fs (by omega)) (And.intro ((unhide HR).2.1.fr fs (by omega)) (And.intro ((unhide HR).2.2.1.fr fs (by omega)) ((unhide HR).2.2.2.fr fs (by omega)))))
  have zX := fs.size
  have HXX := hide (show W1.setCell ⟨w.heap.size + 1 + 1, 0, none⟩ (.func (.func 97) #[] #[ptr W0.heap.size, ptr (W0.heap.size + 3), ptr (W0.heap.size + 2), ptr (W0.heap.size + 1)]) = X from hX.symm)
  clear fs hX HU3
  refine wpAnyH_ready (rs := [7]) (by kernel_rfl) (by simp) ?_
  refine AllReadyH.cons rfl (fun K hK => ?_) AllReadyH.nil
  go_simp
  rw [unhide HXX]
  refine hK.out _ _ ⟨(unhide HU1).cell, (unhide HU2).cell⟩ (fun hHeld => ?_)
  clear hK K hst HXX
  refine wpAnyH_done (by kernel_rfl) ?_ _
  have d1 := (unhide HU1).cell
  have d2 := (unhide HU2).cell
  go_wp2_with fail
  refine (pasteState_any D _ _ X).mono ?_
  rintro e W2 ⟨rfl, F2, p1, p2, p3⟩
  replace HU1 := hide ((unhide HU1).ext F2)
  replace HU2 := hide ((unhide HU2).ext F2)
  replace HU4 := hide ((unhide HU4).ext F2)
  replace HX3 := hide ((unhide HX3).ext F2)
  replace HUE := hide ((unhide HUE).trans F2)
  replace HR := hide (And.intro ((unhide HR).1.ext F2) (And.intro ((unhide HR).2.1.ext F2) (And.intro ((unhide HR).2.2.1.ext F2) ((unhide HR).2.2.2.ext F2))))
  have zp := p3.lt
  have HP := hide (And.intro p1 (And.intro p2 p3))
  clear p1 p2 p3 F2 d1 d2
  have d1 := (unhide HU1).cell
  have d2 := (unhide HU2).cell
  go_wp2_with fail
  refine (escapeState_any D _ _ _ _ W2).mono ?_
  rintro e W3 ⟨⟨y, z, rfl, es, hy, hz, hzs⟩, F3⟩
  replace HU1 := hide ((unhide HU1).ext F3)
  replace HU2 := hide ((unhide HU2).ext F3)
  replace HU4 := hide ((unhide HU4).ext F3)
  replace HX3 := hide ((unhide HX3).ext F3)
  replace HUE := hide ((unhide HUE).trans F3)
  replace HR := hide (And.intro ((unhide HR).1.ext F3) (And.intro ((unhide HR).2.1.ext F3) (And.intro ((unhide HR).2.2.1.ext F3) ((unhide HR).2.2.2.ext F3))))
  replace HP := hide (And.intro ((unhide HP).1.ext F3) (And.intro ((unhide HP).2.1.ext F3) ((unhide HP).2.2.ext F3)))
  have HES := hide es
  have z3 := F3.size
  clear F3 d1 d2 es
  rw [show escapedF W2.heap.size z = .func (.func 107) #[] #[ptr W2.heap.size, ptr z, ptr (W2.heap.size + 2), ptr (W2.heap.size + 1)] from rfl]
  have hst := fun fn first cap => run_store_func (P := Tryd.prog) (a := ⟨w.heap.size + 1 + 1 + 1, 0, none⟩) (unhide HU4).cell (Lib.frozen_of_heap (unhide HU4) 0) fn first cap
  obtain ⟨Y, hY⟩ : ∃ Y, Y = W3.setCell ⟨w.heap.size + 3, 0, none⟩ (escapedF W2.heap.size z) := ⟨_, rfl⟩
  have fs : Fr (fun q => q = w.heap.size + 3) W3 Y := by rw [hY]; exact Fr.setCell (S := fun q => q = w.heap.size + 3) (Fr.refl _ _) (a := ⟨w.heap.size + 3, 0, none⟩) rfl _
  have HYY := hide (show W3.setCell ⟨w.heap.size + 1 + 1 + 1, 0, none⟩ (.func (.func 107) #[] #[ptr W2.heap.size, ptr z, ptr (W2.heap.size + 2), ptr (W2.heap.size + 1)]) = Y from hY.symm)
  have HX4 : Hid (Box Y (w.heap.size + 3) 75 (escapedF W2.heap.size z)) := hide (by rw [hY]; exact set_blk2 (unhide HU4) rfl)
  replace HU1 := hide ((unhide HU1).fr fs (by omega))
  replace HU2 := hide ((unhide HU2).fr fs (by omega))
  replace HX3 := hide ((unhide HX3).fr fs (by omega))
  replace HUE := hide (fs.ext (unhide HUE) (fun q hq => by omega))
  replace HR := hide (And.intro ((unhide HR).1.fr fs (by omega)) (And.intro ((unhide HR).2.1.fr fs (by omega)) (And.intro ((unhide HR).2.2.1.fr fs (by omega)) ((unhide HR).2.2.2.fr fs (by omega)))))
  replace HP := hide (And.intro ((unhide HP).1.fr fs (by omega)) (And.intro ((unhide HP).2.1.fr fs (by omega)) ((unhide HP).2.2.fr fs (by omega))))
  have es := unhide HES
  replace HES : Hid (EscAt Y W2.heap.size y z D (groundF w.heap.size (w.heap.size + 1) (w.heap.size + 2) (w.heap.size + 3)) (pastedF X.heap.size)) := hide ⟨es.1.fr fs (by omega), es.2.1.fr fs (by omega), es.2.2.1.fr fs (by omega), es.2.2.2.1.fr fs (by omega), es.2.2.2.2.fr fs (fun k h1 h2 => by omega)⟩
  have hDY := cells_of ((unhide HUE).kept (unhide HB)) 1 _ rfl
  have d1 := (unhide HU1).cell
  have d2 := (unhide HU2).cell
  have zY := fs.size
  clear fs hY HU4 es
  go_upto_region 6 with fail
  rw [unhide HYY]
  clear HYY hst
  have HST := hide (show StsAt Y D w.heap.size W0.heap.size X.heap.size W2.heap.size y z from ⟨unhide HU1, unhide HU2, unhide HX3, unhide HX4, unhide HR, unhide HP, unhide HES⟩)
  cases p with
  | true =>
    go_wp2
    exact bodyPost_ret (v := pastedF X.heap.size) (by simp [results, Tryd.results38, go_sem]) rfl ⟨⟨w.heap.size, W0.heap.size, X.heap.size, W2.heap.size, y, z, rfl, unhide HST, Nat.le_refl _, by omega, by omega, by omega, by omega, by omega, by omega⟩, unhide HUE⟩
  | false =>
    go_wp2
    exact bodyPost_ret (v := groundF w.heap.size (w.heap.size + 1) (w.heap.size + 2) (w.heap.size + 3)) (by simp [results, Tryd.results38, go_sem]) rfl ⟨⟨w.heap.size, W0.heap.size, X.heap.size, W2.heap.size, y, z, rfl, unhide HST, Nat.le_refl _, by omega, by omega, by omega, by omega, by omega, by omega⟩, unhide HUE⟩
end Go.Proofs.YtbieoijeilhadaaDoor
