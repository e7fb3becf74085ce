import Derived.Maps.Own
import Derived.Test.YtmlkpdbfnffoaaaGreatDoorGap
import Derived.Deep.DeepCutAuto
set_option maxHeartbeats 8000000
set_option maxRecDepth 10000
namespace Go.Proofs.YtmlkpdbfnffoaaaGreatDoor
open Go.RowKit Go.Maps Go.MapKept
open Go.ChangeMaps (setBlock heap_setBlock_same heap_setBlock_other)
def zfI : Nat → List (Int × Value) → List MapEntry
 | _, [] => []
 | i, (c, v) :: l => { key := .int .i64 c, val := v, born := i } :: zfI (i + 1) l
def zeA (l : List (Int × Value)) : Obj := .map (zfI 0 l).toArray l.length
theorem zh3 (c : Int) (v : Value) : ∀ (l : List (Int × Value)) (i : Nat), zfI i (l ++ [(c, v)]) = zfI i l ++ [{ key := .int .i64 c, val := v, born := i + l.length }]
 | [], i => by simp [zfI]
 | (d, u) :: l, i => by
  rw [List.cons_append, zfI, zh3 c v l (i + 1), zfI]
  simp
  omega
theorem zfJ (c : Int) : ∀ (l : List (Int × Value)) (i j : Nat), (∀ x ∈ l, x.1 ≠ c) → Instr.findNow (.int .i64) (.int .i64 c) (zfI i l) j = some none
 | [], _, _, _ => rfl
 | (d, u) :: l, i, j, h => by
  have h1 : d ≠ c := h (d, u) (by simp)
  have h2 : (c == d) = false := by simp; exact fun e => h1 e.symm
  rw [zfI, Instr.findNow]
  simp only [Instr.sameNow, h2, if_true]
  exact zfJ c l (i + 1) (j + 1) (fun x hx => h x (by simp [hx]))
theorem zh0 (c : Int) (v : Value) : ∀ (l : List (Int × Value)) (i j : Nat), (l.find? (fun x => x.1 == c)).map (·.2) = some v → ∃ n, Instr.findNow (.int .i64) (.int .i64 c) (zfI i l) j = some (some (n, v))
 | [], _, _, h => by simp at h
 | (d, u) :: l, i, j, h => by
  by_cases e : d = c
  ·subst e
   simp at h
   subst h
   rw [zfI, Instr.findNow]
   simp [Instr.sameNow]
  ·have h2 : (c == d) = false := by simp; exact fun x => e x.symm
   have h3 : (d == c) = false := by simp [e]
   rw [List.find?_cons] at h
   simp only [h3] at h
   obtain ⟨n, hn⟩ := zh0 c v l (i + 1) (j + 1) h
   refine ⟨n, ?_⟩
   rw [zfI, Instr.findNow]
   simp only [Instr.sameNow, h2, if_true]
   exact hn
section
variable {P : Program}
theorem run_ck (b : Bool) (n : Nat) {w : World} {k : TypeId} (hk : P.underlying k = some (.int .i64)) (c : Int) : (Instr.checkKey b (n + 1) k (.int .i64 c)).run P w = .ok () w := by
 simp [Instr.checkKey, run_underlying hk]
theorem ziw (b : Bool) {w : World} {k : TypeId} (hk : P.underlying k = some (.int .i64)) (c : Int) : (Instr.checkKey b 10000 k (.int .i64 c)).run P w = .ok () w := run_ck b 9999 hk c
theorem zkG {w : World} {k : TypeId} (hk : P.underlying k = some (.int .i64)) (c : Int) (es : List MapEntry) (r : Option (Nat × Value)) (h : Instr.findNow (.int .i64) (.int .i64 c) es 0 = some r) : (Instr.findKey k (.int .i64 c) es).run P w = .ok r w := by
 simp [Instr.findKey, run_underlying hk, h]
theorem zgy {w : World} {t k e : TypeId} {b : Nat} {l : List (Int × Value)} {c : Int} {v : Value} (ht : P.underlying t = some (.map k e)) (hk : P.underlying k = some (.int .i64)) (hb : w.heap[b]? = some (zeA l)) (hn : ∀ x ∈ l, x.1 ≠ c) :
  (Instr.mapUpdate t (.map (some b)) (.int .i64 c) v).run P w = .ok () (setBlock w b (zeA (l ++ [(c, v)]))) := by
 have hf := zkG (P := P) (w := w) hk c _ _ (zfJ c l 0 0 hn)
 have hm : zeA (l ++ [(c, v)]) = .map ((zfI 0 l).toArray.push { key := .int .i64 c, val := v, born := l.length }) (l.length + 1) := by
  unfold zeA
  rw [zh3]
  simp
 rw [hm]
 unfold zeA at hb
 simp [Instr.mapUpdate, run_underlying ht, ziw _ hk, hf, Go.MapKept.run_getObj_map hb, Go.MapKept.run_setObj_map _ hb, setBlock]
theorem zgf {w : World} {t k e : TypeId} {b : Nat} {l : List (Int × Value)} {c : Int} {v : Value} (ht : P.underlying t = some (.map k e)) (hk : P.underlying k = some (.int .i64)) (hb : w.heap[b]? = some (zeA l)) (hl : (l.find? (fun x => x.1 == c)).map (·.2) = some v) :
  (Instr.lookup t (.map (some b)) (.int .i64 c) true).run P w = .ok (.tuple #[v, .bool true]) w := by
 obtain ⟨n, hn⟩ := zh0 c v l 0 0 hl
 have hf := zkG (P := P) (w := w) hk c _ _ hn
 unfold zeA at hb
 simp [Instr.lookup, run_underlying ht, ziw _ hk, hf, Go.MapKept.run_getObj_map hb]
theorem zgk {w : World} {t k e : TypeId} {b : Nat} {l : List (Int × Value)} {c : Int} {z : Value} (ht : P.underlying t = some (.map k e)) (hk : P.underlying k = some (.int .i64)) (hb : w.heap[b]? = some (zeA l)) (hn : ∀ x ∈ l, x.1 ≠ c) (hz : (zeroValue e).run P w = .ok z w) :
  (Instr.lookup t (.map (some b)) (.int .i64 c) true).run P w = .ok (.tuple #[z, .bool false]) w := by
 have hf := zkG (P := P) (w := w) hk c _ _ (zfJ c l 0 0 hn)
 unfold zeA at hb
 simp [Instr.lookup, run_underlying ht, ziw _ hk, hf, Go.MapKept.run_getObj_map hb, hz]
theorem ziZ {w : World} (b : Nat) (o : Obj) : Fr (fun q => q = b) w (setBlock w b o) :=
 ⟨rfl, rfl, rfl, by simp [setBlock], fun i hi hn => by simp [setBlock, show ¬ b = i from fun e => hn e.symm]⟩
theorem zc4 {w : World} {ops : Array Oper} {rest : List Oper} {o : Oper} {a : Act} {Q : Exit → Act → World → Prop} (hgd : o.guard = none) (t : TypeId) (m x y : Operand) (ho : o.op = .insert t m x y) (hdst : o.dst = none) (k e : TypeId) (ht : P.underlying t = some (.map k e)) (hk : P.underlying k = some (.int .i64)) (b : Nat) (hm : a.eval m = .map (some b)) (l : List (Int × Value)) (hb : w.heap[b]? = some (zeA l)) (c : Int) (hx : a.eval x = .int .i64 c) (hn : (l.all (fun z => z.1 != c)) = true) (v : Value) (hv : a.eval y = v)
  (h : ∀ w', w'.heap[b]? = some (zeA (l ++ [(c, v)])) → Fr (fun q => q = b) w w' → wpList P ops Q rest a w') : wpList P ops Q (o :: rest) a w := by
 refine wpList_plain hgd fun _ hK => ?_
 have hr := zgy (P := P) (w := w) (v := v) ht hk hb (fun x hx e => by have := (List.all_eq_true.1 hn) x hx; simp at this; exact this e)
 have hk2 := hK _ _ (h _ (heap_setBlock_same hb _) (ziZ b _))
 unfold Oper.wp
 simp [execOp, ho, hm, hx, hv, hr, Result.andThen]
 simp [Oper.upon]
 rw [hdst]
 exact hk2
end
end Go.Proofs.YtmlkpdbfnffoaaaGreatDoor

namespace Go.Proofs.YtmlkpdbfnffoaaaGreatDoor
open Go.RowKit Go.Maps
def mth (f : FuncId) (P : Nat) : Value := .func (.func f) #[.pointer (some ⟨P, 0, none⟩)] #[]
def ansr (d : Int) : Value := .func (.func 274) #[.int .i64 d] #[]
def actL (P : Nat) : List (Int × Value) := [(1, mth 259 P), (2, mth 259 P), (4, mth 260 P), (5, mth 261 P), (6, mth 262 P), (7, mth 263 P), (8, mth 264 P), (9, mth 265 P), (18, mth 266 P), (19, mth 267 P), (12, mth 268 P), (13, mth 269 P), (14, mth 270 P), (15, mth 271 P), (16, mth 272 P), (17, mth 273 P), (3, ansr 3), (21, ansr 4), (10, ansr 5), (11, ansr 6), (20, ansr 7)]
theorem zjM (P : Nat) (w : World) :
    Calls Tryz.prog 210 #[.pointer (some ⟨P, 0, none⟩)] w fun e w' => e = .returned (.map (some w.heap.size)) ∧ w'.heap[w.heap.size]? = some (zeA (actL P)) ∧ Ext w w' := by
  have hmm := @run_makeMap Tryz.prog
  have hmf : ∀ (fn : Fn) (first cap : Array Value) (w : World), (Instr.makeFunc fn first cap).run Tryz.prog w = .ok (.func fn first cap) w := fun _ _ _ _ => rfl
  have HM : Hid ((w.alloc (.map #[] 0)).heap[w.heap.size]? = some (zeA [])) := zi (zn w _)
  have HF : Hid (Fr (fun q => q = w.heap.size) (w.alloc (.map #[] 0)) (w.alloc (.map #[] 0))) := zi (Fr.refl _ _)
  go_enter Tryz.func210, Tryz.ntmps210
  go_wp2_with (first
    | (first
       | refine zc4 rfl _ _ _ _ rfl rfl 3 _ Tryz.underlying229 Tryz.underlying3 w.heap.size rfl _ (zg HM) _ rfl (by rfl) (.func (.func _) #[.pointer (some ⟨P, 0, none⟩)] #[]) rfl ?_
       | refine zc4 rfl _ _ _ _ rfl rfl 3 _ Tryz.underlying229 Tryz.underlying3 w.heap.size rfl _ (zg HM) _ rfl (by rfl) (.func (.func _) #[.int .i64 _] #[]) rfl ?_
       intro W1 hb hf
       simp only [List.nil_append, List.cons_append] at hb
       replace HM := zi hb
       replace HF := zi ((zg HF).tr hf)
       clear hb hf))
  exact bodyPost_ret (v := .map (some w.heap.size)) (by simp [results, Tryz.results210, go_sem]) rfl ⟨rfl, zg HM, (zg HF).ext ((Ext.refl w).alloc _) (fun q hq => by omega)⟩
theorem zmc (f : FuncId) (hcf : ∀ (args : Array Value) (w : World), (callFunc f args).run Tryz.prog w = .ok (.enter f args) w) (p : Value) (P : Nat) (kd : Int) (rv : Value) (W : World) (hfind : ((actL P).find? (fun x => x.1 == kd)).map (·.2) = some (.func (.func f) #[p] #[])) (Q : Int → World → Prop) (HM : ∀ w, Ext W w → Calls Tryz.prog f #[p, .agg #[.int .i64 kd, rv]] w fun e w' => ∃ d, e = .returned (.int .i64 d) ∧ Q d w') :
    Calls Tryz.prog 157 #[.pointer (some ⟨P, 0, none⟩), .agg #[.int .i64 kd, rv]] W fun e w' => ∃ d, e = .returned (.int .i64 d) ∧ Q d w' := by
  have infoK : (Tryz.prog.info? 102).map (·.size) = some 2 := by kernel_rfl
  have HL := zi (fun (w : World) (b : Nat) (hb : w.heap[b]? = some (zeA (actL P))) => zgf (P := Tryz.prog) (w := w) (b := b) Tryz.underlying229 Tryz.underlying3 hb hfind)
  obtain ⟨V, hV⟩ : ∃ V, V = W.alloc (.cells #[.int .i64 kd, rv] 102) := ⟨_, rfl⟩
  have E0 : Ext W V := by rw [hV]; exact (Ext.refl W).alloc _
  have k0 : V.heap[W.heap.size]? = some (.cells #[.int .i64 kd, rv] 102 (0, 0)) := by rw [hV]; exact zn W _
  have HA := zi (fun w => zjM P w)
  have HMh := zi HM
  clear hfind HM
  go_enter Tryz.func157, Tryz.ntmps157
  go_wp2_with fail
  rw [← hV]
  have c0 := zk k0 0 _ rfl
  have HK0 := zi k0
  have HE0 := zi E0
  clear hV k0 E0
  go_region_law (first
    | (go_simp; go_at_call 210
       refine ((zg HA) _).mono ?_
       rintro e w1 ⟨rfl, hm, E1⟩
       have hlk := (zg HL) w1 V.heap.size hm
       have E2 : Ext V w1 := (by first | exact E1 | exact (Ext.refl _).drew.trans E1)
       have c1 := E2.cell c0
       clear E1 hm))
  all_goals
    have HK1 := E2.hk HK0
    have HM1 := zi ((zg HMh) w1 ((zg HE0).trans E2))
    clear hlk c1 c0 HL HA HMh
    go_wp2_with (first
      | (refine zm rfl 102 _ rfl (W.heap.size) rfl _ _ _ _ (zg HK1) Tryz.underlying102 rfl infoK ?_))
    refine (zg HM1).mono ?_
    rintro e w2 ⟨d, rfl, hQ⟩
    have HQ := zi hQ
    clear hQ HM1 HK1 HK0
    go_wp2
    exact bodyPost_ret (v := .int .i64 d) (by simp [results, Tryz.results157, go_sem]) rfl ⟨d, rfl, zg HQ⟩
theorem zka (P : Nat) (kd : Int) (rv : Value) (W : World) (hmiss : ∀ x ∈ actL P, x.1 ≠ kd) :
    Calls Tryz.prog 157 #[.pointer (some ⟨P, 0, none⟩), .agg #[.int .i64 kd, rv]] W fun e w' => e = .returned (.int .i64 0) ∧ Ext W w' := by
  have HL := zi (fun (w : World) (b : Nat) (hb : w.heap[b]? = some (zeA (actL P))) => zgk (P := Tryz.prog) (w := w) (b := b) (z := .nilFunc) Tryz.underlying229 Tryz.underlying3 hb hmiss (by kernel_rfl))
  obtain ⟨V, hV⟩ : ∃ V, V = W.alloc (.cells #[.int .i64 kd, rv] 102) := ⟨_, rfl⟩
  have E0 : Ext W V := by rw [hV]; exact (Ext.refl W).alloc _
  have k0 : V.heap[W.heap.size]? = some (.cells #[.int .i64 kd, rv] 102 (0, 0)) := by rw [hV]; exact zn W _
  have HA := zi (fun w => zjM P w)
  clear hmiss
  go_enter Tryz.func157, Tryz.ntmps157
  go_wp2_with fail
  rw [← hV]
  have c0 := zk k0 0 _ rfl
  have HK0 := zi k0
  have HE0 := zi E0
  clear hV k0 E0
  go_region_law (first
    | (go_simp; go_at_call 210
       refine ((zg HA) _).mono ?_
       rintro e w1 ⟨rfl, hm, E1⟩
       have hlk := (zg HL) w1 V.heap.size hm
       have E2 : Ext V w1 := (by first | exact E1 | exact (Ext.refl _).drew.trans E1)
       have c1 := E2.cell c0
       clear E1 hm))
  all_goals
    have HE := Hid.ht HE0 E2
    clear hlk c1 c0 HL HA HK0
    go_wp2
    exact bodyPost_ret (v := .int .i64 0) (by simp [results, Tryz.results157, go_sem]) rfl ⟨rfl, zg HE⟩
end Go.Proofs.YtmlkpdbfnffoaaaGreatDoor
