import Derived.Recover
import Derived.Defers
import Derived.Conc.MuLone
import Derived.KernelRfl
import Derived.Test.YtmlkpdbfnffoaaaGreatDoorSesCopy2
set_option maxHeartbeats 2000000
set_option maxRecDepth 10000
namespace Go.Proofs.YtmlkpdbfnffoaaaGreatDoor
open Go.RowKit
abbrev muLink : Go.Conc.Locks.MuLink := { lock := 90, unlock := 91, ilock := 137, iunlock := 138, lockSlow := 193, unlockSlow := 196, disable := 189, enable := 191, acquire := 192, relMerge := 194, cas32 := 190, add32 := 195, tMutex := 79, tIMutex := 77, tPMutex := 180, tPIMutex := 209, tPI32 := 211, tUP := 213, tNoCopy := 74, tU32 := 75 }
theorem muLib : Go.Conc.Locks.MuLib Tryz.prog muLink :=
  ⟨Tryz.func90, Tryz.func91, Tryz.func137, Tryz.func138, Tryz.func189, Tryz.func191, Tryz.func192, Tryz.func194, Tryz.func190, Tryz.func195,
   Tryz.underlying77, Tryz.runUnderlying77, Tryz.sizeOf77, Tryz.isAgg77, Tryz.zeroValue77,
   Tryz.underlying79, Tryz.runUnderlying79, Tryz.sizeOf79, Tryz.isAgg79, Tryz.zeroValue79,
   Tryz.underlying180, Tryz.runUnderlying180, Tryz.sizeOf180, Tryz.isAgg180, Tryz.zeroValue180,
   Tryz.underlying209, Tryz.runUnderlying209, Tryz.sizeOf209, Tryz.isAgg209, Tryz.zeroValue209,
   Tryz.underlying211, Tryz.runUnderlying211, Tryz.sizeOf211, Tryz.isAgg211, Tryz.zeroValue211,
   Tryz.underlying213, Tryz.runUnderlying213, Tryz.sizeOf213, Tryz.isAgg213, Tryz.zeroValue213,
   Tryz.underlying74, Tryz.runUnderlying74, Tryz.sizeOf74, Tryz.isAgg74, Tryz.zeroValue74,
   Tryz.underlying21, Tryz.runUnderlying21, Tryz.sizeOf21, Tryz.isAgg21, Tryz.zeroValue21, (by kernel_rfl)⟩
theorem zmI (a : Addr) (w : World) (hc : w.cell? a = some (.int .i32 0)) (hz : w.frozen? a = false) :
  Calls Tryz.prog 90 #[.pointer (some a)] w fun e w' => e = .returned (.tuple #[]) ∧ w' = w.setCell a (.int .i32 1) := Go.MuLone.lock_free muLib a w hc hz
theorem zeG (a : Addr) (u : FrameMode) (w : World) (hc : w.cell? a = some (.int .i32 1)) (hz : w.frozen? a = false) :
  CallsD Tryz.prog 91 #[.pointer (some a)] u w fun e u' w' => u' = u ∧ (e = .returned (.tuple #[]) ∧ w' = w.setCell a (.int .i32 0)) := Go.MuLone.unlock_deferred muLib a u w hc hz
theorem zdX (c : Int) (w : World) : Calls Tryz.prog 59 #[.bool true, .int .i64 c] w fun e w' => e = .returned (.tuple #[]) ∧ w' = w := by
 go_enter Tryz.func59, Tryz.ntmps59
 go_wp2
 exact bodyPost_end (v := .tuple #[]) (by simp [results, Tryz.results59, go_sem]) rfl ⟨rfl, rfl⟩
theorem zeC (c : Int) (w : World) : Calls Tryz.prog 59 #[.bool false, .int .i64 c] w fun e w' => e = .panicked [{ v := .iface 136 (.int .i64 c), recovered := false }] ∧ w' = w := by
 go_enter Tryz.func59, Tryz.ntmps59
 go_wp2
 exact ⟨rfl, rfl, rfl⟩
theorem zkK (c : Int) (w : World) : (Instr.typeAssert (.iface 136 (.int .i64 c)) 20 136 true).run Tryz.prog w = .ok (.tuple #[.int .i64 c, .bool true]) w := by
 kernel_rfl
theorem zkO (c : Int) (w : World) : Calls Tryz.prog 93 #[.iface 136 (.int .i64 c)] w fun e w' => e = .returned (.int .i64 c) ∧ w' = w := by
 have ha := zkK c
 go_enter Tryz.func93, Tryz.ntmps93
 go_wp2
 go_ret
 exact ⟨rfl, rfl⟩
section
variable {P : Program} {w : World}
theorem zfr (g off : Nat) (t ty : TypeId) (cs xs : Array Value) (fr : Nat × Nat) (d : TypeDesc) (hg : w.heap[g]? = some (.cells cs t fr)) (hx : ∀ j v, xs[j]? = some v → cs[off + j]? = some v)
  (hu : P.underlying ty = some d) (hd : (match d with | .struct _ | .array _ _ => true | _ => false) = true) (hi : (P.info? ty).map (·.size) = some xs.size) :
  (loadVar ty ⟨g, off, none⟩).run P w = .ok (.agg xs) w := by
 have hl : (loadCells ⟨g, off, none⟩ xs.toList.length).run P w = .ok xs.toList.toArray w :=
  run_loadCells_list (P := P) w ⟨g, off, none⟩ xs.toList (fun j v hv => by
   have hadd : (⟨g, off, none⟩ : Addr).add j = ⟨g, off + j, none⟩ := by unfold Addr.add; split <;> simp_all
   rw [hadd, cell_of_row w g (off + j) cs t fr hg]
   exact hx j v (by simpa using hv))
 cases hq : P.info? ty with
 | none => simp [hq] at hi
 | some i =>
  have hs : i.size = xs.size := by simpa [hq] using hi
  have hagg : (isAgg ty).run P w = .ok true w := by
   unfold isAgg
   rw [Sem.run_bind, run_underlying hu w]
   cases d <;> simp_all
  simp only [Array.length_toList, Array.toArray_toList] at hl
  simp [loadVar, Sem.run_bind, hagg, sizeOf, typeInfo, hq, hs, hl]
theorem zdJ (ty : TypeId) (g off : Nat) (t : TypeId) (cs xs : Array Value) (fr : Nat × Nat) (d : TypeDesc) (hg : w.heap[g]? = some (.cells cs t fr)) (hx : ∀ j v, xs[j]? = some v → cs[off + j]? = some v)
  (hu : P.underlying ty = some d) (hd : (match d with | .struct _ | .array _ _ => true | _ => false) = true) (hi : (P.info? ty).map (·.size) = some xs.size) :
  (Instr.loadAt ty (.pointer (some ⟨g, off, none⟩))).run P w = .ok (.agg xs) w := by
 simp only [Instr.loadAt, Instr.sureAddr, Sem.run_bind, Sem.run_pure, Result.andThen]
 exact zfr g off t ty cs xs fr d hg hx hu hd hi
theorem zeO {o : Oper} {a : Act} {K : Act → World → Prop} {Q : Exit → Act → World → Prop} (ty : TypeId) (s : Operand) (ho : o.op = .load ty s) (g off : Nat) (hs : a.eval s = .pointer (some ⟨g, off, none⟩)) (t : TypeId) (cs xs : Array Value) (fr : Nat × Nat) (d : TypeDesc)
  (hg : w.heap[g]? = some (.cells cs t fr)) (hx : ∀ j v, xs[j]? = some v → cs[off + j]? = some v) (hu : P.underlying ty = some d) (hd : (match d with | .struct _ | .array _ _ => true | _ => false) = true) (hi : (P.info? ty).map (·.size) = some xs.size) (h : K (a.put o.dst (.agg xs)) w) : o.wp P a w K Q := by
 have hr := zdJ (P := P) (w := w) ty g off t cs xs fr d hg hx hu hd hi
 unfold Oper.wp
 simp [execOp, ho, hs, hr, Result.andThen]
 exact h
theorem zbc {ops : Array Oper} {rest : List Oper} {o : Oper} {a : Act} {Q : Exit → Act → World → Prop} (hgd : o.guard = none) (ty : TypeId) (s : Operand) (ho : o.op = .load ty s) (g off : Nat) (hs : a.eval s = .pointer (some ⟨g, off, none⟩)) (t : TypeId) (cs xs : Array Value) (fr : Nat × Nat) (d : TypeDesc)
  (hg : w.heap[g]? = some (.cells cs t fr)) (hx : ∀ j v, xs[j]? = some v → cs[off + j]? = some v) (hu : P.underlying ty = some d) (hd : (match d with | .struct _ | .array _ _ => true | _ => false) = true) (hi : (P.info? ty).map (·.size) = some xs.size) (h : wpList P ops Q rest (a.put o.dst (.agg xs)) w) : wpList P ops Q (o :: rest) a w :=
 wpList_plain hgd fun _ hK => zeO ty s ho g off hs t cs xs fr d hg hx hu hd hi (hK _ _ h)
theorem zaT {a : Act} {o : Oper} (ty : TypeId) (s : Operand) (ho : o.op = .load ty s) (g off : Nat) (hs : a.eval s = .pointer (some ⟨g, off, none⟩)) (t : TypeId) (cs xs : Array Value) (fr : Nat × Nat) (d : TypeDesc)
  (hg : w.heap[g]? = some (.cells cs t fr)) (hx : ∀ j v, xs[j]? = some v → cs[off + j]? = some v) (hu : P.underlying ty = some d) (hd : (match d with | .struct _ | .array _ _ => true | _ => false) = true) (hi : (P.info? ty).map (·.size) = some xs.size) : (execOp a.eval o).run P w = .ok (Next.value (.agg xs)) w := by
 have hr := zdJ (P := P) (w := w) ty g off t cs xs fr d hg hx hu hd hi
 simp [execOp, ho, hs, hr, Result.andThen]
theorem zcV (g : Nat) (t : TypeId) : ∀ (vs : List Value) (i : Nat) (off : Nat) (cur : Array Value) (w : World), w.heap[g]? = some (.cells cur t (0, 0)) → off + i + vs.length ≤ cur.size → (∀ v ∈ vs, v.oneCell' = true) →
  ∃ w', (storeCells ⟨g, off, none⟩ vs i).run P w = .ok () w' ∧ w'.heap[g]? = some (.cells (cur.toList.take (off + i) ++ vs ++ cur.toList.drop (off + i + vs.length)).toArray t (0, 0)) ∧ Fr (fun q => q = g) w w'
 | [], i, off, cur, w, hg, hl, _ => ⟨w, rfl, by simpa using hg, Fr.refl _ _⟩
 | v :: rest, i, off, cur, w, hg, hl, h1 => by
  have hi : off + i < cur.size := by simp at hl; omega
  have hadd : (⟨g, off, none⟩ : Addr).add i = ⟨g, off + i, none⟩ := by unfold Addr.add; split <;> simp_all
  have hcell : w.cell? ⟨g, off + i, none⟩ = some cur[off + i] := by simp [World.cell?, hg, hi]
  have hfro : w.frozen? ⟨g, off + i, none⟩ = false := by simp [World.frozen?, hg]
  have hst : (store ((⟨g, off, none⟩ : Addr).add i) v).run P w = .ok () (w.setCell ⟨g, off + i, none⟩ v) := by
   rw [hadd, run_store P w _ v _ (h1 v (by simp)), hcell]
   simp [hfro]
  obtain ⟨w', hr, hb, hf⟩ := zcV g t rest (i + 1) off (cur.setIfInBounds (off + i) v) (w.setCell ⟨g, off + i, none⟩ v) (heap_setCell_same w g (off + i) cur t v hg) (by simp at hl ⊢; omega) (fun x hx => h1 x (by simp [hx]))
  refine ⟨w', by simp only [storeCells, Sem.run_bind, hst, Result.andThen_ok, hr], ?_, (Fr.setCell (S := fun q => q = g) (Fr.refl _ _) (a := ⟨g, off + i, none⟩) rfl v).tr hf⟩
  rw [hb]
  congr 3
  apply List.ext_getElem?
  intro k
  simp only [Array.toList_setIfInBounds, List.getElem?_append, List.length_take, List.length_set, Array.length_toList, List.length_append, List.length_cons, List.getElem?_take, List.getElem?_drop, List.getElem?_set]
  simp at hl
  by_cases hk : k < off + i
  ·simp [hk, show k < off + (i + 1) by omega, show min (off + (i + 1)) cur.size = off + (i + 1) by omega, show min (off + i) cur.size = off + i by omega, show off + i ≠ k by omega, show k < off + (i + 1) + rest.length by omega, show k < off + i + (rest.length + 1) by omega]
  ·by_cases hk2 : k = off + i
   ·subst hk2
    simp [show min (off + (i + 1)) cur.size = off + (i + 1) by omega, show min (off + i) cur.size = off + i by omega, show off + i < off + (i + 1) by omega, show off + i < off + (i + 1) + rest.length by omega, hi]
   ·by_cases hk3 : k < off + (i + 1) + rest.length
    ·simp [hk, hk3, show ¬ k < off + (i + 1) by omega, show min (off + (i + 1)) cur.size = off + (i + 1) by omega, show min (off + i) cur.size = off + i by omega, show k - (off + i) = (k - (off + (i + 1))) + 1 by omega, show k < off + i + (rest.length + 1) by omega]
    ·simp [hk3, show min (off + (i + 1)) cur.size = off + (i + 1) by omega, show min (off + i) cur.size = off + i by omega, show ¬ k < off + i + (rest.length + 1) by omega, show off + (i + 1) + rest.length + (k - (off + (i + 1) + rest.length)) = off + i + (rest.length + 1) + (k - (off + i + (rest.length + 1))) by omega]
     intro h9
     exact absurd h9 (by omega)
theorem zfP (ty : TypeId) (g off : Nat) (t : TypeId) (cs xs ns : Array Value) (hg : w.heap[g]? = some (.cells cs t (0, 0))) (hi : (P.info? ty).map (·.size) = some xs.size) (hle : off + xs.size ≤ cs.size) (h1 : xs.all (·.oneCell') = true)
  (hns : cs.toList.take off ++ xs.toList ++ cs.toList.drop (off + xs.size) = ns.toList) :
  ∃ w', (Instr.storeAt ty (.pointer (some ⟨g, off, none⟩)) (.agg xs)).run P w = .ok () w' ∧ w'.heap[g]? = some (.cells ns t (0, 0)) ∧ Fr (fun q => q = g) w w' := by
 obtain ⟨w', hr, hb, hf⟩ := zcV (P := P) g t xs.toList 0 off cs w hg (by simpa using hle) (fun v hv => (Array.all_eq_true_iff_forall_mem.1 h1) v (by simpa using hv))
 refine ⟨w', ?_, ?_, hf⟩
 ·simp only [Instr.storeAt, Instr.sureAddr, Sem.run_bind, Sem.run_pure, Result.andThen]
  cases hq : P.info? ty with
  | none => simp [hq] at hi
  | some i =>
   have hs : xs.size = i.size := by simp [hq] at hi; omega
   simp [storeVar, sizeOf, typeInfo, hq, Value.cells, hs, hr]
 ·rw [hb]
  simp only [Nat.add_zero, Array.length_toList, hns, Array.toArray_toList]
theorem zdb {o : Oper} {a : Act} {K : Act → World → Prop} {Q : Exit → Act → World → Prop} (ty : TypeId) (s x : Operand) (ho : o.op = .store ty s x) (hdst : o.dst = none) (g off : Nat) (hs : a.eval s = .pointer (some ⟨g, off, none⟩)) (t : TypeId) (cs xs ns : Array Value) (hx : a.eval x = .agg xs)
  (hg : w.heap[g]? = some (.cells cs t (0, 0))) (hi : (P.info? ty).map (·.size) = some xs.size) (hle : off + xs.size ≤ cs.size) (h1 : xs.all (·.oneCell') = true) (hns : cs.toList.take off ++ xs.toList ++ cs.toList.drop (off + xs.size) = ns.toList)
  (h : ∀ w', w'.heap[g]? = some (.cells ns t (0, 0)) → Fr (fun q => q = g) w w' → K a w') : o.wp P a w K Q := by
 obtain ⟨w', hr, hb, hf⟩ := zfP (P := P) (w := w) ty g off t cs xs ns hg hi hle h1 hns
 have hk := h _ hb hf
 unfold Oper.wp
 simp [execOp, ho, hs, hx, hr, Result.andThen]
 simp [Oper.upon]
 rw [hdst]
 exact hk
theorem zaO {ops : Array Oper} {rest : List Oper} {o : Oper} {a : Act} {Q : Exit → Act → World → Prop} (hgd : o.guard = none) (ty : TypeId) (s x : Operand) (ho : o.op = .store ty s x) (hdst : o.dst = none) (g off : Nat) (hs : a.eval s = .pointer (some ⟨g, off, none⟩)) (t : TypeId) (cs xs ns : Array Value) (hx : a.eval x = .agg xs)
  (hg : w.heap[g]? = some (.cells cs t (0, 0))) (hi : (P.info? ty).map (·.size) = some xs.size) (hle : off + xs.size ≤ cs.size) (h1 : xs.all (·.oneCell') = true) (hns : cs.toList.take off ++ xs.toList ++ cs.toList.drop (off + xs.size) = ns.toList)
  (h : ∀ w', w'.heap[g]? = some (.cells ns t (0, 0)) → Fr (fun q => q = g) w w' → wpList P ops Q rest a w') : wpList P ops Q (o :: rest) a w :=
 wpList_plain hgd fun _ hK => zdb ty s x ho hdst g off hs t cs xs ns hx hg hi hle h1 hns (fun w' hb hf => hK _ _ (h w' hb hf))
end
def lvC (sc : Array Value) (r : List Value) : Array Value := (sc.toList ++ r).toArray
theorem zcA {sc : Array Value} {r : List Value} (h : sc.size = 17) (i : Nat) : (lvC sc r)[17 + i]? = r[i]? := by
 simp [lvC, List.getElem?_append, h]
 intro h9
 omega
theorem zeV {sc : Array Value} {r : List Value} (j : Nat) (v : Value) (hj : sc[j]? = some v) : (lvC sc r)[0 + j]? = some v := by
 have hlt : j < sc.size := (Array.getElem?_eq_some_iff.1 hj).1
 simp [lvC, List.getElem?_append, hlt]
 simpa [hlt] using hj
theorem zeh {sc : Array Value} {r : List Value} (h : sc.size = 17) (i : Nat) (v : Value) : (lvC sc r).setIfInBounds (17 + i) v = lvC sc (r.set i v) := by
 simp [lvC, h]
theorem zlN {sc sn : Array Value} {r : List Value} (h : sc.size = 17) (hn : sn.size = 17) : (lvC sc r).toList.take 0 ++ sn.toList ++ (lvC sc r).toList.drop (0 + sn.size) = (lvC sn r).toList := by
 simp [lvC, hn, h]
theorem zax.mono {w : World} {b b' : Nat} {s : SS} {u h p q l d : Value} (H : zax w b s u h p q l d) (hb : b' ≤ b) : zax w b' s u h p q l d := ⟨H.un.mono hb, zas H.kh hb, H.pa.mono hb, H.qu.mono hb, H.lo.mono hb, H.dn.mono hb, H.ap⟩
def ze (s : SS) (u h p q l d : Value) : Array Value := (sC s u h p q l d)
theorem zb3 (s : SS) (u h p q l d : Value) : zaK s u h p q l d = .agg (ze s u h p q l d) := rfl
theorem zaB : (Tryz.prog.info? 41).map (·.size) = some 2 := by kernel_rfl
theorem zjv {P : Program} {c : Code} {Q : Exit → Act → World → Prop} {a : Act} {w : World} (h : ∀ Q', Q' = Q → c.wp P Q' a w) : c.wp P Q a w := h Q rfl
theorem zjf (p0 p1 p2 p3 p4 : Addr) (w : World) :
  CallsD Tryz.prog 92 #[.pointer (some p0), .pointer (some p1), .pointer (some p2), .pointer (some p3), .pointer (some p4)] .returning w fun e u' w' => e = .returned (.tuple #[]) ∧ u' = .returning ∧ w' = w := by
 refine callsD_of_wpS Tryz.func92 rfl fun c₀ cs hu => ?_
 apply wpS_seq
 apply wpS_region
 simp [wpOpsS, go_sem, recoverD, hu, Tryz.ntmps92, Exit.thenS]
 refine wpS_of_wp ?_
 refine zjv ?_
 intro Q hQ
 have HQ := zi hQ
 have hu' := zi hu
 clear hu hQ
 simp only [Array.replicate_succ, Array.replicate_zero, List.push_toArray, List.append_toArray, List.nil_append, List.cons_append, List.setIfInBounds_toArray, List.set_cons_zero, List.set_cons_succ]
 go_wp2
 rw [zg HQ]
 have hu := zg hu'
 cases c₀
 simp_all [bodyPostS, results, Tryz.results92]
theorem zgP (b6 b7 b2 b3 b4 P : Nat) (s : SS) (u h p q l d : Value) (sc : Array Value) (a0 a1 x3 x4 hv : Value) (hcap : Int) (r : List Value) (c : Int) (older : List PanicEntry) (w : World)
  (hsc : sc.size = 17) (hform : ∃ ua uc ha hc pa pc qa qc la lc da dc, u = .slice ua s.un uc ∧ h = .slice ha s.kh.length hc ∧ p = .slice pa s.pn pc ∧ q = .slice qa s.qn qc ∧ l = .slice la s.ln lc ∧ d = .slice da s.dn dc) (hhv : ∃ a n c, hv = .slice a n c)
  (h6 : w.heap[b6]? = some (.cells (ze s u h p q l d) 40 (0, 0))) (h7 : w.heap[b7]? = some (.cells #[.int .i64 hcap, hv] 41 (0, 0))) (h2 : w.heap[b2]? = some (.cells #[.pointer (some ⟨P, 0, none⟩)] 69 (0, 0)))
  (h3 : w.heap[b3]? = some (.cells #[x3] 25 (0, 0))) (h4 : w.heap[b4]? = some (.cells #[x4] 3 (0, 0))) (hL : w.heap[P]? = some (.cells (lvC sc (a0 :: a1 :: r)) 88 (0, 0)))
  (n63 : P ≠ b6 ∧ P ≠ b7 ∧ P ≠ b2 ∧ P ≠ b3 ∧ P ≠ b4 ∧ b3 ≠ b4) :
  CallsD Tryz.prog 92 #[.pointer (some ⟨b6, 0, none⟩), .pointer (some ⟨b7, 0, none⟩), .pointer (some ⟨b2, 0, none⟩), .pointer (some ⟨b3, 0, none⟩), .pointer (some ⟨b4, 0, none⟩)] (.panicking ({ v := .iface 136 (.int .i64 c), recovered := false } :: older)) w fun e u' w' => e = .returned (.tuple #[]) ∧ u' = .panicking ({ v := .iface 136 (.int .i64 c), recovered := true } :: older)
   ∧ w'.heap[P]? = some (.cells (lvC (ze s u h p q l d) (.int .i64 hcap :: hv :: r)) 88 (0, 0)) ∧ w'.heap[b3]? = some (.cells #[.slice none 0 0] 25 (0, 0)) ∧ w'.heap[b4]? = some (.cells #[.int .i64 c] 3 (0, 0)) ∧ Fr (fun g => g = P ∨ g = b3 ∨ g = b4) w w' := by
 obtain ⟨ua, uc, ha, hc, pa, pc, qa, qc, la, lc, da, dc, rfl, rfl, rfl, rfl, rfl, rfl⟩ := hform
 obtain ⟨hva, hvn, hvc, rfl⟩ := hhv
 obtain ⟨n1, n2, n3, n4, n5, n6⟩ := n63
 refine callsD_of_wpS Tryz.func92 rfl fun c₀ cs hu => ?_
 apply wpS_seq
 apply wpS_region
 simp [wpOpsS, go_sem, recoverD, hu, Tryz.ntmps92, Exit.thenS]
 refine wpS_of_wp ?_
 refine zjv ?_
 intro Q hQ
 have HQ := zi hQ
 simp only [Array.replicate_succ, Array.replicate_zero, List.push_toArray, List.append_toArray, List.nil_append, List.cons_append, List.setIfInBounds_toArray, List.set_cons_zero, List.set_cons_succ]
 have hu' := zi hu
 have H6 := zi h6
 have HL := zi hL
 have H3 := zi h3
 have H4 := zi h4
 have HN : Hid (n1 = n1) := zi rfl
 have k2 := zk h2 0 _ rfl
 have k70 := zk h7 0 _ rfl
 have k71 := zk h7 1 _ rfl
 clear hu h6 hL h3 h4 h2 h7 HN hQ
 have hcc := zi (zkO c)
 go_wp2_with (first
  | (refine zm rfl 40 _ rfl b6 rfl _ _ _ _ (zg H6) Tryz.underlying40 rfl zap ?_)
  | with_reducible refine (zcN.intro ?_ : wpList _ _ _ ({ dst := none, op := Op.store 40 _ _, type := _, pos := _, after := _, guard := _ } :: _) _ _))
 show wpList _ _ _ _ _ _
 clear k2 k70 k71
 have p1 : 0 + (ze s (.slice ua s.un uc) (.slice ha s.kh.length hc) (.slice pa s.pn pc) (.slice qa s.qn qc) (.slice la s.ln lc) (.slice da s.dn dc)).size ≤ (lvC sc (a0 :: a1 :: r)).size := by simp [lvC, hsc, ze]
 have p2 : (ze s (.slice ua s.un uc) (.slice ha s.kh.length hc) (.slice pa s.pn pc) (.slice qa s.qn qc) (.slice la s.ln lc) (.slice da s.dn dc)).all (·.oneCell') = true := by simp [Value.oneCell', ze]
 have p3 : (Tryz.prog.info? 40).map (·.size) = some (ze s (.slice ua s.un uc) (.slice ha s.kh.length hc) (.slice pa s.pn pc) (.slice qa s.qn qc) (.slice la s.ln lc) (.slice da s.dn dc)).size := zap
 have p4 := zlN (r := a0 :: a1 :: r) hsc (show (ze s (.slice ua s.un uc) (.slice ha s.kh.length hc) (.slice pa s.pn pc) (.slice qa s.qn qc) (.slice la s.ln lc) (.slice da s.dn dc)).size = 17 from rfl)
 have HP := zi (And.intro p1 (And.intro p2 (And.intro p3 p4)))
 clear p1 p2 p3 p4
 generalize hSC : (ze s (.slice ua s.un uc) (.slice ha s.kh.length hc) (.slice pa s.pn pc) (.slice qa s.qn qc) (.slice la s.ln lc) (.slice da s.dn dc)) = SC at *
 refine zaO rfl 40 _ _ rfl rfl P 0 rfl 88 (lvC sc (a0 :: a1 :: r)) SC (lvC SC (a0 :: a1 :: r)) rfl (zg HL) (zg HP).2.2.1 (zg HP).1 (zg HP).2.1 (zg HP).2.2.2 ?_
 intro X hXb hXf
 have HLX := zi hXb
 have FX := zi hXf
 have z9 : SC.size = 17 := by rw [← hSC]; rfl
 have y0 : X.cell? ⟨P, 17, none⟩ = some a0 := by rw [cell_of_row X P 17 _ _ _ hXb]; exact zcA z9 0
 have y1 : X.cell? ⟨P, 18, none⟩ = some a1 := by rw [cell_of_row X P 18 _ _ _ hXb]; exact zcA z9 1
 have yf : ∀ i, X.frozen? ⟨P, i, none⟩ = false := fun i => Lib.frozen_of_heap hXb i
 have HZ9 := zi z9
 have HSC := zi hSC
 have HN4 := zi n4
 have HN5 := zi n5
 have HN6 := zi n6
 clear hXb hXf z9 hSC n1 n2 n3 n4 n5 n6
 go_wp2_with fail
 clear y0 y1 yf
 refine Calls.named ?_
 intro X2 hX2
 have HLX2 : Hid (X2.heap[P]? = some (.cells (lvC SC (.int .i64 hcap :: .slice hva hvn hvc :: r)) 88 (0, 0))) := zi (by
  rw [hX2]
  refine zaM (zaM (zg HLX) (zeh (zg HZ9) 0 (.int .i64 hcap))) ?_
  exact zeh (zg HZ9) 1 (.slice hva hvn hvc))
 have FX2 : Fr (fun g => g = P ∨ g = b3 ∨ g = b4) w X2 := by
  rw [hX2]
  exact Fr.setCell (S := fun g => g = P ∨ g = b3 ∨ g = b4) (Fr.setCell (S := fun g => g = P ∨ g = b3 ∨ g = b4) ((zg FX).mono (fun g hg => .inl hg)) (a := ⟨P, 17, none⟩) (.inl rfl) _) (a := ⟨P, 18, none⟩) (.inl rfl) _
 have H3X : Hid (X2.heap[b3]? = some (.cells #[x3] 25 (0, 0))) := zi (by rw [hX2]; exact zat (zat ((zg FX).kept (zg H3) (fun e => zg HN4 e.symm)) (fun e => zg HN4 e.symm)) (fun e => zg HN4 e.symm))
 have H4X : Hid (X2.heap[b4]? = some (.cells #[x4] 3 (0, 0))) := zi (by rw [hX2]; exact zat (zat ((zg FX).kept (zg H4) (fun e => zg HN5 e.symm)) (fun e => zg HN5 e.symm)) (fun e => zg HN5 e.symm))
 clear hX2 HLX FX H3 H4 HL H6
 refine ((zg hcc) X2).mono ?_
 rintro e w2 ⟨rfl, rfl⟩
 have c3 := zk (zg H3X) 0 _ rfl
 have c4 := zk (zg H4X) 0 _ rfl
 have c4s : ∀ v, (w2.setCell ⟨b3, 0, none⟩ v).cell? ⟨b4, 0, none⟩ = some x4 := fun v => zk (zat (zg H4X) (fun e => zg HN6 e.symm)) 0 _ rfl
 have e3 : w2.frozen? ⟨b3, 0, none⟩ = false := Lib.frozen_of_heap (zg H3X) 0
 have e4 : w2.frozen? ⟨b4, 0, none⟩ = false := Lib.frozen_of_heap (zg H4X) 0
 go_wp2
 clear c3 c4 e3 e4 c4s
 rw [zg HQ]
 have hu := zg hu'
 have q1 := zat (c := b4) (i := 0) (v := .int .i64 c) (zat (c := b3) (i := 0) (v := .slice none 0 0) (zg HLX2) (zg HN4)) (zg HN5)
 have q2 := zat (c := b4) (i := 0) (v := .int .i64 c) (zaM (i := 0) (v := .slice none 0 0) (cs' := #[.slice none 0 0]) (zg H3X) rfl) (zg HN6)
 have q3 := zaM (i := 0) (v := .int .i64 c) (cs' := #[.int .i64 c]) (zat (c := b3) (i := 0) (v := .slice none 0 0) (zg H4X) (fun e => zg HN6 e.symm)) rfl
 have q4 : Fr (fun g => g = P ∨ g = b3 ∨ g = b4) w ((w2.setCell ⟨b3, 0, none⟩ (.slice none 0 0)).setCell ⟨b4, 0, none⟩ (.int .i64 c)) := Fr.setCell (S := fun g => g = P ∨ g = b3 ∨ g = b4) (Fr.setCell (S := fun g => g = P ∨ g = b3 ∨ g = b4) FX2 (a := ⟨b3, 0, none⟩) (.inr (.inl rfl)) _) (a := ⟨b4, 0, none⟩) (.inr (.inr rfl)) _
 cases c₀
 simp [bodyPostS, results, Tryz.results92]
 exact ⟨q1, q2, q3, q4⟩
set_option linter.unusedSimpArgs false in
theorem zdL (cap : Int) (v : Value) (n : Nat) (tx : Nat → ByteArray) (w : World) (hv : zah w v n (fun j => .string (tx j))) (hn : n ≤ 1048576) :
  Calls Tryz.prog 56 #[.agg #[.int .i64 cap, v]] w fun e w' => ∃ v', e = .returned (.agg #[.int .i64 cap, v']) ∧ zaD w' w.heap.size 9 v' n (fun j => .string (tx j)) ∧ Ext w w' := by
 obtain ⟨ic, hic, hc0, hc1, hc2⟩ := info_parts zdn
 have HV := zi hv
 obtain ⟨va, vc, rfl, _, _⟩ := hv
 obtain ⟨U, hU⟩ : ∃ U, U = (w.alloc (.cells #[.int .i64 cap, .slice va n vc] 41)).alloc (.cells zH2 41) := ⟨_, rfl⟩
 have EU : Ext w U := by rw [hU]; exact ((Ext.refl w).alloc _).alloc _
 have zU : U.heap.size = w.heap.size + 2 := by rw [hU]; simp
 have HB0 : Hid (U.heap[w.heap.size]? = some (.cells #[.int .i64 cap, .slice va n vc] 41 (0, 0))) := zi (by rw [hU]; exact ((Ext.refl _).alloc _).kept (zn w _))
 have HB1 : Hid (U.heap[w.heap.size + 1]? = some (.cells zH2 41 (0, 0))) := zi (by rw [hU]; have h := zn (w.alloc (.cells #[.int .i64 cap, .slice va n vc] 41)) (.cells zH2 41); simpa using h)
 have HU := zi hU
 have HE := zi EU
 clear hU EU
 go_enter Tryz.func56, Tryz.ntmps56
 go_wp2
 rw [← zg HU]
 clear HU
 refine wp_region_held_drew (S := fun W => W.heap[w.heap.size]? = some (.cells #[.int .i64 cap, .slice va n vc] 41 (0, 0))) (by kernel_rfl) (zg HB0) (fun hHeld => ?_)
 refine tk 0 ?_ rfl (by kernel_rfl) (fun _ _ _ h => h) (by rfl) ?_ (by assumption) ?_
 rotate_left
 ·intro w' hSw; go_simp <;> with_reducible rfl
 simp only [Act.put, q9]
 refine tk 1 ?_ rfl (by kernel_rfl) (fun _ _ _ h => h) (by rfl) ?_ (by assumption) ?_
 rotate_left
 ·intro w' hSw; have h9 := zk hSw 0 _ rfl; go_simp <;> with_reducible rfl
 simp only [Act.put, q9]
 refine tk 2 ?_ rfl (by kernel_rfl) (fun _ _ _ h => h) (by rfl) ?_ (by assumption) ?_
 rotate_left
 ·intro w' hSw; go_simp <;> with_reducible rfl
 simp only [Act.put, q9]
 refine tk 3 ?_ rfl (by kernel_rfl) (fun _ _ _ h => h) (by rfl) ?_ (by assumption) ?_
 rotate_left
 ·intro w' hSw; have h9 := zk hSw 1 _ rfl; go_simp <;> with_reducible rfl
 simp only [Act.put, q9]
 have G := zi ((Ext.refl U).drew)
 have zG : U.drew.heap.size = U.heap.size := rfl
 generalize U.drew = Y0 at *
 refine rdy 4 (by kernel_rfl) rfl (fun K hK => ?_)
 refine zgN rfl _ _ 28 rfl (w.heap.size + 2) 9 ic (.string { data := #[] }) 1 16 Tryz.underlying28 hic hc0 hc1 hc2 rfl (by decide) (.slice none 0 0) 0 [] rfl (zbp _ _ _ _) (.slice va n vc) n (zcw tx n) rfl (Src.strs ((zg HV).ext ((zg HE).trans (zg G)))) (by unfold maxLen; omega) (by omega) (by omega) ?_
 intro v2 w2 o2 G2 _
 have E2 : Ext U w2 := (zg G).grown G2 (fun q hq => by simp [Value.ownBlock] at hq)
 have O2 := zcu (by simpa using o2)
 obtain ⟨a2, c2, rfl⟩ := O2.slice
 have HO2 := zi O2
 clear o2 O2 G2 hHeld
 refine hK.out _ _ (E2.kept (zg HB0)) (fun hHeld => ?_)
 clear hK K
 refine tk 5 ?_ rfl (by kernel_rfl) (fun _ _ _ h => h) (by rfl) ?_ (by assumption) ?_
 rotate_left
 ·intro w' hSw; go_simp <;> with_reducible rfl
 simp only [Act.put, q9]
 refine rdy 6 (by kernel_rfl) rfl (fun K hK => ?_)
 refine zad 41 _ _ rfl rfl (w.heap.size + 1) rfl _ _ #[.int .i64 cap, .slice a2 n c2] rfl (E2.kept (zg HB1)) zaB rfl (by simp [Value.oneCell']) ?_
 intro Z hy hf
 refine hK.out _ _ (hf.kept (E2.kept (zg HB0)) (by omega)) (fun hHeld => ?_)
 clear hK K
 refine wpAnyH_done (by kernel_rfl) ?_ _
 go_wp2
 have y0 := zk hy 0 _ rfl
 have y1 := zk hy 1 _ rfl
 exact bodyPost_ret (v := .agg #[.int .i64 cap, .slice a2 n c2]) (by simp [results, Tryz.results56, go_sem, y0, y1]) rfl ⟨_, rfl, ((zg HO2).fr hf (fun q hq e9 => by have := ((zg HO2).lt q hq).1; omega)).mono (by omega), hf.ext ((zg HE).trans E2) (fun q hq => by omega)⟩
end Go.Proofs.YtmlkpdbfnffoaaaGreatDoor
