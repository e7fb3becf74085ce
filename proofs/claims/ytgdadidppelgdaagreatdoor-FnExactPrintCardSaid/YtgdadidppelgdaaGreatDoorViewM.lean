import Derived.Test.YtgdadidppelgdaaGreatDoorMu
import Derived.Test.YtgdadidppelgdaaGreatDoorCopySes
import Derived.Test.YtgdadidppelgdaaGreatDoorWhole
import Derived.Test.YtgdadidppelgdaaGreatDoorLayI
import Derived.Deep.RegionHeldLaw
import Derived.WalkLawsBesides
import Derived.Defers
import Derived.Recover
import Derived.Test.YtgdadidppelgdaaGreatDoorTrim
import Derived.Test.YtgdadidppelgdaaGreatDoorSes
namespace Go.Proofs.YtgdadidppelgdaaGreatDoor
open Go.RowKit

section
variable {P : Program} {w : World}
theorem run_loadVar_part (g off : Nat) (t ty : TypeId) (cs xs : Array Value) (fr : Nat × Nat) (d : TypeDesc) (hg : w.heap[g]? = some (.cells cs t fr)) (hx : ∀ j v, xs[j]? = some v → cs[off + j]? = some v)
    (hu : P.underlying ty = some d) (hd : (match d with | .struct _ | .array _ _ => true | _ => false) = true) (hi : (P.info? ty).map (·.size) = some xs.size) :
    (loadVar ty ⟨g, off, none⟩).run P w = .ok (.agg xs) w := by
  have hl : (loadCells ⟨g, off, none⟩ xs.toList.length).run P w = .ok xs.toList.toArray w :=
    run_loadCells_list (P := P) w ⟨g, off, none⟩ xs.toList (fun j v hv => by
      have hadd : (⟨g, off, none⟩ : Addr).add j = ⟨g, off + j, none⟩ := by unfold Addr.add; split <;> simp_all
      rw [hadd, cell_of_row w g (off + j) cs t fr hg]
      exact hx j v (by simpa using hv))
  cases hq : P.info? ty with
  | none => simp [hq] at hi
  | some i =>
    have hs : i.size = xs.size := by simpa [hq] using hi
    have hagg : (isAgg ty).run P w = .ok true w := by
      unfold isAgg
      rw [Sem.run_bind, run_underlying hu w]
      cases d <;> simp_all
    simp only [Array.length_toList, Array.toArray_toList] at hl
    simp [loadVar, Sem.run_bind, hagg, sizeOf, typeInfo, hq, hs, hl]
theorem run_loadAt_part (ty : TypeId) (g off : Nat) (t : TypeId) (cs xs : Array Value) (fr : Nat × Nat) (d : TypeDesc) (hg : w.heap[g]? = some (.cells cs t fr)) (hx : ∀ j v, xs[j]? = some v → cs[off + j]? = some v)
    (hu : P.underlying ty = some d) (hd : (match d with | .struct _ | .array _ _ => true | _ => false) = true) (hi : (P.info? ty).map (·.size) = some xs.size) :
    (Instr.loadAt ty (.pointer (some ⟨g, off, none⟩))).run P w = .ok (.agg xs) w := by
  simp only [Instr.loadAt, Instr.sureAddr, Sem.run_bind, Sem.run_pure, Result.andThen]
  exact run_loadVar_part g off t ty cs xs fr d hg hx hu hd hi
/-- A part of a struct is read. -/
theorem wp_load_part {o : Oper} {a : Act} {K : Act → World → Prop} {Q : Exit → Act → World → Prop} (ty : TypeId) (s : Operand) (ho : o.op = .load ty s) (g off : Nat) (hs : a.eval s = .pointer (some ⟨g, off, none⟩)) (t : TypeId) (cs xs : Array Value) (fr : Nat × Nat) (d : TypeDesc)
    (hg : w.heap[g]? = some (.cells cs t fr)) (hx : ∀ j v, xs[j]? = some v → cs[off + j]? = some v) (hu : P.underlying ty = some d) (hd : (match d with | .struct _ | .array _ _ => true | _ => false) = true) (hi : (P.info? ty).map (·.size) = some xs.size) (h : K (a.put o.dst (.agg xs)) w) : o.wp P a w K Q := by
  have hr := run_loadAt_part (P := P) (w := w) ty g off t cs xs fr d hg hx hu hd hi
  unfold Oper.wp
  simp [execOp, ho, hs, hr, Result.andThen]
  exact h
theorem wpList_load_part {ops : Array Oper} {rest : List Oper} {o : Oper} {a : Act} {Q : Exit → Act → World → Prop} (hgd : o.guard = none) (ty : TypeId) (s : Operand) (ho : o.op = .load ty s) (g off : Nat) (hs : a.eval s = .pointer (some ⟨g, off, none⟩)) (t : TypeId) (cs xs : Array Value) (fr : Nat × Nat) (d : TypeDesc)
    (hg : w.heap[g]? = some (.cells cs t fr)) (hx : ∀ j v, xs[j]? = some v → cs[off + j]? = some v) (hu : P.underlying ty = some d) (hd : (match d with | .struct _ | .array _ _ => true | _ => false) = true) (hi : (P.info? ty).map (·.size) = some xs.size) (h : wpList P ops Q rest (a.put o.dst (.agg xs)) w) : wpList P ops Q (o :: rest) a w :=
  wpList_plain hgd fun _ hK => wp_load_part ty s ho g off hs t cs xs fr d hg hx hu hd hi (hK _ _ h)
theorem yields_load_part {a : Act} {o : Oper} (ty : TypeId) (s : Operand) (ho : o.op = .load ty s) (g off : Nat) (hs : a.eval s = .pointer (some ⟨g, off, none⟩)) (t : TypeId) (cs xs : Array Value) (fr : Nat × Nat) (d : TypeDesc)
    (hg : w.heap[g]? = some (.cells cs t fr)) (hx : ∀ j v, xs[j]? = some v → cs[off + j]? = some v) (hu : P.underlying ty = some d) (hd : (match d with | .struct _ | .array _ _ => true | _ => false) = true) (hi : (P.info? ty).map (·.size) = some xs.size) : (execOp a.eval o).run P w = .ok (Next.value (.agg xs)) w := by
  have hr := run_loadAt_part (P := P) (w := w) ty g off t cs xs fr d hg hx hu hd hi
  simp [execOp, ho, hs, hr, Result.andThen]
/-- Cells in the midst of a row are written. -/
theorem run_storeCells_mid (g : Nat) (t : TypeId) : ∀ (vs : List Value) (i : Nat) (off : Nat) (cur : Array Value) (w : World), w.heap[g]? = some (.cells cur t (0, 0)) → off + i + vs.length ≤ cur.size → (∀ v ∈ vs, v.oneCell' = true) →
    ∃ w', (storeCells ⟨g, off, none⟩ vs i).run P w = .ok () w' ∧ w'.heap[g]? = some (.cells (cur.toList.take (off + i) ++ vs ++ cur.toList.drop (off + i + vs.length)).toArray t (0, 0)) ∧ Fr (fun q => q = g) w w'
  | [], i, off, cur, w, hg, hl, _ => ⟨w, rfl, by simpa using hg, Fr.refl _ _⟩
  | v :: rest, i, off, cur, w, hg, hl, h1 => by
    have hi : off + i < cur.size := by simp at hl; omega
    have hadd : (⟨g, off, none⟩ : Addr).add i = ⟨g, off + i, none⟩ := by unfold Addr.add; split <;> simp_all
    have hcell : w.cell? ⟨g, off + i, none⟩ = some cur[off + i] := by simp [World.cell?, hg, hi]
    have hfro : w.frozen? ⟨g, off + i, none⟩ = false := by simp [World.frozen?, hg]
    have hst : (store ((⟨g, off, none⟩ : Addr).add i) v).run P w = .ok () (w.setCell ⟨g, off + i, none⟩ v) := by
      rw [hadd, run_store P w _ v _ (h1 v (by simp)), hcell]
      simp [hfro]
    obtain ⟨w', hr, hb, hf⟩ := run_storeCells_mid g t rest (i + 1) off (cur.setIfInBounds (off + i) v) (w.setCell ⟨g, off + i, none⟩ v) (heap_setCell_same w g (off + i) cur t v hg) (by simp at hl ⊢; omega) (fun x hx => h1 x (by simp [hx]))
    refine ⟨w', by simp only [storeCells, Sem.run_bind, hst, Result.andThen_ok, hr], ?_, (Fr.setCell (S := fun q => q = g) (Fr.refl _ _) (a := ⟨g, off + i, none⟩) rfl v).tr hf⟩
    rw [hb]
    congr 3
    apply List.ext_getElem?
    intro k
    simp only [Array.toList_setIfInBounds, List.getElem?_append, List.length_take, List.length_set, Array.length_toList, List.length_append, List.length_cons, List.getElem?_take, List.getElem?_drop, List.getElem?_set]
    simp at hl
    by_cases hk : k < off + i
    · simp [hk, show k < off + (i + 1) by omega, show min (off + (i + 1)) cur.size = off + (i + 1) by omega, show min (off + i) cur.size = off + i by omega, show off + i ≠ k by omega, show k < off + (i + 1) + rest.length by omega, show k < off + i + (rest.length + 1) by omega]
    · by_cases hk2 : k = off + i
      · subst hk2
        simp [show min (off + (i + 1)) cur.size = off + (i + 1) by omega, show min (off + i) cur.size = off + i by omega, show off + i < off + (i + 1) by omega, show off + i < off + (i + 1) + rest.length by omega, hi]
      · by_cases hk3 : k < off + (i + 1) + rest.length
        · simp [hk, hk3, show ¬ k < off + (i + 1) by omega, show min (off + (i + 1)) cur.size = off + (i + 1) by omega, show min (off + i) cur.size = off + i by omega, show k - (off + i) = (k - (off + (i + 1))) + 1 by omega, show k < off + i + (rest.length + 1) by omega]
        · simp [hk3, show min (off + (i + 1)) cur.size = off + (i + 1) by omega, show min (off + i) cur.size = off + i by omega, show ¬ k < off + i + (rest.length + 1) by omega, show off + (i + 1) + rest.length + (k - (off + (i + 1) + rest.length)) = off + i + (rest.length + 1) + (k - (off + i + (rest.length + 1))) by omega]
          intro h9
          exact absurd h9 (by omega)
theorem run_storeAt_part (ty : TypeId) (g off : Nat) (t : TypeId) (cs xs ns : Array Value) (hg : w.heap[g]? = some (.cells cs t (0, 0))) (hi : (P.info? ty).map (·.size) = some xs.size) (hle : off + xs.size ≤ cs.size) (h1 : xs.all (·.oneCell') = true)
    (hns : cs.toList.take off ++ xs.toList ++ cs.toList.drop (off + xs.size) = ns.toList) :
    ∃ w', (Instr.storeAt ty (.pointer (some ⟨g, off, none⟩)) (.agg xs)).run P w = .ok () w' ∧ w'.heap[g]? = some (.cells ns t (0, 0)) ∧ Fr (fun q => q = g) w w' := by
  obtain ⟨w', hr, hb, hf⟩ := run_storeCells_mid (P := P) g t xs.toList 0 off cs w hg (by simpa using hle) (fun v hv => (Array.all_eq_true_iff_forall_mem.1 h1) v (by simpa using hv))
  refine ⟨w', ?_, ?_, hf⟩
  · simp only [Instr.storeAt, Instr.sureAddr, Sem.run_bind, Sem.run_pure, Result.andThen]
    cases hq : P.info? ty with
    | none => simp [hq] at hi
    | some i =>
      have hs : xs.size = i.size := by simp [hq] at hi; omega
      simp [storeVar, sizeOf, typeInfo, hq, Value.cells, hs, hr]
  · rw [hb]
    simp only [Nat.add_zero, Array.length_toList, hns, Array.toArray_toList]
theorem wp_store_part {o : Oper} {a : Act} {K : Act → World → Prop} {Q : Exit → Act → World → Prop} (ty : TypeId) (s x : Operand) (ho : o.op = .store ty s x) (hdst : o.dst = none) (g off : Nat) (hs : a.eval s = .pointer (some ⟨g, off, none⟩)) (t : TypeId) (cs xs ns : Array Value) (hx : a.eval x = .agg xs)
    (hg : w.heap[g]? = some (.cells cs t (0, 0))) (hi : (P.info? ty).map (·.size) = some xs.size) (hle : off + xs.size ≤ cs.size) (h1 : xs.all (·.oneCell') = true) (hns : cs.toList.take off ++ xs.toList ++ cs.toList.drop (off + xs.size) = ns.toList)
    (h : ∀ w', w'.heap[g]? = some (.cells ns t (0, 0)) → Fr (fun q => q = g) w w' → K a w') : o.wp P a w K Q := by
  obtain ⟨w', hr, hb, hf⟩ := run_storeAt_part (P := P) (w := w) ty g off t cs xs ns hg hi hle h1 hns
  have hk := h _ hb hf
  unfold Oper.wp
  simp [execOp, ho, hs, hx, hr, Result.andThen]
  simp [Oper.upon]
  rw [hdst]
  exact hk
theorem wpList_store_part {ops : Array Oper} {rest : List Oper} {o : Oper} {a : Act} {Q : Exit → Act → World → Prop} (hgd : o.guard = none) (ty : TypeId) (s x : Operand) (ho : o.op = .store ty s x) (hdst : o.dst = none) (g off : Nat) (hs : a.eval s = .pointer (some ⟨g, off, none⟩)) (t : TypeId) (cs xs ns : Array Value) (hx : a.eval x = .agg xs)
    (hg : w.heap[g]? = some (.cells cs t (0, 0))) (hi : (P.info? ty).map (·.size) = some xs.size) (hle : off + xs.size ≤ cs.size) (h1 : xs.all (·.oneCell') = true) (hns : cs.toList.take off ++ xs.toList ++ cs.toList.drop (off + xs.size) = ns.toList)
    (h : ∀ w', w'.heap[g]? = some (.cells ns t (0, 0)) → Fr (fun q => q = g) w w' → wpList P ops Q rest a w') : wpList P ops Q (o :: rest) a w :=
  wpList_plain hgd fun _ hK => wp_store_part ty s x ho hdst g off hs t cs xs ns hx hg hi hle h1 hns (fun w' hb hf => hK _ _ (h w' hb hf))
end
/-- The cells of a session at work: those of the session, then history, guard, writers, what is drawn. -/
def lvC (sc : Array Value) (r : List Value) : Array Value := (sc.toList ++ r).toArray
theorem lvC_at {sc : Array Value} {r : List Value} (h : sc.size = 17) (i : Nat) : (lvC sc r)[17 + i]? = r[i]? := by
  simp [lvC, List.getElem?_append, h]
  intro h9
  omega
theorem lvC_ses {sc : Array Value} {r : List Value} (j : Nat) (v : Value) (hj : sc[j]? = some v) : (lvC sc r)[0 + j]? = some v := by
  have hlt : j < sc.size := (Array.getElem?_eq_some_iff.1 hj).1
  simp [lvC, List.getElem?_append, hlt]
  simpa [hlt] using hj
theorem lvC_set {sc : Array Value} {r : List Value} (h : sc.size = 17) (i : Nat) (v : Value) : (lvC sc r).setIfInBounds (17 + i) v = lvC sc (r.set i v) := by
  simp [lvC, h]
theorem lvC_setS {sc : Array Value} {r : List Value} (i : Nat) (hi : i < sc.size) (v : Value) : (lvC sc r).setIfInBounds i v = lvC (sc.setIfInBounds i v) r := by
  simp [lvC, hi]
theorem lvC_store {sc sn : Array Value} {r : List Value} (h : sc.size = 17) (hn : sn.size = 17) : (lvC sc r).toList.take 0 ++ sn.toList ++ (lvC sc r).toList.drop (0 + sn.size) = (lvC sn r).toList := by
  simp [lvC, hn, h]
theorem OwnSes.mono {w : World} {b b' : Nat} {s : SS} {u h p q l d : Value} (H : OwnSes w b s u h p q l d) (hb : b' ≤ b) : OwnSes w b' s u h p q l d := ⟨H.un.mono hb, owns_mono H.kh hb, H.pa.mono hb, H.qu.mono hb, H.lo.mono hb, H.dn.mono hb, H.ap⟩
/-- The cells of a session. -/
def sesC (s : SS) (u h p q l d : Value) : Array Value := #[.string s.pr, .int .i64 s.cols, .int .i64 s.rows, .string s.la, .string s.lb, .string s.lc, u, h, .bool s.kp, .bool s.nav, p, .int .i64 s.at9, .string s.dr, .bool s.st, q, l, d]
theorem sesV_C (s : SS) (u h p q l d : Value) : sesV s u h p q l d = .agg (sesC s u h p q l d) := rfl
/-- What a session at work has besides, when it wakes. -/
abbrev lv0 : List Value := [.int .i64 0, .slice none 0 0, .int .i32 0, .int .u32 0, .nilFunc, .nilFunc, .nilFunc, .nilFunc, .nilFunc, .slice none 0 0, .int .i64 0, .int .i64 0]
set_option maxRecDepth 10000 in
set_option maxHeartbeats 1000000 in
theorem copyHistory_nil (c : Int) (w : World) : Calls Tryz.prog 65 #[.agg #[.int .i64 c, .slice none 0 0]] w fun e w' => e = .returned (.agg #[.int .i64 c, .slice none 0 0]) ∧ Ext w w' := by
  go_enter Tryz.func65, Tryz.ntmps65
  go_wp2
  go_region_law (first | fail)
  all_goals
    go_wp2
    exact bodyPost_ret (v := .agg #[.int .i64 c, .slice none 0 0]) (by simp [results, Tryz.results65, go_sem]) rfl ⟨rfl, (((Ext.refl w).alloc _).alloc _).drew⟩
theorem infoHis : (Tryz.prog.info? 69).map (·.size) = some 2 := by kernel_rfl
set_option linter.unusedSimpArgs false in
set_option maxRecDepth 10000 in
set_option maxHeartbeats 4000000 in
/-- A session wakes: it lies in a box of its own. -/
theorem wake_any (s : SS) (u h p q l d : Value) (w : World) (hA : SesAt w s u h p q l d) (hz : s.Sz) :
    Calls Tryz.prog 33 #[sesV s u h p q l d, .agg #[.int .i64 0, .slice none 0 0]] w fun e w' => ∃ P u h p q l d, e = .returned (.pointer (some ⟨P, 0, none⟩)) ∧ w'.heap[P]? = some (.cells (lvC (sesC s u h p q l d) lv0) 85 (0, 0)) ∧ OwnSes w' w.heap.size s u h p q l d ∧ w.heap.size ≤ P ∧ ¬ SesFoot u h p q l d P ∧ Ext w w' := by
  have hcC := hide (fun W (hW : Ext w W) => copySession_any s u h p q l d W (hA.ext hW) hz)
  have hcH := hide (fun W => copyHistory_nil 0 W)
  obtain ⟨ua, uc, ha, hc, pa, pc, qa, qc, la, lc, da, dc, rfl, rfl, rfl, rfl, rfl, rfl⟩ := hA.forms
  clear hA hz
  have HB0 : Hid (((w.alloc (.cells #[.string s.pr, .int .i64 s.cols, .int .i64 s.rows, .string s.la, .string s.lb, .string s.lc, .slice ua s.un uc, .slice ha s.kh.length hc, .bool s.kp, .bool s.nav, .slice pa s.pn pc, .int .i64 s.at9, .string s.dr, .bool s.st, .slice qa s.qn qc, .slice la s.ln lc, .slice da s.dn dc] 37)).alloc (.cells #[.int .i64 0, .slice none 0 0] 69)).heap[w.heap.size]? = some (.cells #[.string s.pr, .int .i64 s.cols, .int .i64 s.rows, .string s.la, .string s.lb, .string s.lc, .slice ua s.un uc, .slice ha s.kh.length hc, .bool s.kp, .bool s.nav, .slice pa s.pn pc, .int .i64 s.at9, .string s.dr, .bool s.st, .slice qa s.qn qc, .slice la s.ln lc, .slice da s.dn dc] 37 (0, 0))) := hide (((Ext.refl _).alloc _).kept (new_block w _))
  have HB1 : Hid (((w.alloc (.cells #[.string s.pr, .int .i64 s.cols, .int .i64 s.rows, .string s.la, .string s.lb, .string s.lc, .slice ua s.un uc, .slice ha s.kh.length hc, .bool s.kp, .bool s.nav, .slice pa s.pn pc, .int .i64 s.at9, .string s.dr, .bool s.st, .slice qa s.qn qc, .slice la s.ln lc, .slice da s.dn dc] 37)).alloc (.cells #[.int .i64 0, .slice none 0 0] 69)).heap[w.heap.size + 1]? = some (.cells #[.int .i64 0, .slice none 0 0] 69 (0, 0))) := hide (by have h := new_block (w.alloc (.cells #[.string s.pr, .int .i64 s.cols, .int .i64 s.rows, .string s.la, .string s.lb, .string s.lc, .slice ua s.un uc, .slice ha s.kh.length hc, .bool s.kp, .bool s.nav, .slice pa s.pn pc, .int .i64 s.at9, .string s.dr, .bool s.st, .slice qa s.qn qc, .slice la s.ln lc, .slice da s.dn dc] 37)) (.cells #[.int .i64 0, .slice none 0 0] 69); rw [show (w.alloc (.cells #[.string s.pr, .int .i64 s.cols, .int .i64 s.rows, .string s.la, .string s.lb, .string s.lc, .slice ua s.un uc, .slice ha s.kh.length hc, .bool s.kp, .bool s.nav, .slice pa s.pn pc, .int .i64 s.at9, .string s.dr, .bool s.st, .slice qa s.qn qc, .slice la s.ln lc, .slice da s.dn dc] 37)).heap.size = w.heap.size + 1 by simp] at h; exact h)
  have E0 : Hid (Ext w ((w.alloc (.cells #[.string s.pr, .int .i64 s.cols, .int .i64 s.rows, .string s.la, .string s.lb, .string s.lc, .slice ua s.un uc, .slice ha s.kh.length hc, .bool s.kp, .bool s.nav, .slice pa s.pn pc, .int .i64 s.at9, .string s.dr, .bool s.st, .slice qa s.qn qc, .slice la s.ln lc, .slice da s.dn dc] 37)).alloc (.cells #[.int .i64 0, .slice none 0 0] 69))) := hide (((Ext.refl w).alloc _).alloc _)
  unfold sesV at *
  go_enter Tryz.func33, Tryz.ntmps33
  go_wp2
  refine wp_region_held_drew (S := fun W => W.heap[w.heap.size]? = some (.cells #[.string s.pr, .int .i64 s.cols, .int .i64 s.rows, .string s.la, .string s.lb, .string s.lc, .slice ua s.un uc, .slice ha s.kh.length hc, .bool s.kp, .bool s.nav, .slice pa s.pn pc, .int .i64 s.at9, .string s.dr, .bool s.st, .slice qa s.qn qc, .slice la s.ln lc, .slice da s.dn dc] 37 (0, 0)) ∧ W.heap[w.heap.size + 1]? = some (.cells #[.int .i64 0, .slice none 0 0] 69 (0, 0))) (by kernel_rfl) ⟨unhide HB0, unhide HB1⟩ (fun hHeld => ?_)
  refine wpAnyH_take (i := 0) (v := .agg #[.string s.pr, .int .i64 s.cols, .int .i64 s.rows, .string s.la, .string s.lb, .string s.lc, .slice ua s.un uc, .slice ha s.kh.length hc, .bool s.kp, .bool s.nav, .slice pa s.pn pc, .int .i64 s.at9, .string s.dr, .bool s.st, .slice qa s.qn qc, .slice la s.ln lc, .slice da s.dn dc]) rfl (by kernel_rfl) (by kernel_rfl) (by kernel_rfl) (fun _ _ _ h => h) (Or.inl ⟨by rfl, ?_⟩) (by assumption) ?_
  · intro w' hSw; exact yields_load_blk 37 _ rfl (w.heap.size) rfl _ _ _ _ hSw.1 Tryz.underlying37 rfl infoSes
  simp only [Act.put, List.getElem_toArray, List.getElem_cons_succ, List.getElem_cons_zero, List.setIfInBounds_toArray, List.set_cons_zero, List.set_cons_succ]
  refine wpAnyH_take (i := 2) (v := .agg #[.int .i64 0, .slice none 0 0]) rfl (by kernel_rfl) (by kernel_rfl) (by kernel_rfl) (fun _ _ _ h => h) (Or.inl ⟨by rfl, ?_⟩) (by assumption) ?_
  · intro w' hSw; exact yields_load_blk 69 _ rfl (w.heap.size + 1) rfl _ _ _ _ hSw.2 Tryz.underlying69 rfl infoHis
  simp only [Act.put, List.getElem_toArray, List.getElem_cons_succ, List.getElem_cons_zero, List.setIfInBounds_toArray, List.set_cons_zero, List.set_cons_succ]
  refine wpAnyH_ready (rs := [1]) (by kernel_rfl) (by simp) ?_
  refine AllReadyH.cons rfl (fun K hK => ?_) AllReadyH.nil
  go_simp
  go_wp2_with (go_at_call 64; refine ((unhide hcC) _ (unhide E0).drew).mono ?_; rintro e w4 ⟨u4, h4, p4, q4, l4, d4, rfl, o4, F4⟩; obtain ⟨u4a, u4c, h4a, h4c, p4a, p4c, q4a, q4c, l4a, l4c, d4a, d4c, rfl, rfl, rfl, rfl, rfl, rfl⟩ := o4.reads.forms; have HO4 := hide o4; have G4 := hide ((Ext.refl ((w.alloc (.cells #[.string s.pr, .int .i64 s.cols, .int .i64 s.rows, .string s.la, .string s.lb, .string s.lc, .slice ua s.un uc, .slice ha s.kh.length hc, .bool s.kp, .bool s.nav, .slice pa s.pn pc, .int .i64 s.at9, .string s.dr, .bool s.st, .slice qa s.qn qc, .slice la s.ln lc, .slice da s.dn dc] 37)).alloc (.cells #[.int .i64 0, .slice none 0 0] 69))).drew.trans F4); clear o4 F4)
  refine hK.out _ _ ⟨(unhide G4).kept (unhide HB0), (unhide G4).kept (unhide HB1)⟩ (fun hHeld => ?_)
  clear hK K
  refine wpAnyH_ready (rs := [3]) (by kernel_rfl) (by simp) ?_
  refine AllReadyH.cons rfl (fun K hK => ?_) AllReadyH.nil
  go_simp
  go_wp2_with (go_at_call 65; refine ((unhide hcH) _).mono ?_; rintro e w5 ⟨rfl, F5⟩; have G5 := hide ((unhide G4).trans F5); replace HO4 := hide ((unhide HO4).ext F5); clear F5)
  refine hK.out _ _ ⟨(unhide G5).kept (unhide HB0), (unhide G5).kept (unhide HB1)⟩ (fun hHeld => ?_)
  clear hK K
  refine wpAnyH_take (i := 4) (v := ?_) rfl (by kernel_rfl) (by kernel_rfl) (by kernel_rfl) (fun _ _ _ h => h) (Or.inl ⟨by rfl, ?_⟩) (by assumption) ?_
  rotate_left
  · intro w' hSw; go_simp <;> with_reducible rfl
  simp only [Act.put, List.getElem_toArray, List.getElem_cons_succ, List.getElem_cons_zero, List.setIfInBounds_toArray, List.set_cons_zero, List.set_cons_succ]
  refine wpAnyH_ready (rs := [5]) (by kernel_rfl) (by simp) ?_
  refine AllReadyH.cons rfl (fun K hK => ?_) AllReadyH.nil
  go_simp
  refine hK.out _ _ ⟨((unhide G5).alloc _).kept (unhide HB0), ((unhide G5).alloc _).kept (unhide HB1)⟩ (fun hHeld => ?_)
  clear hK K
  refine wpAnyH_take (i := 6) (v := ?_) rfl (by kernel_rfl) (by kernel_rfl) (by kernel_rfl) (fun _ _ _ h => h) (Or.inl ⟨by rfl, ?_⟩) (by assumption) ?_
  rotate_left
  · intro w' hSw; go_simp <;> with_reducible rfl
  simp only [Act.put, List.getElem_toArray, List.getElem_cons_succ, List.getElem_cons_zero, List.setIfInBounds_toArray, List.set_cons_zero, List.set_cons_succ]
  refine wpAnyH_done (by kernel_rfl) ?_ _
  have s1 := (unhide E0).size
  have s4 := (unhide G4).size
  have s5 := (unhide G5).size
  go_wp2
  go_ret
  exact ⟨w5.heap.size, _, _, _, _, _, _, rfl, new_block w5 _, ((unhide HO4).ext ((Ext.refl w5).alloc _)).mono (by have h8 : ∀ U : World, U.drew.heap.size = U.heap.size := fun _ => rfl; rw [h8]; exact s1), by omega, fun hg => by have := ((unhide HO4).foot hg).2; omega, (unhide E0).trans ((unhide G5).alloc _)⟩
end Go.Proofs.YtgdadidppelgdaaGreatDoor

namespace Go.Proofs.YtgdadidppelgdaaGreatDoor
open Go.RowKit

theorem wp_named {P : Program} {c : Code} {Q : Exit → Act → World → Prop} {a : Act} {w : World} (h : ∀ Q', Q' = Q → c.wp P Q' a w) : c.wp P Q a w := h Q rfl
/-- The deferred closure of a frame where it returns: recover finds nothing. -/
theorem frame1_idle (p0 p1 p2 p3 p4 : Addr) (w : World) :
    CallsD Tryz.prog 97 #[.pointer (some p0), .pointer (some p1), .pointer (some p2), .pointer (some p3), .pointer (some p4)] .returning w fun e u' w' => e = .returned (.tuple #[]) ∧ u' = .returning ∧ w' = w := by
  refine callsD_of_wpS Tryz.func97 rfl fun c₀ cs hu => ?_
  apply wpS_seq
  apply wpS_region
  simp [wpOpsS, go_sem, recoverD, hu, Tryz.ntmps97, Exit.thenS]
  refine wpS_of_wp ?_
  refine wp_named ?_
  intro Q hQ
  have HQ := hide hQ
  have hu' := hide hu
  clear hu hQ
  simp only [Array.replicate_succ, Array.replicate_zero, List.push_toArray, List.append_toArray, List.nil_append, List.cons_append, List.setIfInBounds_toArray, List.set_cons_zero, List.set_cons_succ]
  go_wp2
  rw [unhide HQ]
  have hu := unhide hu'
  cases c₀
  simp_all [bodyPostS, results, Tryz.results97]
set_option maxRecDepth 10000 in
set_option maxHeartbeats 2000000 in
/-- The deferred closure of a frame behind a refusal: all is as it was, and the code is told. -/
theorem frame1_hit (b6 b7 b2 b3 b4 P : Nat) (s : SS) (u h p q l d : Value) (sc : Array Value) (a0 a1 x3 x4 hv : Value) (hcap : Int) (r : List Value) (c : Int) (older : List PanicEntry) (w : World)
    (hsc : sc.size = 17) (hform : ∃ ua uc ha hc pa pc qa qc la lc da dc, u = .slice ua s.un uc ∧ h = .slice ha s.kh.length hc ∧ p = .slice pa s.pn pc ∧ q = .slice qa s.qn qc ∧ l = .slice la s.ln lc ∧ d = .slice da s.dn dc) (hhv : ∃ a n c, hv = .slice a n c)
    (h6 : w.heap[b6]? = some (.cells (sesC s u h p q l d) 37 (0, 0))) (h7 : w.heap[b7]? = some (.cells #[.int .i64 hcap, hv] 69 (0, 0))) (h2 : w.heap[b2]? = some (.cells #[.pointer (some ⟨P, 0, none⟩)] 66 (0, 0)))
    (h3 : w.heap[b3]? = some (.cells #[x3] 25 (0, 0))) (h4 : w.heap[b4]? = some (.cells #[x4] 3 (0, 0))) (hL : w.heap[P]? = some (.cells (lvC sc (a0 :: a1 :: r)) 85 (0, 0)))
    (n63 : P ≠ b6 ∧ P ≠ b7 ∧ P ≠ b2 ∧ P ≠ b3 ∧ P ≠ b4 ∧ b3 ≠ b4) :
    CallsD Tryz.prog 97 #[.pointer (some ⟨b6, 0, none⟩), .pointer (some ⟨b7, 0, none⟩), .pointer (some ⟨b2, 0, none⟩), .pointer (some ⟨b3, 0, none⟩), .pointer (some ⟨b4, 0, none⟩)] (.panicking ({ v := .iface 134 (.int .i64 c), recovered := false } :: older)) w fun e u' w' => e = .returned (.tuple #[]) ∧ u' = .panicking ({ v := .iface 134 (.int .i64 c), recovered := true } :: older)
      ∧ w'.heap[P]? = some (.cells (lvC (sesC s u h p q l d) (.int .i64 hcap :: hv :: r)) 85 (0, 0)) ∧ w'.heap[b3]? = some (.cells #[.slice none 0 0] 25 (0, 0)) ∧ w'.heap[b4]? = some (.cells #[.int .i64 c] 3 (0, 0)) ∧ Fr (fun g => g = P ∨ g = b3 ∨ g = b4) w w' := by
  obtain ⟨ua, uc, ha, hc, pa, pc, qa, qc, la, lc, da, dc, rfl, rfl, rfl, rfl, rfl, rfl⟩ := hform
  obtain ⟨hva, hvn, hvc, rfl⟩ := hhv
  obtain ⟨n1, n2, n3, n4, n5, n6⟩ := n63
  refine callsD_of_wpS Tryz.func97 rfl fun c₀ cs hu => ?_
  apply wpS_seq
  apply wpS_region
  simp [wpOpsS, go_sem, recoverD, hu, Tryz.ntmps97, Exit.thenS]
  refine wpS_of_wp ?_
  refine wp_named ?_
  intro Q hQ
  have HQ := hide hQ
  simp only [Array.replicate_succ, Array.replicate_zero, List.push_toArray, List.append_toArray, List.nil_append, List.cons_append, List.setIfInBounds_toArray, List.set_cons_zero, List.set_cons_succ]
  have hu' := hide hu
  have H6 := hide h6
  have HL := hide hL
  have H3 := hide h3
  have H4 := hide h4
  have HN : Hid (n1 = n1) := hide rfl
  have k2 : w.cell? ⟨b2, 0, none⟩ = some (.pointer (some ⟨P, 0, none⟩)) := cells_of h2 0 _ rfl
  have k70 : w.cell? ⟨b7, 0, none⟩ = some (.int .i64 hcap) := cells_of h7 0 _ rfl
  have k71 : w.cell? ⟨b7, 1, none⟩ = some (.slice hva hvn hvc) := cells_of h7 1 _ rfl
  clear hu h6 hL h3 h4 h2 h7 HN hQ
  have hcc := hide (codeOf_ref c)
  go_wp2_with (first
    | (refine wpList_load_blk rfl 37 _ rfl b6 rfl _ _ _ _ (unhide H6) Tryz.underlying37 rfl infoSes ?_)
    | with_reducible refine (StopQ.intro ?_ : wpList _ _ _ ({ dst := none, op := Op.store 37 _ _, type := _, pos := _, after := _, guard := _ } :: _) _ _))
  show wpList _ _ _ _ _ _
  clear k2 k70 k71
  have p1 : 0 + (sesC s (.slice ua s.un uc) (.slice ha s.kh.length hc) (.slice pa s.pn pc) (.slice qa s.qn qc) (.slice la s.ln lc) (.slice da s.dn dc)).size ≤ (lvC sc (a0 :: a1 :: r)).size := by simp [lvC, hsc, sesC]
  have p2 : (sesC s (.slice ua s.un uc) (.slice ha s.kh.length hc) (.slice pa s.pn pc) (.slice qa s.qn qc) (.slice la s.ln lc) (.slice da s.dn dc)).all (·.oneCell') = true := by simp [Value.oneCell', sesC]
  have p3 : (Tryz.prog.info? 37).map (·.size) = some (sesC s (.slice ua s.un uc) (.slice ha s.kh.length hc) (.slice pa s.pn pc) (.slice qa s.qn qc) (.slice la s.ln lc) (.slice da s.dn dc)).size := infoSes
  have p4 := lvC_store (r := a0 :: a1 :: r) hsc (show (sesC s (.slice ua s.un uc) (.slice ha s.kh.length hc) (.slice pa s.pn pc) (.slice qa s.qn qc) (.slice la s.ln lc) (.slice da s.dn dc)).size = 17 from rfl)
  have HP := hide (And.intro p1 (And.intro p2 (And.intro p3 p4)))
  clear p1 p2 p3 p4
  generalize hSC : (sesC s (.slice ua s.un uc) (.slice ha s.kh.length hc) (.slice pa s.pn pc) (.slice qa s.qn qc) (.slice la s.ln lc) (.slice da s.dn dc)) = SC at *
  refine wpList_store_part rfl 37 _ _ rfl rfl P 0 rfl 85 (lvC sc (a0 :: a1 :: r)) SC (lvC SC (a0 :: a1 :: r)) rfl (unhide HL) (unhide HP).2.2.1 (unhide HP).1 (unhide HP).2.1 (unhide HP).2.2.2 ?_
  intro X hXb hXf
  have HLX := hide hXb
  have FX := hide hXf
  have z9 : SC.size = 17 := by rw [← hSC]; rfl
  have y0 : X.cell? ⟨P, 17, none⟩ = some a0 := by rw [cell_of_row X P 17 _ _ _ hXb]; exact lvC_at z9 0
  have y1 : X.cell? ⟨P, 18, none⟩ = some a1 := by rw [cell_of_row X P 18 _ _ _ hXb]; exact lvC_at z9 1
  have yf : ∀ i, X.frozen? ⟨P, i, none⟩ = false := fun i => Lib.frozen_of_heap hXb i
  have HZ9 := hide z9
  have HSC := hide hSC
  have HN4 := hide n4
  have HN5 := hide n5
  have HN6 := hide n6
  clear hXb hXf z9 hSC n1 n2 n3 n4 n5 n6
  go_wp2_with fail
  clear y0 y1 yf
  refine Calls.named ?_
  intro X2 hX2
  have HLX2 : Hid (X2.heap[P]? = some (.cells (lvC SC (.int .i64 hcap :: .slice hva hvn hvc :: r)) 85 (0, 0))) := hide (by
    rw [hX2]
    refine set_blk2 (set_blk2 (unhide HLX) (lvC_set (unhide HZ9) 0 (.int .i64 hcap))) ?_
    exact lvC_set (unhide HZ9) 1 (.slice hva hvn hvc))
  have FX2 : Fr (fun g => g = P ∨ g = b3 ∨ g = b4) w X2 := by
    rw [hX2]
    exact Fr.setCell (S := fun g => g = P ∨ g = b3 ∨ g = b4) (Fr.setCell (S := fun g => g = P ∨ g = b3 ∨ g = b4) ((unhide FX).mono (fun g hg => .inl hg)) (a := ⟨P, 17, none⟩) (.inl rfl) _) (a := ⟨P, 18, none⟩) (.inl rfl) _
  have H3X : Hid (X2.heap[b3]? = some (.cells #[x3] 25 (0, 0))) := hide (by rw [hX2]; exact set_else (set_else ((unhide FX).kept (unhide H3) (fun e => unhide HN4 e.symm)) (fun e => unhide HN4 e.symm)) (fun e => unhide HN4 e.symm))
  have H4X : Hid (X2.heap[b4]? = some (.cells #[x4] 3 (0, 0))) := hide (by rw [hX2]; exact set_else (set_else ((unhide FX).kept (unhide H4) (fun e => unhide HN5 e.symm)) (fun e => unhide HN5 e.symm)) (fun e => unhide HN5 e.symm))
  clear hX2 HLX FX H3 H4 HL H6
  refine ((unhide hcc) X2).mono ?_
  rintro e w2 ⟨rfl, rfl⟩
  have c3 : w2.cell? ⟨b3, 0, none⟩ = some x3 := cells_of (unhide H3X) 0 _ rfl
  have c4 : w2.cell? ⟨b4, 0, none⟩ = some x4 := cells_of (unhide H4X) 0 _ rfl
  have c4s : ∀ v, (w2.setCell ⟨b3, 0, none⟩ v).cell? ⟨b4, 0, none⟩ = some x4 := fun v => cells_of (set_else (unhide H4X) (fun e => unhide HN6 e.symm)) 0 _ rfl
  have e3 : w2.frozen? ⟨b3, 0, none⟩ = false := Lib.frozen_of_heap (unhide H3X) 0
  have e4 : w2.frozen? ⟨b4, 0, none⟩ = false := Lib.frozen_of_heap (unhide H4X) 0
  go_wp2
  clear c3 c4 e3 e4 c4s
  rw [unhide HQ]
  have hu := unhide hu'
  have q1 := set_else (c := b4) (i := 0) (v := .int .i64 c) (set_else (c := b3) (i := 0) (v := .slice none 0 0) (unhide HLX2) (unhide HN4)) (unhide HN5)
  have q2 := set_else (c := b4) (i := 0) (v := .int .i64 c) (set_blk2 (i := 0) (v := .slice none 0 0) (cs' := #[.slice none 0 0]) (unhide H3X) rfl) (unhide HN6)
  have q3 := set_blk2 (i := 0) (v := .int .i64 c) (cs' := #[.int .i64 c]) (set_else (c := b3) (i := 0) (v := .slice none 0 0) (unhide H4X) (fun e => unhide HN6 e.symm)) rfl
  have q4 : Fr (fun g => g = P ∨ g = b3 ∨ g = b4) w ((w2.setCell ⟨b3, 0, none⟩ (.slice none 0 0)).setCell ⟨b4, 0, none⟩ (.int .i64 c)) := Fr.setCell (S := fun g => g = P ∨ g = b3 ∨ g = b4) (Fr.setCell (S := fun g => g = P ∨ g = b3 ∨ g = b4) FX2 (a := ⟨b3, 0, none⟩) (.inr (.inl rfl)) _) (a := ⟨b4, 0, none⟩) (.inr (.inr rfl)) _
  cases c₀
  simp [bodyPostS, results, Tryz.results97]
  exact ⟨q1, q2, q3, q4⟩
end Go.Proofs.YtgdadidppelgdaaGreatDoor

namespace Go.Proofs.YtgdadidppelgdaaGreatDoor
open Go.RowKit

abbrev noX : ByteArray := { data := #[] }
/-- The last row that a view shows of n rows: not before R. -/
def lastV (t : Nat → ByteArray) (R : Nat) : Nat → Nat
  | 0 => R
  | n + 1 => if lastV t R n < n ∧ t n ≠ noX then n else lastV t R n
theorem lastV_ge (t : Nat → ByteArray) (R : Nat) : ∀ n, R ≤ lastV t R n
  | 0 => Nat.le_refl _
  | n + 1 => by
    have := lastV_ge t R n
    unfold lastV
    split <;> omega
theorem lastV_or (t : Nat → ByteArray) (R : Nat) : ∀ n, lastV t R n = R ∨ lastV t R n < n
  | 0 => .inl rfl
  | n + 1 => by
    unfold lastV
    split
    · exact .inr (by omega)
    · rcases lastV_or t R n with h | h
      · exact .inl h
      · exact .inr (by omega)
theorem lastV_lt (t : Nat → ByteArray) (R : Nat) (n : Nat) (h : R < n) : lastV t R n < n := by
  rcases lastV_or t R n with h1 | h1 <;> omega
/-- Rows without text at the end change nothing. -/
theorem lastV_blank (t : Nat → ByteArray) (R : Nat) (m : Nat) : ∀ n, m ≤ n → (∀ i, m ≤ i → i < n → t i = noX) → lastV t R n = lastV t R m
  | 0, h, _ => by rw [show m = 0 by omega]
  | n + 1, h, hb => by
    by_cases e : m = n + 1
    · rw [e]
    · have ih := lastV_blank t R m n (by omega) (fun i h1 h2 => hb i h1 (by omega))
      rw [show lastV t R (n + 1) = if lastV t R n < n ∧ t n ≠ noX then n else lastV t R n from rfl, if_neg (fun hh => hh.2 (hb n (by omega) (by omega)))]
      exact ih
theorem lastV_top (t : Nat → ByteArray) (R j : Nat) (h : R ≤ j) (ht : j = R ∨ t j ≠ noX) : lastV t R (j + 1) = j := by
  unfold lastV
  split
  · rfl
  · rename_i hn
    have h1 := lastV_ge t R j
    rcases ht with rfl | ht
    · rcases lastV_or t j j with h2 | h2
      · exact h2
      · omega
    · have : ¬ lastV t R j < j := fun e => hn ⟨e, ht⟩
      rcases lastV_or t R j with h2 | h2 <;> omega
theorem lay_row_lt {cs : List (List Int × Int)} {cols p rows : Nat} (hr : 1 ≤ rows) : layRow cs cols p - layFr cs cols p rows < layCnt cs cols p rows ∧ layFr cs cols p rows ≤ layRow cs cols p := by
  have h1 := layRow_lt (cs := cs) (cols := cols) (p := p)
  unfold layCnt layFr
  omega
end Go.Proofs.YtgdadidppelgdaaGreatDoor
