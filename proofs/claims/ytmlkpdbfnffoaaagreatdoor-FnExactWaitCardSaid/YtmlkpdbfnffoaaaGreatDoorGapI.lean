import Derived.Test.YtmlkpdbfnffoaaaGreatDoorGap
namespace Go.Proofs.YtmlkpdbfnffoaaaGreatDoor
open Go.RowKit
section
variable {P : Program}
theorem zeu {ops : Array Oper} {o : Oper} {a : Act} {w : World} {K : Act → World → Prop} {Q : Exit → Act → World → Prop} {E : Prop} (hgd : o.guard = none) (d s : Operand) (dT sT : TypeId)
  (ho : o.op = .call { callee := .builtin .copy, args := #[d, s], argTypes := #[dT, sT] }) (elem : TypeId) (sz g oo dLen dCap : Nat) (ad : Addr) (sLen sCap : Nat) (cur : Array Value) (t : TypeId) (cs : List Value) (ns : Array Value) (m : Nat)
  (hu : P.underlying dT = some (.slice elem)) (hs : (P.info? elem).map (·.size) = some sz) (hd : a.eval d = .slice (some ⟨g, oo, none⟩) dLen dCap) (hx : a.eval s = .slice (some ad) sLen sCap)
  (hg : w.heap[g]? = some (.cells cur t (0, 0))) (hm : Nat.min sLen dLen = m) (hn : cs.length = m * sz) (hsrc : ∀ j v, cs[j]? = some v → w.cell? (ad.add j) = some v) (hfit : oo + cs.length ≤ cur.size) (h1 : ∀ v ∈ cs, v.oneCell' = true)
  (hns : (cur.toList.take oo ++ cs ++ cur.toList.drop (oo + cs.length)).toArray = ns)
  (h : ∀ w', w'.heap[g]? = some (.cells ns t (0, 0)) → Fr (fun q => q = g) w w' → K (a.put o.dst (.int .i64 (m : Int))) w') :
  if Region.wanted o (yielded ops a.tmps) = true then Oper.wp P o a w K Q else E := by
 rw [if_pos (by simp [Region.wanted, hgd])]
 have hr := zhv (P := P) w dT sT o.type elem sz g oo dLen dCap ad sLen sCap cur t cs hu hs hg (by rw [hm]; exact hn) hsrc hfit h1
 rw [hm, hns] at hr
 unfold Oper.wp execOp
 simp only [ho, resolve, invoke, builtin, Sem.run_bind, Sem.run_pure, Result.andThen_ok, List.map_toArray, List.map_cons, List.map_nil, hd, hx, hr]
 exact h _ (zeJ hg) (zfz g ns)
theorem zbH {ops : Array Oper} {o : Oper} {a : Act} {w : World} {K : Act → World → Prop} {Q : Exit → Act → World → Prop} {E : Prop} (hgd : o.guard = none) (d s : Operand) (dT sT : TypeId)
  (ho : o.op = .call { callee := .builtin .copy, args := #[d, s], argTypes := #[dT, sT] }) (elem : TypeId) (sz dLen dCap : Nat) (da sa : Option Addr) (sCap : Nat)
  (hu : P.underlying dT = some (.slice elem)) (hs : (P.info? elem).map (·.size) = some sz) (hd : a.eval d = .slice da dLen dCap) (hx : a.eval s = .slice sa 0 sCap) (h : K (a.put o.dst (.int .i64 0)) w) :
  if Region.wanted o (yielded ops a.tmps) = true then Oper.wp P o a w K Q else E := by
 rw [if_pos (by simp [Region.wanted, hgd])]
 have hr : (Builtin.copy_ #[dT, sT] o.type #[.slice da dLen dCap, .slice sa 0 sCap]).run P w = .ok (.int .i64 0) w := by
  cases hq : P.info? elem with
  | none => simp [hq] at hs
  | some i => cases da <;> cases sa <;> simp [Builtin.copy_, run_underlying hu, Builtin.lenOf, Builtin.firstCells, sizeOf, typeInfo, hq, loadCells, loadCellsFrom, storeCells, goInt]
 unfold Oper.wp execOp
 simp only [ho, resolve, invoke, builtin, Sem.run_bind, Sem.run_pure, Result.andThen_ok, List.map_toArray, List.map_cons, List.map_nil, hd, hx, hr]
 exact h
end
theorem zf3 {w : World} {rs : List Value} {cs : List (List Int × Int)} {b off : Nat} (h : ∀ j, j < cs.length → w.cell? ⟨b, off + j * 2, none⟩ = some (rV rs j) ∧ w.cell? ⟨b, off + j * 2 + 1, none⟩ = some (.int .i64 (cW cs j))) : ∀ j v, (zam rs cs cs.length)[j]? = some v → w.cell? ((⟨b, off, none⟩ : Addr).add j) = some v := by
 intro j v hv
 have hl := zbh rs cs cs.length
 have hj : j < cs.length * 2 := by have := (List.getElem?_eq_some_iff.1 hv).1; omega
 rw [Addr.add_lit]
 have h1 := zds rs cs cs.length (j / 2) (by omega)
 have h2 := h (j / 2) (by omega)
 rcases Nat.mod_two_eq_zero_or_one j with e | e
 ·have ej : j / 2 * 2 = j := by omega
  rw [ej] at h1 h2
  rw [h2.1, ← h1.1]
  exact hv
 ·have ej : j / 2 * 2 + 1 = j := by omega
  rw [ej] at h1
  have e3 : off + j / 2 * 2 + 1 = off + j := by omega
  rw [e3] at h2
  rw [h2.2, ← h1.2]
  exact hv
theorem zdC : (Tryz.prog.info? 203).map (·.size) = some 2 := by kernel_rfl
theorem zaJ {W : World} {P : Nat} {cl : List Value} {fr bh : Int} {k : ByteArray} {u : Value} (h : W.heap[P]? = some (.cells (edC cl fr bh k u) 226 (0, 0))) (hl : cl.length = 600) : W.cell? ⟨P, 600, none⟩ = some (.int .i64 fr) ∧ W.cell? ⟨P, 601, none⟩ = some (.int .i64 bh) ∧ W.cell? ⟨P, 602, none⟩ = some (.string k) ∧ W.cell? ⟨P, 603, none⟩ = some u ∧ W.frozen? ⟨P, 600, none⟩ = false ∧ W.frozen? ⟨P, 601, none⟩ = false ∧ W.frozen? ⟨P, 603, none⟩ = false := by
 refine ⟨?_, ?_, ?_, ?_, Lib.frozen_of_heap h 600, Lib.frozen_of_heap h 601, Lib.frozen_of_heap h 603⟩
 ·rw [cell_of_row W P 600 _ _ _ h]; exact (ziv hl).1
 ·rw [cell_of_row W P 601 _ _ _ h]; exact (ziv hl).2.1
 ·rw [cell_of_row W P 602 _ _ _ h]; exact (ziv hl).2.2.1
 ·rw [cell_of_row W P 603 _ _ _ h]; exact (ziv hl).2.2.2
set_option maxRecDepth 10000 in
set_option maxHeartbeats 4000000 in
theorem zdG (P : Nat) (cl rl rr : List Value) (A B cs : List (List Int × Int)) (bh : Nat) (hbh : bh = 300 - B.length) (k : ByteArray) (u v : Value) (rs : List Value) (W : World) (hP : W.heap[P]? = some (.cells (edC cl (A.length : Int) (bh : Int) k u) 226 (0, 0))) (hG : zaY P W cl rl rr A B) (hrs : rs.length = cs.length)
    (hfit : A.length + cs.length + B.length ≤ 300) (hr : ∀ j, j < cs.length → RS P W (rV rs j) (cR cs j)) (h1 : ∀ v ∈ zam rs cs cs.length, v.oneCell' = true) (ao : Option Addr) (cap : Nat) (hv : v = .slice ao cs.length cap) (hx : 0 < cs.length → ∃ b off, ao = some ⟨b, off, none⟩ ∧ ∀ j, j < cs.length → W.cell? ⟨b, off + j * 2, none⟩ = some (rV rs j) ∧ W.cell? ⟨b, off + j * 2 + 1, none⟩ = some (.int .i64 (cW cs j))) :
    Calls Tryz.prog 256 #[.pointer (some ⟨P, 0, none⟩), v] W fun e w' => ∃ cl', e = .returned (.tuple #[]) ∧ w'.heap[P]? = some (.cells (edC cl' ((A ++ cs).length : Int) (bh : Int) k u) 226 (0, 0)) ∧ zaY P w' cl' (rl ++ rs) rr (A ++ cs) B ∧ Fr (fun q => q = P) W w' := by
  subst hv
  have hl := hG.len
  have hfb := hG.fit
  obtain ⟨k600, k601, -, -, f600, -, -⟩ := zaJ hP hl
  have hlen : (A ++ cs).length = A.length + cs.length := List.length_append
  have hcl := zbh rs cs cs.length
  have HIN := zi (fun (w' : World) (f : Fr (fun q => q = P) W w') => (hG.fr f).insert hrs hfit (fun j hj => (hr j hj).fr f) h1)
  have HP := zi hP
  have HX := zi hx
  have H1 := zi h1
  obtain ⟨n, hn⟩ : ∃ n, A.length = n := ⟨_, rfl⟩
  obtain ⟨m, hm⟩ : ∃ m, cs.length = m := ⟨_, rfl⟩
  rw [hn, hm] at hlen HIN
  rw [hn] at k600 HP hfit hfb
  rw [hm] at HX H1 hfit hcl ⊢
  rw [hlen]
  clear hP hG hx hr h1 hrs hlen
  have b1 : (n : Int) ≤ (bh : Int) := by omega
  have b2 : (bh : Int) ≤ 300 := by omega
  have HBH := zi hbh
  have bw : IntKind.i64.wrap ((n : Int) + (m : Int)) = (n : Int) + (m : Int) := by rw [IntKind.wrap_i64]; omega
  have hmin : Nat.min m (bh - n) = m := Nat.min_eq_left (by omega)
  have hfs : n * 2 + (zam rs cs m).length ≤ 600 := by omega
  by_cases h0 : m = 0
  · subst h0
    have hw0 : IntKind.i64.wrap (n : Int) = (n : Int) := by rw [IntKind.wrap_i64]; omega
    have hs0 : seg cl (n * 2) (zam rs cs 0) = cl := by simp [seg, zam]
    have HQ : Hid (∀ Wn, Wn = (W.setCell ⟨P, 600, none⟩ (.int .i64 (n : Int))).drew ∨ Wn = W.drew.setCell ⟨P, 600, none⟩ (.int .i64 (n : Int)) → Wn.heap[P]? = some (.cells (edC cl (n : Int) (bh : Int) k u) 226 (0, 0)) ∧ zaY P Wn cl (rl ++ rs) rr (A ++ cs) B ∧ Fr (fun q => q = P) W Wn) := by
      intro Wn hWn
      have hh := heap_setCell_same W P 600 _ _ (.int .i64 (n : Int)) (zg HP)
      rw [zed hl] at hh
      have hf : Fr (fun q => q = P) W Wn := by
        rcases hWn with e | e
        · rw [e]
          exact (Fr.setCell (S := fun q => q = P) (Fr.refl _ W) (a := ⟨P, 600, none⟩) rfl _).tr (Fr.of_ext (Ext.refl _).drew)
        · rw [e]
          exact Fr.setCell (S := fun q => q = P) (Fr.of_ext (Ext.refl W).drew) (a := ⟨P, 600, none⟩) rfl _
      have hin := (zg HIN) Wn hf
      rw [hs0] at hin
      refine ⟨?_, hin, hf⟩
      rcases hWn with e | e <;> rw [e] <;> exact hh
    clear hn hm hbh hmin hs0
    by_cases b3 : 300 = n
    · subst b3
      obtain rfl : bh = 300 := by omega
      go_enter Tryz.func256, Tryz.ntmps256
      go_wp2
      go_region_law (first
        | (refine zbH (by rfl) _ _ _ _ (by rfl) 203 2 _ _ _ ao cap Tryz.underlying160 zdC (by rfl) (by rfl) ?_))
      all_goals
        refine bodyPost_end (v := .tuple #[]) (by simp [results, Tryz.results256, go_sem]) rfl ⟨cl, rfl, (zg HQ) _ ?_⟩
        first | exact .inl rfl | exact .inr rfl
    · go_enter Tryz.func256, Tryz.ntmps256
      go_wp2
      go_region_law (first
        | (refine zbH (by rfl) _ _ _ _ (by rfl) 203 2 _ _ _ ao cap Tryz.underlying160 zdC (by rfl) (by rfl) ?_))
      all_goals
        refine bodyPost_end (v := .tuple #[]) (by simp [results, Tryz.results256, go_sem]) rfl ⟨cl, rfl, (zg HQ) _ ?_⟩
        simp
  · have b3 : ¬ 300 = n := by omega
    obtain ⟨b, off, hao, hcell⟩ := (zg HX) (by omega)
    subst hao
    have HC := zi (zf3 (w := W) (rs := rs) (cs := cs) (b := b) (off := off) (by rw [hm]; exact hcell))
    rw [hm] at HC
    clear hcell hn hm hbh HX
    go_enter Tryz.func256, Tryz.ntmps256
    go_wp2
    go_region_law (first
      | (refine zeu (by rfl) _ _ _ _ (by rfl) 203 2 P (n * 2) (bh - n) (300 - n) ⟨b, off, none⟩ m cap (edC cl (n : Int) (bh : Int) k u) 226 (zam rs cs m) (edC (seg cl (n * 2) (zam rs cs m)) (n : Int) (bh : Int) k u) m Tryz.underlying160 zdC (by rfl) (by rfl) (zg HP) hmin (zbh _ _ _) (zg HC) (by rw [zjt hl]; omega) (zg H1) (zk2 hl _ hfs) ?_
         intro w' hb hf
         obtain ⟨j600, j601, -, -, g600, -, -⟩ := zaJ hb (by rw [zeP _ _ _ (by omega)]; exact hl)
         have HB := zi hb
         have HF := zi ((Fr.of_ext (Ext.refl W).drew).tr hf)
         clear hb hf))
    all_goals
      have hsl : (seg cl (n * 2) (zam rs cs m)).length = 600 := by rw [zeP _ _ _ (by omega)]; exact hl
      have hh := heap_setCell_same w' P 600 _ _ (.int .i64 ((n : Int) + (m : Int))) (zg HB)
      rw [zed hsl] at hh
      have hf := Fr.setCell (S := fun q => q = P) (zg HF) (a := ⟨P, 600, none⟩) rfl (.int .i64 ((n : Int) + (m : Int)))
      exact bodyPost_end (v := .tuple #[]) (by simp [results, Tryz.results256, go_sem]) rfl ⟨_, rfl, by rw [Int.natCast_add]; exact hh, (zg HIN) _ hf, hf⟩
end Go.Proofs.YtmlkpdbfnffoaaaGreatDoor
