import Derived.Test.YtinfdhbnljnifaaGreatDoorKd
import Derived.Test.YtinfdhbnljnifaaGreatDoorBlocks
import Derived.Test.YtinfdhbnljnifaaGreatDoorSnapMark
import Derived.Test.YtinfdhbnljnifaaGreatDoorRowO
import Derived.Test.YtinfdhbnljnifaaGreatDoorBld
import Derived.Laws.StructEq
import Derived.Deep.RegionHeld3
namespace Go.Proofs.YtinfdhbnljnifaaGreatDoor
open Go.RowKit
theorem baList (s : ByteArray) : s.toList = s.data.toList := by
  have aux : ∀ (n i : Nat) (r : List UInt8), s.size - i = n → ByteArray.toList.loop s i r = r.reverse ++ s.data.toList.drop i := by
    intro n
    induction n with
    | zero =>
      intro i r h
      rw [ByteArray.toList.loop, if_neg (by omega), List.drop_eq_nil_of_le (by simp; exact Nat.sub_eq_zero_iff_le.1 h)]
      simp
    | succ n ih =>
      intro i r h
      rw [ByteArray.toList.loop, if_pos (by omega), ih (i + 1) _ (by omega)]
      have hi : i < s.data.toList.length := by simp; show i < s.size; omega
      rw [List.drop_eq_getElem_cons hi]
      have e : s.get! i = s.data.toList[i] := by
        have hs : i < s.data.size := by simpa using hi
        cases s with
        | mk d => show d[i]! = d.toList[i]; simp only [getElem!_pos d i hs, Array.getElem_toList]
      rw [e]
      simp
  have := aux s.size 0 [] (by omega)
  simpa [ByteArray.toList] using this
theorem ba_ne {s t : ByteArray} (h : s ≠ t) : (s.toList == t.toList) = false := by
  rw [beq_eq_false_iff_ne, baList, baList]
  exact fun e => h (WideShapes.bytes_inj e)
def SameR (n m : Nat) (tx ty : Nat → ByteArray) : Prop := n = m ∧ ∀ j, j < n → tx j = ty j
abbrev sameD (n m : Nat) (tx ty : Nat → ByteArray) : Decidable (SameR n m tx ty) := inferInstanceAs (Decidable (n = m ∧ ∀ j, j < n → tx j = ty j))
set_option maxRecDepth 10000 in
set_option maxHeartbeats 1000000 in
theorem l6Same_any (va vb : Value) (n m : Nat) (tx ty : Nat → ByteArray) (w : World) (ha : Row1At w va n (fun j => .string (tx j))) (hb : Row1At w vb m (fun j => .string (ty j))) (hn : n ≤ 1048576) (hm : m ≤ 1048576) (ok : Bool) (hok : ok = true ↔ SameR n m tx ty) :
    Calls Tryz.prog 52 #[va, vb] w fun e w' => e = .returned (.bool ok) ∧ Ext w w' := by
  obtain ⟨ao, ca, rfl, hca, hxa⟩ := ha
  obtain ⟨bo, cb, rfl, hcb, hxb⟩ := hb
  have HK := hide hok
  clear hok
  by_cases hnm : n = m
  · subst hnm
    by_cases h0 : n = 0
    · subst h0
      clear hxa hxb
      have hT : Hid (ok = true) := hide ((unhide HK).2 ⟨rfl, fun j hj => by omega⟩)
      go_enter Tryz.func52, Tryz.ntmps52
      go_wp2
      go_loop [5] (fun i => i = .int .i64 0) (fun _ => 0)
      case atStart => rfl
      case round =>
        subst hrel
        go_wp2
        go_ret
        exact ⟨ret_bool (unhide hT).symm, Ext.refl _⟩
    · obtain ⟨b1, o1, rfl, h1⟩ := hxa (by omega)
      obtain ⟨b2, o2, rfl, h2⟩ := hxb (by omega)
      have H1 := hide h1
      have H2 := hide h2
      clear hxa hxb h1 h2
      go_enter Tryz.func52, Tryz.ntmps52
      go_wp2
      go_loopw [5] (fun i w' => ∃ k : Nat, k ≤ n ∧ i = .int .i64 k ∧ Hid (∀ j, j < k → tx j = ty j) ∧ Ext w w') (fun i _ => n - (intOf i).toNat)
      case atStart => exact ⟨0, Nat.zero_le _, rfl, hide (fun j hj => by omega), Ext.refl _⟩
      case round =>
        obtain ⟨k, hk, rfl, HJ, hext⟩ := hrel
        by_cases hlt : k < n
        · have g1 := hext.cell ((unhide H1) k hlt)
          have g3 := hext.cell ((unhide H2) k hlt)
          have bk : (k : Int) < (n : Int) := by omega
          by_cases hs : tx k = ty k
          · have HJ2 : Hid (∀ j, j < k + 1 → tx j = ty j) := hide (fun j hj => by
              by_cases e : j = k
              · subst e; exact hs
              · exact (unhide HJ) j (by omega))
            rw [← hs] at g3
            clear hs
            go_wp2
            go_quiet (fail)
            go_wp2
            go_roundw
            case rel => exact ⟨k + 1, by omega, by go_num, HJ2, hext.drewN _⟩
            case measure => simp [intOf]; omega
          · have hne := ba_ne hs
            have hF : Hid (ok = false) := by
              refine hide ?_
              cases hc : ok with
              | false => rfl
              | true => exact absurd (((unhide HK).1 hc).2 k hlt) hs
            clear hs
            go_wp2
            go_quiet (fail)
            go_wp2
            go_ret
            exact ⟨ret_bool (unhide hF).symm, hext.drewN _⟩
        · obtain rfl : k = n := by omega
          have hT : Hid (ok = true) := hide ((unhide HK).2 ⟨rfl, unhide HJ⟩)
          go_wp2
          go_ret
          exact ⟨ret_bool (unhide hT).symm, hext⟩
  · have hF : Hid (ok = false) := by
      refine hide ?_
      cases hc : ok with
      | false => rfl
      | true => exact absurd ((unhide HK).1 hc).1 hnm
    have hnm' : ¬ (n : Int) = (m : Int) := by omega
    go_enter Tryz.func52, Tryz.ntmps52
    go_wp2
    go_ret
    exact ⟨ret_bool (unhide hF).symm, Ext.refl _⟩
theorem sameTexts_any (va vb : Value) (n m : Nat) (tx ty : Nat → ByteArray) (w : World) (ha : Row1At w va n (fun j => .string (tx j))) (hb : Row1At w vb m (fun j => .string (ty j))) (hn : n ≤ 1048576) (hm : m ≤ 1048576) (ok : Bool) (hok : ok = true ↔ SameR n m tx ty) :
    Calls Tryz.prog 13 #[va, vb] w fun e w' => e = .returned (.bool ok) ∧ Ext w w' := by
  have H := hide (l6Same_any va vb n m tx ty w ha hb hn hm ok hok)
  obtain ⟨ao, ca, rfl, _, _⟩ := ha
  obtain ⟨bo, cb, rfl, _, _⟩ := hb
  clear hok
  go_enter Tryz.func13, Tryz.ntmps13
  go_wp2_with fail
  refine (unhide H).mono ?_
  rintro e w' ⟨rfl, E⟩
  go_wp2
  go_ret
  exact ⟨rfl, E⟩
end Go.Proofs.YtinfdhbnljnifaaGreatDoor

namespace Go.Proofs.YtinfdhbnljnifaaGreatDoor
open Go.RowKit
theorem cell_fields : Tryz.prog.underlying 83 = some (.struct (Tryz.prog.fieldsOf 83)) := by kernel_rfl
theorem cell_stood : Tryz.prog.stoodInHeld 83 = false := by kernel_rfl
theorem cell_guard : Tryz.prog.eqGuardType Tryz.prog.depth 83 = false := by kernel_rfl
theorem cell_fs : (Tryz.prog.fieldsOf 83).toList = [⟨ "Text", 9, 0, false, "", "", 0⟩, ⟨ "Half", 4, 1, false, "", "", 16⟩] := by kernel_rfl
theorem cell_neq (s : ByteArray) (h : Bool) (w : World) : (binOp .neq 83 (.agg #[.string s, .bool h]) (.agg #[.string s, .bool h])).run Tryz.prog w = .ok (.bool false) w := by
  rw [run_neq_struct, run_equalIn_agg w _ _ _ _ cell_fields cell_stood, cell_fs]
  simp [go_sem]
theorem cell_gd (s s' : ByteArray) (h h' : Bool) (x y : Operand) (w : World) : (eqGuard .neq 83 x y (.agg #[.string s, .bool h]) (.agg #[.string s', .bool h'])).run Tryz.prog w = .ok () w := run_eqGuard_agg w _ _ _ _ _ _ cell_guard
theorem neq_op {P : Program} {a : Act} {o : Oper} {w : World} {T T' : TypeId} {x y : Operand} {X Y : Value} (ho : o.op = .binOp .neq T x y T') (hx : a.eval x = X) (hy : a.eval y = Y) (hg : (eqGuard .neq T x y X Y).run P w = .ok () w) (hb : (binOp .neq T X Y).run P w = .ok (.bool false) w) : (execOp a.eval o).run P w = .ok (.value (.bool false)) w := by
  simp [execOp, ho, hx, hy, Sem.run_bind, hg, hb, Result.andThen]
set_option linter.unusedSimpArgs false in
set_option maxRecDepth 10000 in
set_option maxHeartbeats 4000000 in
theorem SameScreen_any (d : SD) (ga ha ba gb hb bb : Value) (w : World) (h1 : ScrAt w d ga ha ba) (h2 : ScrAt w d gb hb bb) (hR : d.R ≤ 1048576) (hC : ∀ i, i < d.R → d.C i ≤ 1048576) (hn : d.nb ≤ 1048576) :
    Calls Tryz.prog 10 #[scrV d ga ha ba, scrV d gb hb bb] w fun e w' => e = .returned (.bool true) ∧ Ext w w' := by
  have H1 := hide h1
  have H2 := hide h2
  obtain ⟨r1, ⟨ga1, gc1, rfl, hgc1, hgx1⟩, hrows1⟩ := h1.1
  obtain ⟨ha1, hc1, rfl, hhc1, hhx1⟩ := h1.2.1
  obtain ⟨ba1, bc1, rfl, hbc1, hbx1⟩ := h1.2.2
  obtain ⟨r2, ⟨ga2, gc2, rfl, hgc2, hgx2⟩, hrows2⟩ := h2.1
  obtain ⟨ha2, hc2, rfl, hhc2, hhx2⟩ := h2.2.1
  obtain ⟨ba2, bc2, rfl, hbc2, hbx2⟩ := h2.2.2
  have HX1 := hide hgx1
  have HX2 := hide hgx2
  have HRW1 := hide hrows1
  have HRW2 := hide hrows2
  have HC := hide hC
  clear h1 h2 hgx1 hgx2 hrows1 hrows2 hhx1 hhx2 hbx1 hbx2 hC
  obtain ⟨V, hV⟩ : ∃ V, V = (w.alloc (.cells #[.int .i64 d.cols, .int .i64 d.rows, .slice ga1 d.R gc1, .int .i64 d.row, .int .i64 d.col, .bool d.late, .slice ha1 d.hold.length hc1, .slice ba1 d.nb bc1] 26)).alloc (.cells #[.int .i64 d.cols, .int .i64 d.rows, .slice ga2 d.R gc2, .int .i64 d.row, .int .i64 d.col, .bool d.late, .slice ha2 d.hold.length hc2, .slice ba2 d.nb bc2] 26) := ⟨_, rfl⟩
  have E0 : Ext w V := by rw [hV]; exact ((Ext.refl w).alloc _).alloc _
  have b1 : V.heap[w.heap.size]? = some (.cells #[.int .i64 d.cols, .int .i64 d.rows, .slice ga1 d.R gc1, .int .i64 d.row, .int .i64 d.col, .bool d.late, .slice ha1 d.hold.length hc1, .slice ba1 d.nb bc1] 26 (0, 0)) := by rw [hV]; exact ((Ext.refl _).alloc _).kept (new_block w _)
  have b2 : V.heap[w.heap.size + 1]? = some (.cells #[.int .i64 d.cols, .int .i64 d.rows, .slice ga2 d.R gc2, .int .i64 d.row, .int .i64 d.col, .bool d.late, .slice ha2 d.hold.length hc2, .slice ba2 d.nb bc2] 26 (0, 0)) := by
    rw [hV]
    have h9 := new_block (w.alloc (.cells #[.int .i64 d.cols, .int .i64 d.rows, .slice ga1 d.R gc1, .int .i64 d.row, .int .i64 d.col, .bool d.late, .slice ha1 d.hold.length hc1, .slice ba1 d.nb bc1] 26)) (.cells #[.int .i64 d.cols, .int .i64 d.rows, .slice ga2 d.R gc2, .int .i64 d.row, .int .i64 d.col, .bool d.late, .slice ha2 d.hold.length hc2, .slice ba2 d.nb bc2] 26)
    rw [show ∀ o, (w.alloc o).heap.size = w.heap.size + 1 from fun o => by simp] at h9
    exact h9
  have hv1 := run_b2s (P := Tryz.prog) V _ _ _ Tryz.underlying22 Tryz.underlying5 Tryz.underlying9 _ _ ((unhide H1).ext E0).2.1
  have hv2 := run_b2s (P := Tryz.prog) V _ _ _ Tryz.underlying22 Tryz.underlying5 Tryz.underlying9 _ _ ((unhide H2).ext E0).2.1
  rw [hV] at hv1 hv2
  have HSm := hide (l6Same_any _ _ d.nb d.nb d.bk d.bk V ((unhide H1).ext E0).2.2 ((unhide H2).ext E0).2.2 hn hn true (by simp [SameR]))
  have HVV := hide hV
  have HB1 := hide b1
  have HB2 := hide b2
  have HE0 := hide E0
  clear hV E0 b1 b2
  unfold scrV
  go_enter Tryz.func10, Tryz.ntmps10
  go_wp2_with fail
  rw [← unhide HVV]
  clear HVV hv1 hv2
  refine (unhide HSm).mono ?_
  rintro e w1 ⟨rfl, F1⟩
  have E1 := (unhide HE0).trans F1
  have p2 : w1.cell? ⟨w.heap.size, 2, none⟩ = some (.slice ga1 d.R gc1) := cells_of (F1.kept (unhide HB1)) 2 _ rfl
  have q2 : w1.cell? ⟨w.heap.size + 1, 2, none⟩ = some (.slice ga2 d.R gc2) := cells_of (F1.kept (unhide HB2)) 2 _ rfl
  have HE1 := hide E1
  clear HSm F1 E1 HB1 HB2 HE0
  go_wp2_with fail
  go_loopw [5] (fun iv wr => ∃ i : Nat, i ≤ d.R ∧ iv = .int .i64 i ∧ Hid (Ext w1 wr)) (fun iv _ => d.R - (intOf iv).toNat)
  case atStart => exact ⟨0, Nat.zero_le _, rfl, hide (Ext.refl _)⟩
  case round =>
    obtain ⟨i, hi, rfl, HEr⟩ := hrel
    have p2' := (unhide HEr).cell p2
    have q2' := (unhide HEr).cell q2
    by_cases hlt : i < d.R
    · have bi : (i : Int) < (d.R : Int) := by omega
      have wi : IntKind.i64.wrap ((i : Int) + 1) = (i : Int) + 1 := by rw [IntKind.wrap_i64] <;> omega
      obtain ⟨gb1, go1, h1, hc1'⟩ := (unhide HX1) (by omega)
      obtain ⟨gb2, go2, h2, hc2'⟩ := (unhide HX2) (by omega)
      subst h1
      subst h2
      have g1 := (unhide HEr).cell ((unhide HE1).cell (hc1' i hlt))
      have g2 := (unhide HEr).cell ((unhide HE1).cell (hc2' i hlt))
      obtain ⟨xa, xc, hx1, hxc, hxx⟩ := (unhide HRW1) i hlt
      obtain ⟨ya, yc, hy1, hyc, hyy⟩ := (unhide HRW2) i hlt
      obtain ⟨c, hcd⟩ : ∃ c, d.C i = c := ⟨_, rfl⟩
      have hc9 := (unhide HC) i hlt
      rw [hcd] at hx1 hy1 hxx hyy hc9
      rw [hx1] at g1
      rw [hy1] at g2
      have HXX := hide hxx
      have HYY := hide hyy
      clear hc1' hc2' hxx hyy p2 q2 hx1 hy1
      go_wp2_with fail
      go_region_held3 (fun W => Ext wr W ∧ W.cell? ⟨w.heap.size, 2, none⟩ = some (.slice (some ⟨gb1, go1, none⟩) d.R gc1) ∧ W.cell? ⟨w.heap.size + 1, 2, none⟩ = some (.slice (some ⟨gb2, go2, none⟩) d.R gc2) ∧ W.cell? ⟨gb1, go1 + i, none⟩ = some (.slice xa c xc) ∧ W.cell? ⟨gb2, go2 + i, none⟩ = some (.slice ya c yc)) (first | exact ⟨(Ext.refl wr).drew, p2', q2', g1, g2⟩) (first | fail)
      go_wp2_with fail
      go_loopw [6] (fun kv wr2 => ∃ k : Nat, k ≤ c ∧ kv = .int .i64 k ∧ Hid (Ext wr wr2)) (fun kv _ => c - (intOf kv).toNat)
      case atStart => exact ⟨0, Nat.zero_le _, rfl, hide (Ext.refl wr).drew⟩
      case round =>
        obtain ⟨k, hk, rfl, HE2⟩ := hrel
        have p3 := (unhide HE2).cell p2'
        have q3 := (unhide HE2).cell q2'
        have g3 := (unhide HE2).cell g1
        have g4 := (unhide HE2).cell g2
        by_cases hkc : k < c
        · have bk : (k : Int) < (c : Int) := by omega
          have wk : IntKind.i64.wrap ((k : Int) + 1) = (k : Int) + 1 := by rw [IntKind.wrap_i64] <;> omega
          obtain ⟨xb, xo, h1, hx⟩ := (unhide HXX) (by omega)
          obtain ⟨yb, yo, h2, hy⟩ := (unhide HYY) (by omega)
          subst h1
          subst h2
          have EA := (unhide HE1).trans ((unhide HEr).trans (unhide HE2))
          have x1 := EA.cell (hx k hkc).1
          have x2 := EA.cell (hx k hkc).2
          have y1 := EA.cell (hy k hkc).1
          have y2 := EA.cell (hy k hkc).2
          have hne := fun X => cell_neq (d.tx i k) (d.hf i k) X
          have hgd := fun x y X => cell_gd (d.tx i k) (d.tx i k) (d.hf i k) (d.hf i k) x y X
          generalize d.tx i k = tt at *
          generalize d.hf i k = th at *
          clear hx hy EA
          go_wp2_with fail
          refine wp_region_held_drew (S := fun W => W.cell? ⟨w.heap.size, 2, none⟩ = some (.slice (some ⟨gb1, go1, none⟩) d.R gc1) ∧ W.cell? ⟨w.heap.size + 1, 2, none⟩ = some (.slice (some ⟨gb2, go2, none⟩) d.R gc2) ∧ W.cell? ⟨gb1, go1 + i, none⟩ = some (.slice (some ⟨xb, xo, none⟩) c xc) ∧ W.cell? ⟨gb2, go2 + i, none⟩ = some (.slice (some ⟨yb, yo, none⟩) c yc) ∧ W.cell? ⟨xb, xo + k * 2, none⟩ = some (.string tt) ∧ W.cell? ⟨xb, xo + k * 2 + 1, none⟩ = some (.bool th) ∧ W.cell? ⟨yb, yo + k * 2, none⟩ = some (.string tt) ∧ W.cell? ⟨yb, yo + k * 2 + 1, none⟩ = some (.bool th)) (by kernel_rfl) ⟨p3, q3, g3, g4, x1, x2, y1, y2⟩ (fun hHeld => ?_)
          refine wpAnyH_take (i := 0) (v := ?_) rfl (by kernel_rfl) (by kernel_rfl) (by kernel_rfl) (fun _ _ _ h => h) (Or.inl ⟨by rfl, ?_⟩) (by assumption) ?_
          rotate_left
          · intro w' hSw; obtain ⟨s1, s2, s3, s4, s5, s6, s7, s8⟩ := hSw; go_simp <;> with_reducible rfl
          simp only [Act.put, List.getElem_toArray, List.getElem_cons_succ, List.getElem_cons_zero, List.setIfInBounds_toArray, List.set_cons_zero, List.set_cons_succ]
          refine wpAnyH_take (i := 1) (v := ?_) rfl (by kernel_rfl) (by kernel_rfl) (by kernel_rfl) (fun _ _ _ h => h) (Or.inl ⟨by rfl, ?_⟩) (by assumption) ?_
          rotate_left
          · intro w' hSw; obtain ⟨s1, s2, s3, s4, s5, s6, s7, s8⟩ := hSw; go_simp <;> with_reducible rfl
          simp only [Act.put, List.getElem_toArray, List.getElem_cons_succ, List.getElem_cons_zero, List.setIfInBounds_toArray, List.set_cons_zero, List.set_cons_succ]
          refine wpAnyH_take (i := 2) (v := ?_) rfl (by kernel_rfl) (by kernel_rfl) (by kernel_rfl) (fun _ _ _ h => h) (Or.inl ⟨by rfl, ?_⟩) (by assumption) ?_
          rotate_left
          · intro w' hSw; obtain ⟨s1, s2, s3, s4, s5, s6, s7, s8⟩ := hSw; go_simp <;> with_reducible rfl
          simp only [Act.put, List.getElem_toArray, List.getElem_cons_succ, List.getElem_cons_zero, List.setIfInBounds_toArray, List.set_cons_zero, List.set_cons_succ]
          refine wpAnyH_take (i := 3) (v := ?_) rfl (by kernel_rfl) (by kernel_rfl) (by kernel_rfl) (fun _ _ _ h => h) (Or.inl ⟨by rfl, ?_⟩) (by assumption) ?_
          rotate_left
          · intro w' hSw; obtain ⟨s1, s2, s3, s4, s5, s6, s7, s8⟩ := hSw; go_simp <;> with_reducible rfl
          simp only [Act.put, List.getElem_toArray, List.getElem_cons_succ, List.getElem_cons_zero, List.setIfInBounds_toArray, List.set_cons_zero, List.set_cons_succ]
          refine wpAnyH_take (i := 4) (v := ?_) rfl (by kernel_rfl) (by kernel_rfl) (by kernel_rfl) (fun _ _ _ h => h) (Or.inl ⟨by rfl, ?_⟩) (by assumption) ?_
          rotate_left
          · intro w' hSw; obtain ⟨s1, s2, s3, s4, s5, s6, s7, s8⟩ := hSw; go_simp <;> with_reducible rfl
          simp only [Act.put, List.getElem_toArray, List.getElem_cons_succ, List.getElem_cons_zero, List.setIfInBounds_toArray, List.set_cons_zero, List.set_cons_succ]
          refine wpAnyH_take (i := 5) (v := ?_) rfl (by kernel_rfl) (by kernel_rfl) (by kernel_rfl) (fun _ _ _ h => h) (Or.inl ⟨by rfl, ?_⟩) (by assumption) ?_
          rotate_left
          · intro w' hSw; obtain ⟨s1, s2, s3, s4, s5, s6, s7, s8⟩ := hSw; go_simp <;> with_reducible rfl
          simp only [Act.put, List.getElem_toArray, List.getElem_cons_succ, List.getElem_cons_zero, List.setIfInBounds_toArray, List.set_cons_zero, List.set_cons_succ]
          refine wpAnyH_take (i := 6) (v := ?_) rfl (by kernel_rfl) (by kernel_rfl) (by kernel_rfl) (fun _ _ _ h => h) (Or.inl ⟨by rfl, ?_⟩) (by assumption) ?_
          rotate_left
          · intro w' hSw; obtain ⟨s1, s2, s3, s4, s5, s6, s7, s8⟩ := hSw; go_simp <;> with_reducible rfl
          simp only [Act.put, List.getElem_toArray, List.getElem_cons_succ, List.getElem_cons_zero, List.setIfInBounds_toArray, List.set_cons_zero, List.set_cons_succ]
          refine wpAnyH_take (i := 7) (v := ?_) rfl (by kernel_rfl) (by kernel_rfl) (by kernel_rfl) (fun _ _ _ h => h) (Or.inl ⟨by rfl, ?_⟩) (by assumption) ?_
          rotate_left
          · intro w' hSw; obtain ⟨s1, s2, s3, s4, s5, s6, s7, s8⟩ := hSw; go_simp <;> with_reducible rfl
          simp only [Act.put, List.getElem_toArray, List.getElem_cons_succ, List.getElem_cons_zero, List.setIfInBounds_toArray, List.set_cons_zero, List.set_cons_succ]
          refine wpAnyH_take (i := 8) (v := ?_) rfl (by kernel_rfl) (by kernel_rfl) (by kernel_rfl) (fun _ _ _ h => h) (Or.inl ⟨by rfl, ?_⟩) (by assumption) ?_
          rotate_left
          · intro w' hSw; obtain ⟨s1, s2, s3, s4, s5, s6, s7, s8⟩ := hSw; go_simp <;> with_reducible rfl
          simp only [Act.put, List.getElem_toArray, List.getElem_cons_succ, List.getElem_cons_zero, List.setIfInBounds_toArray, List.set_cons_zero, List.set_cons_succ]
          refine wpAnyH_take (i := 9) (v := ?_) rfl (by kernel_rfl) (by kernel_rfl) (by kernel_rfl) (fun _ _ _ h => h) (Or.inl ⟨by rfl, ?_⟩) (by assumption) ?_
          rotate_left
          · intro w' hSw; obtain ⟨s1, s2, s3, s4, s5, s6, s7, s8⟩ := hSw; go_simp <;> with_reducible rfl
          simp only [Act.put, List.getElem_toArray, List.getElem_cons_succ, List.getElem_cons_zero, List.setIfInBounds_toArray, List.set_cons_zero, List.set_cons_succ]
          refine wpAnyH_take (i := 10) (v := ?_) rfl (by kernel_rfl) (by kernel_rfl) (by kernel_rfl) (fun _ _ _ h => h) (Or.inl ⟨by rfl, ?_⟩) (by assumption) ?_
          rotate_left
          · intro w' hSw; obtain ⟨s1, s2, s3, s4, s5, s6, s7, s8⟩ := hSw; go_simp <;> with_reducible rfl
          simp only [Act.put, List.getElem_toArray, List.getElem_cons_succ, List.getElem_cons_zero, List.setIfInBounds_toArray, List.set_cons_zero, List.set_cons_succ]
          refine wpAnyH_take (i := 11) (v := ?_) rfl (by kernel_rfl) (by kernel_rfl) (by kernel_rfl) (fun _ _ _ h => h) (Or.inl ⟨by rfl, ?_⟩) (by assumption) ?_
          rotate_left
          · intro w' hSw; obtain ⟨s1, s2, s3, s4, s5, s6, s7, s8⟩ := hSw; go_simp <;> with_reducible rfl
          simp only [Act.put, List.getElem_toArray, List.getElem_cons_succ, List.getElem_cons_zero, List.setIfInBounds_toArray, List.set_cons_zero, List.set_cons_succ]
          refine wpAnyH_take (i := 12) (v := ?_) rfl (by kernel_rfl) (by kernel_rfl) (by kernel_rfl) (fun _ _ _ h => h) (Or.inl ⟨by rfl, ?_⟩) (by assumption) ?_
          rotate_left
          · intro w' hSw; obtain ⟨s1, s2, s3, s4, s5, s6, s7, s8⟩ := hSw; go_simp <;> with_reducible rfl
          simp only [Act.put, List.getElem_toArray, List.getElem_cons_succ, List.getElem_cons_zero, List.setIfInBounds_toArray, List.set_cons_zero, List.set_cons_succ]
          refine wpAnyH_take (i := 13) (v := ?_) rfl (by kernel_rfl) (by kernel_rfl) (by kernel_rfl) (fun _ _ _ h => h) (Or.inl ⟨by rfl, ?_⟩) (by assumption) ?_
          rotate_left
          · intro w' hSw; obtain ⟨s1, s2, s3, s4, s5, s6, s7, s8⟩ := hSw; go_simp <;> with_reducible rfl
          simp only [Act.put, List.getElem_toArray, List.getElem_cons_succ, List.getElem_cons_zero, List.setIfInBounds_toArray, List.set_cons_zero, List.set_cons_succ]
          refine wpAnyH_take (i := 14) (v := ?_) rfl (by kernel_rfl) (by kernel_rfl) (by kernel_rfl) (fun _ _ _ h => h) (Or.inl ⟨by rfl, ?_⟩) (by assumption) ?_
          rotate_left
          · intro w' hSw; obtain ⟨s1, s2, s3, s4, s5, s6, s7, s8⟩ := hSw; go_simp <;> with_reducible rfl
          simp only [Act.put, List.getElem_toArray, List.getElem_cons_succ, List.getElem_cons_zero, List.setIfInBounds_toArray, List.set_cons_zero, List.set_cons_succ]
          refine wpAnyH_take (i := 15) (v := ?_) rfl (by kernel_rfl) (by kernel_rfl) (by kernel_rfl) (fun _ _ _ h => h) (Or.inl ⟨by rfl, ?_⟩) (by assumption) ?_
          rotate_left
          · intro w' hSw; obtain ⟨s1, s2, s3, s4, s5, s6, s7, s8⟩ := hSw; go_simp <;> with_reducible rfl
          simp only [Act.put, List.getElem_toArray, List.getElem_cons_succ, List.getElem_cons_zero, List.setIfInBounds_toArray, List.set_cons_zero, List.set_cons_succ]
          refine wpAnyH_take (i := 16) (v := .bool false) rfl (by kernel_rfl) (by kernel_rfl) (by kernel_rfl) (fun _ _ _ h => h) (Or.inl ⟨by rfl, ?_⟩) (by assumption) ?_
          · intro w' hSw; exact neq_op rfl rfl rfl (hgd _ _ _) (hne _)
          simp only [Act.put, List.getElem_toArray, List.getElem_cons_succ, List.getElem_cons_zero, List.setIfInBounds_toArray, List.set_cons_zero, List.set_cons_succ]
          refine wpAnyH_done (by kernel_rfl) ?_ _
          go_wp2
          go_roundw
          case rel => exact ⟨k + 1, by omega, by go_num, hide ((unhide HE2).trans (Ext.refl wr).drew)⟩
          case measure => simp [intOf]; omega
        · obtain rfl : k = c := by omega
          have bk : ¬ (k : Int) < (k : Int) := by omega
          go_wp2
          go_roundw
          case rel => exact ⟨i + 1, by omega, by go_num, hide ((unhide HEr).trans (unhide HE2))⟩
          case measure => simp [intOf]; omega
    · obtain rfl : i = d.R := by omega
      have bi : ¬ (d.R : Int) < (d.R : Int) := by omega
      go_wp2
      go_ret
      exact ⟨rfl, (unhide HE1).trans (unhide HEr)⟩
end Go.Proofs.YtinfdhbnljnifaaGreatDoor
