import Derived.Test.YtkimnihdjeonpabOkSpec
import Derived.Test.YtkimnihdjeonpabSBox
import Derived.WalkLawsBesides
import Derived.Defers
import Derived.Recover
namespace Go.Proofs.Ytkimnihdjeonpab
open Go.RowKit
set_option maxHeartbeats 1000000 in
theorem cellAt_in (b off R ca rb ro m ci i k : Nat) (w : World) (hi : i < R) (hk : k < m) (hg : w.cell? ⟨b, off + i, none⟩ = some (.slice (some ⟨rb, ro, none⟩) m ci)) :
    Calls Try.prog 69 #[.slice (some ⟨b, off, none⟩) R ca, .int .i64 i, .int .i64 k] w fun e w' => e = .returned (.pointer (some ⟨rb, ro + k * 2, none⟩)) ∧ w' = w := by
  have b1 : (i : Int) < (R : Int) := by omega
  have b2 : (k : Int) < (m : Int) := by omega
  go_enter Try.func69, Try.ntmps69
  go_wp2
  go_ret
  exact ⟨rfl, rfl⟩
set_option maxHeartbeats 1000000 in
theorem cellAt_far (ao : Option Addr) (R ca : Nat) (r c : Int) (w : World) (h : r < 0 ∨ (R : Int) ≤ r ∨ c < 0) :
    Calls Try.prog 69 #[.slice ao R ca, .int .i64 r, .int .i64 c] w fun e w' => (∃ u pv, e = .panicked [{ v := .iface u pv, recovered := false }]) ∧ w' = w := by
  go_enter Try.func69, Try.ntmps69
  by_cases h1 : r < 0
  · go_wp2
    exact ⟨rfl, ⟨_, _, rfl⟩, rfl⟩
  · by_cases h2 : (R : Int) ≤ r
    · go_wp2
      exact ⟨rfl, ⟨_, _, rfl⟩, rfl⟩
    · have h3 : c < 0 := by omega
      go_wp2
      exact ⟨rfl, ⟨_, _, rfl⟩, rfl⟩
set_option maxHeartbeats 1000000 in
theorem cellAt_end (b off R ca m ci i : Nat) (ai : Option Addr) (c : Int) (w : World) (hi : i < R) (hm : m ≤ 1048576) (hg : w.cell? ⟨b, off + i, none⟩ = some (.slice ai m ci)) (hc : (m : Int) ≤ c) :
    Calls Try.prog 69 #[.slice (some ⟨b, off, none⟩) R ca, .int .i64 i, .int .i64 c] w fun e w' => (∃ u pv, e = .panicked [{ v := .iface u pv, recovered := false }]) ∧ w' = w := by
  have b1 : (i : Int) < (R : Int) := by omega
  have b2 : ¬ c < 0 := by omega
  go_enter Try.func69, Try.ntmps69
  go_wp2
  exact ⟨rfl, ⟨_, _, rfl⟩, rfl⟩
theorem catch_idle (p : Addr) (w : World) :
    CallsD Try.prog 68 #[.pointer (some p)] .returning w fun e u' w' => e = .returned (.tuple #[]) ∧ u' = .returning ∧ w' = w := by
  refine callsD_of_wpS Try.func68 rfl fun c₀ cs hu => ?_
  apply wpS_seq
  apply wpS_region
  simp [wpOpsS, go_sem, recoverD, hu, Try.ntmps68, Exit.thenS]
  refine wpS_cond (t := false) (by simp [Act.eval, Array.replicate]) ?_
  simp only [Bool.false_eq_true, if_false]
  refine wpS_of_wp (wp_skip ?_)
  cases c₀
  simp_all [bodyPostS, results, Try.results68]
theorem catch_hit (p : Addr) (x : Bool) (u : TypeId) (pv : Value) (older : List PanicEntry) (w : World) (hc : w.cell? p = some (.bool x)) (hz : w.frozen? p = false) :
    CallsD Try.prog 68 #[.pointer (some p)] (.panicking ({ v := .iface u pv, recovered := false } :: older)) w fun e u' w' => e = .returned (.tuple #[]) ∧ u' = .panicking ({ v := .iface u pv, recovered := true } :: older) ∧ w' = w.setCell p (.bool false) := by
  refine callsD_of_wpS Try.func68 rfl fun c₀ cs hu => ?_
  apply wpS_seq
  apply wpS_region
  simp [wpOpsS, go_sem, recoverD, hu, Try.ntmps68, Exit.thenS]
  refine wpS_cond (t := true) (by simp [Act.eval, Array.replicate]) ?_
  simp only [if_true]
  apply wpS_region
  simp [wpOpsS, go_sem, hc, hz, bodyPostS, results, Try.results68]
set_option maxHeartbeats 1000000 in
theorem withinGrid_any (p q : Addr) (w : World) (Pt : World → Prop) (hP : ∀ w', Pt w' → w'.cell? ⟨w.heap.size, 0, none⟩ = some (.bool false) ∧ w'.frozen? ⟨w.heap.size, 0, none⟩ = false)
    (hw : Calls Try.prog 53 #[.pointer (some p), .pointer (some q)] (w.alloc (.cells #[.bool false] 4)) fun e w' => (e = .returned (.tuple #[]) ∨ ∃ u pv, e = .panicked [{ v := .iface u pv, recovered := false }]) ∧ Pt w') :
    Calls Try.prog 52 #[.func (Fn.func 53) #[] #[.pointer (some p), .pointer (some q)]] w fun e w' => ∃ (b : Bool) (w1 : World), e = .returned (.bool b) ∧ Pt w1 ∧ w' = w1.setCell ⟨w.heap.size, 0, none⟩ (.bool b) := by
  have hmf : ∀ (fn : Fn) (first cap : Array Value) (w : World), (Instr.makeFunc fn first cap).run Try.prog w = .ok (.func fn first cap) w := fun _ _ _ _ => rfl
  have HW := hide hw
  have HP := hide hP
  clear hw hP
  go_enter_defers Try.func52, Try.ntmps52
  go_wp2_with fail
  refine (unhide HW).mono ?_
  rintro e w1 ⟨he, hpt⟩
  obtain ⟨c1, f1⟩ := (unhide HP) w1 hpt
  have HPT := hide hpt
  clear hpt HW HP
  rcases he with rfl | ⟨u, pv, rfl⟩
  · go_wp2
    refine leaves_cons (f := 68) (args := #[.pointer (some ⟨w.heap.size, 0, none⟩)]) (by simp) (by simp [go_sem]) ?_
    refine (catch_idle ⟨w.heap.size, 0, none⟩ _).mono ?_
    rintro e u' w'' ⟨rfl, rfl, rfl⟩
    have hpt := unhide HPT
    simp [Leaves, settle, results, Try.results52, go_sem, c1]
    exact ⟨w1, hpt, rfl⟩
  · refine leaves_cons (f := 68) (args := #[.pointer (some ⟨w.heap.size, 0, none⟩)]) (by simp) (by simp [go_sem]) ?_
    refine (catch_hit ⟨w.heap.size, 0, none⟩ false u pv [] _ c1 f1).mono ?_
    rintro e u' w'' ⟨rfl, rfl, rfl⟩
    have hpt := unhide HPT
    simp [Leaves, settle, results, Try.results52, go_sem, c1]
    exact ⟨w1, hpt, rfl⟩
def FormP (d : SD) : Prop := (d.R : Int) = d.rows ∧ ∀ i, i < d.R → (d.C i : Int) = d.cols
theorem b_no {P : Prop} {b : Bool} (hb : b = true ↔ P) (h : ¬ P) : b = false := by
  cases b
  · rfl
  · exact absurd (hb.1 rfl) h
set_option maxHeartbeats 1000000 in
theorem formOk_any (d : SD) (gv hv bv : Value) (ok : Bool) (hok : ok = true ↔ FormP d) (w : World) (h : ScrAt w d gv hv bv) (hF : d.Fits) :
    Calls Try.prog 54 #[scrV d gv hv bv] w fun e w' => e = .returned (.bool ok) ∧ Ext w w' := by
  have HOK := hide hok
  obtain ⟨f1, f2, f3, f4⟩ := hF
  obtain ⟨rv, ⟨ao, ca, rfl, hca, hxa⟩, hrw⟩ := h.1
  have HXA := hide hxa
  have HRW := hide hrw
  have HF2 := hide f2
  clear h f2 hxa hrw hok
  unfold scrV
  go_enter Try.func54, Try.ntmps54
  by_cases hR : (d.R : Int) = d.rows
  case neg =>
    obtain rfl := b_no (unhide HOK) (fun h => hR h.1)
    go_wp2
    go_ret
    exact ⟨rfl, (Ext.refl _).alloc _⟩
  have HR := hide hR
  obtain ⟨rws, hrws⟩ : ∃ x, d.rows = x := ⟨_, rfl⟩
  rw [hrws] at hR ⊢
  clear hrws
  subst hR
  go_wp2
  go_loopw [14] (fun i wr => ∃ I : Nat, I ≤ d.R ∧ i = .int .i64 I ∧ wr = w.alloc (.cells #[.int .i64 d.cols, .int .i64 d.R, .slice ao d.R ca, .int .i64 d.row, .int .i64 d.col, .bool d.late, hv, bv] 37) ∧ Hid (∀ i', i' < I → (d.C i' : Int) = d.cols)) (fun i _ => d.R - (intOf i).toNat)
  case atStart => exact ⟨0, Nat.zero_le _, rfl, rfl, fun i' hi => by omega⟩
  case round =>
    obtain ⟨I, hI, rfl, rfl, HD⟩ := hrel
    by_cases hlt : I < d.R
    · have bI : (I : Int) < (d.R : Int) := by omega
      obtain ⟨b, off, rfl, hcell⟩ := (unhide HXA) (by omega)
      obtain ⟨ai, ci, hri, hci, hxi⟩ := (unhide HRW) I hlt
      have g := hcell I hlt
      rw [hri] at g
      have g' : ∀ o, (w.alloc o).cell? ⟨b, off + I, none⟩ = some (.slice ai (d.C I) ci) := fun o => ((Ext.refl w).alloc o).cell g
      have hm' := (unhide HF2) I hlt
      clear hcell hxi hri g
      by_cases hm : (d.C I : Int) = d.cols
      · have HD2 : Hid (∀ i', i' < I + 1 → (d.C i' : Int) = d.cols) := fun i' hi => by
          by_cases e : i' = I
          · rw [e]; exact hm
          · exact (unhide HD) i' (by omega)
        go_wp2
        go_roundw
        case rel => exact ⟨I + 1, by omega, by go_num, by first | rfl | trivial, HD2⟩
        case measure => simp [intOf]; omega
      · obtain rfl := b_no (unhide HOK) (fun h => hm (h.2 I hlt))
        go_wp2
        go_ret
        exact ⟨rfl, (Ext.refl _).alloc _⟩
    · obtain rfl : I = d.R := by omega
      obtain rfl : ok = true := (unhide HOK).2 ⟨by have := unhide HR; omega, unhide HD⟩
      go_wp2
      go_ret
      exact ⟨rfl, (Ext.refl _).alloc _⟩
set_option maxHeartbeats 1000000 in
theorem cursorOk_in (d : SD) (gv hv bv : Value) (ok : Bool) (hok : ok = true ↔ (d.late = true → d.col = d.cols - 1)) (w : World) (h : ScrAt w d gv hv bv) (hs : sizeB d.cols d.rows = true) (hf : FormP d) (h1 : 0 ≤ d.row ∧ d.row < d.rows) (h2 : 0 ≤ d.col ∧ d.col < d.cols) :
    Calls Try.prog 55 #[scrV d gv hv bv] w fun e w' => e = .returned (.bool ok) ∧ Ext w w' := by
  have HOK := hide hok
  obtain ⟨cn, rn, ec, er, c2, c200, r1, r100⟩ := sizeB_open hs
  obtain ⟨I, hI⟩ : ∃ I : Nat, d.row = I := ⟨d.row.toNat, by omega⟩
  obtain ⟨K, hK⟩ : ∃ K : Nat, d.col = K := ⟨d.col.toNat, by omega⟩
  have hIR : I < d.R := by have := hf.1; omega
  have hCI := hf.2 I hIR
  obtain ⟨rv, ⟨ao, ca, rfl, hca, hxa⟩, hrw⟩ := h.1
  obtain ⟨b, off, rfl, hcell⟩ := hxa (by omega)
  obtain ⟨ai, ci, hri, hci, hxi⟩ := hrw I hIR
  obtain ⟨rb, ro, rfl, hrc⟩ := hxi (by omega)
  have g := hcell I hIR
  rw [hri] at g
  have hcon := hide (fun W (hW : Ext w W) => cellAt_in b off d.R ca rb ro (d.C I) ci I K W hIR (by omega) (hW.cell g))
  have hwc : IntKind.i64.wrap ((cn : Int) - 1) = (cn : Int) - 1 := by rw [IntKind.wrap_i64]; omega
  have HLT : Hid (ok = true ↔ (d.late = true → (K : Int) = (cn : Int) - 1)) := by
    have := unhide HOK; rw [ec, hK] at this; exact this
  unfold scrV
  rw [ec, hI, hK]
  clear hxa hrw hcell hxi hrc g hri hok HOK ec er hI hK hCI hf h h1 h2 hs
  go_enter Try.func55, Try.ntmps55
  go_wp2_with fail
  refine ((unhide hcon) _ ((Ext.refl _).alloc _)).mono ?_
  rintro e w1 ⟨rfl, rfl⟩
  cases hl : d.late
  · obtain rfl : ok = true := (unhide HLT).2 (fun h => by rw [hl] at h; simp at h)
    go_wp2
    go_ret
    exact ⟨rfl, (Ext.refl _).alloc _⟩
  · by_cases hq : (K : Int) = (cn : Int) - 1
    · obtain rfl : ok = true := (unhide HLT).2 (fun _ => hq)
      go_wp2
      go_ret
      exact ⟨rfl, (Ext.refl _).alloc _⟩
    · obtain rfl := b_no (unhide HLT) (fun h => hq (h hl))
      go_wp2
      go_ret
      exact ⟨by simp [hq], (Ext.refl _).alloc _⟩
set_option maxHeartbeats 1000000 in
theorem cursorOk_out (d : SD) (gv hv bv : Value) (w : World) (h : ScrAt w d gv hv bv) (hF : d.Fits) (hf : FormP d) (hn : ¬ ((0 ≤ d.row ∧ d.row < d.rows) ∧ (0 ≤ d.col ∧ d.col < d.cols))) :
    Calls Try.prog 55 #[scrV d gv hv bv] w fun e w' => (∃ u pv, e = .panicked [{ v := .iface u pv, recovered := false }]) ∧ Ext w w' := by
  obtain ⟨rv, ⟨ao, ca, rfl, hca, hxa⟩, hrw⟩ := h.1
  have hcon : Hid (∀ W, Ext w W → Calls Try.prog 69 #[.slice ao d.R ca, .int .i64 d.row, .int .i64 d.col] W fun e w' => (∃ u pv, e = .panicked [{ v := .iface u pv, recovered := false }]) ∧ w' = W) := by
    intro W hW
    by_cases hq : d.row < 0 ∨ (d.R : Int) ≤ d.row ∨ d.col < 0
    · exact cellAt_far ao d.R ca d.row d.col W hq
    · obtain ⟨I, hI⟩ : ∃ I : Nat, d.row = I := ⟨d.row.toNat, by omega⟩
      have hIR : I < d.R := by omega
      have hCI := hf.2 I hIR
      obtain ⟨b, off, rfl, hcell⟩ := hxa (by omega)
      obtain ⟨ai, ci, hri, hci, hxi⟩ := hrw I hIR
      have g := hcell I hIR
      rw [hri] at g
      rw [hI]
      exact cellAt_end b off d.R ca (d.C I) ci I ai d.col W hIR (hF.C I hIR) (hW.cell g) (by have := hf.1; omega)
  clear hxa hrw h hn hf
  unfold scrV
  go_enter Try.func55, Try.ntmps55
  go_wp2_with fail
  refine ((unhide hcon) _ ((Ext.refl _).alloc _)).mono ?_
  rintro e w1 ⟨⟨u, pv, rfl⟩, rfl⟩
  exact ⟨rfl, ⟨_, _, rfl⟩, (Ext.refl _).alloc _⟩
set_option maxHeartbeats 2000000 in
theorem halvesOk_any (d : SD) (gv hv bv : Value) (ok : Bool) (hok : ok = true ↔ ∀ i k, i < d.R → k < d.C i → HalfOk d i k) (w : World) (h : ScrAt w d gv hv bv) (hF : d.Fits) :
    Calls Try.prog 56 #[scrV d gv hv bv] w fun e w' => (e = .returned (.bool ok) ∨ (ok = false ∧ ∃ u pv, e = .panicked [{ v := .iface u pv, recovered := false }])) ∧ Ext w w' := by
  have HOK := hide hok
  obtain ⟨f1, f2, f3, f4⟩ := hF
  obtain ⟨rv, ⟨ao, ca, rfl, hca, hxa⟩, hrw⟩ := h.1
  have HXA := hide hxa
  have HRW := hide hrw
  have HF2 := hide f2
  clear h f2 hxa hrw hok
  unfold scrV
  go_enter Try.func56, Try.ntmps56
  go_wp2
  obtain ⟨W0, hW0⟩ : ∃ W, W = w.alloc (.cells #[.int .i64 d.cols, .int .i64 d.rows, .slice ao d.R ca, .int .i64 d.row, .int .i64 d.col, .bool d.late, hv, bv] 37) := ⟨_, rfl⟩
  rw [← hW0]
  have E0 : Ext w W0 := by rw [hW0]; exact (Ext.refl _).alloc _
  have p2 : W0.cell? ⟨w.heap.size, 2, none⟩ = some (.slice ao d.R ca) := by rw [hW0]; simp [go_sem]
  clear hW0
  go_loopw [9] (fun i wr => ∃ I : Nat, I ≤ d.R ∧ i = .int .i64 I ∧ Ext W0 wr ∧ Hid (∀ i', i' < I → ∀ k, k < d.C i' → HalfOk d i' k)) (fun i _ => d.R - (intOf i).toNat)
  case atStart => exact ⟨0, Nat.zero_le _, rfl, Ext.refl _, fun i' hi => by omega⟩
  case round =>
    obtain ⟨I, hI, rfl, hext, HD⟩ := hrel
    have q2 := hext.cell p2
    by_cases hlt : I < d.R
    · have bI : (I : Int) < (d.R : Int) := by omega
      obtain ⟨b, off, rfl, hcell⟩ := (unhide HXA) (by omega)
      obtain ⟨ai, ci, hri, hci, hxi⟩ := (unhide HRW) I hlt
      have g0 := E0.cell (hcell I hlt)
      rw [hri] at g0
      have g := hext.cell g0
      have hm' := (unhide HF2) I hlt
      have HXI := hide hxi
      clear hcell hxi hri
      go_wp2
      go_loopw [18] (fun k wr2 => ∃ K : Nat, K ≤ d.C I ∧ k = .int .i64 K ∧ Ext wr wr2 ∧ Hid (∀ k', k' < K → HalfOk d I k')) (fun k _ => d.C I - (intOf k).toNat)
      case atStart => exact ⟨0, Nat.zero_le _, rfl, Ext.refl _, fun k' hk => by omega⟩
      case round =>
        obtain ⟨K, hK, rfl, hext2, HD2⟩ := hrel
        have hx2 := hext.trans hext2
        have u2 := hx2.cell p2
        clear q2
        by_cases hkl : K < d.C I
        · have bK : (K : Int) < (d.C I : Int) := by omega
          obtain ⟨rb, ro, rfl, hrc⟩ := (unhide HXI) (by omega)
          have gA := hx2.cell (E0.cell (hrc K hkl).1)
          have gB := hx2.cell (E0.cell (hrc K hkl).2)
          have HST : Hid (HalfOk d I K → ∀ k', k' < K + 1 → HalfOk d I k') := fun hk k' hk' => by
            by_cases e : k' = K
            · rw [e]; exact hk
            · exact (unhide HD2) k' (by omega)
          have HNO : Hid (¬ HalfOk d I K → ok = false) := fun hn => b_no (unhide HOK) (fun o => hn (o I K hlt hkl))
          have u2n : ∀ o, (wr.alloc o).cell? ⟨w.heap.size, 2, none⟩ = some (.slice (some ⟨b, off, none⟩) d.R ca) := fun o => ((Ext.refl wr).alloc o).cell u2
          have g2 := hext2.cell g
          cases hfk : d.hf I K
          · rw [hfk] at gB
            have HK : Hid (HalfOk d I K) := fun h => by rw [hfk] at h; simp at h
            clear hrc
            go_wp2
            go_roundw
            case rel => exact ⟨K + 1, by omega, by go_num, hext2.alloc _, (unhide HST) (unhide HK)⟩
            case measure => simp [intOf]; omega
          · rw [hfk] at gB
            by_cases ht : (d.tx I K).toList = []
            · by_cases hK0 : K = 0
              · subst hK0
                simp only [Nat.zero_mul, Nat.add_zero] at gA gB
                obtain rfl := (unhide HNO) (fun h => absurd (h hfk).2.1 (by omega))
                have hcon := hide (fun W => cellAt_far (some ⟨b, off, none⟩) d.R ca I (-1) W (by omega))
                clear hrc
                go_wp2_with fail
                refine ((unhide hcon) _).mono ?_
                rintro e w1 ⟨⟨u, pv, rfl⟩, rfl⟩
                exact ⟨rfl, .inr ⟨rfl, _, _, rfl⟩, (E0.trans hx2).alloc _⟩
              · have gP := hx2.cell (E0.cell (hrc (K - 1) (by omega)).1)
                have ew : IntKind.i64.wrap ((K : Int) - 1) = ((K - 1 : Nat) : Int) := by rw [IntKind.wrap_i64]; omega
                have gPn : ∀ o, (wr.alloc o).cell? ⟨rb, ro + (K - 1) * 2, none⟩ = some (.string (d.tx I (K - 1))) := fun o => ((Ext.refl wr).alloc o).cell gP
                have hcon := hide (fun W (hW : Ext wr W) => cellAt_in b off d.R ca rb ro (d.C I) ci I (K - 1) W hlt (by omega) (hW.cell g2))
                clear hrc
                go_wp2_with fail
                refine ((unhide hcon) _ ((Ext.refl _).alloc _)).mono ?_
                rintro e w1 ⟨rfl, rfl⟩
                by_cases htp : (d.tx I (K - 1)).toList = []
                · obtain rfl := (unhide HNO) (fun h => (h hfk).2.2 htp)
                  go_wp2
                  go_ret
                  exact ⟨by simp, (E0.trans hx2).alloc _⟩
                · have HK : Hid (HalfOk d I K) := fun _ => ⟨ht, by omega, htp⟩
                  have htq : (d.tx I (K - 1)).toList.isEmpty = false := by simpa using htp
                  go_wp2
                  go_roundw
                  case rel => exact ⟨K + 1, by omega, by go_num, hext2.alloc _, (unhide HST) (unhide HK)⟩
                  case measure => simp [intOf]; omega
            · obtain rfl := (unhide HNO) (fun h => ht (h hfk).1)
              clear hrc
              go_wp2
              go_ret
              exact ⟨by simp, (E0.trans hx2).alloc _⟩
        · obtain rfl : K = d.C I := by omega
          have HD3 : Hid (∀ i', i' < I + 1 → ∀ k, k < d.C i' → HalfOk d i' k) := fun i' hi' => by
            by_cases e : i' = I
            · rw [e]; exact unhide HD2
            · exact (unhide HD) i' (by omega)
          go_wp2
          go_roundw
          case rel => exact ⟨I + 1, by omega, by go_num, hx2, HD3⟩
          case measure => simp [intOf]; omega
    · obtain rfl : I = d.R := by omega
      obtain rfl : ok = true := (unhide HOK).2 (fun i k hi hk => (unhide HD) i hi k hk)
      go_wp2
      go_ret
      exact ⟨by simp, E0.trans hext⟩
set_option maxHeartbeats 2000000 in
theorem okClosure_any (d : SD) (gv hv bv : Value) (ok : Bool) (hok : ok = true ↔ OkP d) (sb kb : Nat) (W : World) (h : ScrAt W d gv hv bv) (hF : d.Fits) (hb : SBox W sb d gv hv bv) (hk : W.cell? ⟨kb, 0, none⟩ = some (.bool false)) (hkf : W.frozen? ⟨kb, 0, none⟩ = false) :
    Calls Try.prog 53 #[.pointer (some ⟨sb, 0, none⟩), .pointer (some ⟨kb, 0, none⟩)] W fun e w' => ∃ w1, Ext W w1 ∧ ((e = .returned (.tuple #[]) ∧ w' = w1.setCell ⟨kb, 0, none⟩ (.bool ok)) ∨ (ok = false ∧ (∃ u pv, e = .panicked [{ v := .iface u pv, recovered := false }]) ∧ w' = w1)) := by
  have ex : ∀ P : Prop, ∃ b : Bool, b = true ↔ P := fun P => by
    classical exact ⟨decide P, by simp⟩
  obtain ⟨fb, hfb⟩ := ex (FormP d)
  obtain ⟨cb, hcb⟩ := ex (d.late = true → d.col = d.cols - 1)
  obtain ⟨mb, hmb⟩ := ex (∀ i k, i < d.R → k < d.C i → HalfOk d i k)
  clear ex
  have HFB := hide hfb
  have HCB := hide hcb
  have HMB := hide hmb
  have HNO : Hid (¬ OkP d → ok = false) := fun h => b_no hok h
  have HYES : Hid (OkP d → ok = true) := fun h => hok.2 h
  have HH := hide h
  have HFF := hide hF
  obtain ⟨ha, hc, hve, _, _⟩ := h.2.1
  subst hve
  have HB := hide hb
  have k1 := hk
  have z1 := hkf
  have p0 := (hb).1
  have p1 := (hb).2.1
  have p2 := (hb).2.2.1
  have p3 := (hb).2.2.2.1
  have p4 := (hb).2.2.2.2.1
  have p5 := (hb).2.2.2.2.2.1
  have p6 := (hb).2.2.2.2.2.2.1
  have p7 := (hb).2.2.2.2.2.2.2
  clear h hok hfb hcb hmb hF hb
  go_enter Try.func53, Try.ntmps53
  go_wp2_with fail
  refine (sizeOk_any _ _ _).mono ?_
  by_cases hs : sizeB d.cols d.rows = true
  case neg =>
    obtain rfl := (unhide HNO) (fun h => hs h.size)
    have hs' : sizeB d.cols d.rows = false := by simpa using hs
    rw [hs']
    rintro e w0 ⟨rfl, hw0⟩
    obtain rfl : W = w0 := hw0.symm
    go_wp2
    go_end0
    exact ⟨W, Ext.refl _, .inl ⟨rfl, rfl⟩⟩
  rw [hs]
  rintro e w0 ⟨rfl, hw0⟩
  obtain rfl : W = w0 := hw0.symm
  go_wp2_with fail
  refine (formOk_any d gv (.slice ha d.hold.length hc) bv fb (unhide HFB) _ (unhide HH) (unhide HFF)).mono ?_
  rintro e w1 ⟨rfl, F1⟩
  clear p0 p1 p2 p3 p4 p5 p6 p7 k1 z1
  have k1 := F1.cell hk
  have z1 := (F1.rules.2 kb 0 (lt_of_cell hk)).trans hkf
  have p0 := ((unhide HB).ext F1).1
  have p1 := ((unhide HB).ext F1).2.1
  have p2 := ((unhide HB).ext F1).2.2.1
  have p3 := ((unhide HB).ext F1).2.2.2.1
  have p4 := ((unhide HB).ext F1).2.2.2.2.1
  have p5 := ((unhide HB).ext F1).2.2.2.2.2.1
  have p6 := ((unhide HB).ext F1).2.2.2.2.2.2.1
  have p7 := ((unhide HB).ext F1).2.2.2.2.2.2.2
  cases fb
  case false =>
    obtain rfl := (unhide HNO) (fun h => absurd ((unhide HFB).2 ⟨h.R, h.C⟩) (by simp))
    go_wp2
    go_end0
    exact ⟨w1, F1, .inl ⟨rfl, rfl⟩⟩
  have hform := (unhide HFB).1 rfl
  have HFORM := hide hform
  clear hform
  by_cases hin : (0 ≤ d.row ∧ d.row < d.rows) ∧ (0 ≤ d.col ∧ d.col < d.cols)
  case neg =>
    obtain rfl := (unhide HNO) (fun h => hin ⟨h.row, h.col⟩)
    have hcon := hide (fun U (hU : Ext W U) => cursorOk_out d gv (.slice ha d.hold.length hc) bv U ((unhide HH).ext hU) (unhide HFF) (unhide HFORM) hin)
    clear hin
    go_wp2_with fail
    refine ((unhide hcon) _ F1).mono ?_
    rintro e w2 ⟨⟨u, pv, rfl⟩, F2⟩
    exact ⟨rfl, w2, F1.trans F2, .inr ⟨rfl, ⟨_, _, rfl⟩, rfl⟩⟩
  have HIN := hide hin
  clear hin
  go_wp2_with fail
  refine (cursorOk_in d gv (.slice ha d.hold.length hc) bv cb (unhide HCB) _ ((unhide HH).ext F1) hs (unhide HFORM) (unhide HIN).1 (unhide HIN).2).mono ?_
  rintro e w2 ⟨rfl, F2⟩
  clear p0 p1 p2 p3 p4 p5 p6 p7 k1 z1
  have E2 := F1.trans F2
  have k1 := E2.cell hk
  have z1 := (E2.rules.2 kb 0 (lt_of_cell hk)).trans hkf
  have p0 := ((unhide HB).ext E2).1
  have p1 := ((unhide HB).ext E2).2.1
  have p2 := ((unhide HB).ext E2).2.2.1
  have p3 := ((unhide HB).ext E2).2.2.2.1
  have p4 := ((unhide HB).ext E2).2.2.2.2.1
  have p5 := ((unhide HB).ext E2).2.2.2.2.2.1
  have p6 := ((unhide HB).ext E2).2.2.2.2.2.2.1
  have p7 := ((unhide HB).ext E2).2.2.2.2.2.2.2
  cases cb
  case false =>
    obtain rfl := (unhide HNO) (fun h => absurd ((unhide HCB).2 h.late) (by simp))
    go_wp2
    go_end0
    exact ⟨w2, E2, .inl ⟨rfl, rfl⟩⟩
  have hcon := hide (halvesOk_any d gv (.slice ha d.hold.length hc) bv mb (unhide HMB) w2 ((unhide HH).ext E2) (unhide HFF))
  go_wp2_with fail
  refine (unhide hcon).mono ?_
  rintro e w3 ⟨he, F3⟩
  clear p0 p1 p2 p3 p4 p5 p6 p7 k1 z1
  have E3 := E2.trans F3
  have k1 := E3.cell hk
  have z1 := (E3.rules.2 kb 0 (lt_of_cell hk)).trans hkf
  have p0 := ((unhide HB).ext E3).1
  have p1 := ((unhide HB).ext E3).2.1
  have p2 := ((unhide HB).ext E3).2.2.1
  have p3 := ((unhide HB).ext E3).2.2.2.1
  have p4 := ((unhide HB).ext E3).2.2.2.2.1
  have p5 := ((unhide HB).ext E3).2.2.2.2.2.1
  have p6 := ((unhide HB).ext E3).2.2.2.2.2.2.1
  have p7 := ((unhide HB).ext E3).2.2.2.2.2.2.2
  rcases he with rfl | ⟨rfl, u, pv, rfl⟩
  case inr =>
    obtain rfl := (unhide HNO) (fun h => absurd ((unhide HMB).2 h.half) (by simp))
    exact ⟨rfl, w3, E3, .inr ⟨rfl, ⟨_, _, rfl⟩, rfl⟩⟩
  cases mb
  case false =>
    obtain rfl := (unhide HNO) (fun h => absurd ((unhide HMB).2 h.half) (by simp))
    go_wp2
    go_end0
    exact ⟨w3, E3, .inl ⟨rfl, rfl⟩⟩
  by_cases hl : (d.hold.length : Int) ≤ 32
  case neg =>
    obtain rfl := (unhide HNO) (fun h => hl (by have := h.hold; omega))
    go_wp2
    go_end0
    exact ⟨w3, E3, .inl ⟨rfl, by rw [decide_eq_false (show ¬ (d.hold.length : Int) ≤ 32 by omega)]⟩⟩
  obtain rfl := (unhide HYES) ⟨hs, (unhide HFORM).1, by omega, (unhide HFORM).2, (unhide HMB).1 rfl, (unhide HIN).1, (unhide HIN).2, by have := unhide HCB; simpa using this⟩
  go_wp2
  go_end0
  exact ⟨w3, E3, .inl ⟨rfl, rfl⟩⟩
set_option maxHeartbeats 2000000 in
theorem implScreenOk_any (d : SD) (gv hv bv : Value) (ok : Bool) (hok : ok = true ↔ OkP d) (w : World) (h : ScrAt w d gv hv bv) (hF : d.Fits) :
    Calls Try.prog 23 #[scrV d gv hv bv] w fun e w' => e = .returned (.bool ok) ∧ Ext w w' := by
  have hmf : ∀ (fn : Fn) (first cap : Array Value) (w : World), (Instr.makeFunc fn first cap).run Try.prog w = .ok (.func fn first cap) w := fun _ _ _ _ => rfl
  have HOK := hide hok
  have HH := hide h
  have HFF := hide hF
  clear hok h hF
  unfold scrV
  go_enter Try.func23, Try.ntmps23
  go_wp2_with fail
  obtain ⟨W1, hW1⟩ : ∃ W, W = (w.alloc (.cells #[.int .i64 d.cols, .int .i64 d.rows, gv, .int .i64 d.row, .int .i64 d.col, .bool d.late, hv, bv] 37)).alloc (.cells #[.bool false] 4) := ⟨_, rfl⟩
  rw [← hW1]
  have E1 : Ext w W1 := by rw [hW1]; exact ((Ext.refl _).alloc _).alloc _
  have hz : W1.heap.size = w.heap.size + 2 := by rw [hW1]; simp
  have hb : SBox W1 w.heap.size d gv hv bv := by rw [hW1]; exact (SBox.new w d gv hv bv).ext ((Ext.refl _).alloc _)
  have hk : W1.cell? ⟨w.heap.size + 1, 0, none⟩ = some (.bool false) := by rw [hW1]; simp [go_sem]
  have hkf : W1.frozen? ⟨w.heap.size + 1, 0, none⟩ = false := by rw [hW1]; simp [go_sem]
  clear hW1
  have X1 : Ext W1 (W1.alloc (.cells #[.bool false] 4)) := (Ext.refl _).alloc _
  have hnew : (W1.alloc (.cells #[.bool false] 4)).cell? ⟨W1.heap.size, 0, none⟩ = some (.bool false) := by simp [go_sem]
  have hnewf : (W1.alloc (.cells #[.bool false] 4)).frozen? ⟨W1.heap.size, 0, none⟩ = false := by simp [go_sem]
  have hcon := withinGrid_any ⟨w.heap.size, 0, none⟩ ⟨w.heap.size + 1, 0, none⟩ W1 (fun w' => ∃ w1, Ext (W1.alloc (.cells #[.bool false] 4)) w1 ∧ (w' = w1.setCell ⟨w.heap.size + 1, 0, none⟩ (.bool ok) ∨ (ok = false ∧ w' = w1)))
    (by
      rintro w' ⟨w1, F, hw⟩
      have c1 := F.cell hnew
      have f1 := (F.rules.2 W1.heap.size 0 (lt_of_cell hnew)).trans hnewf
      rcases hw with rfl | ⟨_, rfl⟩
      · have hne : ¬ W1.heap.size = w.heap.size + 1 := by omega
        have fr := Fr.setCell (S := fun q => q = w.heap.size + 1) (Fr.refl _ w1) (a := ⟨w.heap.size + 1, 0, none⟩) rfl (.bool ok)
        have hbl := fr.block W1.heap.size (lt_of_cell c1) hne
        exact ⟨(World.cell?_of_block (a := ⟨W1.heap.size, 0, none⟩) hbl).trans c1, (World.frozen?_of_block (a := ⟨W1.heap.size, 0, none⟩) hbl).trans f1⟩
      · exact ⟨c1, f1⟩)
    ((okClosure_any d gv hv bv ok (unhide HOK) w.heap.size (w.heap.size + 1) _ ((unhide HH).ext (E1.trans X1)) (unhide HFF) (hb.ext X1) (X1.cell hk) ((X1.rules.2 _ 0 (lt_of_cell hk)).trans hkf)).mono (by
      rintro e w' ⟨w1, F, (⟨rfl, rfl⟩ | ⟨h1, ⟨u, pv, rfl⟩, rfl⟩)⟩
      · exact ⟨.inl rfl, w1, F, .inl rfl⟩
      · exact ⟨.inr ⟨u, pv, rfl⟩, _, F, .inr ⟨h1, rfl⟩⟩))
  have HCON := hide hcon
  clear hcon
  refine (unhide HCON).mono ?_
  rintro e w2 ⟨b, w1', rfl, ⟨w1, F, hw⟩, rfl⟩
  have hk1 := (X1.trans F).cell hk
  have hfin : (w1'.setCell ⟨W1.heap.size, 0, none⟩ (.bool b)).cell? ⟨w.heap.size + 1, 0, none⟩ = some (.bool ok) ∧ Ext w (w1'.setCell ⟨W1.heap.size, 0, none⟩ (.bool b)) := by
    have hne : ¬ w.heap.size + 1 = W1.heap.size := by omega
    have step : w1'.cell? ⟨w.heap.size + 1, 0, none⟩ = some (.bool ok) ∧ Ext w w1' := by
      rcases hw with rfl | ⟨rfl, rfl⟩
      · exact ⟨by simp [go_sem, hk1], ((E1.trans X1).trans F).setCell (a := ⟨w.heap.size + 1, 0, none⟩) (by show w.heap.size ≤ w.heap.size + 1; omega) _⟩
      · exact ⟨hk1, (E1.trans X1).trans F⟩
    have fr := Fr.setCell (S := fun q => q = W1.heap.size) (Fr.refl _ w1') (a := ⟨W1.heap.size, 0, none⟩) rfl (.bool b)
    have hbl := fr.block (w.heap.size + 1) (lt_of_cell step.1) hne
    exact ⟨(World.cell?_of_block (a := ⟨w.heap.size + 1, 0, none⟩) hbl).trans step.1, step.2.setCell (a := ⟨W1.heap.size, 0, none⟩) (by show w.heap.size ≤ W1.heap.size; omega) _⟩
  obtain ⟨hc9, E9⟩ := hfin
  obtain ⟨w9, hw9⟩ : ∃ x, x = w1'.setCell ⟨W1.heap.size, 0, none⟩ (.bool b) := ⟨_, rfl⟩
  rw [← hw9] at hc9 E9 ⊢
  clear hw9 hw hk1
  go_wp2
  go_ret
  exact ⟨rfl, E9⟩
end Go.Proofs.Ytkimnihdjeonpab
