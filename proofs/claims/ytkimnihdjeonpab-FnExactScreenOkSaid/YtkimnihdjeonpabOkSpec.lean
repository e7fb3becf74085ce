import Derived.Test.YtkimnihdjeonpabNewScr
namespace Go.Proofs.Ytkimnihdjeonpab
open Go.RowKit
def HalfOk (d : SD) (i k : Nat) : Prop := d.hf i k = true → (d.tx i k).toList = [] ∧ 0 < k ∧ (d.tx i (k - 1)).toList ≠ []
structure OkP (d : SD) : Prop where
  size : sizeB d.cols d.rows = true
  R : (d.R : Int) = d.rows
  hold : d.hold.length ≤ 32
  C : ∀ i, i < d.R → (d.C i : Int) = d.cols
  half : ∀ i k, i < d.R → k < d.C i → HalfOk d i k
  row : 0 ≤ d.row ∧ d.row < d.rows
  col : 0 ≤ d.col ∧ d.col < d.cols
  late : d.late = true → d.col = d.cols - 1
theorem ok_no {d : SD} {b : Bool} (hb : b = true ↔ OkP d) (h : ¬ OkP d) : b = false := by
  cases b
  · rfl
  · exact absurd (hb.1 rfl) h
theorem ok_yes {d : SD} {b : Bool} (hb : b = true ↔ OkP d) (h : OkP d) : b = true := hb.2 h
set_option maxHeartbeats 2000000 in
theorem specScreenOk_any (d : SD) (gv hv bv : Value) (ok : Bool) (hok : ok = true ↔ OkP d) (w : World) (h : ScrAt w d gv hv bv) (hF : d.Fits) :
    Calls Try.prog 21 #[scrV d gv hv bv] w fun e w' => e = .returned (.bool ok) ∧ Ext w w' := by
  have HOK := hide hok
  clear hok
  obtain ⟨f1, f2, f3, f4⟩ := hF
  obtain ⟨rv, ⟨ao, ca, rfl, hca, hxa⟩, hrw⟩ := h.1
  obtain ⟨ha, hc, rfl, _, _⟩ := h.2.1
  have HXA := hide hxa
  have HRW := hide hrw
  have HF2 := hide f2
  clear h f2 hxa hrw
  unfold scrV
  go_enter Try.func21, Try.ntmps21
  go_wp2_with fail
  refine (l2SizeOk_any _ _ _).mono ?_
  by_cases hsz : sizeB d.cols d.rows = true
  case neg =>
    have hsz' : sizeB d.cols d.rows = false := by simpa using hsz
    obtain rfl := ok_no (unhide HOK) (fun h => hsz h.size)
    rw [hsz']
    rintro e w1 ⟨rfl, rfl⟩
    go_wp2
    go_ret
    exact ⟨rfl, (Ext.refl _).alloc _⟩
  rw [hsz]
  rintro e w1 ⟨rfl, rfl⟩
  obtain ⟨cn, rn, ec, er, c2, c200, r1, r100⟩ := sizeB_open hsz
  have HEC := hide ec
  have HSZ := hide hsz
  have HER := hide er
  by_cases hR : (d.R : Int) = d.rows
  case neg =>
    clear ec er
    obtain rfl := ok_no (unhide HOK) (fun h => hR h.R)
    go_wp2
    go_ret
    exact ⟨rfl, (Ext.refl _).alloc _⟩
  by_cases hH : (32 : Int) < (d.hold.length : Int)
  case pos =>
    clear ec er
    obtain rfl := ok_no (unhide HOK) (fun h => absurd h.hold (by omega))
    go_wp2
    go_ret
    exact ⟨rfl, (Ext.refl _).alloc _⟩
  have hRn : d.R = rn := by omega
  obtain ⟨b, off, rfl, hcell⟩ := (unhide HXA) (by omega)
  have HCELL := hide hcell
  have HR := hide hR
  have HRN := hide hRn
  go_wp2
  clear hcell HXA
  obtain ⟨W0, hW0⟩ : ∃ W, W = w.alloc (.cells #[.int .i64 cn, .int .i64 rn, .slice (some ⟨b, off, none⟩) rn ca, .int .i64 d.row, .int .i64 d.col, .bool d.late, .slice ha d.hold.length hc, bv] 37) := ⟨_, rfl⟩
  rw [← hW0]
  have E0 : Ext w W0 := by rw [hW0]; exact (Ext.refl _).alloc _
  have p0 : W0.cell? ⟨w.heap.size, 0, none⟩ = some (.int .i64 cn) := by rw [hW0]; simp [go_sem]
  have p1 : W0.cell? ⟨w.heap.size, 1, none⟩ = some (.int .i64 rn) := by rw [hW0]; simp [go_sem]
  have p2 : W0.cell? ⟨w.heap.size, 2, none⟩ = some (.slice (some ⟨b, off, none⟩) rn ca) := by rw [hW0]; simp [go_sem]
  have p3 : W0.cell? ⟨w.heap.size, 3, none⟩ = some (.int .i64 d.row) := by rw [hW0]; simp [go_sem]
  have p4 : W0.cell? ⟨w.heap.size, 4, none⟩ = some (.int .i64 d.col) := by rw [hW0]; simp [go_sem]
  have p5 : W0.cell? ⟨w.heap.size, 5, none⟩ = some (.bool d.late) := by rw [hW0]; simp [go_sem]
  clear hW0 ec er hR hRn hsz
  go_loopw [3] (fun i wr => ∃ I : Nat, I ≤ rn ∧ i = .int .i64 I ∧ Ext W0 wr ∧ Hid (∀ i', i' < I → (d.C i' : Int) = d.cols ∧ ∀ k, k < d.C i' → HalfOk d i' k)) (fun i _ => rn - (intOf i).toNat)
  case atStart => exact ⟨0, Nat.zero_le _, rfl, Ext.refl _, fun i' hi => by omega⟩
  case round =>
    obtain ⟨I, hI, rfl, hext, HD⟩ := hrel
    have q0 := hext.cell p0
    have q1 := hext.cell p1
    have q2 := hext.cell p2
    by_cases hlt : I < rn
    · have bI : (I : Int) < (rn : Int) := by omega
      have hIR : I < d.R := by have := unhide HRN; omega
      obtain ⟨ai, ci, hri, hci, hxi⟩ := (unhide HRW) I hIR
      have g := hext.cell (E0.cell ((unhide HCELL) I hIR))
      rw [hri] at g
      have hm' := (unhide HF2) I hIR
      have HXI := hide hxi
      obtain ⟨m, hm⟩ : ∃ m, m = d.C I := ⟨_, rfl⟩
      rw [← hm] at g hci HXI hm'
      have HM := hide hm
      clear hm hxi hri
      by_cases hmc : (m : Int) = (cn : Int)
      · go_wp2
        go_region_held3 (fun W => W.cell? ⟨w.heap.size, 0, none⟩ = some (.int .i64 cn) ∧ W.cell? ⟨w.heap.size, 2, none⟩ = some (.slice (some ⟨b, off, none⟩) rn ca) ∧ W.cell? ⟨b, off + I, none⟩ = some (.slice ai m ci)) (first | exact ⟨q0, q2, g⟩ | go_keep) (fail)
        go_wp2
        obtain ⟨rb, ro, rfl, hrc⟩ := (unhide HXI) (by omega)
        have HRC := hide hrc
        clear HXI hrc
        go_loopw [4] (fun k wr2 => ∃ K : Nat, K ≤ cn ∧ k = .int .i64 K ∧ Ext wr wr2 ∧ Hid (∀ k', k' < K → HalfOk d I k')) (fun k _ => cn - (intOf k).toNat)
        case atStart => exact ⟨0, Nat.zero_le _, rfl, (Ext.refl _).drew, fun k' hk => by omega⟩
        case round =>
          obtain ⟨K, hK, rfl, hext2, HD2⟩ := hrel
          have hx2 := hext.trans hext2
          have u0 := hx2.cell p0
          have u2 := hx2.cell p2
          have g2 := hext2.cell g
          clear q0 q1 q2
          by_cases hkl : K < cn
          · have bK : (K : Int) < (cn : Int) := by omega
            have bKm : (K : Int) < (m : Int) := by omega
            obtain ⟨gA', gB'⟩ := (unhide HRC) K (by omega)
            have gA := hx2.cell (E0.cell gA')
            have gB := hx2.cell (E0.cell gB')
            clear gA' gB'
            have HST : Hid (HalfOk d I K → ∀ k', k' < K + 1 → HalfOk d I k') := fun hk k' hk' => by
              by_cases e : k' = K
              · rw [e]; exact hk
              · exact (unhide HD2) k' (by omega)
            have HNO : Hid (¬ HalfOk d I K → ¬ OkP d) := fun hn o => hn (o.half I K hIR (by have := unhide HM; omega))
            cases hfk : d.hf I K
            · rw [hfk] at gB
              have HK : Hid (HalfOk d I K) := fun h => by rw [hfk] at h; simp at h
              go_wp2
              go_roundw
              case rel => exact ⟨K + 1, by omega, by go_num, hext2.alloc _, (unhide HST) (unhide HK)⟩
              case measure => simp [intOf]; omega
            · rw [hfk] at gB
              have u2n : ∀ o, (wr.alloc o).cell? ⟨w.heap.size, 2, none⟩ = some (.slice (some ⟨b, off, none⟩) rn ca) := fun o => ((Ext.refl wr).alloc o).cell u2
              have g2n : ∀ o, (wr.alloc o).cell? ⟨b, off + I, none⟩ = some (.slice (some ⟨rb, ro, none⟩) m ci) := fun o => ((Ext.refl wr).alloc o).cell g2
              by_cases ht : (d.tx I K).toList = []
              · by_cases hK0 : K = 0
                · subst hK0
                  simp only [Nat.zero_mul, Nat.add_zero] at gA gB
                  have hz0 : ((0 : Nat) : Int) = 0 := rfl
                  obtain rfl := ok_no (unhide HOK) ((unhide HNO) (fun h => absurd (h hfk).2.1 (by omega)))
                  go_wp2
                  go_ret
                  exact ⟨rfl, (E0.trans hx2).alloc _⟩
                · have gP := hx2.cell (E0.cell ((unhide HRC) (K - 1) (by omega)).1)
                  have ek : ((K - 1 : Nat) : Int) = (K : Int) - 1 := by omega
                  have b1 : (0 : Int) ≤ (K : Int) - 1 := by omega
                  have b2 : (K : Int) - 1 < (m : Int) := by omega
                  have ew : IntKind.i64.wrap ((K : Int) - 1) = ((K - 1 : Nat) : Int) := by rw [IntKind.wrap_i64]; omega
                  have b3 : ((K - 1 : Nat) : Int) < (m : Int) := by omega
                  have gPn : ∀ o, (wr.alloc o).cell? ⟨rb, ro + (K - 1) * 2, none⟩ = some (.string (d.tx I (K - 1))) := fun o => ((Ext.refl wr).alloc o).cell gP
                  have hK0' : ¬ (K : Int) = 0 := by omega
                  by_cases htp : (d.tx I (K - 1)).toList = []
                  · obtain rfl := ok_no (unhide HOK) ((unhide HNO) (fun h => (h hfk).2.2 htp))
                    go_wp2
                    go_ret
                    exact ⟨rfl, (E0.trans hx2).alloc _⟩
                  · have HK : Hid (HalfOk d I K) := fun _ => ⟨ht, by omega, htp⟩
                    have hb0 : ((K : Int) == 0) = false := by simp; omega
                    have htq : (d.tx I (K - 1)).toList.isEmpty = false := by simpa using htp
                    go_wp2
                    go_roundw
                    case rel => exact ⟨K + 1, by omega, by go_num, hext2.alloc _, (unhide HST) (unhide HK)⟩
                    case measure => simp [intOf]; omega
              · obtain rfl := ok_no (unhide HOK) ((unhide HNO) (fun h => ht (h hfk).1))
                go_wp2
                go_ret
                exact ⟨rfl, (E0.trans hx2).alloc _⟩
          · obtain rfl : K = cn := by omega
            have hmK : m = K := by omega
            have HD3 : Hid (∀ i', i' < I + 1 → (d.C i' : Int) = d.cols ∧ ∀ k, k < d.C i' → HalfOk d i' k) := fun i' hi' => by
              by_cases e : i' = I
              · subst e
                have h1 := unhide HM
                have h2 := unhide HEC
                exact ⟨by omega, fun k hk => (unhide HD2) k (by omega)⟩
              · exact (unhide HD) i' (by omega)
            go_wp2
            go_roundw
            case rel => exact ⟨I + 1, by omega, by go_num, hx2, HD3⟩
            case measure => simp [intOf]; omega
      · go_wp2
        go_region_held3 (fun W => W.cell? ⟨w.heap.size, 0, none⟩ = some (.int .i64 cn) ∧ W.cell? ⟨w.heap.size, 2, none⟩ = some (.slice (some ⟨b, off, none⟩) rn ca) ∧ W.cell? ⟨b, off + I, none⟩ = some (.slice ai m ci)) (first | exact ⟨q0, q2, g⟩ | go_keep) (fail)
        obtain rfl := ok_no (unhide HOK) (fun h => absurd (h.C I hIR) (by have := unhide HM; have := unhide HEC; omega))
        go_wp2
        go_ret
        exact ⟨rfl, (E0.trans hext).drew⟩
    · obtain rfl : I = rn := by omega
      have q3 := hext.cell p3
      have q4 := hext.cell p4
      have q5 := hext.cell p5
      have e1 := unhide HEC
      have e2 := unhide HER
      have e3 := unhide HR
      have e4 := unhide HRN
      have FIN : Hid ((0 ≤ d.row ∧ d.row < (I : Int)) → (0 ≤ d.col ∧ d.col < (cn : Int)) → (d.late = true → d.col = (cn : Int) - 1) → OkP d) := fun x1 x2 x3 =>
        ⟨unhide HSZ, e3, by omega, fun i hi => ((unhide HD) i (by omega)).1, fun i k hi hk => ((unhide HD) i (by omega)).2 k hk, by rw [e2]; exact x1, by rw [e1]; exact x2, by rw [e1]; exact x3⟩
      by_cases r0 : d.row < 0
      case pos =>
        obtain rfl := ok_no (unhide HOK) (fun h => by have := h.row; have := h.col; omega)
        clear e1 e2 e3 e4
        go_wp2
        go_ret
        exact ⟨rfl, E0.trans hext⟩
      by_cases r9 : (I : Int) ≤ d.row
      case pos =>
        obtain rfl := ok_no (unhide HOK) (fun h => by have := h.row; have := h.col; omega)
        clear e1 e2 e3 e4
        go_wp2
        go_ret
        exact ⟨rfl, E0.trans hext⟩
      by_cases k0 : d.col < 0
      case pos =>
        obtain rfl := ok_no (unhide HOK) (fun h => by have := h.row; have := h.col; omega)
        clear e1 e2 e3 e4
        go_wp2
        go_ret
        exact ⟨rfl, E0.trans hext⟩
      by_cases k9 : (cn : Int) ≤ d.col
      case pos =>
        obtain rfl := ok_no (unhide HOK) (fun h => by have := h.row; have := h.col; omega)
        clear e1 e2 e3 e4
        go_wp2
        go_ret
        exact ⟨rfl, E0.trans hext⟩
      have hwc : IntKind.i64.wrap ((cn : Int) - 1) = (cn : Int) - 1 := by rw [IntKind.wrap_i64]; omega
      cases hl : d.late
      · obtain rfl := ok_yes (unhide HOK) ((unhide FIN) (by omega) (by omega) (fun h => by rw [hl] at h; simp at h))
        rw [hl] at q5
        clear e1 e2 e3 e4
        go_wp2
        go_ret
        exact ⟨rfl, E0.trans hext⟩
      · rw [hl] at q5
        by_cases hq : d.col = (cn : Int) - 1
        · obtain rfl := ok_yes (unhide HOK) ((unhide FIN) (by omega) (by omega) (fun _ => hq))
          clear e1 e2 e3 e4
          go_wp2
          go_ret
          exact ⟨rfl, E0.trans hext⟩
        · obtain rfl := ok_no (unhide HOK) (fun h => hq (by have := h.late hl; omega))
          clear e1 e2 e3 e4
          go_wp2
          go_ret
          exact ⟨by simp [hq], E0.trans hext⟩
end Go.Proofs.Ytkimnihdjeonpab
