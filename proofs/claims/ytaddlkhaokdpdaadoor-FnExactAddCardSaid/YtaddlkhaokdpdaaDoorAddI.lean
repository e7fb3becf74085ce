import Derived.Test.YtaddlkhaokdpdaaDoorHistI
import Derived.Test.YtaddlkhaokdpdaaDoorRingOf
import Derived.Test.YtaddlkhaokdpdaaDoorCopyStr
namespace Go.Proofs.YtaddlkhaokdpdaaDoor
open Go.RowKit
def AddP (cap : Int) (n : Nat) (tx : Nat → ByteArray) (text : ByteArray) : Prop := HistP cap n tx ∧ ItemP (baL text) ∧ (n = 0 ∨ tx (n - 1) ≠ text)
def addN (ok : Bool) (cap : Int) (n : Nat) : Nat := if ok then (if (n : Int) = cap then n else n + 1) else n
def addT (ok : Bool) (cap : Int) (n : Nat) (tx : Nat → ByteArray) (text : ByteArray) (j : Nat) : ByteArray :=
  if ok then (if (n : Int) = cap then (if j + 1 < n then tx (j + 1) else text) else (if j < n then tx j else text)) else tx j
theorem yes_no (p : Prop) : ∃ b : Bool, b = true ↔ p := by
  by_cases h : p
  · exact ⟨true, by simp [h]⟩
  · exact ⟨false, by simp [h]⟩
theorem no_of {ok : Bool} {p : Prop} (h : ok = true ↔ p) (hn : ¬ p) : ok = false := by
  cases hc : ok with
  | false => rfl
  | true => exact absurd (h.1 hc) hn
theorem itemOk_ba (a : ByteArray) (w : World) (hla : a.size ≤ 1048576) (hT : Tabs3 w) (ok : Bool) (hok : ok = true ↔ ItemP (baL a)) :
    Calls Tryd.prog 26 #[.string a] w fun e w' => e = .returned (.bool ok) ∧ Ext w w' := by
  have h := itemOk_any (baL a) (baL_bytes a) w (by rw [baL_len]; omega) hT ok hok
  rwa [toBA_baL] at h
theorem hist_store {w2 : World} {B : Nat} {c c' : Int} {v v' : Value} (q0 : w2.cell? ⟨B, 0, none⟩ = some (.int .i64 c)) (q1 : w2.cell? ⟨B, 1, none⟩ = some v) :
    ((w2.setCell ⟨B, 0, none⟩ (.int .i64 c')).setCell ⟨B, 1, none⟩ v').cell? ⟨B, 0, none⟩ = some (.int .i64 c') ∧ ((w2.setCell ⟨B, 0, none⟩ (.int .i64 c')).setCell ⟨B, 1, none⟩ v').cell? ⟨B, 1, none⟩ = some v' := by
  constructor
  · rw [World.cell?_setCell_other _ _ _ _ (by simp)]; exact World.cell?_setCell_same _ _ _ q0
  · exact World.cell?_setCell_same _ _ _ (by rw [World.cell?_setCell_other _ _ _ _ (by simp)]; exact q1)
set_option linter.unusedSimpArgs false in
set_option maxRecDepth 10000 in
set_option maxHeartbeats 4000000 in
theorem implAdd_some (cap : Int) (ad : Addr) (n ca : Nat) (tx : Nat → ByteArray) (text : ByteArray) (w : World) (hv : Row1At w (.slice (some ad) n ca) n (fun j => .string (tx j))) (hn : n ≤ 1048576) (hx : ∀ j, j < n → (tx j).size ≤ 1048576) (ht : text.size ≤ 1048576) (hT : Tabs3 w) (ok : Bool) (hok : ok = true ↔ AddP cap n tx text) :
    Calls Tryd.prog 20 #[.agg #[.int .i64 cap, .slice (some ad) n ca], .string text] w fun e w' => ∃ v, e = .returned (.tuple #[.agg #[.int .i64 cap, v], .bool ok]) ∧ Own1 w' w.heap.size 9 v (addN ok cap n) (fun j => .string (addT ok cap n tx text j)) ∧ Ext w w' := by
  obtain ⟨bh, hbh⟩ := yes_no (HistP cap n tx)
  obtain ⟨bi, hbi⟩ := yes_no (ItemP (baL text))
  have hcH := hide (fun W (hW : Ext w W) => implHistoryOk_any cap (.slice (some ad) n ca) n tx W (hv.ext hW) hn hx (hT.ext hW) bh hbh)
  have hcI := hide (fun W (hW : Ext w W) => itemOk_ba text W ht (hT.ext hW) bi hbi)
  have hcC := hide (fun W (hW : Ext w W) => copyHistory_some cap ad n ca tx W (hv.ext hW) hn)
  have hcR := hide (fun W (hW : Ext w W) (h : n ≤ 100) => ringOf_any (.slice (some ad) n ca) n tx W (hv.ext hW) h)
  have HH := hide hbh
  have HI := hide hbi
  have HK := hide hok
  clear hv hx hT hok hbh hbi
  have EU := ((Ext.refl w).alloc (.cells #[.int .i64 cap, .slice (some ad) n ca] 27)).alloc (.cells #[.int .i64 0, .slice none 0 0] 27)
  have p0 : ((w.alloc (.cells #[.int .i64 cap, .slice (some ad) n ca] 27)).alloc (.cells #[.int .i64 0, .slice none 0 0] 27)).cell? ⟨w.heap.size, 0, none⟩ = some (.int .i64 cap) := by simp [go_sem]
  have p1 : ((w.alloc (.cells #[.int .i64 cap, .slice (some ad) n ca] 27)).alloc (.cells #[.int .i64 0, .slice none 0 0] 27)).cell? ⟨w.heap.size, 1, none⟩ = some (.slice (some ad) n ca) := by simp [go_sem]
  have p2 : ((w.alloc (.cells #[.int .i64 cap, .slice (some ad) n ca] 27)).alloc (.cells #[.int .i64 0, .slice none 0 0] 27)).cell? ⟨w.heap.size + 1, 0, none⟩ = some (.int .i64 0) := by simp [go_sem]
  have p3 : ((w.alloc (.cells #[.int .i64 cap, .slice (some ad) n ca] 27)).alloc (.cells #[.int .i64 0, .slice none 0 0] 27)).cell? ⟨w.heap.size + 1, 1, none⟩ = some (.slice none 0 0) := by simp [go_sem]
  have z2 : ((w.alloc (.cells #[.int .i64 cap, .slice (some ad) n ca] 27)).alloc (.cells #[.int .i64 0, .slice none 0 0] 27)).frozen? ⟨w.heap.size + 1, 0, none⟩ = false := by simp [go_sem]
  have z3 : ((w.alloc (.cells #[.int .i64 cap, .slice (some ad) n ca] 27)).alloc (.cells #[.int .i64 0, .slice none 0 0] 27)).frozen? ⟨w.heap.size + 1, 1, none⟩ = false := by simp [go_sem]
  obtain ⟨U, hU⟩ : ∃ U, U = (w.alloc (.cells #[.int .i64 cap, .slice (some ad) n ca] 27)).alloc (.cells #[.int .i64 0, .slice none 0 0] 27) := ⟨_, rfl⟩
  have hz : U.heap.size = w.heap.size + 2 := by rw [hU]; simp
  rw [← hU] at EU p0 p1 p2 p3 z2 z3
  have HU := hide hU
  have FZ := hide (fun W (hW : Ext U W) => show W.frozen? ⟨w.heap.size + 1, 0, none⟩ = false ∧ W.frozen? ⟨w.heap.size + 1, 1, none⟩ = false from ⟨by rw [hW.rules.2 _ _ (by omega)]; exact z2, by rw [hW.rules.2 _ _ (by omega)]; exact z3⟩)
  clear hU z2 z3
  go_enter Tryd.func20, Tryd.ntmps20
  go_wp2_with fail
  rw [← unhide HU]
  clear HU
  refine ((unhide hcH) U EU).mono ?_
  rintro e w1 ⟨rfl, F1⟩
  have p0' := F1.cell p0
  have p1' := F1.cell p1
  cases bh with
  | false =>
    have hfin : Hid (ok = false) := hide (no_of (unhide HK) (fun h => by have := (unhide HH).2 h.1; cases this))
    go_wp2_with fail
    refine ((unhide hcC) w1 (EU.trans F1)).mono ?_
    rintro e w2 ⟨v2, rfl, o2, F2⟩
    obtain ⟨a2, c2, rfl⟩ := o2.slice
    have E2 := F1.trans F2
    obtain ⟨f2, f3⟩ := (unhide FZ) w2 E2
    have q2 := E2.cell p2
    have q3 := E2.cell p3
    have HST := hide (hist_store (c' := cap) (v' := .slice a2 n c2) q2 q3)
    have z1 := F1.size
    have hne : (Value.slice a2 n c2).ownBlock ≠ some (w.heap.size + 1) := fun e => by have := (o2.lt _ e).1; omega
    have HO3 := hide (((o2.mono (base' := w.heap.size) (by omega)).away ⟨w.heap.size + 1, 0, none⟩ hne (.int .i64 cap)).away ⟨w.heap.size + 1, 1, none⟩ hne (.slice a2 n c2))
    have E3 : Ext w ((w2.setCell ⟨w.heap.size + 1, 0, none⟩ (.int .i64 cap)).setCell ⟨w.heap.size + 1, 1, none⟩ (.slice a2 n c2)) := ((EU.trans E2).setCell (by dsimp only; omega) _).setCell (by dsimp only; omega) _
    clear o2 hne
    go_wp2
    obtain ⟨r0, r1⟩ := unhide HST
    rw [unhide hfin]
    refine bodyPost_ret (v := .tuple #[.agg #[.int .i64 cap, .slice a2 n c2], .bool false]) (by simp [results, Tryd.results20, go_sem, r0, r1]) rfl ⟨_, rfl, unhide HO3, E3⟩
  | true =>
    go_wp2_with fail
    refine ((unhide hcI) w1 (EU.trans F1)).mono ?_
    rintro e w2 ⟨rfl, F2⟩
    have E2 := F1.trans F2
    have p0' := E2.cell p0
    have p1' := E2.cell p1
    cases bi with
    | false =>
      have hfin : Hid (ok = false) := hide (no_of (unhide HK) (fun h => by have := (unhide HI).2 h.2.1; cases this))
      go_wp2_with fail
      refine ((unhide hcC) w2 (EU.trans E2)).mono ?_
      rintro e w4 ⟨v4, rfl, o4, F4⟩
      obtain ⟨a4, c4, rfl⟩ := o4.slice
      have E4 := E2.trans F4
      obtain ⟨f2, f3⟩ := (unhide FZ) w4 E4
      have q2 := E4.cell p2
      have q3 := E4.cell p3
      have HST := hide (hist_store (c' := cap) (v' := .slice a4 n c4) q2 q3)
      have z1 := E2.size
      have hne : (Value.slice a4 n c4).ownBlock ≠ some (w.heap.size + 1) := fun e => by have := (o4.lt _ e).1; omega
      have HO3 := hide (((o4.mono (base' := w.heap.size) (by omega)).away ⟨w.heap.size + 1, 0, none⟩ hne (.int .i64 cap)).away ⟨w.heap.size + 1, 1, none⟩ hne (.slice a4 n c4))
      have E9 : Ext w ((w4.setCell ⟨w.heap.size + 1, 0, none⟩ (.int .i64 cap)).setCell ⟨w.heap.size + 1, 1, none⟩ (.slice a4 n c4)) := ((EU.trans E4).setCell (by dsimp only; omega) _).setCell (by dsimp only; omega) _
      clear o4 hne
      go_wp2
      obtain ⟨r0, r1⟩ := unhide HST
      rw [unhide hfin]
      refine bodyPost_ret (v := .tuple #[.agg #[.int .i64 cap, .slice a4 n c4], .bool false]) (by simp [results, Tryd.results20, go_sem, r0, r1]) rfl ⟨_, rfl, unhide HO3, E9⟩
    | true =>
      have hH := (unhide HH).1 (by simp)
      have hIt := hide ((unhide HI).1 (by simp))
      have k1 := hH.1
      have k2 := hH.2.1
      have k3 := hH.2.2.1
      have h100 : n ≤ 100 := by omega
      have HHP := hide hH
      have zz := E2.size
      clear hH HH HI
      go_wp2_with fail
      refine ((unhide hcR) w2 (EU.trans E2) h100).mono ?_
      rintro e w3 ⟨g, ty, rfl, hg, hty, hR, F3⟩
      have E3 := E2.trans F3
      have p0'' := E3.cell p0
      have p1'' := E3.cell p1
      have c101 := hR.2.2.1
      have HTY := hide hty
      have HR := hide hR
      clear hty hR
      by_cases h0 : n = 0
      · subst h0
        have hfin : Hid (ok = true) := hide ((unhide HK).2 ⟨unhide HHP, unhide hIt, .inl rfl⟩)
        have hnc : ¬ (0 : Int) = cap := by omega
        have HADN : Hid (addN true cap 0 = 0 + 1) := hide (by simp [addN, hnc])
        go_wp2
        go_quiet (fail)
        have RD := (unhide HR).ext ((Ext.refl w3).drewN nq)
        have HP := hide (push_any g 0 0 ty text (w3.drewN nq) (by omega) (by omega) RD)
        clear RD
        go_wp2_with fail
        refine (unhide HP).mono ?_
        rintro e w5 ⟨rfl, R5, K5⟩
        have E5 := K5 U (by omega) (E3.drewN nq)
        have HRK := hide R5
        have HADD : Hid (∀ j, j < 0 + 1 → (if (0 + j) % 100 = (0 + 0) % 100 then text else ty ((0 + j) % 100)) = addT true cap 0 tx text j) := hide (fun j hj => by
          obtain rfl : j = 0 := by omega
          simp [addT])
        clear R5 K5
        have u0 := E5.cell p0
        have zk := E5.size
        go_wp2
        refine wp_region_held_drew (S := fun W => W.cell? ⟨w.heap.size, 0, none⟩ = some (.int .i64 cap)) (by kernel_rfl) u0 (fun hHeld => ?_)
        refine wpAnyH_take (i := 0) (v := ?_) rfl (by kernel_rfl) (by kernel_rfl) (by kernel_rfl) (fun _ _ _ h => h) (Or.inl ⟨by rfl, ?_⟩) (by assumption) ?_
        rotate_left
        · intro w' hSw; go_simp <;> with_reducible rfl
        simp only [Act.put, q9]
        refine wpAnyH_take (i := 1) (v := ?_) rfl (by kernel_rfl) (by kernel_rfl) (by kernel_rfl) (fun _ _ _ h => h) (Or.inl ⟨by rfl, ?_⟩) (by assumption) ?_
        rotate_left
        · intro w' hSw; go_simp <;> with_reducible rfl
        simp only [Act.put, q9]
        refine wpAnyH_take (i := 2) (v := ?_) rfl (by kernel_rfl) (by kernel_rfl) (by kernel_rfl) (fun _ _ _ h => h) (Or.inl ⟨by rfl, ?_⟩) (by assumption) ?_
        rotate_left
        · intro w' hSw; go_simp <;> with_reducible rfl
        simp only [Act.put, q9]
        refine wpAnyH_ready (rs := [3]) (by kernel_rfl) (by simp) ?_
        refine AllReadyH.cons rfl (fun K hK => ?_) AllReadyH.nil
        go_simp
        go_wp2_with (go_at_call 43; refine (list_any g 0 (0 + 1) _ w5.drew (by omega) (by omega) ((unhide HRK).ext (Ext.refl w5).drew)).mono ?_; rintro e w8 ⟨v8, rfl, o8, F8⟩; obtain ⟨a8, c8, rfl⟩ := o8.slice; have F8' := (Ext.refl w5).drew.trans F8; have HO8 := hide o8; clear o8 F8)
        refine hK.out _ _ (F8'.cell u0) (fun hHeld => ?_)
        clear hK K
        refine wpAnyH_take (i := 4) (v := ?_) rfl (by kernel_rfl) (by kernel_rfl) (by kernel_rfl) (fun _ _ _ h => h) (Or.inl ⟨by rfl, ?_⟩) (by assumption) ?_
        rotate_left
        · intro w' hSw; go_simp <;> with_reducible rfl
        simp only [Act.put, q9]
        have E8 := E5.trans F8'
        obtain ⟨f2, f3⟩ := (unhide FZ) w8 E8
        have q2 := E8.cell p2
        have q3 := E8.cell p3
        have HST := hide (hist_store (c' := cap) (v' := .slice a8 ((0 + 1)) c8) q2 q3)
        have hne : (Value.slice a8 ((0 + 1)) c8).ownBlock ≠ some (w.heap.size + 1) := fun e => by have h9 := ((unhide HO8).lt _ e).1; have h8 : w5.drew.heap.size = w5.heap.size := rfl; omega
        have HO3 := hide ((((unhide HO8).mono (base' := w.heap.size) (by have h8 : w5.drew.heap.size = w5.heap.size := rfl; omega)).away ⟨w.heap.size + 1, 0, none⟩ hne (.int .i64 cap)).away ⟨w.heap.size + 1, 1, none⟩ hne (.slice a8 ((0 + 1)) c8))
        have E9 : Ext w ((w8.setCell ⟨w.heap.size + 1, 0, none⟩ (.int .i64 cap)).setCell ⟨w.heap.size + 1, 1, none⟩ (.slice a8 ((0 + 1)) c8)) := ((EU.trans E8).setCell (by dsimp only; omega) _).setCell (by dsimp only; omega) _
        have t0 : ((w8.setCell ⟨w.heap.size + 1, 0, none⟩ (.int .i64 cap)).setCell ⟨w.heap.size + 1, 1, none⟩ (.slice a8 ((0 + 1)) c8)).cell? ⟨w.heap.size, 0, none⟩ = some (.int .i64 cap) := by rw [World.cell?_setCell_other _ _ _ _ (by simp), World.cell?_setCell_other _ _ _ _ (by simp)]; exact E8.cell p0
        refine wpAnyH_ready (rs := [5]) (by kernel_rfl) (by simp) ?_
        refine AllReadyH.cons rfl (fun K hK => ?_) AllReadyH.nil
        go_simp
        refine hK.out _ _ t0 (fun hHeld => ?_)
        clear hK K
        refine wpAnyH_take (i := 6) (v := ?_) rfl (by kernel_rfl) (by kernel_rfl) (by kernel_rfl) (fun _ _ _ h => h) (Or.inl ⟨by rfl, ?_⟩) (by assumption) ?_
        rotate_left
        · intro w' hSw; go_simp <;> with_reducible rfl
        simp only [Act.put, q9]
        refine wpAnyH_done (by kernel_rfl) ?_ _
        clear t0 hHeld hne
        go_wp2
        obtain ⟨r0, r1⟩ := unhide HST
        rw [unhide hfin, unhide HADN]
        refine bodyPost_ret (v := .tuple #[.agg #[.int .i64 cap, .slice a8 ((0 + 1)) c8], .bool true]) (by simp [results, Tryd.results20, go_sem, r0, r1]) rfl ⟨_, rfl, (unhide HO3).congr (fun j hj => by rw [(unhide HADD) j hj]), E9⟩
      · have hw1 : IntKind.i64.wrap ((n : Int) - 1) = ((n - 1 : Nat) : Int) := by rw [IntKind.wrap_i64]; omega
        have b0 : (0 : Int) < (n : Int) := by omega
        have hA := at_any g 0 n (n - 1) ty w3 (by omega) (by omega) (unhide HR)
        rw [show (0 + (n - 1)) % 100 = n - 1 by omega, (unhide HTY) (n - 1) (by omega)] at hA
        have HA := hide hA
        clear hA
        go_wp2_with fail
        refine (unhide HA).mono ?_
        rintro e w4 ⟨rfl, F4⟩
        have E4 := E3.trans F4
        have p0'' := E4.cell p0
        have p1'' := E4.cell p1
        have c101 := F4.cell c101
        by_cases he : tx (n - 1) = text
        · have hfin : Hid (ok = false) := hide (no_of (unhide HK) (fun h => h.2.2.elim h0 (fun h9 => h9 he)))
          rw [he]
          clear he
          go_wp2_with fail
          refine ((unhide hcC) w4 (EU.trans E4)).mono ?_
          rintro e w6 ⟨v6, rfl, o6, F6⟩
          obtain ⟨a6, c6, rfl⟩ := o6.slice
          have E6 := E4.trans F6
          obtain ⟨f2, f3⟩ := (unhide FZ) w6 E6
          have q2 := E6.cell p2
          have q3 := E6.cell p3
          have HST := hide (hist_store (c' := cap) (v' := .slice a6 n c6) q2 q3)
          have z1 := E4.size
          have hne : (Value.slice a6 n c6).ownBlock ≠ some (w.heap.size + 1) := fun e => by have := (o6.lt _ e).1; omega
          have HO3 := hide (((o6.mono (base' := w.heap.size) (by omega)).away ⟨w.heap.size + 1, 0, none⟩ hne (.int .i64 cap)).away ⟨w.heap.size + 1, 1, none⟩ hne (.slice a6 n c6))
          have E9 : Ext w ((w6.setCell ⟨w.heap.size + 1, 0, none⟩ (.int .i64 cap)).setCell ⟨w.heap.size + 1, 1, none⟩ (.slice a6 n c6)) := ((EU.trans E6).setCell (by dsimp only; omega) _).setCell (by dsimp only; omega) _
          clear o6 hne
          go_wp2
          obtain ⟨r0, r1⟩ := unhide HST
          rw [unhide hfin]
          refine bodyPost_ret (v := .tuple #[.agg #[.int .i64 cap, .slice a6 n c6], .bool false]) (by simp [results, Tryd.results20, go_sem, r0, r1]) rfl ⟨_, rfl, unhide HO3, E9⟩
        · have hne1 := str_ne he
          have hfin : Hid (ok = true) := hide ((unhide HK).2 ⟨unhide HHP, unhide hIt, .inr he⟩)
          clear he
          by_cases hcap : (n : Int) = cap
          · obtain ⟨m, rfl⟩ : ∃ m, n = m + 1 := ⟨n - 1, by omega⟩
            have HADN : Hid (addN true cap (m + 1) = m + 1) := hide (by unfold addN; rw [if_pos rfl, if_pos hcap])
            have HCAP := hide hcap
            have hne2 : ((tx m).toList == text.toList) = false := hne1
            clear hne1
            have hceq : ((m : Int) + 1) = cap := by omega
            go_wp2
            go_quiet (fail)
            have RD := ((unhide HR).ext F4).ext ((Ext.refl w4).drewN nq)
            have HD := hide (dropFirst_any g 0 m ty (w4.drewN nq) (by omega) (by omega) RD)
            clear RD
            go_wp2_with fail
            refine (unhide HD).mono ?_
            rintro e w5 ⟨rfl, R5, K5⟩
            have E5 := K5 U (by omega) (E4.drewN nq)
            have HP := hide (push_any g ((0 + 1) % 100) m ty text w5 (by omega) (by omega) R5)
            clear R5 K5
            go_wp2_with fail
            refine (unhide HP).mono ?_
            rintro e w6 ⟨rfl, R6, K6⟩
            have E6 := K6 U (by omega) E5
            have HRK := hide R6
            have HADD : Hid (∀ j, j < m + 1 → (if ((0 + 1) % 100 + j) % 100 = ((0 + 1) % 100 + m) % 100 then text else ty (((0 + 1) % 100 + j) % 100)) = addT true cap (m + 1) tx text j) := hide (fun j hj => by
              unfold addT
              rw [if_pos rfl, if_pos (unhide HCAP)]
              by_cases e : j = m
              · subst e; rw [if_pos rfl, if_neg (by omega)]
              · rw [if_neg (by omega), if_pos (by omega)]
                have e1 : ((0 + 1) % 100 + j) % 100 = j + 1 := by omega
                rw [e1]
                exact (unhide HTY) (j + 1) (by omega))
            clear R6 K6 hcap
            have u0 := E6.cell p0
            have zk := E6.size
            go_wp2
            refine wp_region_held_drew (S := fun W => W.cell? ⟨w.heap.size, 0, none⟩ = some (.int .i64 cap)) (by kernel_rfl) u0 (fun hHeld => ?_)
            refine wpAnyH_take (i := 0) (v := ?_) rfl (by kernel_rfl) (by kernel_rfl) (by kernel_rfl) (fun _ _ _ h => h) (Or.inl ⟨by rfl, ?_⟩) (by assumption) ?_
            rotate_left
            · intro w' hSw; go_simp <;> with_reducible rfl
            simp only [Act.put, q9]
            refine wpAnyH_take (i := 1) (v := ?_) rfl (by kernel_rfl) (by kernel_rfl) (by kernel_rfl) (fun _ _ _ h => h) (Or.inl ⟨by rfl, ?_⟩) (by assumption) ?_
            rotate_left
            · intro w' hSw; go_simp <;> with_reducible rfl
            simp only [Act.put, q9]
            refine wpAnyH_take (i := 2) (v := ?_) rfl (by kernel_rfl) (by kernel_rfl) (by kernel_rfl) (fun _ _ _ h => h) (Or.inl ⟨by rfl, ?_⟩) (by assumption) ?_
            rotate_left
            · intro w' hSw; go_simp <;> with_reducible rfl
            simp only [Act.put, q9]
            refine wpAnyH_ready (rs := [3]) (by kernel_rfl) (by simp) ?_
            refine AllReadyH.cons rfl (fun K hK => ?_) AllReadyH.nil
            go_simp
            go_wp2_with (go_at_call 43; refine (list_any g ((0 + 1) % 100) (m + 1) _ w6.drew (by omega) (by omega) ((unhide HRK).ext (Ext.refl w6).drew)).mono ?_; rintro e w8 ⟨v8, rfl, o8, F8⟩; obtain ⟨a8, c8, rfl⟩ := o8.slice; have F8' := (Ext.refl w6).drew.trans F8; have HO8 := hide o8; clear o8 F8)
            refine hK.out _ _ (F8'.cell u0) (fun hHeld => ?_)
            clear hK K
            refine wpAnyH_take (i := 4) (v := ?_) rfl (by kernel_rfl) (by kernel_rfl) (by kernel_rfl) (fun _ _ _ h => h) (Or.inl ⟨by rfl, ?_⟩) (by assumption) ?_
            rotate_left
            · intro w' hSw; go_simp <;> with_reducible rfl
            simp only [Act.put, q9]
            have E8 := E6.trans F8'
            obtain ⟨f2, f3⟩ := (unhide FZ) w8 E8
            have q2 := E8.cell p2
            have q3 := E8.cell p3
            have HST := hide (hist_store (c' := cap) (v' := .slice a8 ((m + 1)) c8) q2 q3)
            have hne : (Value.slice a8 ((m + 1)) c8).ownBlock ≠ some (w.heap.size + 1) := fun e => by have h9 := ((unhide HO8).lt _ e).1; have h8 : w6.drew.heap.size = w6.heap.size := rfl; omega
            have HO3 := hide ((((unhide HO8).mono (base' := w.heap.size) (by have h8 : w6.drew.heap.size = w6.heap.size := rfl; omega)).away ⟨w.heap.size + 1, 0, none⟩ hne (.int .i64 cap)).away ⟨w.heap.size + 1, 1, none⟩ hne (.slice a8 ((m + 1)) c8))
            have E9 : Ext w ((w8.setCell ⟨w.heap.size + 1, 0, none⟩ (.int .i64 cap)).setCell ⟨w.heap.size + 1, 1, none⟩ (.slice a8 ((m + 1)) c8)) := ((EU.trans E8).setCell (by dsimp only; omega) _).setCell (by dsimp only; omega) _
            have t0 : ((w8.setCell ⟨w.heap.size + 1, 0, none⟩ (.int .i64 cap)).setCell ⟨w.heap.size + 1, 1, none⟩ (.slice a8 ((m + 1)) c8)).cell? ⟨w.heap.size, 0, none⟩ = some (.int .i64 cap) := by rw [World.cell?_setCell_other _ _ _ _ (by simp), World.cell?_setCell_other _ _ _ _ (by simp)]; exact E8.cell p0
            refine wpAnyH_ready (rs := [5]) (by kernel_rfl) (by simp) ?_
            refine AllReadyH.cons rfl (fun K hK => ?_) AllReadyH.nil
            go_simp
            refine hK.out _ _ t0 (fun hHeld => ?_)
            clear hK K
            refine wpAnyH_take (i := 6) (v := ?_) rfl (by kernel_rfl) (by kernel_rfl) (by kernel_rfl) (fun _ _ _ h => h) (Or.inl ⟨by rfl, ?_⟩) (by assumption) ?_
            rotate_left
            · intro w' hSw; go_simp <;> with_reducible rfl
            simp only [Act.put, q9]
            refine wpAnyH_done (by kernel_rfl) ?_ _
            clear t0 hHeld hne
            go_wp2
            obtain ⟨r0, r1⟩ := unhide HST
            rw [unhide hfin, unhide HADN]
            refine bodyPost_ret (v := .tuple #[.agg #[.int .i64 cap, .slice a8 ((m + 1)) c8], .bool true]) (by simp [results, Tryd.results20, go_sem, r0, r1]) rfl ⟨_, rfl, (unhide HO3).congr (fun j hj => by rw [(unhide HADD) j hj]), E9⟩
          · have HADN : Hid (addN true cap n = n + 1) := hide (by simp [addN, hcap])
            have h99 : n < 100 := by omega
            go_wp2
            go_quiet (fail)
            have RD := ((unhide HR).ext F4).ext ((Ext.refl w4).drewN nq)
            have HP := hide (push_any g 0 n ty text (w4.drewN nq) (by omega) h99 RD)
            clear RD
            go_wp2_with fail
            refine (unhide HP).mono ?_
            rintro e w5 ⟨rfl, R5, K5⟩
            have E5 := K5 U (by omega) (E4.drewN nq)
            have HRK := hide R5
            have HADD : Hid (∀ j, j < n + 1 → (if (0 + j) % 100 = (0 + n) % 100 then text else ty ((0 + j) % 100)) = addT true cap n tx text j) := hide (fun j hj => by
              have e1 : (0 + j) % 100 = j := by omega
              have e2 : (0 + n) % 100 = n := by omega
              rw [e1, e2]
              by_cases e : j = n
              · subst e; simp [addT, hcap]
              · rw [if_neg e, (unhide HTY) j (by omega)]
                simp [addT, hcap, show j < n by omega])
            clear R5 K5
            have u0 := E5.cell p0
            have zk := E5.size
            go_wp2
            refine wp_region_held_drew (S := fun W => W.cell? ⟨w.heap.size, 0, none⟩ = some (.int .i64 cap)) (by kernel_rfl) u0 (fun hHeld => ?_)
            refine wpAnyH_take (i := 0) (v := ?_) rfl (by kernel_rfl) (by kernel_rfl) (by kernel_rfl) (fun _ _ _ h => h) (Or.inl ⟨by rfl, ?_⟩) (by assumption) ?_
            rotate_left
            · intro w' hSw; go_simp <;> with_reducible rfl
            simp only [Act.put, q9]
            refine wpAnyH_take (i := 1) (v := ?_) rfl (by kernel_rfl) (by kernel_rfl) (by kernel_rfl) (fun _ _ _ h => h) (Or.inl ⟨by rfl, ?_⟩) (by assumption) ?_
            rotate_left
            · intro w' hSw; go_simp <;> with_reducible rfl
            simp only [Act.put, q9]
            refine wpAnyH_take (i := 2) (v := ?_) rfl (by kernel_rfl) (by kernel_rfl) (by kernel_rfl) (fun _ _ _ h => h) (Or.inl ⟨by rfl, ?_⟩) (by assumption) ?_
            rotate_left
            · intro w' hSw; go_simp <;> with_reducible rfl
            simp only [Act.put, q9]
            refine wpAnyH_ready (rs := [3]) (by kernel_rfl) (by simp) ?_
            refine AllReadyH.cons rfl (fun K hK => ?_) AllReadyH.nil
            go_simp
            go_wp2_with (go_at_call 43; refine (list_any g 0 (n + 1) _ w5.drew (by omega) (by omega) ((unhide HRK).ext (Ext.refl w5).drew)).mono ?_; rintro e w8 ⟨v8, rfl, o8, F8⟩; obtain ⟨a8, c8, rfl⟩ := o8.slice; have F8' := (Ext.refl w5).drew.trans F8; have HO8 := hide o8; clear o8 F8)
            refine hK.out _ _ (F8'.cell u0) (fun hHeld => ?_)
            clear hK K
            refine wpAnyH_take (i := 4) (v := ?_) rfl (by kernel_rfl) (by kernel_rfl) (by kernel_rfl) (fun _ _ _ h => h) (Or.inl ⟨by rfl, ?_⟩) (by assumption) ?_
            rotate_left
            · intro w' hSw; go_simp <;> with_reducible rfl
            simp only [Act.put, q9]
            have E8 := E5.trans F8'
            obtain ⟨f2, f3⟩ := (unhide FZ) w8 E8
            have q2 := E8.cell p2
            have q3 := E8.cell p3
            have HST := hide (hist_store (c' := cap) (v' := .slice a8 ((n + 1)) c8) q2 q3)
            have hne : (Value.slice a8 ((n + 1)) c8).ownBlock ≠ some (w.heap.size + 1) := fun e => by have h9 := ((unhide HO8).lt _ e).1; have h8 : w5.drew.heap.size = w5.heap.size := rfl; omega
            have HO3 := hide ((((unhide HO8).mono (base' := w.heap.size) (by have h8 : w5.drew.heap.size = w5.heap.size := rfl; omega)).away ⟨w.heap.size + 1, 0, none⟩ hne (.int .i64 cap)).away ⟨w.heap.size + 1, 1, none⟩ hne (.slice a8 ((n + 1)) c8))
            have E9 : Ext w ((w8.setCell ⟨w.heap.size + 1, 0, none⟩ (.int .i64 cap)).setCell ⟨w.heap.size + 1, 1, none⟩ (.slice a8 ((n + 1)) c8)) := ((EU.trans E8).setCell (by dsimp only; omega) _).setCell (by dsimp only; omega) _
            have t0 : ((w8.setCell ⟨w.heap.size + 1, 0, none⟩ (.int .i64 cap)).setCell ⟨w.heap.size + 1, 1, none⟩ (.slice a8 ((n + 1)) c8)).cell? ⟨w.heap.size, 0, none⟩ = some (.int .i64 cap) := by rw [World.cell?_setCell_other _ _ _ _ (by simp), World.cell?_setCell_other _ _ _ _ (by simp)]; exact E8.cell p0
            refine wpAnyH_ready (rs := [5]) (by kernel_rfl) (by simp) ?_
            refine AllReadyH.cons rfl (fun K hK => ?_) AllReadyH.nil
            go_simp
            refine hK.out _ _ t0 (fun hHeld => ?_)
            clear hK K
            refine wpAnyH_take (i := 6) (v := ?_) rfl (by kernel_rfl) (by kernel_rfl) (by kernel_rfl) (fun _ _ _ h => h) (Or.inl ⟨by rfl, ?_⟩) (by assumption) ?_
            rotate_left
            · intro w' hSw; go_simp <;> with_reducible rfl
            simp only [Act.put, q9]
            refine wpAnyH_done (by kernel_rfl) ?_ _
            clear t0 hHeld hne
            go_wp2
            obtain ⟨r0, r1⟩ := unhide HST
            rw [unhide hfin, unhide HADN]
            refine bodyPost_ret (v := .tuple #[.agg #[.int .i64 cap, .slice a8 ((n + 1)) c8], .bool true]) (by simp [results, Tryd.results20, go_sem, r0, r1]) rfl ⟨_, rfl, (unhide HO3).congr (fun j hj => by rw [(unhide HADD) j hj]), E9⟩
end Go.Proofs.YtaddlkhaokdpdaaDoor
