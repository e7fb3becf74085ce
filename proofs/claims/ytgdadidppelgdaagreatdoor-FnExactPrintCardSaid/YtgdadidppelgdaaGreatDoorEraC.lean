import Derived.Test.YtgdadidppelgdaaGreatDoorContL
import Derived.Test.YtgdadidppelgdaaGreatDoorSetL
import Derived.Test.YtgdadidppelgdaaGreatDoorPaintM
import Derived.Test.YtgdadidppelgdaaGreatDoorEraseT
import Derived.Test.YtgdadidppelgdaaGreatDoorSpecPaint
import Derived.Deep.RegionHeldLaw
import Derived.Deep.RegionLawGrows
namespace Go.Proofs.YtgdadidppelgdaaGreatDoor
open Go.RowKit

/-- A session with lines behind its queue. -/
def SS.queue (s : SS) (L : List ByteArray) : SS := { s with qn := s.qn + L.length, qt := fun i => if i < s.qn then s.qt i else atR L (i - s.qn) }
/-- The rows of the lines of bytes. -/
def SS.rowsB (s : SS) (bs : List Int) : List ByteArray := linesR s.cols (atR (linesB bs)) (linesB bs).length
def SS.printZ (s : SS) (bs : List Int) : List Int := eraseL s.blk.n (s.blk.R : Int) s.blk.C ++ outR (s.rowsB bs) ++ s.paint
def SS.prn (s : SS) (bs : List Int) : SS × List Int × Int :=
    if 5000 < bs.length then (s, [], 2)
    else if s.st = true then (if 20 < s.qn + (linesB bs).length then (s, [], 3) else (s.queue (linesB bs), [], 0))
    else if (linesB bs).length = 0 then (s, [], 0) else (s.keep (s.rowsB bs), s.printZ bs, 0)
def PrintR (s : SS) (bs : List Int) (s' : SS) (zs : List Int) (c : Int) : Prop := (SesP s → s.prn bs = (s', zs, c)) ∧ (¬ SesP s → (s, [], 1) = (s', zs, c))
theorem printR_det {s s1 s2 : SS} {bs z1 z2 : List Int} {c1 c2 : Int} (h1 : PrintR s bs s1 z1 c1) (h2 : PrintR s bs s2 z2 c2) : s2 = s1 ∧ z2 = z1 ∧ c2 = c1 := by
  have h : (s1, z1, c1) = (s2, z2, c2) := by
    by_cases e : SesP s
    · exact (h1.1 e).symm.trans (h2.1 e)
    · exact (h1.2 e).symm.trans (h2.2 e)
  simp only [Prod.mk.injEq] at h
  exact ⟨h.1.symm, h.2.1.symm, h.2.2.symm⟩
theorem prn_no {s : SS} {bs : List Int} (h : ¬ SesP s) : PrintR s bs s [] 1 := ⟨fun e => absurd e h, fun _ => rfl⟩
theorem prn_long {s : SS} {bs : List Int} (h : SesP s) (h2 : 5000 < bs.length) : PrintR s bs s [] 2 := ⟨fun _ => by unfold SS.prn; rw [if_pos h2], fun e => absurd h e⟩
theorem prn_full {s : SS} {bs : List Int} (h : SesP s) (h2 : bs.length ≤ 5000) (h3 : s.st = true) (h4 : 20 < s.qn + (linesB bs).length) : PrintR s bs s [] 3 := ⟨fun _ => by unfold SS.prn; rw [if_neg (by omega), if_pos h3, if_pos h4], fun e => absurd h e⟩
theorem prn_queue {s : SS} {bs : List Int} (h : SesP s) (h2 : bs.length ≤ 5000) (h3 : s.st = true) (h4 : s.qn + (linesB bs).length ≤ 20) : PrintR s bs (s.queue (linesB bs)) [] 0 := ⟨fun _ => by unfold SS.prn; rw [if_neg (by omega), if_pos h3, if_neg (by omega)], fun e => absurd h e⟩
theorem prn_none {s : SS} {bs : List Int} (h : SesP s) (h2 : bs.length ≤ 5000) (h3 : s.st = false) (h4 : (linesB bs).length = 0) : PrintR s bs s [] 0 := ⟨fun _ => by unfold SS.prn; rw [if_neg (by omega), if_neg (by rw [h3]; simp), if_pos h4], fun e => absurd h e⟩
theorem prn_rows {s : SS} {bs : List Int} (h : SesP s) (h2 : bs.length ≤ 5000) (h3 : s.st = false) (h4 : (linesB bs).length ≠ 0) : PrintR s bs (s.keep (s.rowsB bs)) (s.printZ bs) 0 := ⟨fun _ => by unfold SS.prn; rw [if_neg (by omega), if_neg (by rw [h3]; simp), if_neg h4], fun e => absurd h e⟩
/-- What the rows of a print weigh. -/
theorem rowsB_bd (s : SS) (bs : List Int) (h : bs.length ≤ 5000) : (s.rowsB bs).length ≤ 100000 ∧ lsz (s.rowsB bs) ≤ 1000000 := by
  have h1 := linesR_bd s.cols (atR (linesB bs)) (linesB bs).length
  have h2 := linesB_bd bs
  rw [slen_lsz] at h1
  unfold SS.rowsB
  omega
theorem linesB_at (bs : List Int) (h : bs.length ≤ 5000) (j : Nat) (hj : j < (linesB bs).length) : (atR (linesB bs) j).size ≤ 1048576 := by
  have h1 := lsz_at (linesB bs) j hj
  have h2 := linesB_bd bs
  omega
theorem queue_strL (s : SS) (L : List ByteArray) : strL s.qt s.qn ++ L.map Value.string = strL (s.queue L).qt (s.queue L).qn := by
  rw [← strL_atR]
  exact strL_two s.qt (atR L) s.qn L.length
section
variable {P : Program} {w : World}
/-- append onto an owned row, whatever the source; and where the new one lies. -/
theorem wp_app_at {o : Oper} {a : Act} {K : Act → World → Prop} {Q : Exit → Act → World → Prop} (s x : Operand) (t : TypeId)
    (ho : o.op = .call { callee := .builtin .append, args := #[s, x], argTypes := #[t, t] })
    (base : Nat) (e : TypeId) (i : TypeInfo) (z : Value) (size bytes : Nat) (ht : P.underlying t = some (.slice e)) (hi : P.info? e = some i) (hz : i.zero = some z)
    (hsize : i.size = size) (hby : i.bytes = bytes) (hzs : z.cells.size = size) (hsz : 0 < size)
    (v : Value) (n : Nat) (xs : List Value) (hs : a.eval s = v) (hown : w.ownsRow base e size v n xs)
    (y : Value) (m : Nat) (news : List Value) (hx : a.eval x = y) (hsrc : Src w size y m news)
    (h63 : n + m ≤ maxLen) (hbytes : (n + m) * bytes ≤ 140737488355328) (hbase : base ≤ w.heap.size)
    (h : ∀ v' w', w'.ownsRow base e size v' (n + m) (xs ++ news) → w.grownBy w' v.ownBlock → (∀ g, v'.ownBlock = some g → v.ownBlock = some g ∨ g = w.heap.size) → K (a.put o.dst v') w') : o.wp P a w K Q := by
  obtain ⟨h1, h2, h3⟩ := hsrc
  rcases h3 with ⟨c, rfl, rfl⟩ | ⟨ad, c, rfl, h3⟩
  · have hn : news = [] := List.eq_nil_of_length_eq_zero (by omega)
    subst hn
    have hr := run_app_none (P := P) (w := w) base t o.type e i size ht hi v n c xs hown
    unfold Oper.wp execOp
    simp only [ho, resolve, invoke, builtin, Sem.run_bind, Sem.run_pure, Result.andThen_ok, List.map_toArray, List.map_cons, List.map_nil, hs, hx, hr]
    exact h v w (by simpa using hown) (World.grownBy.refl w _) (fun g hg => .inl hg)
  · obtain ⟨v', w', hr, r1, r2, _, r5⟩ := run_append_own_at (P := P) w base t o.type e i z size bytes ht hi hz hsize hby hzs hsz v n xs hown ad m c news h1 h3 h2 h63 hbytes hbase
    unfold Oper.wp execOp
    simp only [ho, resolve, invoke, builtin, Sem.run_bind, Sem.run_pure, Result.andThen_ok, List.map_toArray, List.map_cons, List.map_nil, hs, hx, hr]
    refine h v' w' r1 r2 (fun g hg => ?_)
    rcases r5 with r5 | r5
    · exact .inl (by rw [← r5]; exact hg)
    · right
      rw [r5] at hg
      exact (Option.some.inj hg).symm
end
end Go.Proofs.YtgdadidppelgdaaGreatDoor

namespace Go.Proofs.YtgdadidppelgdaaGreatDoor
open Go.RowKit

/-- What a frame that prints leaves. -/
def PrnOk (s : SS) (bs : List Int) (base H : Nat) (ua ha pa qa la da : Option Addr) (uc hc pc qc lc dc : Nat) (sc : Array Value) (zs : List Int) (W : World) : Prop :=
  ∃ st qn qt ln lt q' l', PrintR s bs { s with st := st, qn := qn, qt := qt, ln := ln, lt := lt } zs 0 ∧ sc = sesC { s with st := st, qn := qn, qt := qt, ln := ln, lt := lt } (.slice ua s.un uc) (.slice ha s.kh.length hc) (.slice pa s.pn pc) q' l' (.slice da s.dn dc) ∧ Own1 W base 9 q' qn (fun j => .string (qt j)) ∧ Own1 W base 9 l' ln (fun j => .string (lt j))
    ∧ (∀ g, q'.ownBlock = some g → (Value.slice qa s.qn qc).ownBlock = some g ∨ H ≤ g) ∧ (∀ g, l'.ownBlock = some g → (Value.slice la s.ln lc).ownBlock = some g ∨ H ≤ g) ∧ Apart q' l'
set_option linter.unusedSimpArgs false in
set_option maxRecDepth 10000 in
set_option maxHeartbeats 8000000 in
/-- The work of printing. -/
theorem print1_any (P lb bb : Nat) (s : SS) (bs : List Int) (ba : Option Addr) (bc : Nat) (ua ha pa qa la da : Option Addr) (uc hc pc qc lc dc : Nat) (n : Nat) (R : Int) (C : Int) (B ob qb nb base H : Nat) (bva : Option Addr) (bvc : Nat) (W : World) (hn : n = s.blk.n) (hR : R = (s.blk.R : Int)) (hC : C = s.blk.C) (hby : Bytes bs)
    (hbx : W.heap[lb]? = some (.cells #[.pointer (some ⟨P, 0, none⟩)] 66 (0, 0))) (hbb : W.heap[bb]? = some (.cells #[.slice ba bs.length bc] 25 (0, 0))) (hin : IntsAt W .u8 (.slice ba bs.length bc) bs) (hne : lb ≠ P ∧ lb ≠ ob ∧ lb < B ∧ P ≠ ob ∧ P < B ∧ P ≠ qb ∧ P ≠ nb ∧ P ≠ 4 ∧ base ≤ B ∧ H ≤ W.heap.size)
    (hXX : ∀ g, (fun g => (Value.slice la s.ln lc).ownBlock = some g ∨ (Value.slice qa s.qn qc).ownBlock = some g) g → g ≠ P ∧ g ≠ ob ∧ g ≠ qb ∧ g ≠ nb ∧ g ≠ 4 ∧ g ≠ lb ∧ g < B)
    (hO : OwnSes W base s (.slice ua s.un uc) (.slice ha s.kh.length hc) (.slice pa s.pn pc) (.slice qa s.qn qc) (.slice la s.ln lc) (.slice da s.dn dc)) (hz : s.Sz) (hok : SesP s) (hT : ∀ W', Fr (fun q => q = P ∨ (fun g => (Value.slice la s.ln lc).ownBlock = some g ∨ (Value.slice qa s.qn qc).ownBlock = some g) q ∨ WS B ob q) W W' → Tabs3 W')
    (hP : W.heap[P]? = some (.cells (lvC (sesC s (.slice ua s.un uc) (.slice ha s.kh.length hc) (.slice pa s.pn pc) (.slice qa s.qn qc) (.slice la s.ln lc) (.slice da s.dn dc)) (lvW ob qb nb (.slice bva n bvc) R C)) 85 (0, 0))) (hW : WrS W B ob qb nb []) (hb : Own1 W B 9 (.slice bva n bvc) n (fun i => .string (s.blk.tx i))) :
    Calls Tryz.prog 82 #[.pointer (some ⟨bb, 0, none⟩), .pointer (some ⟨lb, 0, none⟩)] W fun e w' => WorkX (fun g => (Value.slice la s.ln lc).ownBlock = some g ∨ (Value.slice qa s.qn qc).ownBlock = some g) P B ob qb nb (.slice bva n bvc) R C (PrnOk s bs base H ua ha pa qa la da uc hc pc qc lc dc) (fun c => PrintR s bs s [] c) W e w' := by
  obtain ⟨ic, hic, hc0, hc1, hc2⟩ := info_parts infoStrs
  have k0 : W.cell? ⟨lb, 0, none⟩ = some (.pointer (some ⟨P, 0, none⟩)) := cells_of hbx 0 _ rfl
  have kb : W.cell? ⟨bb, 0, none⟩ = some (.slice ba bs.length bc) := cells_of hbb 0 _ rfl
  have HOK := hide hok
  obtain ⟨M, hM⟩ : ∃ M, bs.length = M := ⟨_, rfl⟩
  by_cases hlong : 5000 < bs.length
  · have HL := hide hlong
    have HPO := hide hP
    rw [hM] at kb
    have b1 : ¬ ((M : Int) ≤ 5000) := by omega
    clear hP hW hb hbx hbb hne hXX hO hT hn hR hC hin hM hlong k0
    go_enter Tryz.func82, Tryz.ntmps82
    go_wp2_with fail
    refine (require_no 2 W).mono ?_
    rintro e w6 ⟨rfl, rfl⟩
    refine ⟨rfl, .inr ⟨2, _, rfl, rfl, unhide HPO, prn_long (unhide HOK) (unhide HL), Fr.refl _ _⟩⟩
  have hle : bs.length ≤ 5000 := by omega
  have HLE := hide hle
  have b1 : (M : Int) ≤ 5000 := by omega
  have hsm := linesB_bd bs
  have hlat := hide (linesB_at bs hle)
  have hrb := rowsB_bd s bs hle
  have hol := hide (outR_len (s.rowsB bs))
  obtain ⟨c2, _⟩ : 2 ≤ s.cols ∧ True := ⟨by have h := sizeB_open hok.2.1; obtain ⟨cn, rn, ec, er, n2, _⟩ := h; omega, trivial⟩
  have hsq := (queue_small hz hok).1
  have hzl := hz.ln
  have hcL := hide (settledLines_any (.slice ba bs.length bc) bs hby W hin (by omega) (hT W (Fr.refl _ _)).1)
  have hobk := s.blk_ok hok.2.1
  have hcE := hide (fun W' (bs : List Int) (hl : bs.length ≤ 1073741824) (hS : WrS W' B ob qb nb bs) (hr : Row1At W' (.slice bva n bvc) n (fun i => .string (s.blk.tx i))) => paintM_any (.slice bva n bvc) R C n s.blk.tx (by rw [hn, hR, hC]; exact hobk) B ob qb nb bs W' hS hr (by rw [hn]; have := (s.blk_lt hok.2.1).2; omega) (by rw [hn]; have := s.blk_slen_big hz.pr hz.la hz.lb hok.2.1; omega) hl)
  have hcR := hide (fun W' (hS : WrS W' B ob qb nb []) (hr : Row1At W' (.slice bva n bvc) n (fun i => .string (s.blk.tx i))) => eraseM_any (.slice bva n bvc) R C n s.blk.tx (by rw [hn, hR, hC]; exact hobk) B ob qb nb [] W' hS hr (by rw [hn]; have := (s.blk_lt hok.2.1).2; omega) (by simp))
  have hpt : Hid (paintL n s.blk.tx R C = s.paint) := hide (by rw [hn, hR, hC]; rfl)
  have her : Hid (eraseL n R C = eraseL s.blk.n (s.blk.R : Int) s.blk.C ∧ (eraseL n R C).length ≤ 15) := hide (by rw [hn, hR, hC]; exact ⟨rfl, eraseL_len _ _ _ (by have := (s.blk_lt hok.2.1).2; omega)⟩)
  unfold wrV blV at hcE hcR
  have HPO := hide hP
  have HW := hide hW
  have HB := hide hb
  have HBX := hide hbx
  have HNE := hide hne
  have HXX := hide hXX
  have HO := hide hO
  have HT := hide hT
  rw [hM] at kb hcL
  clear hP hW hb hbx hbb hne hXX hO hT hn hR hC hobk hin hM hlong hle hok hz
  go_enter Tryz.func82, Tryz.ntmps82
  go_wp2_with fail
  refine (require_yes 2 W).mono ?_
  rintro e w6 ⟨rfl, rfl⟩
  go_wp2_with fail
  refine (unhide hcL).mono ?_
  rintro e W1 ⟨v1, rfl, o1, F1⟩
  obtain ⟨a1, c1, rfl⟩ := o1.slice
  have HL1 := hide o1
  have G1 := hide F1
  have z1 := F1.size
  have HP1 := hide (F1.kept (unhide HPO))
  have HBX1 := hide (F1.kept (unhide HBX))
  have HW1 := hide ((unhide HW).on F1)
  have HO1 := hide ((unhide HO).ext F1)
  have HB1 := hide ((unhide HB).ext F1)
  clear o1 F1 k0 kb hcL
  have j0 : W1.cell? ⟨lb, 0, none⟩ = some (.pointer (some ⟨P, 0, none⟩)) := cells_of (unhide HBX1) 0 _ rfl
  have j13 : W1.cell? ⟨P, 13, none⟩ = some (.bool s.st) := by rw [cell_of_row W1 P 13 _ _ _ (unhide HP1)]; rfl
  have j14 : W1.cell? ⟨P, 14, none⟩ = some (.slice qa s.qn qc) := by rw [cell_of_row W1 P 14 _ _ _ (unhide HP1)]; rfl
  have FW1 : Hid (Fr (fun q => q = P ∨ (fun g => (Value.slice la s.ln lc).ownBlock = some g ∨ (Value.slice qa s.qn qc).ownBlock = some g) q ∨ WS B ob q) w6 W1) := hide (Fr.of_ext (unhide G1))
  obtain ⟨st, hst⟩ : ∃ st, s.st = st := ⟨_, rfl⟩
  rw [hst] at j13
  have HST := hide hst
  clear hst
  obtain ⟨N, hN⟩ : ∃ N, (linesB bs).length = N := ⟨_, rfl⟩
  have HN := hide hN
  have hnb : N ≤ 5001 := by have := unhide HLE; rw [← hN]; omega
  cases st with
  | true =>
    by_cases hfull : 20 < s.qn + N
    · have b2 : ¬ ((s.qn : Int) + (N : Int) ≤ 20) := by omega
      have b3 : decide ((s.qn : Int) + (N : Int) ≤ 20) = false := by simp only [decide_eq_false_iff_not]; exact b2
      have bw : IntKind.i64.wrap ((s.qn : Int) + (N : Int)) = (s.qn : Int) + (N : Int) := by rw [IntKind.wrap_i64]; omega
      have HFU := hide hfull
      rw [hN]
      clear hN hfull
      go_wp2_with fail
      refine (require_no 3 W1).mono ?_
      rintro e w7 ⟨rfl, rfl⟩
      refine ⟨rfl, .inr ⟨3, _, rfl, rfl, unhide HP1, prn_full (unhide HOK) (unhide HLE) (unhide HST) (by rw [unhide HN]; exact unhide HFU), unhide FW1⟩⟩
    · have b2 : (s.qn : Int) + (N : Int) ≤ 20 := by omega
      have bw : IntKind.i64.wrap ((s.qn : Int) + (N : Int)) = (s.qn : Int) + (N : Int) := by rw [IntKind.wrap_i64]; omega
      have HFU : Hid (s.qn + N ≤ 20) := hide (by omega)
      rw [hN]
      clear hN hfull
      go_wp2_with fail
      refine (require_yes 3 W1).mono ?_
      rintro e w7 ⟨rfl, rfl⟩
      go_upto_region 4 with fail
      clear j0 j13
      refine wp_region_held_drew (S := fun W => W.heap[lb]? = some (.cells #[.pointer (some ⟨P, 0, none⟩)] 66 (0, 0))) (by kernel_rfl) (unhide HBX1) (fun hHeld => ?_)
      refine wpAnyH_take (i := 0) (v := .pointer (some ⟨P, 0, none⟩)) rfl (by kernel_rfl) (by kernel_rfl) (by kernel_rfl) (fun _ _ _ h => h) (Or.inl ⟨by rfl, ?_⟩) (by assumption) ?_
      · intro w' hSw; have k9 := cells_of hSw 0 _ rfl; go_simp <;> with_reducible rfl
      simp only [Act.put, List.getElem_toArray, List.getElem_cons_succ, List.getElem_cons_zero, List.setIfInBounds_toArray, List.set_cons_zero, List.set_cons_succ]
      refine wpAnyH_take (i := 1) (v := .pointer (some ⟨P, 0, none⟩)) rfl (by kernel_rfl) (by kernel_rfl) (by kernel_rfl) (fun _ _ _ h => h) (Or.inl ⟨by rfl, ?_⟩) (by assumption) ?_
      · intro w' hSw; have k9 := cells_of hSw 0 _ rfl; go_simp <;> with_reducible rfl
      simp only [Act.put, List.getElem_toArray, List.getElem_cons_succ, List.getElem_cons_zero, List.setIfInBounds_toArray, List.set_cons_zero, List.set_cons_succ]
      refine wpAnyH_take (i := 2) (v := .pointer (some ⟨P, 0, none⟩)) rfl (by kernel_rfl) (by kernel_rfl) (by kernel_rfl) (fun _ _ _ h => h) (Or.inl ⟨by rfl, ?_⟩) (by assumption) ?_
      · intro w' hSw; go_simp <;> with_reducible rfl
      simp only [Act.put, List.getElem_toArray, List.getElem_cons_succ, List.getElem_cons_zero, List.setIfInBounds_toArray, List.set_cons_zero, List.set_cons_succ]
      refine wpAnyH_take (i := 3) (v := .pointer (some ⟨P, 0, none⟩)) rfl (by kernel_rfl) (by kernel_rfl) (by kernel_rfl) (fun _ _ _ h => h) (Or.inl ⟨by rfl, ?_⟩) (by assumption) ?_
      · intro w' hSw; go_simp <;> with_reducible rfl
      simp only [Act.put, List.getElem_toArray, List.getElem_cons_succ, List.getElem_cons_zero, List.setIfInBounds_toArray, List.set_cons_zero, List.set_cons_succ]
      refine wpAnyH_take (i := 4) (v := .pointer (some ⟨P, 14, none⟩)) rfl (by kernel_rfl) (by kernel_rfl) (by kernel_rfl) (fun _ _ _ h => h) (Or.inl ⟨by rfl, ?_⟩) (by assumption) ?_
      · intro w' hSw; go_simp <;> with_reducible rfl
      simp only [Act.put, List.getElem_toArray, List.getElem_cons_succ, List.getElem_cons_zero, List.setIfInBounds_toArray, List.set_cons_zero, List.set_cons_succ]
      refine wpAnyH_take (i := 6) (v := .slice a1 N c1) rfl (by kernel_rfl) (by kernel_rfl) (by kernel_rfl) (fun _ _ _ h => h) (Or.inl ⟨by rfl, ?_⟩) (by assumption) ?_
      · intro w' hSw; go_simp <;> with_reducible rfl
      simp only [Act.put, List.getElem_toArray, List.getElem_cons_succ, List.getElem_cons_zero, List.setIfInBounds_toArray, List.set_cons_zero, List.set_cons_succ]
      refine wpAnyH_ready (rs := [5]) (by kernel_rfl) (by simp) ?_
      refine AllReadyH.cons rfl (fun K hK => ?_) AllReadyH.nil
      go_simp
      refine hK.out _ _ ((Ext.refl w7).drew.kept (unhide HBX1)) (fun hHeld => ?_)
      clear hK K
      refine wpAnyH_ready (rs := [7]) (by kernel_rfl) (by simp) ?_
      refine AllReadyH.cons rfl (fun K hK => ?_) AllReadyH.nil
      refine wp_app_at _ _ 28 rfl base 9 ic (.string { data := #[] }) 1 16 Tryz.underlying28 hic hc0 hc1 hc2 rfl (by decide) (.slice qa s.qn qc) s.qn (strL s.qt s.qn) rfl (own1_strL ((unhide HO1).qu.ext (Ext.refl w7).drew)) (.slice a1 N c1) N ((linesB bs).map Value.string) rfl (by have h9 := Src.strs (((unhide HL1).ext (Ext.refl w7).drew).reads); rw [strL_atR, unhide HN] at h9; exact h9) (by unfold maxLen; omega) (by omega) (by have h9 := (unhide HW).le; have h8 := (unhide HNE).2.2.2.2.2.2.2.2.1; show base ≤ w7.heap.size; omega) ?_
      intro v8 w8 o8 G8 hat
      rw [queue_strL] at o8
      have e9 : (s.queue (linesB bs)).qn = s.qn + N := by show s.qn + (linesB bs).length = _; rw [unhide HN]
      have o8' : w8.ownsRow base 9 1 v8 (s.queue (linesB bs)).qn (strL (s.queue (linesB bs)).qt (s.queue (linesB bs)).qn) := by
        rw [e9] at o8 ⊢
        exact o8
      clear e9
      obtain ⟨a8, c8, rfl⟩ := owns_slice o8'
      have X8 := Fr.grown (S := fun q => (Value.slice qa s.qn qc).ownBlock = some q) (w := w7) (Fr.of_ext (Ext.refl w7).drew) G8 (fun q hq => hq)
      have hb8 := X8.kept (unhide HP1) (fun hq => ((unhide HXX) P (.inr hq)).1 rfl)
      have y8 : w8.cell? ⟨P, 14, none⟩ = some (.slice qa s.qn qc) := by rw [cell_of_row w8 P 14 _ _ _ hb8]; rfl
      have f8 : w8.frozen? ⟨P, 14, none⟩ = false := Lib.frozen_of_heap hb8 14
      have hlb8 := X8.kept (unhide HBX1) (fun hq => ((unhide HXX) lb (.inr hq)).2.2.2.2.2.1 rfl)
      have HW8 := hide ((unhide HW1).log X8 (fun g hg => ⟨((unhide HXX) g (.inr hg)).2.1, ((unhide HXX) g (.inr hg)).2.2.1, ((unhide HXX) g (.inr hg)).2.2.2.1, ((unhide HXX) g (.inr hg)).2.2.2.2.1, fun c e9 => by obtain ⟨c9, k9⟩ := owns_kind (own1_strL (unhide HO1).qu) hg; rw [e9] at k9; injection k9 with k9; injection k9 with _ k9; exact absurd k9 (by decide)⟩))
      have HAT : Hid (∀ g, (Value.slice a8 (s.queue (linesB bs)).qn c8).ownBlock = some g → (Value.slice qa s.qn qc).ownBlock = some g ∨ g = w7.heap.size) := hide hat
      have HO8 := hide o8'
      have HB8 := hide hb8
      have HX8 := hide X8
      have HLB8 := hide hlb8
      refine hK.out _ _ hlb8 (fun hHeld => ?_)
      clear hK K X8 o8 o8' G8 hb8 hat hlb8
      refine wpAnyH_take (i := 8) (v := .pointer (some ⟨P, 0, none⟩)) rfl (by kernel_rfl) (by kernel_rfl) (by kernel_rfl) (fun _ _ _ h => h) (Or.inl ⟨by rfl, ?_⟩) (by assumption) ?_
      · intro w' hSw; go_simp <;> with_reducible rfl
      simp only [Act.put, List.getElem_toArray, List.getElem_cons_succ, List.getElem_cons_zero, List.setIfInBounds_toArray, List.set_cons_zero, List.set_cons_succ]
      refine wpAnyH_take (i := 9) (v := .pointer (some ⟨P, 0, none⟩)) rfl (by kernel_rfl) (by kernel_rfl) (by kernel_rfl) (fun _ _ _ h => h) (Or.inl ⟨by rfl, ?_⟩) (by assumption) ?_
      · intro w' hSw; go_simp <;> with_reducible rfl
      simp only [Act.put, List.getElem_toArray, List.getElem_cons_succ, List.getElem_cons_zero, List.setIfInBounds_toArray, List.set_cons_zero, List.set_cons_succ]
      refine wpAnyH_take (i := 10) (v := .pointer (some ⟨P, 14, none⟩)) rfl (by kernel_rfl) (by kernel_rfl) (by kernel_rfl) (fun _ _ _ h => h) (Or.inl ⟨by rfl, ?_⟩) (by assumption) ?_
      · intro w' hSw; go_simp <;> with_reducible rfl
      simp only [Act.put, List.getElem_toArray, List.getElem_cons_succ, List.getElem_cons_zero, List.setIfInBounds_toArray, List.set_cons_zero, List.set_cons_succ]
      refine wpAnyH_ready (rs := [11]) (by kernel_rfl) (by simp) ?_
      refine AllReadyH.cons rfl (fun K hK => ?_) AllReadyH.nil
      go_simp
      have hV2 : Fr (fun q => q = P) w8 (w8.setCell ⟨P, 14, none⟩ (.slice a8 (s.queue (linesB bs)).qn c8)) := Fr.setCell (S := fun q => q = P) (Fr.refl _ _) (a := ⟨P, 14, none⟩) rfl _
      have hPV : (w8.setCell ⟨P, 14, none⟩ (.slice a8 (s.queue (linesB bs)).qn c8)).heap[P]? = some (.cells (lvC (sesC s (.slice ua s.un uc) (.slice ha s.kh.length hc) (.slice pa s.pn pc) (.slice a8 (s.queue (linesB bs)).qn c8) (.slice la s.ln lc) (.slice da s.dn dc)) (lvW ob qb nb (.slice bva n bvc) R C)) 85 (0, 0)) := set_blk2 (unhide HB8) rfl
      generalize w8.setCell ⟨P, 14, none⟩ (.slice a8 (s.queue (linesB bs)).qn c8) = V at hV2 hPV ⊢
      have FV := hide hV2
      have HPV := hide hPV
      refine hK.out _ _ (hV2.kept (unhide HLB8) (unhide HNE).1) (fun hHeld => ?_)
      clear hK K hV2 hPV
      refine wpAnyH_done (by kernel_rfl) ?_ _
      go_wp2
      have hqP : ∀ g, (Value.slice a8 (s.queue (linesB bs)).qn c8).ownBlock = some g → g ≠ P := fun g hg => by
        rcases (unhide HAT) g hg with h9 | h9
        · exact ((unhide HXX) g (.inr h9)).1
        · have h1 := (unhide HW).le; have h2 := (unhide HNE).2.2.2.2.1; omega
      have hlq : ∀ g, (Value.slice la s.ln lc).ownBlock = some g → (Value.slice qa s.qn qc).ownBlock ≠ some g := fun g hg e => (pw6 (unhide HO1).ap).2.2.2.1.1 g e hg
      refine bodyPost_end (v := .tuple #[]) (by simp [results, Tryz.results82, go_sem]) rfl (.inl ⟨_, [], rfl, rfl, unhide HPV, (unhide HW8).frP (unhide FV) (fun g hg => by subst hg; have h := unhide HNE; exact ⟨h.2.2.2.1, h.2.2.2.2.2.1, h.2.2.2.2.2.2.1, h.2.2.2.2.2.2.2.1, h.2.2.2.2.1⟩), ⟨true, (s.queue (linesB bs)).qn, (s.queue (linesB bs)).qt, s.ln, s.lt, _, .slice la s.ln lc, ?_, ?_, (own_strL (unhide HO8)).fr (unhide FV) (fun g hg e => hqP g hg e), ((unhide HO1).lo.fr (unhide HX8) (fun g hg e => hlq g hg e)).fr (unhide FV) (fun g hg e => ((unhide HXX) g (.inl hg)).1 e), fun g hg => ?_, fun g hg => .inl hg, fun g h1 h2 => ?_⟩, ((unhide FW1).tr ((unhide HX8).mono (fun q hq => .inr (.inl (.inr hq))))).tr ((unhide FV).mono (fun q hq => .inl hq))⟩)
      · have h9 := prn_queue (unhide HOK) (unhide HLE) (unhide HST) (by rw [unhide HN]; exact unhide HFU)
        have e9 : s.queue (linesB bs) = { s with st := true, qn := (s.queue (linesB bs)).qn, qt := (s.queue (linesB bs)).qt, ln := s.ln, lt := s.lt } := by rw [← unhide HST]; rfl
        rw [← e9]
        exact h9
      · rw [← unhide HST]; rfl
      · rcases (unhide HAT) g hg with h9 | h9
        · exact .inl h9
        · right; have h1 := (unhide HNE).2.2.2.2.2.2.2.2.2; omega
      · rcases (unhide HAT) g h1 with h9 | h9
        · exact hlq g h2 h9
        · have h3 := ((unhide HXX) g (.inl h2)).2.2.2.2.2.2; have h4 := (unhide HW).le; omega
  | false =>
    by_cases hzero : N = 0
    · have HZ9 : Hid ((linesB bs).length = 0) := hide (by rw [hN]; exact hzero)
      have b2 : ¬ ((0 : Int) < (N : Int)) := by omega
      rw [hN]
      clear hN
      subst hzero
      go_wp2
      refine bodyPost_end (v := .tuple #[]) (by simp [results, Tryz.results82, go_sem]) rfl (.inl ⟨_, [], rfl, rfl, unhide HP1, unhide HW1, ⟨s.st, s.qn, s.qt, s.ln, s.lt, .slice qa s.qn qc, .slice la s.ln lc, prn_none (unhide HOK) (unhide HLE) (unhide HST) (unhide HZ9), rfl, (unhide HO1).qu, (unhide HO1).lo, fun g hg => .inl hg, fun g hg => .inl hg, (pw6 (unhide HO1).ap).2.2.2.1.1⟩, unhide FW1⟩)
    · have b2 : (0 : Int) < (N : Int) := by omega
      have HZ9 : Hid ((linesB bs).length ≠ 0) := hide (by rw [hN]; exact hzero)
      have HNB : Hid (N ≤ 5001) := hide (by rw [← hN]; omega)
      rw [hN]
      clear hN hzero
      go_upto_region 6 with fail
      clear j0 j13 j14
      refine wp_region_held_drew (S := fun W => W.heap[lb]? = some (.cells #[.pointer (some ⟨P, 0, none⟩)] 66 (0, 0)) ∧ W.heap[P]? = some (.cells (lvC (sesC s (.slice ua s.un uc) (.slice ha s.kh.length hc) (.slice pa s.pn pc) (.slice qa s.qn qc) (.slice la s.ln lc) (.slice da s.dn dc)) (lvW ob qb nb (.slice bva n bvc) R C)) 85 (0, 0))) (by kernel_rfl) ⟨unhide HBX1, unhide HP1⟩ (fun hHeld => ?_)
      refine wpAnyH_take (i := 0) (v := .pointer (some ⟨P, 0, none⟩)) rfl (by kernel_rfl) (by kernel_rfl) (by kernel_rfl) (fun _ _ _ h => h) (Or.inl ⟨by rfl, ?_⟩) (by assumption) ?_
      · intro w' hSw; have k9 := cells_of hSw.1 0 _ rfl; go_simp <;> with_reducible rfl
      simp only [Act.put, List.getElem_toArray, List.getElem_cons_succ, List.getElem_cons_zero, List.setIfInBounds_toArray, List.set_cons_zero, List.set_cons_succ]
      refine wpAnyH_take (i := 1) (v := .pointer (some ⟨P, 0, none⟩)) rfl (by kernel_rfl) (by kernel_rfl) (by kernel_rfl) (fun _ _ _ h => h) (Or.inl ⟨by rfl, ?_⟩) (by assumption) ?_
      · intro w' hSw; go_simp <;> with_reducible rfl
      simp only [Act.put, List.getElem_toArray, List.getElem_cons_succ, List.getElem_cons_zero, List.setIfInBounds_toArray, List.set_cons_zero, List.set_cons_succ]
      refine wpAnyH_take (i := 2) (v := .pointer (some ⟨P, 21, none⟩)) rfl (by kernel_rfl) (by kernel_rfl) (by kernel_rfl) (fun _ _ _ h => h) (Or.inl ⟨by rfl, ?_⟩) (by assumption) ?_
      · intro w' hSw; go_simp <;> with_reducible rfl
      simp only [Act.put, List.getElem_toArray, List.getElem_cons_succ, List.getElem_cons_zero, List.setIfInBounds_toArray, List.set_cons_zero, List.set_cons_succ]
      refine wpAnyH_take (i := 3) (v := .agg #[.func (.func 129) #[] #[.pointer (some ⟨ob, 0, none⟩)], .func (.func 130) #[] #[.pointer (some ⟨nb, 0, none⟩)], .func (.func 131) #[] #[.pointer (some ⟨nb, 0, none⟩)], .func (.func 132) #[] #[.pointer (some ⟨qb, 0, none⟩)], .func (.func 133) #[] #[.pointer (some ⟨ob, 0, none⟩)]]) rfl (by kernel_rfl) (by kernel_rfl) (by kernel_rfl) (fun _ _ _ h => h) (Or.inl ⟨by rfl, ?_⟩) (by assumption) ?_
      · intro w' hSw; exact yields_load_part 83 _ rfl P 21 rfl _ _ #[.func (.func 129) #[] #[.pointer (some ⟨ob, 0, none⟩)], .func (.func 130) #[] #[.pointer (some ⟨nb, 0, none⟩)], .func (.func 131) #[] #[.pointer (some ⟨nb, 0, none⟩)], .func (.func 132) #[] #[.pointer (some ⟨qb, 0, none⟩)], .func (.func 133) #[] #[.pointer (some ⟨ob, 0, none⟩)]] _ _ hSw.2 (fun j v hj => by have h9 := lvC_at (sc := (sesC s (.slice ua s.un uc) (.slice ha s.kh.length hc) (.slice pa s.pn pc) (.slice qa s.qn qc) (.slice la s.ln lc) (.slice da s.dn dc))) (r := (lvW ob qb nb (.slice bva n bvc) R C)) rfl (4 + j); rw [show 17 + (4 + j) = 21 + j by omega] at h9; rw [h9]; match j, hj with | 0, hj => exact hj | 1, hj => exact hj | 2, hj => exact hj | 3, hj => exact hj | 4, hj => exact hj | j + 5, hj => simp at hj) Tryz.underlying83 rfl infoWrs
      simp only [Act.put, List.getElem_toArray, List.getElem_cons_succ, List.getElem_cons_zero, List.setIfInBounds_toArray, List.set_cons_zero, List.set_cons_succ]
      refine wpAnyH_take (i := 4) (v := .pointer (some ⟨P, 0, none⟩)) rfl (by kernel_rfl) (by kernel_rfl) (by kernel_rfl) (fun _ _ _ h => h) (Or.inl ⟨by rfl, ?_⟩) (by assumption) ?_
      · intro w' hSw; have k9 := cells_of hSw.1 0 _ rfl; go_simp <;> with_reducible rfl
      simp only [Act.put, List.getElem_toArray, List.getElem_cons_succ, List.getElem_cons_zero, List.setIfInBounds_toArray, List.set_cons_zero, List.set_cons_succ]
      refine wpAnyH_take (i := 5) (v := .pointer (some ⟨P, 0, none⟩)) rfl (by kernel_rfl) (by kernel_rfl) (by kernel_rfl) (fun _ _ _ h => h) (Or.inl ⟨by rfl, ?_⟩) (by assumption) ?_
      · intro w' hSw; go_simp <;> with_reducible rfl
      simp only [Act.put, List.getElem_toArray, List.getElem_cons_succ, List.getElem_cons_zero, List.setIfInBounds_toArray, List.set_cons_zero, List.set_cons_succ]
      refine wpAnyH_take (i := 6) (v := .pointer (some ⟨P, 26, none⟩)) rfl (by kernel_rfl) (by kernel_rfl) (by kernel_rfl) (fun _ _ _ h => h) (Or.inl ⟨by rfl, ?_⟩) (by assumption) ?_
      · intro w' hSw; go_simp <;> with_reducible rfl
      simp only [Act.put, List.getElem_toArray, List.getElem_cons_succ, List.getElem_cons_zero, List.setIfInBounds_toArray, List.set_cons_zero, List.set_cons_succ]
      refine wpAnyH_take (i := 7) (v := .agg #[.slice bva n bvc, .int .i64 R, .int .i64 C]) rfl (by kernel_rfl) (by kernel_rfl) (by kernel_rfl) (fun _ _ _ h => h) (Or.inl ⟨by rfl, ?_⟩) (by assumption) ?_
      · intro w' hSw; exact yields_load_part 61 _ rfl P 26 rfl _ _ #[.slice bva n bvc, .int .i64 R, .int .i64 C] _ _ hSw.2 (fun j v hj => by have h9 := lvC_at (sc := (sesC s (.slice ua s.un uc) (.slice ha s.kh.length hc) (.slice pa s.pn pc) (.slice qa s.qn qc) (.slice la s.ln lc) (.slice da s.dn dc))) (r := (lvW ob qb nb (.slice bva n bvc) R C)) rfl (9 + j); rw [show 17 + (9 + j) = 26 + j by omega] at h9; rw [h9]; match j, hj with | 0, hj => exact hj | 1, hj => exact hj | 2, hj => exact hj | j + 3, hj => simp at hj) Tryz.underlying61 rfl infoBlkF
      simp only [Act.put, List.getElem_toArray, List.getElem_cons_succ, List.getElem_cons_zero, List.setIfInBounds_toArray, List.set_cons_zero, List.set_cons_succ]
      refine wpAnyH_ready (rs := [8]) (by kernel_rfl) (by simp) ?_
      refine AllReadyH.cons rfl (fun K hK => ?_) AllReadyH.nil
      go_simp
      go_wp2_with (go_at_call 84; refine ((unhide hcR) _ ((unhide HW1).on (Ext.refl W1).drew) ((unhide HB1).ext (Ext.refl W1).drew).reads).mono ?_; rintro e Y1 ⟨rfl, hs9, hf9⟩; have HWX := hide hs9; have HFX := hide ((WF.of_ext (Ext.refl W1).drew).tr hf9); clear hs9 hf9)
      refine hK.out _ _ ⟨(unhide HFX).keep' (unhide HBX1) (fun e => (unhide HNE).2.1 e.symm) (by decide), (unhide HFX).keep' (unhide HP1) (fun e => (unhide HNE).2.2.2.1 e.symm) (by decide)⟩ (fun hHeld => ?_)
      clear hK K
      refine wpAnyH_done (by kernel_rfl) ?_ _
      clear hHeld
      have HPY := hide ((unhide HFX).keep' (unhide HP1) (fun e => (unhide HNE).2.2.2.1 e.symm) (by decide))
      have HBXY := hide ((unhide HFX).keep' (unhide HBX1) (fun e => (unhide HNE).2.1 e.symm) (by decide))
      have HLY := hide (owns_wf (own1_strL (unhide HO1).lo) (unhide HFX) (by decide) (fun g hg => ((unhide HXX) g (.inl hg)).2.1))
      have HQY := hide (own1_wf9 (unhide HO1).qu (unhide HFX) (fun g hg => ((unhide HXX) g (.inr hg)).2.1))
      have HSY := hide (own1_wf9 (unhide HL1) (unhide HFX) (fun g hg => by have h1 := ((unhide HL1).lt g hg).1; have h2 := (unhide HW).le; have h3 := (unhide HW).ltb; omega))
      have HBY := hide (own1_wf9 (unhide HB1) (unhide HFX) (fun g hg => by have h1 := ((unhide HB1).lt g hg).1; have h3 := (unhide HW).ltb; omega))
      have FYY : Hid (Fr (fun q => q = P ∨ (fun g => (Value.slice la s.ln lc).ownBlock = some g ∨ (Value.slice qa s.qn qc).ownBlock = some g) q ∨ WS B ob q) w6 Y1) := hide ((unhide FW1).tr ((unhide HFX).1.mono (fun q hq => .inr (.inr hq))))
      have zY := (unhide HFX).1.size
      have y0 : Y1.cell? ⟨lb, 0, none⟩ = some (.pointer (some ⟨P, 0, none⟩)) := cells_of (unhide HBXY) 0 _ rfl
      have hWX0 : WrS Y1 B ob qb nb (eraseL n R C) := by have h9 := unhide HWX; rw [List.nil_append] at h9; exact h9
      have hcP := hide (putLines_any (fun g => (Value.slice la s.ln lc).ownBlock = some g) P B ob qb nb base s ua ha pa qa la da uc hc pc qc lc dc (.slice bva n bvc) R C (eraseL n R C) (.slice a1 N c1) (linesB bs).length (atR (linesB bs)) Y1 ⟨unhide HPY, by rw [show logL s [] = strL s.lt s.ln by simp [logL]]; exact unhide HLY, fun g hg => .inl hg, hWX0, LF.refl _ _ _ _ _⟩ (unhide HNE).2.2.2.2.2.2.2.2.1 (fun g hg => ⟨((unhide HXX) g (.inl hg)).1, ((unhide HXX) g (.inl hg)).2.1, ((unhide HXX) g (.inl hg)).2.2.1, ((unhide HXX) g (.inl hg)).2.2.2.1, ((unhide HXX) g (.inl hg)).2.2.2.2.1⟩) ⟨(unhide HNE).2.2.2.1, (unhide HNE).2.2.2.2.2.1, (unhide HNE).2.2.2.2.2.2.1, (unhide HNE).2.2.2.2.2.2.2.1, (unhide HNE).2.2.2.2.1⟩
        (fun W' f => (by have h9 := (own1_lf (unhide HSY) f (fun g hg => by have h1 := ((unhide HL1).lt g hg).1; have h2 := (unhide HW).le; have h3 := (unhide HW).ltb; have h4 := (unhide HNE).2.2.2.2.1; exact ⟨by omega, by omega, fun e => by have h5 := ((unhide HXX) g (.inl e)).2.2.2.2.2.2; omega⟩)).reads; rw [unhide HN] at h9 ⊢; exact h9))
        (fun W' f => ((unhide HT) W' ((unhide FYY).tr (f.1.mono (fun q hq => by rcases hq with hq | hq | hq; exact .inl hq; exact .inr (.inl (.inl hq)); exact .inr (.inr hq))))).1) c2 (by have := unhide HLE; omega) (fun j hj => (unhide hlat) j hj) (by have := unhide HLE; rw [slen_lsz]; omega) hzl (by have := (unhide her).2; omega))
      go_wp2_with fail
      refine (unhide hcP).mono ?_
      rintro e X1 ⟨ka, kc, rfl, hS1⟩
      have HS1 := hide hS1
      clear hS1 y0 hcP
      have HBX9 := hide ((unhide HS1).fr.2 _ _ _ _ (unhide HBXY) (unhide HNE).1 (unhide HNE).2.1 (fun e9 => ((unhide HXX) lb (.inl e9)).2.2.2.2.2.1 rfl) (by decide))
      have HX1 : Hid (X1.heap[P]? = some (.cells (lvC (sesC s (.slice ua s.un uc) (.slice ha s.kh.length hc) (.slice pa s.pn pc) (.slice qa s.qn qc) (.slice ka (s.ln + (s.rowsB bs).length) kc) (.slice da s.dn dc)) (lvW ob qb nb (.slice bva n bvc) R C)) 85 (0, 0))) := hide (unhide HS1).box
      have HWV : Hid (WrS X1 B ob qb nb (eraseL n R C ++ outR (s.rowsB bs))) := hide (unhide HS1).wr
      have hnP : Hid (∀ g, (Value.slice ka (s.ln + (s.rowsB bs).length) kc).ownBlock = some g → g ≠ P ∧ g ≠ ob ∧ (Value.slice qa s.qn qc).ownBlock ≠ some g) := hide (fun g hg => by
        rcases (unhide HS1).blk g hg with h9 | h9
        · exact ⟨((unhide HXX) g (.inl h9)).1, ((unhide HXX) g (.inl h9)).2.1, fun e => (pw6 (unhide HO1).ap).2.2.2.1.1 g e h9⟩
        · have h1 := (unhide HW).le; have h2 := (unhide HW).ltb; have h3 := (unhide HNE).2.2.2.2.1; refine ⟨by omega, by omega, fun e => by have h5 := ((unhide HXX) g (.inr e)).2.2.2.2.2.2; omega⟩)
      have HLV : Hid (Own1 X1 base 9 (.slice ka (s.ln + (s.rowsB bs).length) kc) (s.keep (s.rowsB bs)).ln (fun i => .string ((s.keep (s.rowsB bs)).lt i))) := hide (by
        have h1 := (unhide HS1).own
        rw [logL_keep] at h1
        exact own_strL h1)
      have HQV := hide (own1_lf (unhide HQY) (unhide HS1).fr (fun g hg => ⟨((unhide HXX) g (.inr hg)).1, ((unhide HXX) g (.inr hg)).2.1, fun e => (pw6 (unhide HO1).ap).2.2.2.1.1 g hg e⟩))
      have HBV := hide (own1_lf (unhide HBY) (unhide HS1).fr (fun g hg => by have h1 := ((unhide HB).lt g hg).1; have h2 := (unhide HW).ltb; have h3 := (unhide HNE).2.2.2.2.1; exact ⟨by omega, by omega, fun e => by have h4 := ((unhide HXX) g (.inl e)).2.2.2.2.2.2; omega⟩))
      have HFV : Hid (Fr (fun q => q = P ∨ (fun g => (Value.slice la s.ln lc).ownBlock = some g ∨ (Value.slice qa s.qn qc).ownBlock = some g) q ∨ WS B ob q) w6 X1) := hide ((unhide FYY).tr ((unhide HS1).fr.1.mono (fun q hq => by rcases hq with hq | hq | hq; exact .inl hq; exact .inr (.inl (.inl hq)); exact .inr (.inr hq))))
      have HBK := hide (unhide HS1).blk
      clear HS1
      go_upto_region 8 with fail
      refine wp_region_held_drew (S := fun W => W.heap[lb]? = some (.cells #[.pointer (some ⟨P, 0, none⟩)] 66 (0, 0)) ∧ W.heap[P]? = some (.cells (lvC (sesC s (.slice ua s.un uc) (.slice ha s.kh.length hc) (.slice pa s.pn pc) (.slice qa s.qn qc) (.slice ka (s.ln + (s.rowsB bs).length) kc) (.slice da s.dn dc)) (lvW ob qb nb (.slice bva n bvc) R C)) 85 (0, 0))) (by kernel_rfl) ⟨unhide HBX9, unhide HX1⟩ (fun hHeld => ?_)
      refine wpAnyH_take (i := 0) (v := .pointer (some ⟨P, 0, none⟩)) rfl (by kernel_rfl) (by kernel_rfl) (by kernel_rfl) (fun _ _ _ h => h) (Or.inl ⟨by rfl, ?_⟩) (by assumption) ?_
      · intro w' hSw; have k9 := cells_of hSw.1 0 _ rfl; go_simp <;> with_reducible rfl
      simp only [Act.put, List.getElem_toArray, List.getElem_cons_succ, List.getElem_cons_zero, List.setIfInBounds_toArray, List.set_cons_zero, List.set_cons_succ]
      refine wpAnyH_take (i := 1) (v := .pointer (some ⟨P, 0, none⟩)) rfl (by kernel_rfl) (by kernel_rfl) (by kernel_rfl) (fun _ _ _ h => h) (Or.inl ⟨by rfl, ?_⟩) (by assumption) ?_
      · intro w' hSw; go_simp <;> with_reducible rfl
      simp only [Act.put, List.getElem_toArray, List.getElem_cons_succ, List.getElem_cons_zero, List.setIfInBounds_toArray, List.set_cons_zero, List.set_cons_succ]
      refine wpAnyH_take (i := 2) (v := .pointer (some ⟨P, 21, none⟩)) rfl (by kernel_rfl) (by kernel_rfl) (by kernel_rfl) (fun _ _ _ h => h) (Or.inl ⟨by rfl, ?_⟩) (by assumption) ?_
      · intro w' hSw; go_simp <;> with_reducible rfl
      simp only [Act.put, List.getElem_toArray, List.getElem_cons_succ, List.getElem_cons_zero, List.setIfInBounds_toArray, List.set_cons_zero, List.set_cons_succ]
      refine wpAnyH_take (i := 3) (v := .agg #[.func (.func 129) #[] #[.pointer (some ⟨ob, 0, none⟩)], .func (.func 130) #[] #[.pointer (some ⟨nb, 0, none⟩)], .func (.func 131) #[] #[.pointer (some ⟨nb, 0, none⟩)], .func (.func 132) #[] #[.pointer (some ⟨qb, 0, none⟩)], .func (.func 133) #[] #[.pointer (some ⟨ob, 0, none⟩)]]) rfl (by kernel_rfl) (by kernel_rfl) (by kernel_rfl) (fun _ _ _ h => h) (Or.inl ⟨by rfl, ?_⟩) (by assumption) ?_
      · intro w' hSw; exact yields_load_part 83 _ rfl P 21 rfl _ _ #[.func (.func 129) #[] #[.pointer (some ⟨ob, 0, none⟩)], .func (.func 130) #[] #[.pointer (some ⟨nb, 0, none⟩)], .func (.func 131) #[] #[.pointer (some ⟨nb, 0, none⟩)], .func (.func 132) #[] #[.pointer (some ⟨qb, 0, none⟩)], .func (.func 133) #[] #[.pointer (some ⟨ob, 0, none⟩)]] _ _ hSw.2 (fun j v hj => by have h9 := lvC_at (sc := (sesC s (.slice ua s.un uc) (.slice ha s.kh.length hc) (.slice pa s.pn pc) (.slice qa s.qn qc) (.slice ka (s.ln + (s.rowsB bs).length) kc) (.slice da s.dn dc))) (r := (lvW ob qb nb (.slice bva n bvc) R C)) rfl (4 + j); rw [show 17 + (4 + j) = 21 + j by omega] at h9; rw [h9]; match j, hj with | 0, hj => exact hj | 1, hj => exact hj | 2, hj => exact hj | 3, hj => exact hj | 4, hj => exact hj | j + 5, hj => simp at hj) Tryz.underlying83 rfl infoWrs
      simp only [Act.put, List.getElem_toArray, List.getElem_cons_succ, List.getElem_cons_zero, List.setIfInBounds_toArray, List.set_cons_zero, List.set_cons_succ]
      refine wpAnyH_take (i := 4) (v := .pointer (some ⟨P, 0, none⟩)) rfl (by kernel_rfl) (by kernel_rfl) (by kernel_rfl) (fun _ _ _ h => h) (Or.inl ⟨by rfl, ?_⟩) (by assumption) ?_
      · intro w' hSw; have k9 := cells_of hSw.1 0 _ rfl; go_simp <;> with_reducible rfl
      simp only [Act.put, List.getElem_toArray, List.getElem_cons_succ, List.getElem_cons_zero, List.setIfInBounds_toArray, List.set_cons_zero, List.set_cons_succ]
      refine wpAnyH_take (i := 5) (v := .pointer (some ⟨P, 0, none⟩)) rfl (by kernel_rfl) (by kernel_rfl) (by kernel_rfl) (fun _ _ _ h => h) (Or.inl ⟨by rfl, ?_⟩) (by assumption) ?_
      · intro w' hSw; go_simp <;> with_reducible rfl
      simp only [Act.put, List.getElem_toArray, List.getElem_cons_succ, List.getElem_cons_zero, List.setIfInBounds_toArray, List.set_cons_zero, List.set_cons_succ]
      refine wpAnyH_take (i := 6) (v := .pointer (some ⟨P, 26, none⟩)) rfl (by kernel_rfl) (by kernel_rfl) (by kernel_rfl) (fun _ _ _ h => h) (Or.inl ⟨by rfl, ?_⟩) (by assumption) ?_
      · intro w' hSw; go_simp <;> with_reducible rfl
      simp only [Act.put, List.getElem_toArray, List.getElem_cons_succ, List.getElem_cons_zero, List.setIfInBounds_toArray, List.set_cons_zero, List.set_cons_succ]
      refine wpAnyH_take (i := 7) (v := .agg #[.slice bva n bvc, .int .i64 R, .int .i64 C]) rfl (by kernel_rfl) (by kernel_rfl) (by kernel_rfl) (fun _ _ _ h => h) (Or.inl ⟨by rfl, ?_⟩) (by assumption) ?_
      · intro w' hSw; exact yields_load_part 61 _ rfl P 26 rfl _ _ #[.slice bva n bvc, .int .i64 R, .int .i64 C] _ _ hSw.2 (fun j v hj => by have h9 := lvC_at (sc := (sesC s (.slice ua s.un uc) (.slice ha s.kh.length hc) (.slice pa s.pn pc) (.slice qa s.qn qc) (.slice ka (s.ln + (s.rowsB bs).length) kc) (.slice da s.dn dc))) (r := (lvW ob qb nb (.slice bva n bvc) R C)) rfl (9 + j); rw [show 17 + (9 + j) = 26 + j by omega] at h9; rw [h9]; match j, hj with | 0, hj => exact hj | 1, hj => exact hj | 2, hj => exact hj | j + 3, hj => simp at hj) Tryz.underlying61 rfl infoBlkF
      simp only [Act.put, List.getElem_toArray, List.getElem_cons_succ, List.getElem_cons_zero, List.setIfInBounds_toArray, List.set_cons_zero, List.set_cons_succ]
      refine wpAnyH_ready (rs := [8]) (by kernel_rfl) (by simp) ?_
      refine AllReadyH.cons rfl (fun K hK => ?_) AllReadyH.nil
      go_simp
      go_wp2_with (go_at_call 71; refine ((unhide hcE) _ _ (by rw [List.length_append, unhide hol]; have := (unhide her).2; omega) ((unhide HWV).on (Ext.refl X1).drew) ((unhide HBV).ext (Ext.refl X1).drew).reads).mono ?_; rintro e Z1 ⟨rfl, hs9, hf9⟩; have HWZ := hide hs9; have HFZ := hide ((WF.of_ext (Ext.refl X1).drew).tr hf9); clear hs9 hf9)
      refine hK.out _ _ ⟨(unhide HFZ).keep' (unhide HBX9) (fun e => (unhide HNE).2.1 e.symm) (by decide), (unhide HFZ).keep' (unhide HX1) (fun e => (unhide HNE).2.2.2.1 e.symm) (by decide)⟩ (fun hHeld => ?_)
      clear hK K
      refine wpAnyH_done (by kernel_rfl) ?_ _
      go_wp2
      have hP1 := (unhide HFZ).keep' (unhide HX1) (fun e => (unhide HNE).2.2.2.1 e.symm) (by decide)
      refine bodyPost_end (v := .tuple #[]) (by simp [results, Tryz.results82, go_sem]) rfl (.inl ⟨_, s.printZ bs, rfl, rfl, hP1, ?_, ⟨s.st, s.qn, s.qt, (s.keep (s.rowsB bs)).ln, (s.keep (s.rowsB bs)).lt, .slice qa s.qn qc, .slice ka (s.ln + (s.rowsB bs).length) kc, prn_rows (unhide HOK) (unhide HLE) (unhide HST) (unhide HZ9), rfl, own1_wf9 (unhide HQV) (unhide HFZ) (fun g hg => ((unhide HXX) g (.inr hg)).2.1), own1_wf9 (unhide HLV) (unhide HFZ) (fun g hg => ((unhide hnP) g hg).2.1), fun g hg => .inl hg, fun g hg => ?_, fun g h1 h2 => ((unhide hnP) g h2).2.2 h1⟩, (unhide HFV).tr ((unhide HFZ).1.mono (fun q hq => .inr (.inr hq)))⟩)
      · have h9 := unhide HWZ
        rw [unhide hpt, (unhide her).1] at h9
        exact h9
      · rcases (unhide HBK) g hg with h9 | h9
        · exact .inl h9
        · right; have h8 := (unhide HNE).2.2.2.2.2.2.2.2.2; omega
end Go.Proofs.YtgdadidppelgdaaGreatDoor

namespace Go.Proofs.YtgdadidppelgdaaGreatDoor
open Go.RowKit

set_option maxRecDepth 10000 in
set_option maxHeartbeats 4000000 in
theorem livePrint_any (P : Nat) (s : SS) (bs : List Int) (ba : Option Addr) (bc : Nat) (ua ha pa qa la da : Option Addr) (uc hc pc qc lc dc : Nat) (w0 w : World) (E0 : Ext w0 w) (hP0 : w0.heap.size ≤ P)
    (hL : w.heap[P]? = some (.cells (lvC (sesC s (.slice ua s.un uc) (.slice ha s.kh.length hc) (.slice pa s.pn pc) (.slice qa s.qn qc) (.slice la s.ln lc) (.slice da s.dn dc)) lv0) 85 (0, 0))) (hO : OwnSes w w0.heap.size s (.slice ua s.un uc) (.slice ha s.kh.length hc) (.slice pa s.pn pc) (.slice qa s.qn qc) (.slice la s.ln lc) (.slice da s.dn dc)) (hnf : ¬ SesFoot (.slice ua s.un uc) (.slice ha s.kh.length hc) (.slice pa s.pn pc) (.slice qa s.qn qc) (.slice la s.ln lc) (.slice da s.dn dc) P) (hby : Bytes bs) (hin : IntsAt w0 .u8 (.slice ba bs.length bc) bs) (hz : s.Sz) (hT : Tabs3 w0) (hlo : 4 < w0.heap.size) (hPw : PowT w0) :
    Calls Tryz.prog 50 #[.pointer (some ⟨P, 0, none⟩), .slice ba bs.length bc] w fun e w' => LiveR (PrintR s bs) w0 w P e w' := by
  have hPs : P < w.heap.size := lt_of_block hL
  have EA := ((Ext.refl w).alloc (.cells #[.pointer (some ⟨P, 0, none⟩)] 66)).alloc (.cells #[.slice ba bs.length bc] 25)
  have hs1 : ((w.alloc (.cells #[.pointer (some ⟨P, 0, none⟩)] 66)).alloc (.cells #[.slice ba bs.length bc] 25)).heap.size = w.heap.size + 1 + 1 := by simp
  have x0 : ((w.alloc (.cells #[.pointer (some ⟨P, 0, none⟩)] 66)).alloc (.cells #[.slice ba bs.length bc] 25)).heap[w.heap.size]? = some (.cells #[.pointer (some ⟨P, 0, none⟩)] 66 (0, 0)) := ((Ext.refl _).alloc _).kept (new_block w _)
  have x1 : ((w.alloc (.cells #[.pointer (some ⟨P, 0, none⟩)] 66)).alloc (.cells #[.slice ba bs.length bc] 25)).heap[w.heap.size + 1]? = some (.cells #[.slice ba bs.length bc] 25 (0, 0)) := by have h := new_block (w.alloc (.cells #[.pointer (some ⟨P, 0, none⟩)] 66)) (.cells #[.slice ba bs.length bc] 25); rw [show (w.alloc (.cells #[.pointer (some ⟨P, 0, none⟩)] 66)).heap.size = w.heap.size + 1 by simp] at h; exact h
  have hs0 := E0.size
  have hft : ∀ g, SesFoot (.slice ua s.un uc) (.slice ha s.kh.length hc) (.slice pa s.pn pc) (.slice qa s.qn qc) (.slice la s.ln lc) (.slice da s.dn dc) g → g ≠ P ∧ w0.heap.size ≤ g ∧ g < w.heap.size := fun g hg => ⟨fun e => by subst e; exact hnf hg, (hO.foot hg).1, (hO.foot hg).2⟩
  have hlg : ∀ g, (Value.slice la s.ln lc).ownBlock = some g → g ≠ P ∧ w0.heap.size ≤ g ∧ g < w.heap.size := fun g hg => hft g (.inr (.inr (.inr (.inr (.inl hg)))))
  have hqg : ∀ g, (Value.slice qa s.qn qc).ownBlock = some g → g ≠ P ∧ w0.heap.size ≤ g ∧ g < w.heap.size := fun g hg => hft g (.inr (.inr (.inr (.inl hg))))
  have hxg : ∀ g, (fun g => (Value.slice la s.ln lc).ownBlock = some g ∨ (Value.slice qa s.qn qc).ownBlock = some g) g → g ≠ P ∧ w0.heap.size ≤ g ∧ g < w.heap.size := fun g hg => hg.elim (hlg g) (hqg g)
  have hf := frame_anyX (fun g => (Value.slice la s.ln lc).ownBlock = some g ∨ (Value.slice qa s.qn qc).ownBlock = some g) P s ua ha pa qa la da uc hc pc qc lc dc 82 #[.pointer (some ⟨w.heap.size + 1, 0, none⟩), .pointer (some ⟨w.heap.size, 0, none⟩)] (PrnOk s bs w0.heap.size (w.heap.size + 1 + 1 + 3) ua ha pa qa la da uc hc pc qc lc dc) (fun c => PrintR s bs s [] c) w0 ((w.alloc (.cells #[.pointer (some ⟨P, 0, none⟩)] 66)).alloc (.cells #[.slice ba bs.length bc] 25)) (E0.trans EA) hP0
    (fun g hg => ⟨(hxg g hg).2.1, by have := (hxg g hg).2.2; omega, (hxg g hg).1⟩) (EA.kept hL) (hO.ext EA) hnf hz hT hlo hPw
    (fun sc zs W1 W2 h F => by
      obtain ⟨st, qn, qt, ln, lt, q', l', h1, h2, h3, h4, h5, h6, h7⟩ := h
      rw [hs1] at F
      have kk : ∀ g, g ≠ P ∧ w0.heap.size ≤ g ∧ g < w.heap.size ∨ w.heap.size + 1 + 1 + 3 ≤ g → ¬ (g = P ∨ g = w.heap.size + 1 + 1 + 1 ∨ g = w.heap.size + 1 + 1 + 1 + 1) := fun g hg e => by omega
      exact ⟨st, qn, qt, ln, lt, q', l', h1, h2, h3.fr F (fun g hg => kk g ((h5 g hg).imp (hqg g) id)), h4.fr F (fun g hg => kk g ((h6 g hg).imp (hlg g) id)), h5, h6, h7⟩)
    (fun W => Go.MuLone.run_callFunc_enter Tryz.func82 (by kernel_rfl) rfl _ _)
    (fun hk W B ob qb nb bv hE hF hob hB hP hWr hbv => by
      obtain ⟨bva, bvc, rfl⟩ := hbv.slice
      rw [hs1] at hob hB
      have hle := hWr.le
      have hXX : ∀ g, (fun g => (Value.slice la s.ln lc).ownBlock = some g ∨ (Value.slice qa s.qn qc).ownBlock = some g) g → g ≠ P ∧ g ≠ ob ∧ g ≠ qb ∧ g ≠ nb ∧ g ≠ 4 ∧ g ≠ w.heap.size ∧ g < B := fun g hg => by
        have h7 := hxg g hg
        exact ⟨h7.1, by omega, by omega, by omega, by omega, by omega, by omega⟩
      refine print1_any P w.heap.size (w.heap.size + 1) s bs ba bc ua ha pa qa la da uc hc pc qc lc dc s.blk.n (s.blk.R : Int) s.blk.C B ob qb nb w0.heap.size (w.heap.size + 1 + 1 + 3) bva bvc W rfl rfl rfl hby (hF.kept x0 (by rw [hs1]; omega)) (hF.kept x1 (by rw [hs1]; omega)) (hin.ext hE) ⟨by omega, by omega, by omega, by omega, by omega, by omega, by omega, by omega, by omega, by omega⟩ hXX
        ((hO.ext EA).fr hF (fun g hg e => by have h7 := hft g hg; rw [hs1] at e; rcases e with e | e; exact h7.1 e; omega)) hz hk (fun W' f => hT.ext (f.ext hE (fun q hq => ?_))) hP hWr hbv
      rcases hq with hq | hq | hq | hq
      · omega
      · exact (hxg q hq).2.1
      · omega
      · omega)
  have HF := hide hf
  have hmf : ∀ (fn : Fn) (first cap : Array Value) (w : World), (Instr.makeFunc fn first cap).run Tryz.prog w = .ok (.func fn first cap) w := fun _ _ _ _ => rfl
  have HS1 := hide hs1
  have HEA := hide EA
  have HO := hide hO
  have HFT := hide hft
  have HLG := hide hxg
  clear hf hL hO hnf hz hT hPw hs1 EA hft hlg hqg hxg x0 x1 hin
  go_enter Tryz.func50, Tryz.ntmps50
  go_wp2_with fail
  refine (unhide HF).mono ?_
  rintro e w2 (⟨v, sc, bs_1, r, rfl, hk, ho, hP2, hsz, ⟨st9, qn9, qt9, ln9, lt9, q9, l9, hR9, rfl, hq9, hl9, hqa9, hla9, hap9⟩, F2⟩ | ⟨c, u, h, p, q, l, d, r, rfl, hk, hP2, ho, hnf2, F2⟩)
  · obtain ⟨a2, c2, rfl⟩ := owns_slice ho
    have HO2 := hide ho
    have HP2 := hide hP2
    have HF2 := hide F2
    have HR9 := hide hR9
    have HQ9 := hide (And.intro hq9 (And.intro hl9 (And.intro hqa9 (And.intro hla9 hap9))))
    clear ho hP2 F2 hk hsz hR9 hq9 hl9 hqa9 hla9 hap9
    go_wp2
    have h1 := unhide HS1
    have hft := unhide HFT
    have hlg := unhide HLG
    obtain ⟨hq9, hl9, hqa9, hla9, hap9⟩ := unhide HQ9
    obtain ⟨⟨_, _, a3, a4, _⟩, ⟨_, b3, b4, _⟩, ⟨c3, c4, _⟩, ⟨_, d5⟩, e5⟩ := pw6 (unhide HO).ap
    have hS := OwnSes.ql ((unhide HO).ext (unhide HEA)) (unhide HF2) (fun g hg e => by
      have h7 : g ≠ P ∧ w0.heap.size ≤ g ∧ g < w.heap.size := hft g (by rcases hg with hg | hg | hg | hg; exact .inl hg; exact .inr (.inl hg); exact .inr (.inr (.inl hg)); exact .inr (.inr (.inr (.inr (.inr hg)))))
      rw [h1] at e
      rcases e with e | e | e
      · exact h7.1 e
      · rcases e with e | e
        · rcases hg with hg | hg | hg | hg
          · exact a4 g hg e
          · exact b4 g hg e
          · exact c4 g hg e
          · exact e5 g e hg
        · rcases hg with hg | hg | hg | hg
          · exact a3 g hg e
          · exact b3 g hg e
          · exact c3 g hg e
          · exact d5 g e hg
      · omega) st9 qn9 qt9 ln9 lt9 hq9 hl9 (fun g hg => by
        rcases hqa9 g hg with h9 | h9
        · exact .inl h9
        · right; omega) (fun g hg => by
        rcases hla9 g hg with h9 | h9
        · exact .inl h9
        · right; omega) hap9
    refine bodyPost_ret (v := .tuple #[.slice a2 bs_1.length c2, .int .i64 0]) (by simp [results, Tryz.results50, go_sem]) rfl ⟨_, bs_1, _, 0, _, _, _, _, _, _, r, rfl, unhide HR9, owns_mono (unhide HO2) (by omega), hS, unhide HP2, ?_, (Fr.of_ext (unhide HEA)).tr ((unhide HF2).mono (fun q hq => by rw [h1] at hq; rcases hq with hq | hq | hq; omega; exact (hlg q hq).2.1; omega))⟩
    intro g hg hg2
    have h2 := ((unhide HO2).lt g hg2).1
    rw [h1] at h2
    have hlow : ∀ g', g' = g → g' < w.heap.size → False := fun g' e h => by omega
    rcases hg with hg | hg | hg | hg | hg | hg
    · exact hlow g rfl (hft g (.inl hg)).2.2
    · exact hlow g rfl (hft g (.inr (.inl hg))).2.2
    · exact hlow g rfl (hft g (.inr (.inr (.inl hg)))).2.2
    · obtain ⟨ys, h5, _⟩ := hq9
      exact owns_apart h5 (unhide HO2) (by decide) hg hg2
    · obtain ⟨ys, h5, _⟩ := hl9
      exact owns_apart h5 (unhide HO2) (by decide) hg hg2
    · exact hlow g rfl (hft g (.inr (.inr (.inr (.inr (.inr hg)))))).2.2
  · have HO2 := hide ho
    have HP2 := hide hP2
    have HF2 := hide F2
    have HK := hide hk
    clear ho hP2 F2 hk hnf2
    go_wp2
    have h1 := unhide HS1
    have hlg := unhide HLG
    refine bodyPost_ret (v := .tuple #[.slice none 0 0, .int .i64 c]) (by simp [results, Tryz.results50, go_sem]) rfl ⟨_, [], s, c, u, h, p, q, l, d, r, rfl, ?_, owns_nil _ _ _ _, (unhide HO2).mono (by omega), unhide HP2, fun g _ hg2 => by simp [Value.ownBlock] at hg2, (Fr.of_ext (unhide HEA)).tr ((unhide HF2).mono (fun q hq => by rw [h1] at hq; rcases hq with hq | hq | hq; omega; exact (hlg q hq).2.1; omega))⟩
    rcases unhide HK with ⟨e1, e2⟩ | ⟨e1, e2⟩
    · rw [e1]; exact prn_no e2
    · exact e2
end Go.Proofs.YtgdadidppelgdaaGreatDoor

namespace Go.Proofs.YtgdadidppelgdaaGreatDoor
open Go.RowKit

/-- The row that a conversion of a text to bytes makes: it reads so, and has room behind. -/
def ConvRow (w : World) (g cap : Nat) (L : List Int) : Prop :=
  ∃ cur : Array Value, w.heap[g]? = some (.cells cur 5 (cur.size, cur.size + 1)) ∧ cur.size = cap ∧ L.length ≤ cap ∧ ∀ j, j < L.length → cur[j]? = some (.int .u8 (at0 L j))
theorem ConvRow.ext {w w' : World} {g cap : Nat} {L : List Int} (h : ConvRow w g cap L) (he : Ext w w') : ConvRow w' g cap L := by
  obtain ⟨cur, h1, h2⟩ := h
  exact ⟨cur, he.keep' h1, h2⟩
theorem ConvRow.cell {w : World} {g cap : Nat} {L : List Int} (h : ConvRow w g cap L) (j : Nat) (hj : j < L.length) : w.cell? ⟨g, j, none⟩ = some (.int .u8 (at0 L j)) := by
  obtain ⟨cur, h1, _, _, h4⟩ := h
  exact heap_cell' h1 j _ (h4 j hj)
theorem ConvRow.spare {w : World} {g cap : Nat} {L : List Int} (h : ConvRow w g cap L) (j : Nat) (hj : j < cap) : (w.cell? ⟨g, j, none⟩).isSome = true ∧ w.frozen? ⟨g, j, none⟩ = false := by
  obtain ⟨cur, h1, h2, _, _⟩ := h
  constructor
  · rw [heap_cell' h1 j _ (Array.getElem?_eq_getElem (by omega))]; rfl
  · simp [World.frozen?, h1]; omega
set_option maxRecDepth 10000 in
theorem s2r (w : World) (L : List Int) (hb : Bytes L) : ∃ cap W', (convert 9 25 (.string (toBA L))).run Tryz.prog w = .ok (.slice (some ⟨w.heap.size, 0, none⟩) L.length cap) W' ∧ ConvRow W' w.heap.size cap L ∧ Ext w W' ∧ w.heap.size < W'.heap.size := by
  have hr := run_bytes_of_string (P := Tryz.prog) w 9 25 5 (toBA L) Tryz.underlying9 Tryz.underlying25 Tryz.underlying5
  rw [toBA_size] at hr
  have hge := grownCap_ge w L.length 0 5
  have hsz : (bytesRow (toBA L) (grownCap w L.length 0 5)).size = grownCap w L.length 0 5 := by
    have h1 : (toBA L).data.size = L.length := toBA_size L
    unfold bytesRow
    rw [Array.size_append, Array.size_map, Array.size_replicate, h1, toBA_size]
    omega
  refine ⟨_, _, hr, ⟨_, alloc_new w.drew _, hsz, hge, fun j hj => ?_⟩, (Ext.refl w).drew.alloc _, by rw [World.size_alloc]; exact Nat.lt_succ_self _⟩
  have hjl : j < (toBA L).data.size := by have : (toBA L).data.size = L.length := toBA_size L; omega
  rw [bytesRow_at _ _ _ hjl]
  have hbb := hb.at0 j
  have e : (toBA L).data[j] = UInt8.ofNat (at0 L j).toNat := by
    have h1 : (toBA L).data.toList[j]? = some ((toBA L).data[j]) := by simp
    rw [toBA_list] at h1
    rw [List.getElem?_map, at0_lt hj] at h1
    simpa using h1.symm
  rw [e]
  congr 2
  simp
  omega
theorem Ext.setCells {w0 : World} (b : Nat) (hb : w0.heap.size ≤ b) : ∀ (vs : List Value) (o : Nat) (w : World), Ext w0 w → Ext w0 (w.setCells b o vs)
  | [], _, _, h => h
  | v :: r, o, _, h => Ext.setCells b hb r (o + 1) _ (h.setCell (a := ⟨b, o, none⟩) hb v)
theorem setCells_size (b : Nat) : ∀ (vs : List Value) (o : Nat) (w : World), (w.setCells b o vs).heap.size = w.heap.size
  | [], _, _ => rfl
  | v :: r, o, w => by rw [World.setCells, setCells_size b r (o + 1) _, World.size_setCell]
theorem at0_app9 (L X : List Int) (j : Nat) : at0 (L ++ X) j = if j < L.length then at0 L j else at0 X (j - L.length) := by
  unfold at0
  by_cases h : j < L.length
  · rw [if_pos h, List.getElem?_append_left h]
  · rw [if_neg h, List.getElem?_append_right (by omega)]
theorem fr_setCells {S : Nat → Prop} (g : Nat) (hg : S g) : ∀ (vs : List Value) (o : Nat) (w : World), Fr S w (w.setCells g o vs)
  | [], _, w => Fr.refl _ w
  | v :: r, o, w => (Fr.setCell (S := S) (Fr.refl _ w) (a := ⟨g, o, none⟩) hg v).tr (fr_setCells g hg r (o + 1) _)
theorem set_blkz {W : World} {b i : Nat} {cs : Array Value} {T : TypeId} {v : Value} {z : Nat × Nat} (h : W.heap[b]? = some (.cells cs T z)) : (W.setCell ⟨b, i, none⟩ v).heap[b]? = some (.cells (cs.setIfInBounds i v) T z) := by
  obtain ⟨hlt, hk⟩ := Array.getElem?_eq_some_iff.1 h
  show (W.heap.modify b _)[b]? = _
  rw [Array.getElem?_eq_getElem (by rw [Array.size_modify]; exact hlt), Array.getElem_modify_self, hk]
  simp
theorem set_keeps (g : Nat) (T : TypeId) (z : Nat × Nat) : ∀ (vs : List Value) (o : Nat) (w : World) (cur : Array Value), w.heap[g]? = some (.cells cur T z) → ∃ cur', (w.setCells g o vs).heap[g]? = some (.cells cur' T z) ∧ cur'.size = cur.size
  | [], _, _, cur, h => ⟨cur, h, rfl⟩
  | v :: r, o, w, cur, h => by
    have h1 : (w.setCell ⟨g, o, none⟩ v).heap[g]? = some (.cells (cur.setIfInBounds o v) T z) := set_blkz h
    obtain ⟨c2, h2, h3⟩ := set_keeps g T z r (o + 1) _ _ h1
    exact ⟨c2, h2, by rw [h3, Array.size_setIfInBounds]⟩
/-- A row of bytes that is owned, or that a conversion made. -/
def CR (w : World) (base : Nat) (v : Value) (L : List Int) : Prop := (∃ g cap, v = .slice (some ⟨g, 0, none⟩) L.length cap ∧ ConvRow w g cap L ∧ base ≤ g ∧ g < w.heap.size) ∨ w.ownsRow base 5 1 v L.length (L.map (Value.int .u8))
theorem CR.ext {w w' : World} {base : Nat} {v : Value} {L : List Int} (h : CR w base v L) (he : Ext w w') : CR w' base v L := by
  rcases h with ⟨g, cap, e, h1, h2, h3⟩ | h
  · exact .inl ⟨g, cap, e, h1.ext he, h2, Nat.lt_of_lt_of_le h3 he.size⟩
  · exact .inr (he.owns h)
theorem CR.rb {w : World} {base : Nat} {v : Value} {L : List Int} (h : CR w base v L) : RB w base v L := by
  rcases h with ⟨g, cap, rfl, h1, h2, h3⟩ | h
  · refine ⟨⟨_, cap, rfl, ?_, fun _ => ⟨g, 0, rfl, fun j hj => by rw [Nat.zero_add]; exact h1.cell j hj⟩⟩, fun g' hg => ?_⟩
    · obtain ⟨_, _, _, h4, _⟩ := h1; exact h4
    · simp [Value.ownBlock] at hg; subst hg; exact ⟨h2, h3⟩
  · exact RB.of_owns h
theorem CR.fr {S : Nat → Prop} {w w' : World} {base : Nat} {v : Value} {L : List Int} (h : CR w base v L) (f : Fr S w w') (hS : ∀ g, v.ownBlock = some g → ¬ S g) : CR w' base v L := by
  rcases h with ⟨g, cap, rfl, ⟨cur, h1, h4⟩, h2, h3⟩ | h
  · exact .inl ⟨g, cap, rfl, ⟨cur, f.kept h1 (hS g rfl), h4⟩, h2, Nat.lt_of_lt_of_le h3 f.size⟩
  · exact .inr (f.owns h hS)
theorem CR.lt {w : World} {base : Nat} {v : Value} {L : List Int} (h : CR w base v L) : ∀ g, v.ownBlock = some g → base ≤ g ∧ g < w.heap.size := h.rb.2
theorem CR.slice {w : World} {base : Nat} {v : Value} {L : List Int} (h : CR w base v L) : ∃ a c, v = .slice a L.length c := by
  obtain ⟨a, c, e, _⟩ := h.rb.1
  exact ⟨a, c, e⟩
theorem CR.kind {w : World} {base : Nat} {v : Value} {L : List Int} (h : CR w base v L) {g : Nat} (hg : v.ownBlock = some g) : ∃ c z, w.heap[g]? = some (.cells c 5 z) := by
  rcases h with ⟨g', cap, rfl, ⟨cur, h1, _⟩, _⟩ | h
  · simp [Value.ownBlock] at hg
    subst hg
    exact ⟨_, _, h1⟩
  · obtain ⟨c, k⟩ := owns_kind h hg
    exact ⟨_, _, k⟩
/-- append behind such a row. -/
theorem wp_append_cr {o : Oper} {a : Act} {w : World} {K : Act → World → Prop} {Q : Exit → Act → World → Prop} (hgd : o.guard = none) (s x : Operand) (hop : o.op = Op.call { callee := Callee.builtin Builtin.append, args := #[s, x], argTypes := #[25, 25] })
    (base : Nat) (v : Value) (L : List Int) (hs : a.eval s = v) (hcr : CR w base v L) (y : Value) (X : List Int) (hx : a.eval x = y) (hsrc : Src w 1 y X.length (X.map (Value.int .u8))) (hlen : L.length + X.length ≤ 1099511627776) (hbase : base ≤ w.heap.size)
    (h : ∀ v' w', CR w' base v' (L ++ X) → Fr (fun q => v.ownBlock = some q) w w' → K (a.put o.dst v') w') : o.wp Tryz.prog a w K Q := by
  obtain ⟨i0, hi, hz0, hz1, hz2⟩ := u8_parts
  rcases hcr with ⟨g, cap, rfl, hcv, hg0, hg1⟩ | hown
  · obtain ⟨h1, h2, h3⟩ := hsrc
    rcases h3 with ⟨c, rfl, hX⟩ | ⟨ad, c, rfl, h3⟩
    · have hn : X = [] := List.eq_nil_of_length_eq_zero hX
      subst hn
      have hle : L.length ≤ cap := by obtain ⟨_, _, _, h4, _⟩ := hcv; exact h4
      have hr : (Builtin.append_ #[25, 25] o.type #[.slice (some ⟨g, 0, none⟩) L.length cap, .slice none 0 c]).run Tryz.prog w = .ok (.slice (some ⟨g, 0, none⟩) L.length cap) w := by
        simp [Builtin.append_, run_underlying Tryz.underlying25, sizeOf, typeInfo, hi, Builtin.lenOf, Builtin.firstCells, hle, storeCells]
      unfold Oper.wp execOp
      simp only [hop, resolve, invoke, builtin, Sem.run_bind, Sem.run_pure, Result.andThen_ok, List.map_toArray, List.map_cons, List.map_nil, hs, hx, hr]
      exact h _ w (by rw [List.append_nil]; exact .inl ⟨g, cap, rfl, hcv, hg0, hg1⟩) (Fr.refl _ _)
    · by_cases hroom : L.length + X.length ≤ cap
      · have hw := step_append_room (ops := #[]) (E := True) (P := Tryz.prog) (w := w) (K := K) (Q := Q) (a := a) (o := o) hgd s x 25 hop 5 i0 1 Tryz.underlying25 hi hz1 g 0 L.length cap hs ad X.length c (X.map (Value.int .u8)) hx (by simp) h3 (ints_oneCell _ _) hroom (fun j hj => by
            have hj' : j < X.length := by simpa using hj
            rw [Nat.mul_one, Nat.zero_add]
            exact hcv.spare _ (by omega)) (by
          rw [Nat.mul_one, Nat.zero_add, show L.length + X.length = (L ++ X).length by simp]
          refine h _ _ (.inl ⟨g, cap, rfl, ?_, hg0, by rw [setCells_size]; exact hg1⟩) ?_
          · obtain ⟨cur, hc1, hc2, hc3, hc4⟩ := id hcv
            obtain ⟨cur', hd1, hd2⟩ := set_keeps g 5 _ (X.map (Value.int .u8)) L.length w cur hc1
            refine ⟨cur', by rw [hd1, hd2], by rw [hd2]; exact hc2, by simpa using hroom, fun j hj => ?_⟩
            have hcell : (w.setCells g L.length (X.map (Value.int .u8))).cell? ⟨g, j, none⟩ = some (.int .u8 (at0 (L ++ X) j)) := by
              rw [at0_app9]
              by_cases hjl : j < L.length
              · rw [if_pos hjl, World.cell?_setCells_out g _ _ _ _ (fun _ _ => .inl hjl)]
                exact hcv.cell j hjl
              · rw [if_neg hjl]
                have hj2 : j - L.length < X.length := by simp at hj; omega
                have hin := World.cell?_setCells_in g (X.map (Value.int .u8)) L.length w (fun i hi => (hcv.spare _ (by simp at hi; omega)).1) (j - L.length) (by simpa using hj2)
                rw [show L.length + (j - L.length) = j by omega] at hin
                rw [hin]
                simp [at0, hj2]
            rw [cell_of_row _ g j _ _ _ hd1] at hcell
            exact hcell
          · exact fr_setCells g (by rfl) _ _ _)
        rwa [if_pos (by simp [Region.wanted, hgd])] at hw
      · have hw := step_append_grows (ops := #[]) (E := True) (P := Tryz.prog) (w := w) (K := K) (Q := Q) (a := a) (o := o) hgd s x 25 hop 5 i0 (.int .u8 0) 1 1 Tryz.underlying25 hi hz0 hz1 hz2 rfl (by decide) (some ⟨g, 0, none⟩) L.length cap (L.map (Value.int .u8)) hs (fun e => by cases e) (by simp) (fun b hb j u hu => by
            obtain rfl := Option.some.inj hb
            have hj : j < L.length := by have := (List.getElem?_eq_some_iff.1 hu).1; simpa using this
            rw [Addr.add_lit, Nat.zero_add, hcv.cell j hj, ← hu]
            simp [at0_lt hj]) ad X.length c (X.map (Value.int .u8)) hx (by simp) h3 (ints_oneCell _ _) (by omega) (by unfold maxLen; omega) (by omega) (fun v' w' ho hgr => by
          rw [← List.map_append, show L.length + X.length = (L ++ X).length by simp] at ho
          exact h _ _ (.inr (owns_mono ho hbase)) (Fr.of_ext hgr))
        rwa [if_pos (by simp [Region.wanted, hgd])] at hw
  · refine wp_app s x 25 hop base 5 i0 (.int .u8 0) 1 1 Tryz.underlying25 hi hz0 hz1 hz2 rfl (by decide) v L.length _ hs hown y X.length _ hx hsrc (by unfold maxLen; omega) (by omega) hbase ?_
    intro v' w' ho hg _
    rw [← List.map_append, ← List.length_append] at ho
    exact h v' w' (.inr ho) ((Fr.refl _ w).grown hg (fun k hk => hk))
set_option maxRecDepth 10000 in
set_option maxHeartbeats 2000000 in
theorem specEraseOk_any (v : Value) (row col : Int) (n : Nat) (tx : Nat → ByteArray) (hok : bOk n row col) (w : World) (hv : Row1At w v n (fun j => .string (tx j))) (hn : n ≤ 1048576) :
    Calls Tryz.prog 49 #[blV v row col] w fun e w' => ∃ g cap, e = .returned (.slice (some ⟨g, 0, none⟩) (eraseL n row col).length cap) ∧ ConvRow w' g cap (eraseL n row col) ∧ w.heap.size ≤ g ∧ g < w'.heap.size ∧ Ext w w' := by
  have hcon := hide (fun W (hW : Ext w W) => l6Ok_any v row col n tx W (hv.ext hW))
  obtain ⟨ao, cap, rfl, _, _⟩ := hv
  unfold blV at *
  go_enter Tryz.func49, Tryz.ntmps49
  go_wp2_with fail
  refine ((unhide hcon) _ ((Ext.refl _).alloc _)).mono ?_
  rintro e w1 ⟨rfl, F1⟩
  have hb1 := F1.keep' (alloc_new w (.cells #[.slice ao n cap, .int .i64 row, .int .i64 col] 61))
  have E1 : Ext w w1 := ((Ext.refl w).alloc _).trans F1
  have hz1 := E1.size
  have q1 := heap_cell' hb1 1 _ rfl
  clear F1 hb1
  rw [bOk_t hok]
  have hgl := goL_len row 65 (by unfold bOk at hok; omega)
  have hcA := hide (fun W => l6Go_any row 65 (by unfold bOk at hok; omega) W)
  have e65 : toBA [65] = { data := #[65] } := rfl
  rw [e65] at hcA
  have e13 : ({ data := #[13] } : ByteArray) = toBA [13] := rfl
  have eJ : ({ data := #[27, 91, 74] } : ByteArray) = toBA [27, 91, 74] := rfl
  have hs1 : (toBA [13]).size + (toBA (goL row 65)).size ≤ 9223372036854775807 := by rw [toBA_size, toBA_size]; simp; omega
  have hadd := fun W => run_string_add_sum (P := Tryz.prog) W _ _ hs1
  obtain ⟨L1, hL1⟩ : ∃ L1, L1 = [13] ++ goL row 65 := ⟨_, rfl⟩
  have hs2 : (toBA L1).size + (toBA [27, 91, 74]).size ≤ 9223372036854775807 := by rw [toBA_size, toBA_size, hL1]; simp; omega
  have hadd2 := fun W => run_string_add_sum (P := Tryz.prog) W _ _ hs2
  rw [toBA_app, ← e13, ← hL1] at hadd
  rw [toBA_app, ← eJ] at hadd2
  obtain ⟨L, hL⟩ : ∃ L, L = L1 ++ [27, 91, 74] := ⟨_, rfl⟩
  rw [← hL] at hadd2
  have hfin : Hid (eraseL n row col = L) := by refine hide ?_; rw [eraseL, if_pos hok, hL, hL1]; simp
  have hLb : Bytes L := by rw [← unhide hfin]; exact eraseL_bytes n row col
  clear hs1 hs2 e65 e13 eJ hL hL1 hok hgl
  go_wp2_with fail
  refine ((unhide hcA) _).mono ?_
  rintro e w2 ⟨rfl, F2⟩
  obtain ⟨cap4, w4, hrun, hcv, E4, hz4⟩ := s2r w2 L hLb
  have HC := hide hcv
  have HE := hide (E1.trans (F2.trans E4))
  have hz2 := F2.size
  have HZ := hide hz4
  clear hcv E4 F2 hz4
  go_wp2
  go_ret
  rw [unhide hfin]
  exact ⟨_, _, rfl, unhide HC, by omega, unhide HZ, unhide HE⟩
end Go.Proofs.YtgdadidppelgdaaGreatDoor
