import Derived.Test.YtgdadidppelgdaaGreatDoorFrmA
import Derived.Test.YtgdadidppelgdaaGreatDoorEraseT
import Derived.Test.YtgdadidppelgdaaGreatDoorItemOk
import Derived.Test.YtgdadidppelgdaaGreatDoorL7Keep
import Derived.Test.YtgdadidppelgdaaGreatDoorL7Rows
import Derived.Test.YtgdadidppelgdaaGreatDoorViewI
import Derived.Test.YtgdadidppelgdaaGreatDoorLayI
import Derived.Test.YtgdadidppelgdaaGreatDoorMu
import Derived.Test.YtgdadidppelgdaaGreatDoorLayI2
import Derived.Test.YtgdadidppelgdaaGreatDoorPaintM
namespace Go.Proofs.YtgdadidppelgdaaGreatDoor
open Go.RowKit

theorem own_kind {w : World} {base : Nat} {T : TypeId} {sz : Nat} {v : Value} {n : Nat} {xs : List Value} (h : w.ownsRow base T sz v n xs) (g : Nat) (hg : v.ownBlock = some g) : ∃ cur, w.heap[g]? = some (.cells cur T (0, 0)) := by
  rcases h.2 with ⟨e, _⟩ | ⟨g', cap, cur, e, _, h4, _⟩
  · rw [e] at hg; cases hg
  · rw [e] at hg
    simp [Value.ownBlock] at hg
    subst hg
    exact ⟨cur, h4⟩
theorem Fr.of_grown {W W' : World} {row : Option Nat} (G : W.grownBy W' row) : Fr (fun g => row = some g) W W' := (Fr.refl _ W).grown G (fun _ h => h)
/-- The writers stand while another list grows. -/
theorem WrS.log {W W' : World} {B ob qb nb : Nat} {bs : List Int} {S : Nat → Prop} (h : WrS W B ob qb nb bs) (f : Fr S W W') (hS : ∀ g, S g → g ≠ ob ∧ g ≠ qb ∧ g ≠ nb ∧ g ≠ 4 ∧ ∀ c, W.heap[g]? ≠ some (.cells c 5 (0, 0))) : WrS W' B ob qb nb bs := by
  obtain ⟨v, hc, ho⟩ := h.out
  have hle := h.le
  have hb := h.ltb
  have hq := h.ltq
  have hn := h.ltn
  have hl := h.lo
  refine ⟨⟨v, ?_, f.owns ho (fun g hg e => ?_)⟩, ?_, ?_, ?_, h.neq, h.nen, h.lo, h.ltb, h.ltq, h.ltn, Nat.le_trans hle f.size, h.tab.keep (f.block _ (by omega) (fun e => (hS _ e).2.2.2.1 rfl))⟩
  · rw [cell_same (f.block _ (by omega) (fun e => (hS _ e).1 rfl))]; exact hc
  · obtain ⟨cur, h1⟩ := own_kind ho g hg
    exact (hS g e).2.2.2.2 cur h1
  · rw [frozen_same (f.block _ (by omega) (fun e => (hS _ e).1 rfl))]; exact h.hf
  · rw [cell_same (f.block _ (by omega) (fun e => (hS _ e).2.1 rfl))]; exact h.q
  · rw [cell_same (f.block _ (by omega) (fun e => (hS _ e).2.2.1 rfl))]; exact h.nn
/-- What printing lines leaves: all but the session's box, the blocks X, the writers' list, and what is new; and every older block that is no row of bytes. -/
def LF (X : Nat → Prop) (P B ob : Nat) (W W' : World) : Prop := Fr (fun q => q = P ∨ X q ∨ WS B ob q) W W' ∧ ∀ (k : Nat) (c : Array Value) (T : TypeId) (z : Nat × Nat), W.heap[k]? = some (.cells c T z) → k ≠ P → k ≠ ob → ¬ X k → T ≠ 5 → W'.heap[k]? = some (.cells c T z)
section
variable {X : Nat → Prop} {P B ob : Nat} {W W' W2 : World}
theorem LF.refl (X : Nat → Prop) (P B ob : Nat) (W : World) : LF X P B ob W W := ⟨Fr.refl _ _, fun _ _ _ _ h _ _ _ _ => h⟩
theorem LF.tr (h : LF X P B ob W W') (k : LF X P B ob W' W2) : LF X P B ob W W2 := ⟨h.1.tr k.1, fun i c T z h1 h2 h3 h4 h5 => k.2 i c T z (h.2 i c T z h1 h2 h3 h4 h5) h2 h3 h4 h5⟩
theorem LF.wf (h : LF X P B ob W W') (f : WF B ob W' W2) : LF X P B ob W W2 := ⟨h.1.tr (f.1.mono (fun _ hq => .inr (.inr hq))), fun i c T z h1 h2 h3 h4 h5 => f.keep' (h.2 i c T z h1 h2 h3 h4 h5) (fun e => h3 e.symm) h5⟩
theorem LF.ext (h : LF X P B ob W W') (f : Ext W' W2) : LF X P B ob W W2 := h.wf (WF.of_ext f)
theorem LF.grown {row : Option Nat} (h : LF X P B ob W W') (G : W'.grownBy W2 row) (hB : B ≤ W.heap.size) (hr : ∀ g, row = some g → X g ∨ W.heap.size ≤ g) : LF X P B ob W W2 := by
  refine ⟨h.1.grown G (fun g hg => ?_), fun i c T z h1 h2 h3 h4 h5 => ?_⟩
  · rcases hr g hg with e | e
    · exact .inr (.inl e)
    · exact .inr (.inr (.inr (by omega)))
  · have h6 := h.2 i c T z h1 h2 h3 h4 h5
    rw [G.block i (Array.getElem?_eq_some_iff.1 h6).1 (fun e => by
      rcases hr i e.symm with e2 | e2
      · exact h4 e2
      · have := (Array.getElem?_eq_some_iff.1 h1).1
        omega)]
    exact h6
theorem LF.set (h : LF X P B ob W W') (i : Nat) (v : Value) : LF X P B ob W (W'.setCell ⟨P, i, none⟩ v) := ⟨h.1.setCell (.inl rfl) v, fun k c T z h1 h2 h3 h4 h5 => set_else (h.2 k c T z h1 h2 h3 h4 h5) h2⟩
theorem owns_wf {base : Nat} {T : TypeId} {sz : Nat} {v : Value} {n : Nat} {xs : List Value} (h : W.ownsRow base T sz v n xs) (f : WF B ob W W') (hT : T ≠ 5) (hne : ∀ g, v.ownBlock = some g → g ≠ ob) : W'.ownsRow base T sz v n xs := by
  obtain ⟨h1, h2⟩ := h
  refine ⟨h1, ?_⟩
  rcases h2 with h2 | ⟨g, cap, cur, e, h3, h4, h5⟩
  · exact .inl h2
  · exact .inr ⟨g, cap, cur, e, h3, f.keep' h4 (fun e9 => hne g (by rw [e]; rfl) e9.symm) hT, h5⟩
end
end Go.Proofs.YtgdadidppelgdaaGreatDoor

namespace Go.Proofs.YtgdadidppelgdaaGreatDoor
open Go.RowKit

theorem text_crlf (x : ByteArray) : toBA (baL x ++ [13, 10]) = x ++ { data := #[13, 10] } := by rw [← toBA_app2, toBA_baL]; rfl
theorem own1_wf9 {W W' : World} {B ob base : Nat} {v : Value} {n : Nat} {A : Nat → Value} (h : Own1 W base 9 v n A) (f : WF B ob W W') (hne : ∀ g, v.ownBlock = some g → g ≠ ob) : Own1 W' base 9 v n A := by
  obtain ⟨ys, ho, hy⟩ := h
  exact ⟨ys, owns_wf ho f (by decide) hne, hy⟩
/-- What the lines do to the session at work. -/
structure PutS (X : Nat → Prop) (P B ob qb nb base : Nat) (s : SS) (ua ha pa qa da : Option Addr) (uc hc pc qc dc : Nat) (bv : Value) (R C : Int) (W W' : World) (ka : Option Addr) (kc : Nat) (L : List ByteArray) (bs : List Int) : Prop where
  box : W'.heap[P]? = some (.cells (lvC (sesC s (.slice ua s.un uc) (.slice ha s.kh.length hc) (.slice pa s.pn pc) (.slice qa s.qn qc) (.slice ka (s.ln + L.length) kc) (.slice da s.dn dc)) (lvW ob qb nb bv R C)) 85 (0, 0))
  own : W'.ownsRow base 9 1 (.slice ka (s.ln + L.length) kc) (s.ln + L.length) (logL s L)
  blk : ∀ g, (Value.slice ka (s.ln + L.length) kc).ownBlock = some g → X g ∨ W.heap.size ≤ g
  wr : WrS W' B ob qb nb bs
  fr : LF X P B ob W W'
set_option linter.unusedSimpArgs false in
set_option maxRecDepth 10000 in
set_option maxHeartbeats 8000000 in
theorem putLines_any (X : Nat → Prop) (P B ob qb nb base : Nat) (s : SS) (ua ha pa qa la da : Option Addr) (uc hc pc qc lc dc : Nat) (bv : Value) (R C : Int) (bs : List Int) (v : Value) (n : Nat) (tx : Nat → ByteArray) (W : World)
    (h0 : PutS X P B ob qb nb base s ua ha pa qa da uc hc pc qc dc bv R C W W la lc [] bs) (hb : base ≤ B)
    (hXX : ∀ g, X g → g ≠ P ∧ g ≠ ob ∧ g ≠ qb ∧ g ≠ nb ∧ g ≠ 4) (hne : P ≠ ob ∧ P ≠ qb ∧ P ≠ nb ∧ P ≠ 4 ∧ P < B)
    (hv : ∀ W', LF X P B ob W W' → Row1At W' v n (fun j => .string (tx j))) (hT : ∀ W', LF X P B ob W W' → Laid W')
    (hco : 2 ≤ s.cols) (hn : n ≤ 1048576) (hx : ∀ j, j < n → (tx j).size ≤ 1048576) (hs : slen tx n ≤ 67108864) (hln : s.ln ≤ 1048576) (hbs : bs.length ≤ 1048576) :
    Calls Tryz.prog 81 #[.pointer (some ⟨P, 0, none⟩), v] W fun e w' => ∃ ka kc, e = .returned (.tuple #[]) ∧ PutS X P B ob qb nb base s ua ha pa qa da uc hc pc qc dc bv R C W w' ka kc (linesR s.cols tx n) (bs ++ outR (linesR s.cols tx n)) := by
  obtain ⟨ic, hic, hc0, hc1, hc2⟩ := info_parts infoStrs
  obtain ⟨ao, ca, rfl, _⟩ := id (hv W (LF.refl _ _ _ _ _))
  have hBW := h0.wr.le
  have HX := hide hv
  have HT := hide hT
  have HZ := hide hx
  have H0 := hide h0
  have HXX := hide hXX
  have HNE := hide hne
  clear hv hT hx h0 hXX hne
  go_enter Tryz.func81, Tryz.ntmps81
  go_wp2
  go_loopw [11] (fun i wr => ∃ (k : Nat) (ka : Option Addr) (kc : Nat), k ≤ n ∧ i = .int .i64 k ∧ Hid (PutS X P B ob qb nb base s ua ha pa qa da uc hc pc qc dc bv R C W wr ka kc (linesR s.cols tx k) (bs ++ outR (linesR s.cols tx k)))) (fun i _ => n - (intOf i).toNat)
  case atStart => exact ⟨0, la, lc, Nat.zero_le _, rfl, hide (by have h := unhide H0; simpa [linesR, outR, outL] using h)⟩
  case round =>
    obtain ⟨k, ka, kc, hk, rfl, HS⟩ := hrel
    clear H0
    by_cases hlt : k < n
    · obtain ⟨ao', ca', e', _, hxa⟩ := (unhide HX) wr (unhide HS).fr
      obtain ⟨rfl, _, rfl⟩ := Value.slice.inj e'
      obtain ⟨b, off, hao, hc⟩ := hxa (by omega)
      subst hao
      have g1 := hc k hlt
      clear hc hxa e'
      have bk : (k : Int) < (n : Int) := by omega
      have hxk := (unhide HZ) k hlt
      have hbd := linesR_bd s.cols tx k
      have hbs9 := slen_le tx n (k + 1) (by omega)
      rw [slen] at hbs9
      have hbl := lineR_bd s.cols (tx k)
      rw [lineR_len] at hbl
      have hsm := cut_small (tx k) hxk
      have hol := outR_len (linesR s.cols tx k)
      have hnext : Hid (linesR s.cols tx (k + 1) = linesR s.cols tx k ++ lineR s.cols (tx k)) := rfl
      obtain ⟨M, hM⟩ : ∃ M, M = lineN s.cols (tx k) := ⟨_, rfl⟩
      rw [← hM] at hbl
      have hM1 : 1 ≤ M := by
        have h9 := (stF_ok (cutC (baL (tx k))) s.cols (cutC (baL (tx k))).length).one
        rw [hM]
        unfold lineN wrR
        rw [if_neg (by omega)]
        exact h9
      have HFIT := hide (fun i (_ : i < M) => lineC_fit s.cols (tx k) hxk i)
      have HTK := hide (fun i (hi : i < M) => lineR_take s.cols (tx k) i (by rw [← hM]; exact hi))
      have HAL : Hid ((lineR s.cols (tx k)).take M = lineR s.cols (tx k)) := hide (by rw [hM]; exact lineR_all _ _)
      have HLL : Hid ((lineR s.cols (tx k)).length = M) := hide (by rw [hM]; exact lineR_len _ _)
      have HMP : Hid (strL (fun i => trimS (lineT s.cols (tx k) i)) M = (lineR s.cols (tx k)).map (fun x => .string (trimS x))) := hide (by rw [strL_map, hM]; rfl)
      have HM2 : Hid (wrR (cutC (baL (tx k))) s.cols = M) := hide hM.symm
      have HSZ : Hid (∀ i, i < M → (lineT s.cols (tx k) i).size ≤ 9223372036854775807 ∧ lsz ((lineR s.cols (tx k)).take i) + (lineT s.cols (tx k) i).size ≤ 8 * (tx k).size + 4) := hide (fun i hi => by
        have h1 := lineR_take s.cols (tx k) i (by rw [← hM]; exact hi)
        have h2 : lsz ((lineR s.cols (tx k)).take (i + 1)) ≤ lsz (lineR s.cols (tx k)) := by
          have h3 := lsz_app ((lineR s.cols (tx k)).take (i + 1)) ((lineR s.cols (tx k)).drop (i + 1))
          rw [List.take_append_drop] at h3
          omega
        rw [h1, lsz_app] at h2
        simp only [lsz] at h2
        omega)
      obtain ⟨L, hL⟩ : ∃ L, L = linesR s.cols tx k := ⟨_, rfl⟩
      rw [← hL] at HS hnext hbd hol
      clear hL hM
      have hcC := hide (fun U (hU : Ext wr U) => clustersOf_any (baL (tx k)) (baL_bytes _) U (by rw [baL_len]; omega) ((unhide HT) U ((unhide HS).fr.ext hU)))
      simp only [toBA_baL] at hcC
      have hcW := hide (fun (v1 : Value) (rs1 : List Value) (b1 : Nat) (U : World) (o : OwnCls U b1 v1 rs1 (cutC (baL (tx k)))) => implWrap_any v1 (cutC (baL (tx k))) s.cols U o.cls hsm.1 hsm.2)
      rw [unhide HM2] at hcW
      have hcT := hide (fun (v2 : Value) (U : World) (o : CssAt U v2 M (wrC (cutC (baL (tx k))) s.cols)) => textsOf_any v2 M (wrC (cutC (baL (tx k))) s.cols) U o (by omega) (fun i hi => ((unhide HFIT) i hi).1) (fun i hi j _ => ((unhide HFIT) i hi).2 j))
      have k1 : wr.cell? ⟨P, 1, none⟩ = some (.int .i64 s.cols) := by rw [cell_of_row wr P 1 _ _ _ (unhide HS).box]; rfl
      go_upto_region 3 with fail
      go_region_held_law (fun W => W.cell? ⟨P, 1, none⟩ = some (.int .i64 s.cols)) (first | exact k1 | exact d0 | exact d1 | exact d2)
        (first
          | (go_at_call 110; refine ((unhide hcC) _ (Ext.refl wr).drew).mono ?_; rintro e w2 ⟨v2, rs2, rfl, o2, F2⟩; have E2 := (Ext.refl wr).drew.trans F2; have d0 := E2.cell k1; have O2 := hide o2; have HE2 := hide E2; clear o2 F2 E2)
          | (go_at_call 109; refine ((unhide hcW) _ _ _ _ (unhide O2)).mono ?_; rintro e w3 ⟨v3, rv3, rs3, rfl, o3, F3⟩; have E3 := (unhide HE2).trans F3; have d1 := E3.cell k1; have O3 := hide o3.reads; have HE3 := hide E3; clear o3 F3 E3)
          | (go_at_call 108; refine ((unhide hcT) _ _ (unhide O3)).mono ?_; rintro e w4 ⟨v4, rfl, o4, F4⟩; obtain ⟨a4, c4, rfl⟩ := o4.slice; have E4 := (unhide HE3).trans F4; have d2 := E4.cell k1; have HZ3 := hide (unhide HE3).size; have O4 := hide o4; have HE4 := hide E4; clear o4 F4 E4))
      have HS4 : Hid (PutS X P B ob qb nb base s ua ha pa qa da uc hc pc qc dc bv R C W w4 ka kc L (bs ++ outR L)) := hide ⟨(unhide HE4).kept (unhide HS).box, (unhide HE4).owns (unhide HS).own, (unhide HS).blk, (unhide HS).wr.on (unhide HE4), (unhide HS).fr.ext (unhide HE4)⟩
      have hz3 : W.heap.size ≤ w3.heap.size := by have h1 := (unhide HS).fr.1.size; have h2 := (unhide HE3).size; omega
      have HR4 : Hid (Own1 w4 w3.heap.size 9 (.slice a4 M c4) M (fun i => .string (lineT s.cols (tx k) i))) := O4
      clear HS O2 O3 O4 HE2 HE3 HE4 d0 d1 d2 k1 hcC hcW hcT hsm HT HX HZ g1 HFIT
      go_wp2
      go_loopw [26] (fun i wr => ∃ q : Nat, q ≤ M ∧ i = .int .i64 q ∧ Hid (WrS wr B ob qb nb (bs ++ outR (L ++ (lineR s.cols (tx k)).take q))) ∧ Hid (WF B ob w4 wr)) (fun i _ => M - (intOf i).toNat)
      case atStart => exact ⟨0, Nat.zero_le _, rfl, hide (by rw [List.take_zero, List.append_nil]; exact (unhide HS4).wr), hide (WF.refl _ _ _)⟩
      case round =>
        obtain ⟨q, hq, rfl, HW, HF⟩ := hrel
        have hob : ob < w3.heap.size := by have h1 := (unhide HS4).wr.ltb; omega
        have HR5 := hide (own1_wf9 (unhide HR4) (unhide HF) (fun g hg => by have h1 := ((unhide HR4).lt g hg).1; omega))
        have HB5 := hide ((unhide HF).keep' (unhide HS4).box (fun e => (unhide HNE).1 e.symm) (by decide))
        by_cases hlq : q < M
        · obtain ⟨ao3, ca3, e3, _, hx3⟩ := (unhide HR5).reads
          obtain ⟨rfl, _, rfl⟩ := Value.slice.inj e3
          obtain ⟨b3, o3, ha3, hc3⟩ := hx3 (by omega)
          subst ha3
          have g3 := hc3 q hlq
          clear hc3 hx3 e3
          have bq : (q : Int) < (M : Int) := by omega
          have k21 : wr.cell? ⟨P, 21, none⟩ = some (.func (.func 129) #[] #[.pointer (some ⟨ob, 0, none⟩)]) := by rw [cell_of_row wr P 21 _ _ _ (unhide HB5)]; rfl
          have hsq := (unhide HSZ) q hlq
          have hol2 : (outR (L ++ (lineR s.cols (tx k)).take q)).length = lsz L + lsz ((lineR s.cols (tx k)).take q) + 2 * (L.length + q) := by rw [outR_len, lsz_app, List.length_append, List.length_take, unhide HLL]; omega
          have hst : Hid (bs ++ outR (L ++ (lineR s.cols (tx k)).take (q + 1)) = bs ++ outR (L ++ (lineR s.cols (tx k)).take q) ++ (baL (lineT s.cols (tx k) q) ++ [13, 10])) := hide (by rw [(unhide HTK) q hlq, ← List.append_assoc, outR_snoc, List.append_assoc])
          have hbb : Bytes (baL (lineT s.cols (tx k) q) ++ [13, 10]) := fun x hx9 => by
            rcases List.mem_append.1 hx9 with h9 | h9
            · exact baL_bytes _ x h9
            · simp at h9; omega
          have hcX := hide (text_any (baL (lineT s.cols (tx k) q) ++ [13, 10]) hbb B ob qb nb _ wr (unhide HW) (by rw [List.length_append, List.length_append, hol2, baL_len]; simp; omega))
          rw [text_crlf, ← unhide hst] at hcX
          clear hbb hst
          go_wp2_with fail
          refine (unhide hcX).mono ?_
          rintro e w6 ⟨rfl, hS6, hF6⟩
          have HS6 := hide hS6
          have HF6 := hide ((unhide HF).tr hF6)
          clear hS6 hF6
          go_wp2
          go_roundw
          case rel => exact ⟨q + 1, by omega, by go_num, HS6, HF6⟩
          case measure => simp [intOf]; omega
        · obtain rfl : q = M := by omega
          have hb9 : ¬ (q : Int) < (q : Int) := by omega
          rw [unhide HAL, ← unhide hnext] at HW
          have HL5 := hide (owns_wf (unhide HS4).own (unhide HF) (by decide) (fun g hg e => by
            rcases (unhide HS4).blk g hg with h9 | h9
            · exact ((unhide HXX) g h9).2.1 e
            · have h1 := (unhide HS4).wr.ltb; omega))
          have HLF := hide ((unhide HS4).fr.wf (unhide HF))
          have HBK := hide (unhide HS4).blk
          have y15 : wr.cell? ⟨P, 15, none⟩ = some (.slice ka (s.ln + L.length) kc) := by rw [cell_of_row wr P 15 _ _ _ (unhide HB5)]; rfl
          have hcA := hide (fun U (hU : Ext wr U) => asShown_any (.slice a4 q c4) q (fun i => lineT s.cols (tx k) i) U (((unhide HR5).ext hU).reads) (by omega) (fun j hj => ((unhide HSZ) j hj).1))
          have hz5 := (unhide HF).1.size
          have hz4 := (unhide HS4).fr.1.size
          have hbw : ob < B ∧ qb < B ∧ nb < B ∧ 4 < ob := ⟨(unhide HW).ltb, (unhide HW).ltq, (unhide HW).ltn, (unhide HW).lo⟩
          have hlk : Hid (∀ g, (Value.slice ka (s.ln + L.length) kc).ownBlock = some g → g ≠ P ∧ g ≠ ob ∧ g ≠ qb ∧ g ≠ nb ∧ g ≠ 4) := hide (fun g hg => by
            rcases (unhide HBK) g hg with h9 | h9
            · exact (unhide HXX) g h9
            · have h1 := (unhide HNE).2.2.2.2; refine ⟨?_, ?_, ?_, ?_, ?_⟩ <;> omega)
          have hlen : Hid (s.ln + (linesR s.cols tx (k + 1)).length = s.ln + L.length + q) := hide (by rw [unhide hnext, List.length_append, unhide HLL]; omega)
          have hlog : Hid (logL s L ++ strL (fun i => trimS (lineT s.cols (tx k) i)) q = logL s (linesR s.cols tx (k + 1))) := hide (by rw [unhide HMP, unhide hnext, logL_app])
          clear HR4 HR5 HS4 HF HSZ HTK HLL HAL hnext HMP
          go_upto_region 9 with fail
          go_region_law (first
            | (go_simp; go_at_call 101; refine ((unhide hcA) _ (Ext.refl wr).drew).mono ?_; rintro e w7 ⟨v7, rfl, o7, F7⟩; obtain ⟨ys7, oy7, hy7⟩ := id o7; obtain ⟨g7, c7, rfl, _⟩ := oy7.form (by omega); have E7 : Ext wr w7 := (Ext.refl wr).drew.trans F7; have z7 := E7.size; have x7 := E7.cell y15; have NW7 := hide (strL_news (tx := fun i => trimS (lineT s.cols (tx k) i)) o7.reads); clear o7 oy7 hy7 F7)
            | (refine step_append_lies _ (by rfl) _ _ _ (by rfl) base 9 ic _ 1 16 Tryz.underlying28 hic hc0 hc1 hc2 rfl (by omega) (.slice ka (s.ln + L.length) kc) (s.ln + L.length) (logL s L) (by rfl) (by first | exact E7.owns (unhide HL5) | exact (E7.owns (unhide HL5)).drew)
                 ⟨g7, 0, none⟩ q c7 (strL (fun i => trimS (lineT s.cols (tx k) i)) q) (by rfl) (strL_len _ _) (unhide NW7) strL_one
                 (by omega) (by unfold maxLen; omega) (by omega) (by omega) w7.heap.size (by rfl) ?_
               intro g8 c8 w8 o8 G8 hat hlt8
               have X8 := Fr.grown (S := fun q => (Value.slice ka (s.ln + L.length) kc).ownBlock = some q) (w := w7) (Fr.refl _ _) G8 (fun q hq => hq)
               rw [unhide hlog] at o8
               have hb8 := X8.kept (E7.kept (unhide HB5)) (fun hq => ((unhide hlk) _ hq).1 rfl)
               have y8 : w8.cell? ⟨P, 15, none⟩ = some (.slice ka (s.ln + L.length) kc) := by rw [cell_of_row w8 P 15 _ _ _ hb8]; rfl
               have f8 : w8.frozen? ⟨P, 15, none⟩ = false := Lib.frozen_of_heap hb8 15
               have HW8 := hide (((unhide HW).on E7).log X8 (fun g hg => ⟨((unhide hlk) g hg).2.1, ((unhide hlk) g hg).2.2.1, ((unhide hlk) g hg).2.2.2.1, ((unhide hlk) g hg).2.2.2.2, fun c e9 => by obtain ⟨c9, k9⟩ := owns_kind (E7.owns (unhide HL5)) hg; rw [e9] at k9; injection k9 with k9; injection k9 with _ k9; exact absurd k9 (by decide)⟩))
               have HF8 := hide (((unhide HLF).ext E7).grown G8 hBW (unhide HBK))
               have HO8 := hide o8
               have HB8 := hide hb8
               have HAT := hide hat
               clear X8 o8 G8 hb8 hat))
          all_goals
            go_wp2
            go_roundw
            case rel =>
              refine ⟨k + 1, some ⟨g8, 0, none⟩, c8, by omega, by go_num, hide ⟨?_, ?_, ?_, ?_, (unhide HF8).set 15 _⟩⟩
              · rw [unhide hlen]; exact set_blk2 (unhide HB8) rfl
              · rw [unhide hlen]
                refine owns_setCell (unhide HO8) (fun e9 => ?_) _
                have h9 : g8 = P := by simpa [Value.ownBlock] using e9
                rcases unhide HAT with h1 | h1
                · exact ((unhide hlk) g8 h1).1 h9
                · have h2 := (unhide HNE).2.2.2.2; omega
              · rw [unhide hlen]
                intro g hg
                have h9 : g = g8 := by simpa [Value.ownBlock] using hg.symm
                subst h9
                rcases unhide HAT with h1 | h1
                · exact (unhide HBK) g h1
                · right; omega
              · exact (unhide HW8).frP (S := fun g => g = P) (Fr.setCell (S := fun g => g = P) (Fr.refl _ _) rfl _) (fun g hg => by subst hg; have h9 := unhide HNE; exact ⟨h9.1, h9.2.1, h9.2.2.1, h9.2.2.2.1, h9.2.2.2.2⟩)
            case measure => simp [intOf]; omega
    · obtain rfl : k = n := by omega
      have hb9 : ¬ (k : Int) < (k : Int) := by omega
      go_wp2
      exact bodyPost_end (v := .tuple #[]) (by simp [results, Tryz.results81, go_sem]) rfl ⟨rfl, ka, kc, unhide HS⟩
end Go.Proofs.YtgdadidppelgdaaGreatDoor

namespace Go.Proofs.YtgdadidppelgdaaGreatDoor
open Go.RowKit

/-- What a call of a session at work leaves: the answers, the session in its box, all owned and apart. -/
def LiveR (Rel : SS → List Int → Int → Prop) (w0 w : World) (P : Nat) (e : Ending) (w' : World) : Prop :=
  ∃ v zs s' cd u h p q l d r, e = .returned (.tuple #[v, .int .i64 cd]) ∧ Rel s' zs cd ∧ w'.ownsRow w0.heap.size 5 1 v zs.length (zs.map (Value.int .u8)) ∧ OwnSes w' w0.heap.size s' u h p q l d ∧ w'.heap[P]? = some (.cells (lvC (sesC s' u h p q l d) r) 85 (0, 0)) ∧ (∀ g, SesFoot u h p q l d g → v.ownBlock ≠ some g) ∧ Fr (fun g => w0.heap.size ≤ g) w w'
/-- A session with another queue and another log. -/
theorem OwnSes.ql {w w' : World} {b : Nat} {s : SS} {u h p q l d q' l' : Value} {S : Nat → Prop} (H : OwnSes w b s u h p q l d) (F : Fr S w w') (hS : ∀ g, u.ownBlock = some g ∨ h.ownBlock = some g ∨ p.ownBlock = some g ∨ d.ownBlock = some g → ¬ S g)
    (st : Bool) (qn : Nat) (qt : Nat → ByteArray) (ln : Nat) (lt : Nat → ByteArray) (hq : Own1 w' b 9 q' qn (fun j => .string (qt j))) (hl : Own1 w' b 9 l' ln (fun j => .string (lt j)))
    (hqa : ∀ g, q'.ownBlock = some g → q.ownBlock = some g ∨ w.heap.size ≤ g) (hla : ∀ g, l'.ownBlock = some g → l.ownBlock = some g ∨ w.heap.size ≤ g) (hql : Apart q' l') :
    OwnSes w' b { s with st := st, qn := qn, qt := qt, ln := ln, lt := lt } u h p q' l' d := by
  obtain ⟨⟨a1, a2, a3, a4, a5⟩, ⟨b2, b3, b4, b5⟩, ⟨c3, c4, c5⟩, ⟨d4, d5⟩, e5⟩ := pw6 H.ap
  have f : ∀ g, SesFoot u h p q l d g → g < w.heap.size := fun g hg => (H.foot hg).2
  have kq : ∀ {x : Value}, Apart x q → (∀ g, x.ownBlock = some g → g < w.heap.size) → Apart x q' := fun hx hb g h1 h2 => by
    rcases hqa g h2 with h3 | h3
    · exact hx g h1 h3
    · have := hb g h1; omega
  have kl : ∀ {x : Value}, Apart x l → (∀ g, x.ownBlock = some g → g < w.heap.size) → Apart x l' := fun hx hb g h1 h2 => by
    rcases hla g h2 with h3 | h3
    · exact hx g h1 h3
    · have := hb g h1; omega
  have sy : ∀ {x y : Value}, Apart x y → Apart y x := fun hx g h1 h2 => hx g h2 h1
  have fu : ∀ g, u.ownBlock = some g → g < w.heap.size := fun g hg => f g (.inl hg)
  have fh : ∀ g, h.ownBlock = some g → g < w.heap.size := fun g hg => f g (.inr (.inl hg))
  have fp : ∀ g, p.ownBlock = some g → g < w.heap.size := fun g hg => f g (.inr (.inr (.inl hg)))
  have fd : ∀ g, d.ownBlock = some g → g < w.heap.size := fun g hg => f g (.inr (.inr (.inr (.inr (.inr hg)))))
  refine ⟨H.un.fr F (fun g hg => hS g (.inl hg)), F.owns H.kh (fun g hg => hS g (.inr (.inl hg))), H.pa.fr F (fun g hg => hS g (.inr (.inr (.inl hg)))), hq, hl, H.dn.fr F (fun g hg => hS g (.inr (.inr (.inr hg)))), ?_⟩
  simp only [List.pairwise_cons, List.mem_cons, List.not_mem_nil, or_false, forall_eq_or_imp, forall_eq, false_implies, implies_true, and_true, List.Pairwise.nil]
  exact ⟨⟨a1, a2, kq a3 fu, kl a4 fu, a5⟩, ⟨b2, kq b3 fh, kl b4 fh, b5⟩, ⟨kq c3 fp, kl c4 fp, c5⟩, ⟨hql, sy (kq (sy d5) fd)⟩, sy (kl (sy e5) fd)⟩
end Go.Proofs.YtgdadidppelgdaaGreatDoor

namespace Go.Proofs.YtgdadidppelgdaaGreatDoor
open Go.RowKit

/-- The rows of the lines that wait. -/
def SS.rowsQ (s : SS) : List ByteArray := linesR s.cols s.qt s.qn
/-- A session that goes on. -/
def SS.cont (s : SS) : SS := { s.keep s.rowsQ with st := false, qn := 0 }
/-- What is written when it goes on. -/
def SS.contZ (s : SS) : List Int := outR s.rowsQ ++ s.paint
theorem own1_lf {X : Nat → Prop} {P B ob base : Nat} {W W' : World} {v : Value} {n : Nat} {A : Nat → Value} (h : Own1 W base 9 v n A) (f : LF X P B ob W W') (hne : ∀ g, v.ownBlock = some g → g ≠ P ∧ g ≠ ob ∧ ¬ X g) : Own1 W' base 9 v n A := by
  obtain ⟨ys, ho, hy⟩ := h
  refine ⟨ys, ?_, hy⟩
  obtain ⟨h1, h2⟩ := ho
  refine ⟨h1, ?_⟩
  rcases h2 with h2 | ⟨g, cap, cur, e, h3, h4, h5⟩
  · exact .inl h2
  · have h6 := hne g (by rw [e]; rfl)
    exact .inr ⟨g, cap, cur, e, h3, f.2 g _ _ _ h4 h6.1 h6.2.1 h6.2.2 (by decide), h5⟩
theorem own1_strL {w : World} {base : Nat} {v : Value} {n : Nat} {tx : Nat → ByteArray} (h : Own1 w base 9 v n (fun j => .string (tx j))) : w.ownsRow base 9 1 v n (strL tx n) := by
  obtain ⟨ys, ho, hy⟩ := h
  have e : ys = strL tx n := by
    apply List.ext_getElem?
    intro j
    by_cases hj : j < n
    · rw [hy j hj, strL_at _ _ _ hj]
    · rw [List.getElem?_eq_none (by have := ho.1; omega), List.getElem?_eq_none (by rw [strL_len]; omega)]
  rw [← e]
  exact ho
theorem slen_of (tx : Nat → ByteArray) (b : Nat) : ∀ n, (∀ j, j < n → (tx j).size ≤ b) → slen tx n ≤ n * b
  | 0, _ => by simp [slen]
  | n + 1, h => by
    have h1 := slen_of tx b n (fun j hj => h j (by omega))
    have h2 := h n (by omega)
    rw [slen, Nat.add_mul]
    omega
/-- What waits is small. -/
theorem queue_small {s : SS} (hz : s.Sz) (hok : SesP s) : s.qn ≤ 20 ∧ slen s.qt s.qn ≤ 20971520 := by
  have h1 : s.qn ≤ 20 := by
    have h := hok.2.2.2.2.2.1
    unfold QueueP at h
    split at h
    · exact h.1
    · omega
  have h2 := slen_of s.qt 1048576 s.qn hz.qt
  refine ⟨h1, ?_⟩
  have h3 : s.qn * 1048576 ≤ 20 * 1048576 := Nat.mul_le_mul_right _ h1
  omega
/-- What a frame that goes on leaves. -/
def ContOk (s : SS) (base H : Nat) (ua ha pa la da : Option Addr) (uc hc pc lc dc : Nat) (sc : Array Value) (bs : List Int) (W : World) : Prop :=
  s.st = true ∧ ∃ ka kc, sc = (sesC s.cont (.slice ua s.un uc) (.slice ha s.kh.length hc) (.slice pa s.pn pc) (.slice none 0 0) (.slice ka s.cont.ln kc) (.slice da s.dn dc)) ∧ Own1 W base 9 (.slice ka s.cont.ln kc) s.cont.ln (fun i => .string (s.cont.lt i)) ∧ (∀ g, (Value.slice ka s.cont.ln kc).ownBlock = some g → (Value.slice la s.ln lc).ownBlock = some g ∨ H ≤ g) ∧ bs = s.contZ
set_option linter.unusedSimpArgs false in
set_option maxRecDepth 10000 in
set_option maxHeartbeats 8000000 in
/-- The work of going on. -/
theorem resume1_any (P lb : Nat) (s : SS) (ua ha pa qa la da : Option Addr) (uc hc pc qc lc dc : Nat) (n : Nat) (R : Int) (C : Int) (B ob qb nb base H : Nat) (bva : Option Addr) (bvc : Nat) (W : World) (hn : n = s.blk.n) (hR : R = (s.blk.R : Int)) (hC : C = s.blk.C)
    (hbx : W.heap[lb]? = some (.cells #[.pointer (some ⟨P, 0, none⟩)] 66 (0, 0))) (hne : lb ≠ P ∧ lb ≠ ob ∧ lb < B ∧ P ≠ ob ∧ P < B ∧ P ≠ qb ∧ P ≠ nb ∧ P ≠ 4 ∧ base ≤ B ∧ H ≤ W.heap.size)
    (hXX : ∀ g, (Value.slice la s.ln lc).ownBlock = some g → g ≠ P ∧ g ≠ ob ∧ g ≠ qb ∧ g ≠ nb ∧ g ≠ 4 ∧ g ≠ lb ∧ g < B) (hQQ : ∀ g, (Value.slice qa s.qn qc).ownBlock = some g → g ≠ P ∧ g ≠ ob)
    (hO : OwnSes W base s (.slice ua s.un uc) (.slice ha s.kh.length hc) (.slice pa s.pn pc) (.slice qa s.qn qc) (.slice la s.ln lc) (.slice da s.dn dc)) (hz : s.Sz) (hok : SesP s) (hT : ∀ W', Fr (fun q => q = P ∨ (fun g => (Value.slice la s.ln lc).ownBlock = some g) q ∨ WS B ob q) W W' → Tabs3 W')
    (hP : W.heap[P]? = some (.cells (lvC (sesC s (.slice ua s.un uc) (.slice ha s.kh.length hc) (.slice pa s.pn pc) (.slice qa s.qn qc) (.slice la s.ln lc) (.slice da s.dn dc)) (lvW ob qb nb (.slice bva n bvc) R C)) 85 (0, 0))) (hW : WrS W B ob qb nb []) (hb : Own1 W B 9 (.slice bva n bvc) n (fun i => .string (s.blk.tx i))) :
    Calls Tryz.prog 80 #[.pointer (some ⟨lb, 0, none⟩)] W fun e w' => WorkX (fun g => (Value.slice la s.ln lc).ownBlock = some g) P B ob qb nb (.slice bva n bvc) R C (ContOk s base H ua ha pa la da uc hc pc lc dc) (fun c => s.st = false ∧ c = 3) W e w' := by
  have k0 : W.cell? ⟨lb, 0, none⟩ = some (.pointer (some ⟨P, 0, none⟩)) := cells_of hbx 0 _ rfl
  have k13 : W.cell? ⟨P, 13, none⟩ = some (.bool s.st) := by rw [cell_of_row W P 13 _ _ _ hP]; rfl
  have k14 : W.cell? ⟨P, 14, none⟩ = some (.slice qa s.qn qc) := by rw [cell_of_row W P 14 _ _ _ hP]; rfl
  obtain ⟨c2, _⟩ : 2 ≤ s.cols ∧ True := ⟨by have h := sizeB_open hok.2.1; obtain ⟨cn, rn, ec, er, n2, _⟩ := h; omega, trivial⟩
  have hsq := queue_small hz hok
  have hbd := linesR_bd s.cols s.qt s.qn
  have hol := outR_len s.rowsQ
  unfold SS.rowsQ at hol
  have hcP := hide (fun U (hU : Ext W U) => putLines_any (fun g => (Value.slice la s.ln lc).ownBlock = some g) P B ob qb nb base s ua ha pa qa la da uc hc pc qc lc dc (.slice bva n bvc) R C [] (.slice qa s.qn qc) s.qn s.qt U ⟨hU.kept hP, by rw [show logL s [] = strL s.lt s.ln by simp [logL]]; exact own1_strL (hO.lo.ext hU), fun g hg => .inl hg, hW.on hU, LF.refl _ _ _ _ _⟩ hne.2.2.2.2.2.2.2.2.1 (fun g hg => ⟨(hXX g hg).1, (hXX g hg).2.1, (hXX g hg).2.2.1, (hXX g hg).2.2.2.1, (hXX g hg).2.2.2.2.1⟩) ⟨hne.2.2.2.1, hne.2.2.2.2.2.1, hne.2.2.2.2.2.2.1, hne.2.2.2.2.2.2.2.1, hne.2.2.2.2.1⟩
    (fun W' f => (own1_lf (hO.qu.ext hU) f (fun g hg => ⟨(hQQ g hg).1, (hQQ g hg).2, fun e => (pw6 hO.ap).2.2.2.1.1 g hg e⟩)).reads) (fun W' f => (hT W' ((Fr.of_ext hU).tr f.1)).1) c2 (by omega) hz.qt (by omega) (by have := hz.ln; omega) (by simp))
  have HPO := hide hP
  have HW := hide hW
  have HB := hide hb
  have HBX := hide hbx
  have HNE := hide hne
  have HXX := hide hXX
  have hobk := s.blk_ok hok.2.1
  have hcE := hide (fun W' (bs : List Int) (hl : bs.length ≤ 1073741824) (hS : WrS W' B ob qb nb bs) (hr : Row1At W' (.slice bva n bvc) n (fun i => .string (s.blk.tx i))) => paintM_any (.slice bva n bvc) R C n s.blk.tx (by rw [hn, hR, hC]; exact hobk) B ob qb nb bs W' hS hr (by rw [hn]; have := (s.blk_lt hok.2.1).2; omega) (by rw [hn]; have := s.blk_slen_big hz.pr hz.la hz.lb hok.2.1; omega) hl)
  have hpt : Hid (paintL n s.blk.tx R C = s.paint) := hide (by rw [hn, hR, hC]; rfl)
  unfold wrV blV at hcE
  clear hP hW hb hbx hne hXX hQQ hO hT hn hR hC hobk
  obtain ⟨st, hst⟩ : ∃ st, s.st = st := ⟨_, rfl⟩
  rw [hst] at k13
  have HST := hide hst
  clear hst
  cases st with
  | false =>
    go_enter Tryz.func80, Tryz.ntmps80
    go_wp2_with fail
    refine (require_no 3 W).mono ?_
    rintro e w6 ⟨rfl, rfl⟩
    refine ⟨rfl, .inr ⟨3, _, rfl, rfl, unhide HPO, ⟨unhide HST, rfl⟩, Fr.refl _ _⟩⟩
  | true =>
    go_enter Tryz.func80, Tryz.ntmps80
    go_wp2_with fail
    refine (require_yes 3 W).mono ?_
    rintro e w6 ⟨rfl, rfl⟩
    go_upto_region 1 with fail
    refine wp_region_held_drew (S := fun W => W.heap[lb]? = some (.cells #[.pointer (some ⟨P, 0, none⟩)] 66 (0, 0)) ∧ W.cell? ⟨P, 14, none⟩ = some (.slice qa s.qn qc)) (by kernel_rfl) ⟨unhide HBX, k14⟩ (fun hHeld => ?_)
    refine wpAnyH_take (i := 0) (v := .pointer (some ⟨P, 0, none⟩)) rfl (by kernel_rfl) (by kernel_rfl) (by kernel_rfl) (fun _ _ _ h => h) (Or.inl ⟨by rfl, ?_⟩) (by assumption) ?_
    · intro w' hSw; have k9 := cells_of hSw.1 0 _ rfl; go_simp <;> with_reducible rfl
    simp only [Act.put, List.getElem_toArray, List.getElem_cons_succ, List.getElem_cons_zero, List.setIfInBounds_toArray, List.set_cons_zero, List.set_cons_succ]
    refine wpAnyH_take (i := 1) (v := .pointer (some ⟨P, 0, none⟩)) rfl (by kernel_rfl) (by kernel_rfl) (by kernel_rfl) (fun _ _ _ h => h) (Or.inl ⟨by rfl, ?_⟩) (by assumption) ?_
    · intro w' hSw; have k9 := cells_of hSw.1 0 _ rfl; go_simp <;> with_reducible rfl
    simp only [Act.put, List.getElem_toArray, List.getElem_cons_succ, List.getElem_cons_zero, List.setIfInBounds_toArray, List.set_cons_zero, List.set_cons_succ]
    refine wpAnyH_take (i := 2) (v := .pointer (some ⟨P, 0, none⟩)) rfl (by kernel_rfl) (by kernel_rfl) (by kernel_rfl) (fun _ _ _ h => h) (Or.inl ⟨by rfl, ?_⟩) (by assumption) ?_
    · intro w' hSw; go_simp <;> with_reducible rfl
    simp only [Act.put, List.getElem_toArray, List.getElem_cons_succ, List.getElem_cons_zero, List.setIfInBounds_toArray, List.set_cons_zero, List.set_cons_succ]
    refine wpAnyH_take (i := 3) (v := .pointer (some ⟨P, 0, none⟩)) rfl (by kernel_rfl) (by kernel_rfl) (by kernel_rfl) (fun _ _ _ h => h) (Or.inl ⟨by rfl, ?_⟩) (by assumption) ?_
    · intro w' hSw; go_simp <;> with_reducible rfl
    simp only [Act.put, List.getElem_toArray, List.getElem_cons_succ, List.getElem_cons_zero, List.setIfInBounds_toArray, List.set_cons_zero, List.set_cons_succ]
    refine wpAnyH_take (i := 4) (v := .pointer (some ⟨P, 14, none⟩)) rfl (by kernel_rfl) (by kernel_rfl) (by kernel_rfl) (fun _ _ _ h => h) (Or.inl ⟨by rfl, ?_⟩) (by assumption) ?_
    · intro w' hSw; go_simp <;> with_reducible rfl
    simp only [Act.put, List.getElem_toArray, List.getElem_cons_succ, List.getElem_cons_zero, List.setIfInBounds_toArray, List.set_cons_zero, List.set_cons_succ]
    refine wpAnyH_take (i := 5) (v := .slice qa s.qn qc) rfl (by kernel_rfl) (by kernel_rfl) (by kernel_rfl) (fun _ _ _ h => h) (Or.inl ⟨by rfl, ?_⟩) (by assumption) ?_
    · intro w' hSw; have k8 := hSw.2; go_simp <;> with_reducible rfl
    simp only [Act.put, List.getElem_toArray, List.getElem_cons_succ, List.getElem_cons_zero, List.setIfInBounds_toArray, List.set_cons_zero, List.set_cons_succ]
    refine wpAnyH_ready (rs := [6]) (by kernel_rfl) (by simp) ?_
    refine AllReadyH.cons rfl (fun K hK => ?_) AllReadyH.nil
    go_simp
    go_wp2_with (go_at_call 81; refine ((unhide hcP) _ (Ext.refl w6).drew).mono ?_; rintro e X1 ⟨ka, kc, rfl, hS1⟩; have HS1 := hide hS1; clear hS1)
    have HBX1 := hide ((unhide HS1).fr.2 _ _ _ _ ((Ext.refl w6).drew.kept (unhide HBX)) (unhide HNE).1 (unhide HNE).2.1 (fun e9 => ((unhide HXX) lb e9).2.2.2.2.2.1 rfl) (by decide))
    refine hK.out _ _ ⟨unhide HBX1, by rw [cell_of_row X1 P 14 _ _ _ (unhide HS1).box]; rfl⟩ (fun hHeld => ?_)
    clear hK K
    refine wpAnyH_done (by kernel_rfl) ?_ _
    have HX1 : Hid (X1.heap[P]? = some (.cells (lvC (sesC s (.slice ua s.un uc) (.slice ha s.kh.length hc) (.slice pa s.pn pc) (.slice qa s.qn qc) (.slice ka s.cont.ln kc) (.slice da s.dn dc)) (lvW ob qb nb (.slice bva n bvc) R C)) 85 (0, 0))) := hide (unhide HS1).box
    have j0 : X1.cell? ⟨lb, 0, none⟩ = some (.pointer (some ⟨P, 0, none⟩)) := cells_of (unhide HBX1) 0 _ rfl
    have e13 : X1.cell? ⟨P, 13, none⟩ = some (.bool s.st) := by rw [cell_of_row X1 P 13 _ _ _ (unhide HX1)]; rfl
    have e14 : ∀ v, (X1.setCell ⟨P, 13, none⟩ v).cell? ⟨P, 14, none⟩ = some (.slice qa s.qn qc) := fun v => by rw [cell_of_row _ P 14 _ _ _ (set_blk (unhide HX1))]; rfl
    have g1 : ∀ i, X1.frozen? ⟨P, i, none⟩ = false := fun i => Lib.frozen_of_heap (unhide HX1) i
    obtain ⟨V, hV⟩ : ∃ V, V = (X1.setCell ⟨P, 13, none⟩ (.bool false)).setCell ⟨P, 14, none⟩ (.slice none 0 0) := ⟨_, rfl⟩
    have FV : Fr (fun q => q = P) X1 V := by rw [hV]; exact Fr.setCell (S := fun q => q = P) (Fr.setCell (S := fun q => q = P) (Fr.refl _ _) (a := ⟨P, 13, none⟩) rfl _) (a := ⟨P, 14, none⟩) rfl _
    have HPV : Hid (V.heap[P]? = some (.cells (lvC (sesC s.cont (.slice ua s.un uc) (.slice ha s.kh.length hc) (.slice pa s.pn pc) (.slice none 0 0) (.slice ka s.cont.ln kc) (.slice da s.dn dc)) (lvW ob qb nb (.slice bva n bvc) R C)) 85 (0, 0))) := hide (by rw [hV]; exact set_blk2 (set_blk2 (cs' := lvC (sesC { s with st := false } (.slice ua s.un uc) (.slice ha s.kh.length hc) (.slice pa s.pn pc) (.slice qa s.qn qc) (.slice ka s.cont.ln kc) (.slice da s.dn dc)) (lvW ob qb nb (.slice bva n bvc) R C)) (unhide HX1) rfl) rfl)
    have HWV := hide ((unhide HS1).wr.frP FV (fun g hg => by subst hg; have h := unhide HNE; exact ⟨h.2.2.2.1, h.2.2.2.2.2.1, h.2.2.2.2.2.2.1, h.2.2.2.2.2.2.2.1, h.2.2.2.2.1⟩))
    have hnP : Hid (∀ g, (Value.slice ka s.cont.ln kc).ownBlock = some g → g ≠ P ∧ g ≠ ob) := hide (fun g hg => by
      rcases (unhide HS1).blk g hg with h9 | h9
      · exact ⟨((unhide HXX) g h9).1, ((unhide HXX) g h9).2.1⟩
      · have h1 := (unhide HW).le; have h2 := (unhide HW).ltb; have h3 := (unhide HNE).2.2.2.2.1; have h4 : w6.heap.size ≤ g := h9; constructor <;> omega)
    have HLV : Hid (Own1 V base 9 (.slice ka s.cont.ln kc) s.cont.ln (fun i => .string (s.cont.lt i))) := hide (by
      have h1 := (unhide HS1).own
      rw [logL_keep] at h1
      have h2 : Own1 X1 base 9 (.slice ka s.cont.ln kc) s.cont.ln (fun i => .string (s.cont.lt i)) := own_strL h1
      exact h2.fr FV (fun g hg e => ((unhide hnP) g hg).1 e))
    have HBV := hide ((own1_lf ((unhide HB).ext (Ext.refl w6).drew) (unhide HS1).fr (fun g hg => by have h1 := ((unhide HB).lt g hg).1; have h2 := (unhide HW).ltb; have h3 := (unhide HNE).2.2.2.2.1; exact ⟨by omega, by omega, fun e => by have h4 := ((unhide HXX) g e).2.2.2.2.2.2; omega⟩)).fr FV (fun g hg e => by subst e; have h1 := ((unhide HB).lt g hg).1; have h := (unhide HNE).2.2.2.2.1; omega))
    have HFV : Hid (Fr (fun q => q = P ∨ (fun g => (Value.slice la s.ln lc).ownBlock = some g) q ∨ WS B ob q) w6 V) := hide (((Fr.of_ext (Ext.refl w6).drew).tr (unhide HS1).fr.1).tr (FV.mono (fun q hq => .inl hq)))
    have HBK := hide (unhide HS1).blk
    have HBXV := hide (FV.kept (unhide HBX1) (unhide HNE).1)
    have kv0 : V.cell? ⟨lb, 0, none⟩ = some (.pointer (some ⟨P, 0, none⟩)) := cells_of (unhide HBXV) 0 _ rfl
    have HV := hide hV
    clear hV FV HS1 HX1 HBX1
    go_upto_region 3 with fail
    rw [← unhide HV]
    clear HV kv0 k0 k13 k14 e13 e14 g1 j0
    refine wp_region_held_drew (S := fun W => W.heap[lb]? = some (.cells #[.pointer (some ⟨P, 0, none⟩)] 66 (0, 0)) ∧ W.heap[P]? = some (.cells (lvC (sesC s.cont (.slice ua s.un uc) (.slice ha s.kh.length hc) (.slice pa s.pn pc) (.slice none 0 0) (.slice ka s.cont.ln kc) (.slice da s.dn dc)) (lvW ob qb nb (.slice bva n bvc) R C)) 85 (0, 0))) (by kernel_rfl) ⟨unhide HBXV, unhide HPV⟩ (fun hHeld => ?_)
    refine wpAnyH_take (i := 0) (v := .pointer (some ⟨P, 0, none⟩)) rfl (by kernel_rfl) (by kernel_rfl) (by kernel_rfl) (fun _ _ _ h => h) (Or.inl ⟨by rfl, ?_⟩) (by assumption) ?_
    · intro w' hSw; have k9 := cells_of hSw.1 0 _ rfl; go_simp <;> with_reducible rfl
    simp only [Act.put, List.getElem_toArray, List.getElem_cons_succ, List.getElem_cons_zero, List.setIfInBounds_toArray, List.set_cons_zero, List.set_cons_succ]
    refine wpAnyH_take (i := 1) (v := .pointer (some ⟨P, 0, none⟩)) rfl (by kernel_rfl) (by kernel_rfl) (by kernel_rfl) (fun _ _ _ h => h) (Or.inl ⟨by rfl, ?_⟩) (by assumption) ?_
    · intro w' hSw; go_simp <;> with_reducible rfl
    simp only [Act.put, List.getElem_toArray, List.getElem_cons_succ, List.getElem_cons_zero, List.setIfInBounds_toArray, List.set_cons_zero, List.set_cons_succ]
    refine wpAnyH_take (i := 2) (v := .pointer (some ⟨P, 21, none⟩)) rfl (by kernel_rfl) (by kernel_rfl) (by kernel_rfl) (fun _ _ _ h => h) (Or.inl ⟨by rfl, ?_⟩) (by assumption) ?_
    · intro w' hSw; go_simp <;> with_reducible rfl
    simp only [Act.put, List.getElem_toArray, List.getElem_cons_succ, List.getElem_cons_zero, List.setIfInBounds_toArray, List.set_cons_zero, List.set_cons_succ]
    refine wpAnyH_take (i := 3) (v := .agg #[.func (.func 129) #[] #[.pointer (some ⟨ob, 0, none⟩)], .func (.func 130) #[] #[.pointer (some ⟨nb, 0, none⟩)], .func (.func 131) #[] #[.pointer (some ⟨nb, 0, none⟩)], .func (.func 132) #[] #[.pointer (some ⟨qb, 0, none⟩)], .func (.func 133) #[] #[.pointer (some ⟨ob, 0, none⟩)]]) rfl (by kernel_rfl) (by kernel_rfl) (by kernel_rfl) (fun _ _ _ h => h) (Or.inl ⟨by rfl, ?_⟩) (by assumption) ?_
    · intro w' hSw; exact yields_load_part 83 _ rfl P 21 rfl _ _ #[.func (.func 129) #[] #[.pointer (some ⟨ob, 0, none⟩)], .func (.func 130) #[] #[.pointer (some ⟨nb, 0, none⟩)], .func (.func 131) #[] #[.pointer (some ⟨nb, 0, none⟩)], .func (.func 132) #[] #[.pointer (some ⟨qb, 0, none⟩)], .func (.func 133) #[] #[.pointer (some ⟨ob, 0, none⟩)]] _ _ hSw.2 (fun j v hj => by have h9 := lvC_at (sc := (sesC s.cont (.slice ua s.un uc) (.slice ha s.kh.length hc) (.slice pa s.pn pc) (.slice none 0 0) (.slice ka s.cont.ln kc) (.slice da s.dn dc))) (r := (lvW ob qb nb (.slice bva n bvc) R C)) rfl (4 + j); rw [show 17 + (4 + j) = 21 + j by omega] at h9; rw [h9]; match j, hj with | 0, hj => exact hj | 1, hj => exact hj | 2, hj => exact hj | 3, hj => exact hj | 4, hj => exact hj | j + 5, hj => simp at hj) Tryz.underlying83 rfl infoWrs
    simp only [Act.put, List.getElem_toArray, List.getElem_cons_succ, List.getElem_cons_zero, List.setIfInBounds_toArray, List.set_cons_zero, List.set_cons_succ]
    refine wpAnyH_take (i := 4) (v := .pointer (some ⟨P, 0, none⟩)) rfl (by kernel_rfl) (by kernel_rfl) (by kernel_rfl) (fun _ _ _ h => h) (Or.inl ⟨by rfl, ?_⟩) (by assumption) ?_
    · intro w' hSw; have k9 := cells_of hSw.1 0 _ rfl; go_simp <;> with_reducible rfl
    simp only [Act.put, List.getElem_toArray, List.getElem_cons_succ, List.getElem_cons_zero, List.setIfInBounds_toArray, List.set_cons_zero, List.set_cons_succ]
    refine wpAnyH_take (i := 5) (v := .pointer (some ⟨P, 0, none⟩)) rfl (by kernel_rfl) (by kernel_rfl) (by kernel_rfl) (fun _ _ _ h => h) (Or.inl ⟨by rfl, ?_⟩) (by assumption) ?_
    · intro w' hSw; go_simp <;> with_reducible rfl
    simp only [Act.put, List.getElem_toArray, List.getElem_cons_succ, List.getElem_cons_zero, List.setIfInBounds_toArray, List.set_cons_zero, List.set_cons_succ]
    refine wpAnyH_take (i := 6) (v := .pointer (some ⟨P, 26, none⟩)) rfl (by kernel_rfl) (by kernel_rfl) (by kernel_rfl) (fun _ _ _ h => h) (Or.inl ⟨by rfl, ?_⟩) (by assumption) ?_
    · intro w' hSw; go_simp <;> with_reducible rfl
    simp only [Act.put, List.getElem_toArray, List.getElem_cons_succ, List.getElem_cons_zero, List.setIfInBounds_toArray, List.set_cons_zero, List.set_cons_succ]
    refine wpAnyH_take (i := 7) (v := .agg #[.slice bva n bvc, .int .i64 R, .int .i64 C]) rfl (by kernel_rfl) (by kernel_rfl) (by kernel_rfl) (fun _ _ _ h => h) (Or.inl ⟨by rfl, ?_⟩) (by assumption) ?_
    · intro w' hSw; exact yields_load_part 61 _ rfl P 26 rfl _ _ #[.slice bva n bvc, .int .i64 R, .int .i64 C] _ _ hSw.2 (fun j v hj => by have h9 := lvC_at (sc := (sesC s.cont (.slice ua s.un uc) (.slice ha s.kh.length hc) (.slice pa s.pn pc) (.slice none 0 0) (.slice ka s.cont.ln kc) (.slice da s.dn dc))) (r := (lvW ob qb nb (.slice bva n bvc) R C)) rfl (9 + j); rw [show 17 + (9 + j) = 26 + j by omega] at h9; rw [h9]; match j, hj with | 0, hj => exact hj | 1, hj => exact hj | 2, hj => exact hj | j + 3, hj => simp at hj) Tryz.underlying61 rfl infoBlkF
    simp only [Act.put, List.getElem_toArray, List.getElem_cons_succ, List.getElem_cons_zero, List.setIfInBounds_toArray, List.set_cons_zero, List.set_cons_succ]
    refine wpAnyH_ready (rs := [8]) (by kernel_rfl) (by simp) ?_
    refine AllReadyH.cons rfl (fun K hK => ?_) AllReadyH.nil
    go_simp
    go_wp2_with (go_at_call 71; refine ((unhide hcE) _ _ (by rw [List.nil_append]; omega) ((unhide HWV).on (Ext.refl V).drew) ((unhide HBV).ext (Ext.refl V).drew).reads).mono ?_; rintro e Y1 ⟨rfl, hs9, hf9⟩; have HWX := hide hs9; have HFX := hide ((WF.of_ext (Ext.refl V).drew).tr hf9); clear hs9 hf9)
    refine hK.out _ _ ⟨(unhide HFX).keep' (unhide HBXV) (fun e => (unhide HNE).2.1 e.symm) (by decide), (unhide HFX).keep' (unhide HPV) (fun e => (unhide HNE).2.2.2.1 e.symm) (by decide)⟩ (fun hHeld => ?_)
    clear hK K
    refine wpAnyH_done (by kernel_rfl) ?_ _
    go_wp2
    have hP1 := (unhide HFX).keep' (unhide HPV) (fun e => (unhide HNE).2.2.2.1 e.symm) (by decide)
    have hvo := own1_wf9 (unhide HLV) (unhide HFX) (fun g hg => ((unhide hnP) g hg).2)
    refine bodyPost_end (v := .tuple #[]) (by simp [results, Tryz.results80, go_sem]) rfl (.inl ⟨_, _, rfl, rfl, hP1, unhide HWX, ⟨unhide HST, ka, kc, rfl, hvo, fun g hg => ?_, ?_⟩, (unhide HFV).tr ((unhide HFX).1.mono (fun q hq => .inr (.inr hq)))⟩)
    · rcases (unhide HBK) g hg with h9 | h9
      · exact .inl h9
      · have h4 : w6.heap.size ≤ g := h9
        exact .inr (by have := (unhide HNE).2.2.2.2.2.2.2.2.2; omega)
    · rw [unhide hpt, List.nil_append]; rfl
end Go.Proofs.YtgdadidppelgdaaGreatDoor

namespace Go.Proofs.YtgdadidppelgdaaGreatDoor
open Go.RowKit

/-- What going on answers. -/
def ContR (s s' : SS) (zs : List Int) (c : Int) : Prop := (SesP s ∧ s.st = true ∧ s' = s.cont ∧ zs = s.contZ ∧ c = 0) ∨ (SesP s ∧ s.st = false ∧ s' = s ∧ zs = [] ∧ c = 3) ∨ (¬ SesP s ∧ s' = s ∧ zs = [] ∧ c = 1)
theorem contR_det {s s1 s2 : SS} {z1 z2 : List Int} {c1 c2 : Int} (h1 : ContR s s1 z1 c1) (h2 : ContR s s2 z2 c2) : s2 = s1 ∧ z2 = z1 ∧ c2 = c1 := by
  rcases h1 with ⟨k1, k2, rfl, rfl, rfl⟩ | ⟨k1, k2, rfl, rfl, rfl⟩ | ⟨k1, rfl, rfl, rfl⟩ <;> rcases h2 with ⟨k3, k4, rfl, rfl, rfl⟩ | ⟨k3, k4, rfl, rfl, rfl⟩ | ⟨k3, rfl, rfl, rfl⟩ <;> first | exact ⟨rfl, rfl, rfl⟩ | (rw [k2] at k4; cases k4) | exact absurd k1 k3 | exact absurd k3 k1
set_option maxRecDepth 10000 in
set_option maxHeartbeats 4000000 in
theorem liveCont_any (P : Nat) (s : SS) (ua ha pa qa la da : Option Addr) (uc hc pc qc lc dc : Nat) (w0 w : World) (E0 : Ext w0 w) (hP0 : w0.heap.size ≤ P)
    (hL : w.heap[P]? = some (.cells (lvC (sesC s (.slice ua s.un uc) (.slice ha s.kh.length hc) (.slice pa s.pn pc) (.slice qa s.qn qc) (.slice la s.ln lc) (.slice da s.dn dc)) lv0) 85 (0, 0))) (hO : OwnSes w w0.heap.size s (.slice ua s.un uc) (.slice ha s.kh.length hc) (.slice pa s.pn pc) (.slice qa s.qn qc) (.slice la s.ln lc) (.slice da s.dn dc)) (hnf : ¬ SesFoot (.slice ua s.un uc) (.slice ha s.kh.length hc) (.slice pa s.pn pc) (.slice qa s.qn qc) (.slice la s.ln lc) (.slice da s.dn dc) P) (hz : s.Sz) (hT : Tabs3 w0) (hlo : 4 < w0.heap.size) (hPw : PowT w0) :
    Calls Tryz.prog 47 #[.pointer (some ⟨P, 0, none⟩)] w fun e w' => LiveR (ContR s) w0 w P e w' := by
  have hPs : P < w.heap.size := lt_of_block hL
  have EA := (Ext.refl w).alloc (.cells #[.pointer (some ⟨P, 0, none⟩)] 66)
  have hs1 : (w.alloc (.cells #[.pointer (some ⟨P, 0, none⟩)] 66)).heap.size = w.heap.size + 1 := by simp
  have hs0 := E0.size
  have hft : ∀ g, SesFoot (.slice ua s.un uc) (.slice ha s.kh.length hc) (.slice pa s.pn pc) (.slice qa s.qn qc) (.slice la s.ln lc) (.slice da s.dn dc) g → g ≠ P ∧ w0.heap.size ≤ g ∧ g < w.heap.size := fun g hg => ⟨fun e => by subst e; exact hnf hg, (hO.foot hg).1, (hO.foot hg).2⟩
  have hlg : ∀ g, (Value.slice la s.ln lc).ownBlock = some g → g ≠ P ∧ w0.heap.size ≤ g ∧ g < w.heap.size := fun g hg => hft g (.inr (.inr (.inr (.inr (.inl hg)))))
  have hqg : ∀ g, (Value.slice qa s.qn qc).ownBlock = some g → g ≠ P ∧ w0.heap.size ≤ g ∧ g < w.heap.size := fun g hg => hft g (.inr (.inr (.inr (.inl hg))))
  have hf := frame_anyX (fun g => (Value.slice la s.ln lc).ownBlock = some g) P s ua ha pa qa la da uc hc pc qc lc dc 80 #[.pointer (some ⟨w.heap.size, 0, none⟩)] (ContOk s w0.heap.size (w.heap.size + 1 + 3) ua ha pa la da uc hc pc lc dc) (fun c => s.st = false ∧ c = 3) w0 (w.alloc (.cells #[.pointer (some ⟨P, 0, none⟩)] 66)) (E0.trans EA) hP0
    (fun g hg => ⟨(hlg g hg).2.1, by have := (hlg g hg).2.2; omega, (hlg g hg).1⟩) (EA.kept hL) (hO.ext EA) hnf hz hT hlo hPw
    (fun sc bs W1 W2 h F => by
      obtain ⟨h1, ka, kc, h2, h3, h4, h5⟩ := h
      refine ⟨h1, ka, kc, h2, h3.fr F (fun g hg e => ?_), h4, h5⟩
      rw [hs1] at e
      rcases h4 g hg with h6 | h6
      · have h7 := hlg g h6
        rcases e with e | e | e
        · exact h7.1 e
        · omega
        · omega
      · omega)
    (fun W => Go.MuLone.run_callFunc_enter Tryz.func80 (by kernel_rfl) rfl _ _)
    (fun hk W B ob qb nb bv hE hF hob hB hP hWr hbv => by
      obtain ⟨bva, bvc, rfl⟩ := hbv.slice
      rw [hs1] at hob hB
      have hle := hWr.le
      have hXX : ∀ g, (Value.slice la s.ln lc).ownBlock = some g → g ≠ P ∧ g ≠ ob ∧ g ≠ qb ∧ g ≠ nb ∧ g ≠ 4 ∧ g ≠ w.heap.size ∧ g < B := fun g hg => by
        have h7 := hlg g hg
        exact ⟨h7.1, by omega, by omega, by omega, by omega, by omega, by omega⟩
      refine resume1_any P w.heap.size s ua ha pa qa la da uc hc pc qc lc dc s.blk.n (s.blk.R : Int) s.blk.C B ob qb nb w0.heap.size (w.heap.size + 1 + 3) bva bvc W rfl rfl rfl (hF.kept (new_block w _) (by rw [hs1]; omega)) ⟨by omega, by omega, by omega, by omega, by omega, by omega, by omega, by omega, by omega, by omega⟩ hXX (fun g hg => by have h7 := hqg g hg; exact ⟨h7.1, by omega⟩)
        ((hO.ext EA).fr hF (fun g hg e => by have h7 := hft g hg; rw [hs1] at e; rcases e with e | e; exact h7.1 e; omega)) hz hk (fun W' f => hT.ext (f.ext hE (fun q hq => ?_))) hP hWr hbv
      rcases hq with hq | hq | hq | hq
      · omega
      · exact (hlg q hq).2.1
      · omega
      · omega)
  have HF := hide hf
  have hmf : ∀ (fn : Fn) (first cap : Array Value) (w : World), (Instr.makeFunc fn first cap).run Tryz.prog w = .ok (.func fn first cap) w := fun _ _ _ _ => rfl
  have HS1 := hide hs1
  have HEA := hide EA
  have HO := hide hO
  have HFT := hide hft
  have HLG := hide hlg
  clear hf hL hO hnf hz hT hPw hs1 EA hft hlg hqg
  go_enter Tryz.func47, Tryz.ntmps47
  go_wp2_with fail
  refine (unhide HF).mono ?_
  rintro e w2 (⟨v, sc, bs, r, rfl, hk, ho, hP2, hsz, ⟨hst, ka, kc, rfl, hv2, hbk, rfl⟩, F2⟩ | ⟨c, u, h, p, q, l, d, r, rfl, hk, hP2, ho, hnf2, F2⟩)
  · obtain ⟨a2, c2, rfl⟩ := owns_slice ho
    have HO2 := hide ho
    have HP2 := hide hP2
    have HF2 := hide F2
    have HK := hide (And.intro hk hst)
    have HV2 := hide hv2
    have HBK := hide hbk
    clear ho hP2 F2 hk hst hsz hv2 hbk
    go_wp2
    have h1 := unhide HS1
    have hft := unhide HFT
    have hlg := unhide HLG
    have hS := OwnSes.ql ((unhide HO).ext (unhide HEA)) (unhide HF2) (q' := .slice none 0 0) (fun g hg e => by
      have h7 : g ≠ P ∧ w0.heap.size ≤ g ∧ g < w.heap.size := hft g (by rcases hg with hg | hg | hg | hg; exact .inl hg; exact .inr (.inl hg); exact .inr (.inr (.inl hg)); exact .inr (.inr (.inr (.inr (.inr hg)))))
      rw [h1] at e
      rcases e with e | e | e
      · exact h7.1 e
      · obtain ⟨⟨_, _, _, a4, _⟩, ⟨_, _, b4, _⟩, ⟨_, c4, _⟩, ⟨_, _⟩, e5⟩ := pw6 (unhide HO).ap
        rcases hg with hg | hg | hg | hg
        · exact a4 g hg e
        · exact b4 g hg e
        · exact c4 g hg e
        · exact e5 g e hg
      · omega) false 0 s.qt s.cont.ln s.cont.lt ⟨[], owns_nil _ _ _ _, fun j hj => by omega⟩ (unhide HV2) (fun g hg => by simp [Value.ownBlock] at hg) (fun g hg => by
        rcases (unhide HBK) g hg with h9 | h9
        · exact .inl h9
        · right; omega) (fun g hg => by simp [Value.ownBlock] at hg)
    refine bodyPost_ret (v := .tuple #[.slice a2 s.contZ.length c2, .int .i64 0]) (by simp [results, Tryz.results47, go_sem]) rfl ⟨_, s.contZ, s.cont, 0, _, _, _, _, _, _, r, rfl, .inl ⟨(unhide HK).1, (unhide HK).2, rfl, rfl, rfl⟩, owns_mono (unhide HO2) (by omega), hS, unhide HP2, ?_, (Fr.of_ext (unhide HEA)).tr ((unhide HF2).mono (fun q hq => by rw [h1] at hq; rcases hq with hq | hq | hq; omega; exact (hlg q hq).2.1; omega))⟩
    intro g hg hg2
    have h2 := ((unhide HO2).lt g hg2).1
    rw [h1] at h2
    have hlow : ∀ g', g' = g → g' < w.heap.size → False := fun g' e h => by omega
    rcases hg with hg | hg | hg | hg | hg | hg
    · exact hlow g rfl (hft g (.inl hg)).2.2
    · exact hlow g rfl (hft g (.inr (.inl hg))).2.2
    · exact hlow g rfl (hft g (.inr (.inr (.inl hg)))).2.2
    · simp [Value.ownBlock] at hg
    · obtain ⟨ys, h5, _⟩ := unhide HV2
      exact owns_apart h5 (unhide HO2) (by decide) hg hg2
    · exact hlow g rfl (hft g (.inr (.inr (.inr (.inr (.inr hg)))))).2.2
  · have HO2 := hide ho
    have HP2 := hide hP2
    have HF2 := hide F2
    have HK := hide hk
    clear ho hP2 F2 hk hnf2
    go_wp2
    have h1 := unhide HS1
    have hlg := unhide HLG
    refine bodyPost_ret (v := .tuple #[.slice none 0 0, .int .i64 c]) (by simp [results, Tryz.results47, go_sem]) rfl ⟨_, [], s, c, u, h, p, q, l, d, r, rfl, ?_, owns_nil _ _ _ _, (unhide HO2).mono (by omega), unhide HP2, fun g _ hg2 => by simp [Value.ownBlock] at hg2, (Fr.of_ext (unhide HEA)).tr ((unhide HF2).mono (fun q hq => by rw [h1] at hq; rcases hq with hq | hq | hq; omega; exact (hlg q hq).2.1; omega))⟩
    rcases unhide HK with ⟨e1, e2⟩ | ⟨e1, e2, e3⟩
    · exact .inr (.inr ⟨e2, rfl, rfl, e1⟩)
    · exact .inr (.inl ⟨e1, e2, rfl, rfl, e3⟩)
end Go.Proofs.YtgdadidppelgdaaGreatDoor
