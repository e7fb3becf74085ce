import Derived.Test.YtokjpnlmkecleaaGreatDoorEdQ1
import Derived.Test.YtokjpnlmkecleaaGreatDoorEdSy
import Derived.Test.YtokjpnlmkecleaaGreatDoorEdTf
import Derived.Test.YtokjpnlmkecleaaGreatDoorEdYk
namespace Go.Proofs.YtokjpnlmkecleaaGreatDoor
open Go.RowKit
section
variable {P base : Nat} {W : World} {a b c : ByteArray} {u : Value} {qs : List Nat} {un : List (ByteArray × ByteArray)} {cl rl rr : List Value}
theorem press_1 (h : LnOk a b c un) (e0 : Ed0 P base W c u qs un (cutC (baL a)) (cutC (baL b)) cl rl rr) (rv : Value) (rs : List Int) (hr : IntsAt W .i32 rv rs) (iR : I32s rs) (zR : rs.length ≤ 1048576) (hT : ∀ W', Fr (fun x => x = P ∨ base ≤ x) W W' → Laid W') :
    Calls Tryz.prog 28 #[.pointer (some ⟨P, 0, none⟩), .agg #[.int .i64 1, rv]] W fun e w' => ∃ d, e = .returned (.int .i64 d) ∧ Done (edF a b c un 1 rs) P base W d w' := by
  have ef : edF a b c un 1 rs = edPut a b c un rs := by simp [edF]
  have key : ∀ o : LD, edF a b c un 1 rs = o → ∀ (w w' : World) (e : Ending), Ext W w → (∃ d, e = .returned (.int .i64 d) ∧ Done o P base w d w') → ∃ d, e = .returned (.int .i64 d) ∧ Done (edF a b c un 1 rs) P base W d w' := by
    rintro o rfl w w' e E ⟨d, h1, h2⟩
    exact ⟨d, h1, h2.pre E⟩
  have hz : (cleanL (baL a)).length ≤ 1048576 := by have := h.nab; omega
  have fb : flat (clusC (cleanL (baL b))) = cleanL (baL b) := settled_flat h.sb
  have ea : toBA (textC (clusC (cleanL (baL a)))) = a := h.ea
  have eb : toBA (textC (clusC (cleanL (baL b)))) = b := h.eb
  refine press_hit 87 (fun _ _ => by kernel_rfl) (.pointer (some ⟨P, 0, none⟩)) P 1 rv W rfl (Done (edF a b c un 1 rs) P base W) (fun w E => ?_)
  by_cases h0 : rs.length = 0
  · obtain ⟨ra, rc, rfl, _⟩ := id hr
    rw [h0]
    refine (edWrite_no 1 ra rc (e0.ext E)).mono ?_
    intro e1 w' r
    refine key ⟨a, b, c, un, 0⟩ (ef.trans ?_) w w' e1 E (Done.of (o := ⟨a, b, c, un, 0⟩) r h.ea h.eb h.smA h.smB h.n)
    rw [edPut, if_pos h0]
  · refine (edWrite_yes (cleanL (baL a)) (cleanL (baL b)) hz 1 rv rs (by omega) (hr.ext E) iR zR (fun W' f => hT W' ((Fr.of_ext E).tr f)) (e0.ext E)).mono ?_
    rw [fb, ea, eb]
    rintro e1 w' (⟨h1, r⟩ | ⟨h1, r⟩)
    · refine key ⟨a, b, c, un, 2⟩ (ef.trans ?_) w w' e1 E (Done.of (o := ⟨a, b, c, un, 2⟩) r h.ea h.eb h.smA h.smB h.n)
      rw [edPut, if_neg h0, if_pos h1]
    · refine key (edSet a b c un (toBA (textC (clusC (cleanL (baL a) ++ rs)))) b) (ef.trans ?_) w w' e1 E (Done.of (o := edSet a b c un (toBA (textC (clusC (cleanL (baL a) ++ rs)))) b) r rfl eb (flat_sm (by omega)) h.smB (h.un50 _))
      rw [edPut, if_neg h0, if_neg (by omega)]
theorem press_2 (h : LnOk a b c un) (e0 : Ed0 P base W c u qs un (cutC (baL a)) (cutC (baL b)) cl rl rr) (rv : Value) (rs : List Int) (hr : IntsAt W .i32 rv rs) (iR : I32s rs) (zR : rs.length ≤ 1048576) (hT : ∀ W', Fr (fun x => x = P ∨ base ≤ x) W W' → Laid W') :
    Calls Tryz.prog 28 #[.pointer (some ⟨P, 0, none⟩), .agg #[.int .i64 2, rv]] W fun e w' => ∃ d, e = .returned (.int .i64 d) ∧ Done (edF a b c un 2 rs) P base W d w' := by
  have ef : edF a b c un 2 rs = edPut a b c un rs := by simp [edF]
  have key : ∀ o : LD, edF a b c un 2 rs = o → ∀ (w w' : World) (e : Ending), Ext W w → (∃ d, e = .returned (.int .i64 d) ∧ Done o P base w d w') → ∃ d, e = .returned (.int .i64 d) ∧ Done (edF a b c un 2 rs) P base W d w' := by
    rintro o rfl w w' e E ⟨d, h1, h2⟩
    exact ⟨d, h1, h2.pre E⟩
  have hz : (cleanL (baL a)).length ≤ 1048576 := by have := h.nab; omega
  have fb : flat (clusC (cleanL (baL b))) = cleanL (baL b) := settled_flat h.sb
  have ea : toBA (textC (clusC (cleanL (baL a)))) = a := h.ea
  have eb : toBA (textC (clusC (cleanL (baL b)))) = b := h.eb
  refine press_hit 87 (fun _ _ => by kernel_rfl) (.pointer (some ⟨P, 0, none⟩)) P 2 rv W rfl (Done (edF a b c un 2 rs) P base W) (fun w E => ?_)
  by_cases h0 : rs.length = 0
  · obtain ⟨ra, rc, rfl, _⟩ := id hr
    rw [h0]
    refine (edWrite_no 2 ra rc (e0.ext E)).mono ?_
    intro e1 w' r
    refine key ⟨a, b, c, un, 0⟩ (ef.trans ?_) w w' e1 E (Done.of (o := ⟨a, b, c, un, 0⟩) r h.ea h.eb h.smA h.smB h.n)
    rw [edPut, if_pos h0]
  · refine (edWrite_yes (cleanL (baL a)) (cleanL (baL b)) hz 2 rv rs (by omega) (hr.ext E) iR zR (fun W' f => hT W' ((Fr.of_ext E).tr f)) (e0.ext E)).mono ?_
    rw [fb, ea, eb]
    rintro e1 w' (⟨h1, r⟩ | ⟨h1, r⟩)
    · refine key ⟨a, b, c, un, 2⟩ (ef.trans ?_) w w' e1 E (Done.of (o := ⟨a, b, c, un, 2⟩) r h.ea h.eb h.smA h.smB h.n)
      rw [edPut, if_neg h0, if_pos h1]
    · refine key (edSet a b c un (toBA (textC (clusC (cleanL (baL a) ++ rs)))) b) (ef.trans ?_) w w' e1 E (Done.of (o := edSet a b c un (toBA (textC (clusC (cleanL (baL a) ++ rs)))) b) r rfl eb (flat_sm (by omega)) h.smB (h.un50 _))
      rw [edPut, if_neg h0, if_neg (by omega)]
theorem press_4 (h : LnOk a b c un) (e0 : Ed0 P base W c u qs un (cutC (baL a)) (cutC (baL b)) cl rl rr) (rv : Value) (rs : List Int) :
    Calls Tryz.prog 28 #[.pointer (some ⟨P, 0, none⟩), .agg #[.int .i64 4, rv]] W fun e w' => ∃ d, e = .returned (.int .i64 d) ∧ Done (edF a b c un 4 rs) P base W d w' := by
  have ef : edF a b c un 4 rs = edBack a b c un := by simp [edF]
  have key : ∀ o : LD, edF a b c un 4 rs = o → ∀ (w w' : World) (e : Ending), Ext W w → (∃ d, e = .returned (.int .i64 d) ∧ Done o P base w d w') → ∃ d, e = .returned (.int .i64 d) ∧ Done (edF a b c un 4 rs) P base W d w' := by
    rintro o rfl w w' e E ⟨d, h1, h2⟩
    exact ⟨d, h1, h2.pre E⟩
  refine press_hit 88 (fun _ _ => by kernel_rfl) (.pointer (some ⟨P, 0, none⟩)) P 4 rv W rfl (Done (edF a b c un 4 rs) P base W) (fun w E => ?_)
  rcases snoc_or (cutC (baL a)) with e | ⟨A1, x, e⟩
  · refine (edBack_no 4 rv (by have := e0.ext E; rw [e] at this; exact this)).mono ?_
    intro e1 w' r
    rw [← e] at r
    refine key ⟨a, b, c, un, 2⟩ (ef.trans ?_) w w' e1 E (Done.of (o := ⟨a, b, c, un, 2⟩) r h.ea h.eb h.smA h.smB h.n)
    rw [edBack, e]
    rfl
  · refine (edBack_yes (A := A1) x 4 rv (by have := e0.ext E; rw [e] at this; exact this)).mono ?_
    intro e1 w' r
    have sA := h.smA
    have ea := h.ea
    rw [e] at sA ea
    rw [ea, h.eb] at r
    refine key (edSet a b c un (toBA (textC A1)) b) (ef.trans ?_) w w' e1 E (Done.of (o := edSet a b c un (toBA (textC A1)) b) r rfl h.eb sA.left h.smB (h.un50 _))
    rw [edBack, e, if_neg (by simp)]
    simp
theorem press_5 (h : LnOk a b c un) (e0 : Ed0 P base W c u qs un (cutC (baL a)) (cutC (baL b)) cl rl rr) (rv : Value) (rs : List Int) :
    Calls Tryz.prog 28 #[.pointer (some ⟨P, 0, none⟩), .agg #[.int .i64 5, rv]] W fun e w' => ∃ d, e = .returned (.int .i64 d) ∧ Done (edF a b c un 5 rs) P base W d w' := by
  have ef : edF a b c un 5 rs = edDel a b c un := by simp [edF]
  have key : ∀ o : LD, edF a b c un 5 rs = o → ∀ (w w' : World) (e : Ending), Ext W w → (∃ d, e = .returned (.int .i64 d) ∧ Done o P base w d w') → ∃ d, e = .returned (.int .i64 d) ∧ Done (edF a b c un 5 rs) P base W d w' := by
    rintro o rfl w w' e E ⟨d, h1, h2⟩
    exact ⟨d, h1, h2.pre E⟩
  refine press_hit 89 (fun _ _ => by kernel_rfl) (.pointer (some ⟨P, 0, none⟩)) P 5 rv W rfl (Done (edF a b c un 5 rs) P base W) (fun w E => ?_)
  cases e : cutC (baL b) with
  | nil =>
    by_cases ha : cutC (baL a) = []
    · refine (edDel_end 5 rv (by have := e0.ext E; rw [e, ha] at this; exact this)).mono ?_
      intro e1 w' r
      have r2 : EdR P base w w' c un (cutC (baL a)) (cutC (baL b)) 8 e1 := by rw [ha, e]; exact r
      refine key ⟨a, b, c, un, 8⟩ (ef.trans ?_) w w' e1 E (Done.of (o := ⟨a, b, c, un, 8⟩) r2 h.ea h.eb h.smA h.smB h.n)
      rw [edDel, e, ha]
      rfl
    · refine (edDel_no (A := cutC (baL a)) (List.length_pos_iff.2 ha) 5 rv (by have := e0.ext E; rw [e] at this; exact this)).mono ?_
      intro e1 w' r
      rw [← e] at r
      refine key ⟨a, b, c, un, 2⟩ (ef.trans ?_) w w' e1 E (Done.of (o := ⟨a, b, c, un, 2⟩) r h.ea h.eb h.smA h.smB h.n)
      rw [edDel, e, if_pos (by simp), if_neg (by simpa using ha)]
  | cons x B2 =>
    refine (edDel_yes (A := cutC (baL a)) (B := B2) x 5 rv (by have := e0.ext E; rw [e] at this; exact this)).mono ?_
    intro e1 w' r
    have sB := h.smB
    have eb := h.eb
    rw [e] at sB eb
    have e9 : [x] ++ B2 = x :: B2 := rfl
    rw [e9, eb, h.ea] at r
    refine key (edSet a b c un a (toBA (textC B2))) (ef.trans ?_) w w' e1 E (Done.of (o := edSet a b c un a (toBA (textC B2))) r h.ea rfl h.smA (SmC.right (A := [x]) sB) (h.un50 _))
    rw [edDel, e, if_neg (by simp)]
    rfl
theorem press_12 (h : LnOk a b c un) (e0 : Ed0 P base W c u qs un (cutC (baL a)) (cutC (baL b)) cl rl rr) (rv : Value) (rs : List Int) :
    Calls Tryz.prog 28 #[.pointer (some ⟨P, 0, none⟩), .agg #[.int .i64 12, rv]] W fun e w' => ∃ d, e = .returned (.int .i64 d) ∧ Done (edF a b c un 12 rs) P base W d w' := by
  have ef : edF a b c un 12 rs = edKe a b c un := by simp [edF]
  have key : ∀ o : LD, edF a b c un 12 rs = o → ∀ (w w' : World) (e : Ending), Ext W w → (∃ d, e = .returned (.int .i64 d) ∧ Done o P base w d w') → ∃ d, e = .returned (.int .i64 d) ∧ Done (edF a b c un 12 rs) P base W d w' := by
    rintro o rfl w w' e E ⟨d, h1, h2⟩
    exact ⟨d, h1, h2.pre E⟩
  refine press_hit 96 (fun _ _ => by kernel_rfl) (.pointer (some ⟨P, 0, none⟩)) P 12 rv W rfl (Done (edF a b c un 12 rs) P base W) (fun w E => ?_)
  by_cases e : cutC (baL b) = []
  · refine (edKillEnd_no 12 rv (by have := e0.ext E; rw [e] at this; exact this)).mono ?_
    intro e1 w' r
    rw [← e] at r
    refine key ⟨a, b, c, un, 2⟩ (ef.trans ?_) w w' e1 E (Done.of (o := ⟨a, b, c, un, 2⟩) r h.ea h.eb h.smA h.smB h.n)
    rw [edKe, e]
    rfl
  · refine (edKillEnd_yes 12 rv (List.length_pos_iff.2 e) e0.cb (e0.ext E)).mono ?_
    intro e1 w' r
    rw [h.ea, h.eb] at r
    refine key ⟨a, noT, b, undoN un (a, b), 1⟩ (ef.trans ?_) w w' e1 E (Done.of (o := ⟨a, noT, b, undoN un (a, b), 1⟩) r h.ea rfl h.smA (fun c hc => absurd hc (by simp)) (h.un50 _))
    rw [edKe, if_neg (by simpa using e)]
theorem press_13 (h : LnOk a b c un) (e0 : Ed0 P base W c u qs un (cutC (baL a)) (cutC (baL b)) cl rl rr) (rv : Value) (rs : List Int) :
    Calls Tryz.prog 28 #[.pointer (some ⟨P, 0, none⟩), .agg #[.int .i64 13, rv]] W fun e w' => ∃ d, e = .returned (.int .i64 d) ∧ Done (edF a b c un 13 rs) P base W d w' := by
  have ef : edF a b c un 13 rs = edKs a b c un := by simp [edF]
  have key : ∀ o : LD, edF a b c un 13 rs = o → ∀ (w w' : World) (e : Ending), Ext W w → (∃ d, e = .returned (.int .i64 d) ∧ Done o P base w d w') → ∃ d, e = .returned (.int .i64 d) ∧ Done (edF a b c un 13 rs) P base W d w' := by
    rintro o rfl w w' e E ⟨d, h1, h2⟩
    exact ⟨d, h1, h2.pre E⟩
  refine press_hit 97 (fun _ _ => by kernel_rfl) (.pointer (some ⟨P, 0, none⟩)) P 13 rv W rfl (Done (edF a b c un 13 rs) P base W) (fun w E => ?_)
  by_cases e : cutC (baL a) = []
  · refine (edKillStart_no 13 rv (by have := e0.ext E; rw [e] at this; exact this)).mono ?_
    intro e1 w' r
    rw [← e] at r
    refine key ⟨a, b, c, un, 2⟩ (ef.trans ?_) w w' e1 E (Done.of (o := ⟨a, b, c, un, 2⟩) r h.ea h.eb h.smA h.smB h.n)
    rw [edKs, e]
    rfl
  · refine (edKillStart_yes 13 rv (List.length_pos_iff.2 e) e0.ca (e0.ext E)).mono ?_
    intro e1 w' r
    rw [h.ea, h.eb] at r
    refine key ⟨noT, b, a, undoN un (a, b), 1⟩ (ef.trans ?_) w w' e1 E (Done.of (o := ⟨noT, b, a, undoN un (a, b), 1⟩) r rfl h.eb (fun c hc => absurd hc (by simp)) h.smB (h.un50 _))
    rw [edKs, if_neg (by simpa using e)]
theorem press_14 (h : LnOk a b c un) (e0 : Ed0 P base W c u qs un (cutC (baL a)) (cutC (baL b)) cl rl rr) (rv : Value) (rs : List Int) :
    Calls Tryz.prog 28 #[.pointer (some ⟨P, 0, none⟩), .agg #[.int .i64 14, rv]] W fun e w' => ∃ d, e = .returned (.int .i64 d) ∧ Done (edF a b c un 14 rs) P base W d w' := by
  have ef : edF a b c un 14 rs = edKw a b c un := by simp [edF]
  have key : ∀ o : LD, edF a b c un 14 rs = o → ∀ (w w' : World) (e : Ending), Ext W w → (∃ d, e = .returned (.int .i64 d) ∧ Done o P base w d w') → ∃ d, e = .returned (.int .i64 d) ∧ Done (edF a b c un 14 rs) P base W d w' := by
    rintro o rfl w w' e E ⟨d, h1, h2⟩
    exact ⟨d, h1, h2.pre E⟩
  have hw := wd_ex (fun j => spB (cR (cutC (baL a)) ((cutC (baL a)).length - 1 - j))) (cutC (baL a)).length
  have hle := hw.le
  obtain ⟨r, hr⟩ : ∃ r, wdL (cutC (baL a)) = r := ⟨_, rfl⟩
  rw [show wdN (fun j => spB (cR (cutC (baL a)) ((cutC (baL a)).length - 1 - j))) (cutC (baL a)).length = r from hr] at hw hle
  refine press_hit 98 (fun _ _ => by kernel_rfl) (.pointer (some ⟨P, 0, none⟩)) P 14 rv W rfl (Done (edF a b c un 14 rs) P base W) (fun w E => ?_)
  by_cases h0 : r = 0
  · subst h0
    refine (edKillWord_no 14 rv hw (e0.ext E)).mono ?_
    intro e1 w' r
    refine key ⟨a, b, c, un, 2⟩ (ef.trans ?_) w w' e1 E (Done.of (o := ⟨a, b, c, un, 2⟩) r h.ea h.eb h.smA h.smB h.n)
    rw [edKw, if_pos hr]
  · have hs : (cutC (baL a)).take ((cutC (baL a)).length - r) ++ (cutC (baL a)).drop ((cutC (baL a)).length - r) = cutC (baL a) := List.take_append_drop _ _
    have hl : ((cutC (baL a)).drop ((cutC (baL a)).length - r)).length = r := by rw [List.length_drop]; omega
    obtain ⟨A1, hA1⟩ : ∃ x, x = (cutC (baL a)).take ((cutC (baL a)).length - r) := ⟨_, rfl⟩
    obtain ⟨A2, hA2⟩ : ∃ x, x = (cutC (baL a)).drop ((cutC (baL a)).length - r) := ⟨_, rfl⟩
    have eo : edKw a b c un = ⟨toBA (textC A1), b, toBA (textC A2), undoN un (a, b), 1⟩ := by rw [edKw, if_neg (by omega), hr, hA1, hA2]
    rw [← hA1, ← hA2] at hs
    rw [← hA2] at hl
    have sA := h.smA
    have ea := h.ea
    rw [← hs] at sA ea hw
    refine (edKillWord_yes (A1 := A1) (A2 := A2) 14 rv (by rw [hl]; exact hw) (by omega) (sA.right.ck (by have := congrArg List.length hs; have := e0.fit; simp at *; omega)) (by have := e0.ext E; rw [← hs] at this; exact this)).mono ?_
    intro e1 w' q
    rw [ea, h.eb] at q
    exact key ⟨toBA (textC A1), b, toBA (textC A2), undoN un (a, b), 1⟩ (ef.trans eo) w w' e1 E (Done.of (o := ⟨toBA (textC A1), b, toBA (textC A2), undoN un (a, b), 1⟩) q rfl h.eb sA.left h.smB (h.un50 _))
theorem press_15 (h : LnOk a b c un) (e0 : Ed0 P base W c u qs un (cutC (baL a)) (cutC (baL b)) cl rl rr) (rv : Value) (rs : List Int) (hT : ∀ W', Fr (fun x => x = P ∨ base ≤ x) W W' → Laid W') :
    Calls Tryz.prog 28 #[.pointer (some ⟨P, 0, none⟩), .agg #[.int .i64 15, rv]] W fun e w' => ∃ d, e = .returned (.int .i64 d) ∧ Done (edF a b c un 15 rs) P base W d w' := by
  have ef : edF a b c un 15 rs = edYank a b c un := by simp [edF]
  have key : ∀ o : LD, edF a b c un 15 rs = o → ∀ (w w' : World) (e : Ending), Ext W w → (∃ d, e = .returned (.int .i64 d) ∧ Done o P base w d w') → ∃ d, e = .returned (.int .i64 d) ∧ Done (edF a b c un 15 rs) P base W d w' := by
    rintro o rfl w w' e E ⟨d, h1, h2⟩
    exact ⟨d, h1, h2.pre E⟩
  have hz : (cleanL (baL a)).length ≤ 1048576 := by have := h.nab; omega
  have fb : flat (clusC (cleanL (baL b))) = cleanL (baL b) := settled_flat h.sb
  have ea : toBA (textC (clusC (cleanL (baL a)))) = a := h.ea
  have eb : toBA (textC (clusC (cleanL (baL b)))) = b := h.eb
  obtain ⟨yt, yf⟩ := yank_text h.sa h.sc
  refine press_hit 99 (fun _ _ => by kernel_rfl) (.pointer (some ⟨P, 0, none⟩)) P 15 rv W rfl (Done (edF a b c un 15 rs) P base W) (fun w E => ?_)
  by_cases h0 : (baL c).length = 0
  · have hc : c = { data := #[] } := by rw [← toBA_baL c, List.eq_nil_of_length_eq_zero h0]; rfl
    refine (show Calls _ _ _ _ _ from (by rw [hc] at e0; exact edYank_no 15 rv (e0.ext E))).mono ?_
    intro e1 w' r
    rw [← hc] at r
    refine key ⟨a, b, c, un, 2⟩ (ef.trans ?_) w w' e1 E (Done.of (o := ⟨a, b, c, un, 2⟩) r h.ea h.eb h.smA h.smB h.n)
    rw [edYank, if_pos h0]
  · have hx := edYank_yes (cleanL (baL a)) (cleanL (baL b)) hz 15 rv (baL c) (baL_bytes c) (by omega) (by rw [baL_len]; exact h.zc) (fun W' f => hT W' ((Fr.of_ext E).tr f)) (by rw [toBA_baL]; exact e0.ext E)
    rw [toBA_baL] at hx
    refine hx.mono ?_
    rw [fb, ea, eb, yf, List.length_append]
    rintro e1 w' (⟨h1, r⟩ | ⟨h1, r⟩)
    · refine key ⟨a, b, c, un, 2⟩ (ef.trans ?_) w w' e1 E (Done.of (o := ⟨a, b, c, un, 2⟩) r h.ea h.eb h.smA h.smB h.n)
      rw [edYank, if_neg h0, if_pos h1]
    · refine key (edSet a b c un (toBA (baL a ++ baL c)) b) (ef.trans ?_) w w' e1 E (Done.of (o := edSet a b c un (toBA (baL a ++ baL c)) b) r (by rw [yt]; rfl) eb (flat_sm (by rw [yf, List.length_append]; omega)) h.smB (h.un50 _))
      rw [edYank, if_neg h0, if_neg (by omega)]
theorem press_16 (h : LnOk a b c un) (e0 : Ed0 P base W c u qs un (cutC (baL a)) (cutC (baL b)) cl rl rr) (rv : Value) (rs : List Int) :
    Calls Tryz.prog 28 #[.pointer (some ⟨P, 0, none⟩), .agg #[.int .i64 16, rv]] W fun e w' => ∃ d, e = .returned (.int .i64 d) ∧ Done (edF a b c un 16 rs) P base W d w' := by
  have ef : edF a b c un 16 rs = edSwap a b c un := by simp [edF]
  have key : ∀ o : LD, edF a b c un 16 rs = o → ∀ (w w' : World) (e : Ending), Ext W w → (∃ d, e = .returned (.int .i64 d) ∧ Done o P base w d w') → ∃ d, e = .returned (.int .i64 d) ∧ Done (edF a b c un 16 rs) P base W d w' := by
    rintro o rfl w w' e E ⟨d, h1, h2⟩
    exact ⟨d, h1, h2.pre E⟩
  refine press_hit 100 (fun _ _ => by kernel_rfl) (.pointer (some ⟨P, 0, none⟩)) P 16 rv W rfl (Done (edF a b c un 16 rs) P base W) (fun w E => ?_)
  by_cases hn : (cutC (baL a)).length = 0 ∨ (cutC (baL a)).length + (cutC (baL b)).length < 2
  · refine (edSwap_no 16 rv hn (e0.ext E)).mono ?_
    intro e1 w' r
    refine key ⟨a, b, c, un, 2⟩ (ef.trans ?_) w w' e1 E (Done.of (o := ⟨a, b, c, un, 2⟩) r h.ea h.eb h.smA h.smB h.n)
    rw [edSwap, if_neg (by omega), if_neg (by omega)]
  · rcases snoc_or (cutC (baL a)) with e | ⟨A1, y, e⟩
    · rw [e] at hn
      simp at hn
    have sA := h.smA
    have ea := h.ea
    have f0 := e0.ext E
    rw [e] at sA ea f0 hn
    cases eB : cutC (baL b) with
    | nil =>
      rw [eB] at hn f0
      rcases snoc_or A1 with e2 | ⟨A0, x, e2⟩
      · rw [e2] at hn
        simp at hn
      · subst e2
        have e3 : A0 ++ [x] ++ [y] = A0 ++ [x, y] := by simp
        rw [e3] at sA ea f0 e
        refine (edSwap_end 16 rv f0).mono ?_
        intro e1 w' r
        have hb9 : toBA (textC ([] : List (List Int × Int))) = b := by rw [← eB]; exact h.eb
        rw [ea, hb9] at r
        have r2 : EdR P base w w' c (undoN un (a, b)) (A0 ++ [y, x]) (cutC (baL b)) 1 e1 := by rw [eB]; exact r
        have so : SmC (A0 ++ [y, x]) := sA.left.app (fun c hc => sA.right c (by simp at hc ⊢; exact hc.symm))
        refine key (edSet a b c un (toBA (textC (A0 ++ [y, x]))) b) (ef.trans ?_) w w' e1 E (Done.of (o := edSet a b c un (toBA (textC (A0 ++ [y, x]))) b) r2 rfl h.eb so h.smB (h.un50 _))
        have hb0 : b = noT := by rw [← h.eb, eB]; rfl
        have e4 : textC (A0 ++ [y, x]) = textC A0 ++ textC [y] ++ textC [x] := by rw [← textC_app, ← textC_app]; simp
        rw [edSwap, eB, e, if_neg (by simp), if_pos (by simp), e4, hb0]
        have d1 : (A0 ++ [x, y]).take ((A0 ++ [x, y]).length - 2) = A0 := by simp
        have d2 : (A0 ++ [x, y]).drop ((A0 ++ [x, y]).length - 1) = [y] := by
          rw [← e3, show (A0 ++ [x] ++ [y]).length - 1 = (A0 ++ [x]).length by simp, List.drop_left]
        have d3 : ((A0 ++ [x, y]).take ((A0 ++ [x, y]).length - 1)).drop ((A0 ++ [x, y]).length - 2) = [x] := by
          rw [← e3, show (A0 ++ [x] ++ [y]).length - 1 = (A0 ++ [x]).length by simp, List.take_left, show (A0 ++ [x] ++ [y]).length - 2 = A0.length by simp, List.drop_left]
        rw [d1, d2, d3]
    | cons y2 B2 =>
      rw [eB] at f0
      have sB := h.smB
      have eb := h.eb
      rw [eB] at sB eb
      refine (edSwap_mid (A1 := A1) (B := B2) (x := y) (y := y2) 16 rv f0).mono ?_
      intro e1 w' r
      have e9 : [y2] ++ B2 = y2 :: B2 := rfl
      rw [ea, e9, eb] at r
      have so : SmC (A1 ++ [y2, y]) := sA.left.app (fun c hc => by
        simp at hc
        rcases hc with rfl | rfl
        · exact sB _ (by simp)
        · exact sA.right _ (by simp))
      refine key (edSet a b c un (toBA (textC (A1 ++ [y2, y]))) (toBA (textC B2))) (ef.trans ?_) w w' e1 E (Done.of (o := edSet a b c un (toBA (textC (A1 ++ [y2, y]))) (toBA (textC B2))) r rfl rfl so (SmC.right (A := [y2]) sB) (h.un50 _))
      have e4 : textC (A1 ++ [y2, y]) = textC A1 ++ textC [y2] ++ textC [y] := by rw [← textC_app, ← textC_app]; simp
      have d1 : (A1 ++ [y]).take ((A1 ++ [y]).length - 1) = A1 := by simp
      have d2 : (A1 ++ [y]).drop ((A1 ++ [y]).length - 1) = [y] := by rw [show (A1 ++ [y]).length - 1 = A1.length by simp, List.drop_left]
      rw [edSwap, eB, e, if_pos (by simp), e4, d1, d2]
      rfl
theorem press_17 (h : LnOk a b c un) (e0 : Ed0 P base W c u qs un (cutC (baL a)) (cutC (baL b)) cl rl rr) (rv : Value) (rs : List Int) (hT : ∀ W', Fr (fun x => x = P ∨ base ≤ x) W W' → Laid W') :
    Calls Tryz.prog 28 #[.pointer (some ⟨P, 0, none⟩), .agg #[.int .i64 17, rv]] W fun e w' => ∃ d, e = .returned (.int .i64 d) ∧ Done (edF a b c un 17 rs) P base W d w' := by
  have ef : edF a b c un 17 rs = edUndo a b c un := by simp [edF]
  have key : ∀ o : LD, edF a b c un 17 rs = o → ∀ (w w' : World) (e : Ending), Ext W w → (∃ d, e = .returned (.int .i64 d) ∧ Done o P base w d w') → ∃ d, e = .returned (.int .i64 d) ∧ Done (edF a b c un 17 rs) P base W d w' := by
    rintro o rfl w w' e E ⟨d, h1, h2⟩
    exact ⟨d, h1, h2.pre E⟩
  refine press_hit 101 (fun _ _ => by kernel_rfl) (.pointer (some ⟨P, 0, none⟩)) P 17 rv W rfl (Done (edF a b c un 17 rs) P base W) (fun w E => ?_)
  by_cases h0 : un.length = 0
  · obtain rfl : un = [] := List.eq_nil_of_length_eq_zero h0
    refine (edUndo_no 17 rv (e0.ext E)).mono ?_
    intro e1 w' r
    refine key ⟨a, b, c, [], 2⟩ (ef.trans ?_) w w' e1 E (Done.of (o := ⟨a, b, c, [], 2⟩) r h.ea h.eb h.smA h.smB h.n)
    rw [edUndo, if_pos h0]
  · obtain ⟨s, hs⟩ : ∃ s, un[un.length - 1]? = some s := ⟨un[un.length - 1]'(by omega), by simp⟩
    have hm : s ∈ un := List.mem_of_getElem? hs
    obtain ⟨s1, s2, s3⟩ := h.us s hm
    obtain ⟨z1, z2⟩ := h.zu s hm
    have l1 := cut_len (baL s.1)
    have l2 := cut_len (baL s.2)
    refine (edUndo_yes s hs (by omega) (by omega) (by omega) (fun W' f => hT W' ((Fr.of_ext E).tr f)) 17 rv (e0.ext E)).mono ?_
    intro e1 w' r
    refine key ⟨s.1, s.2, c, un.take (un.length - 1), 1⟩ (ef.trans ?_) w w' e1 E (Done.of (o := ⟨s.1, s.2, c, un.take (un.length - 1), 1⟩) r (by rw [show textC (cutC (baL s.1)) = baL s.1 from s1, toBA_baL]) (by rw [show textC (cutC (baL s.2)) = baL s.2 from s2, toBA_baL]) (cut_sm (by omega)) (cut_sm (by omega)) (by simp; have := h.n; omega))
    rw [edUndo, if_neg h0, lnT_at hs, lnH_at hs]
end
end Go.Proofs.YtokjpnlmkecleaaGreatDoor

namespace Go.Proofs.YtokjpnlmkecleaaGreatDoor
open Go.RowKit
set_option maxRecDepth 10000 in
set_option maxHeartbeats 4000000 in
theorem to_any (d kd : Int) (rv : Value) (W : World) :
    Calls Tryz.prog 102 #[.int .i64 d, .agg #[.int .i64 kd, rv]] W fun e w' => e = .returned (.int .i64 d) ∧ Ext W w' := by
  have H0 := hide ((Ext.refl W).alloc (.cells #[.int .i64 kd, rv] 28))
  go_enter Tryz.func102, Tryz.ntmps102
  go_wp2
  exact bodyPost_ret (v := .int .i64 d) (by simp [results, Tryz.results102, go_sem]) rfl ⟨rfl, unhide H0⟩
section
variable {P base : Nat} {W : World} {a b c : ByteArray} {u : Value} {qs : List Nat} {un : List (ByteArray × ByteArray)} {cl rl rr : List Value}
theorem press_3 (h : LnOk a b c un) (e0 : Ed0 P base W c u qs un (cutC (baL a)) (cutC (baL b)) cl rl rr) (rv : Value) (rs : List Int) :
    Calls Tryz.prog 28 #[.pointer (some ⟨P, 0, none⟩), .agg #[.int .i64 3, rv]] W fun e w' => ∃ d, e = .returned (.int .i64 d) ∧ Done (edF a b c un 3 rs) P base W d w' := by
  have ef : edF a b c un 3 rs = ⟨a, b, c, un, 3⟩ := by simp [edF]
  have key : ∀ o : LD, edF a b c un 3 rs = o → ∀ (w w' : World) (e : Ending), Ext W w → (∃ d, e = .returned (.int .i64 d) ∧ Done o P base w d w') → ∃ d, e = .returned (.int .i64 d) ∧ Done (edF a b c un 3 rs) P base W d w' := by
    rintro o rfl w w' e E ⟨d, h1, h2⟩
    exact ⟨d, h1, h2.pre E⟩
  refine press_hit 102 (fun _ _ => by kernel_rfl) (.int .i64 3) P 3 rv W rfl (Done (edF a b c un 3 rs) P base W) (fun w E => ?_)
  refine (to_any 3 3 rv w).mono ?_
  rintro e1 w' ⟨rfl, E1⟩
  exact key _ ef w w' _ E (Done.of (o := ⟨a, b, c, un, 3⟩) ((e0.ext E).same E1 3) h.ea h.eb h.smA h.smB h.n)
theorem press_21 (h : LnOk a b c un) (e0 : Ed0 P base W c u qs un (cutC (baL a)) (cutC (baL b)) cl rl rr) (rv : Value) (rs : List Int) :
    Calls Tryz.prog 28 #[.pointer (some ⟨P, 0, none⟩), .agg #[.int .i64 21, rv]] W fun e w' => ∃ d, e = .returned (.int .i64 d) ∧ Done (edF a b c un 21 rs) P base W d w' := by
  have ef : edF a b c un 21 rs = ⟨a, b, c, un, 4⟩ := by simp [edF]
  have key : ∀ o : LD, edF a b c un 21 rs = o → ∀ (w w' : World) (e : Ending), Ext W w → (∃ d, e = .returned (.int .i64 d) ∧ Done o P base w d w') → ∃ d, e = .returned (.int .i64 d) ∧ Done (edF a b c un 21 rs) P base W d w' := by
    rintro o rfl w w' e E ⟨d, h1, h2⟩
    exact ⟨d, h1, h2.pre E⟩
  refine press_hit 102 (fun _ _ => by kernel_rfl) (.int .i64 4) P 21 rv W rfl (Done (edF a b c un 21 rs) P base W) (fun w E => ?_)
  refine (to_any 4 21 rv w).mono ?_
  rintro e1 w' ⟨rfl, E1⟩
  exact key _ ef w w' _ E (Done.of (o := ⟨a, b, c, un, 4⟩) ((e0.ext E).same E1 4) h.ea h.eb h.smA h.smB h.n)
theorem press_10 (h : LnOk a b c un) (e0 : Ed0 P base W c u qs un (cutC (baL a)) (cutC (baL b)) cl rl rr) (rv : Value) (rs : List Int) :
    Calls Tryz.prog 28 #[.pointer (some ⟨P, 0, none⟩), .agg #[.int .i64 10, rv]] W fun e w' => ∃ d, e = .returned (.int .i64 d) ∧ Done (edF a b c un 10 rs) P base W d w' := by
  have ef : edF a b c un 10 rs = ⟨a, b, c, un, 5⟩ := by simp [edF]
  have key : ∀ o : LD, edF a b c un 10 rs = o → ∀ (w w' : World) (e : Ending), Ext W w → (∃ d, e = .returned (.int .i64 d) ∧ Done o P base w d w') → ∃ d, e = .returned (.int .i64 d) ∧ Done (edF a b c un 10 rs) P base W d w' := by
    rintro o rfl w w' e E ⟨d, h1, h2⟩
    exact ⟨d, h1, h2.pre E⟩
  refine press_hit 102 (fun _ _ => by kernel_rfl) (.int .i64 5) P 10 rv W rfl (Done (edF a b c un 10 rs) P base W) (fun w E => ?_)
  refine (to_any 5 10 rv w).mono ?_
  rintro e1 w' ⟨rfl, E1⟩
  exact key _ ef w w' _ E (Done.of (o := ⟨a, b, c, un, 5⟩) ((e0.ext E).same E1 5) h.ea h.eb h.smA h.smB h.n)
theorem press_11 (h : LnOk a b c un) (e0 : Ed0 P base W c u qs un (cutC (baL a)) (cutC (baL b)) cl rl rr) (rv : Value) (rs : List Int) :
    Calls Tryz.prog 28 #[.pointer (some ⟨P, 0, none⟩), .agg #[.int .i64 11, rv]] W fun e w' => ∃ d, e = .returned (.int .i64 d) ∧ Done (edF a b c un 11 rs) P base W d w' := by
  have ef : edF a b c un 11 rs = ⟨a, b, c, un, 6⟩ := by simp [edF]
  have key : ∀ o : LD, edF a b c un 11 rs = o → ∀ (w w' : World) (e : Ending), Ext W w → (∃ d, e = .returned (.int .i64 d) ∧ Done o P base w d w') → ∃ d, e = .returned (.int .i64 d) ∧ Done (edF a b c un 11 rs) P base W d w' := by
    rintro o rfl w w' e E ⟨d, h1, h2⟩
    exact ⟨d, h1, h2.pre E⟩
  refine press_hit 102 (fun _ _ => by kernel_rfl) (.int .i64 6) P 11 rv W rfl (Done (edF a b c un 11 rs) P base W) (fun w E => ?_)
  refine (to_any 6 11 rv w).mono ?_
  rintro e1 w' ⟨rfl, E1⟩
  exact key _ ef w w' _ E (Done.of (o := ⟨a, b, c, un, 6⟩) ((e0.ext E).same E1 6) h.ea h.eb h.smA h.smB h.n)
theorem press_20 (h : LnOk a b c un) (e0 : Ed0 P base W c u qs un (cutC (baL a)) (cutC (baL b)) cl rl rr) (rv : Value) (rs : List Int) :
    Calls Tryz.prog 28 #[.pointer (some ⟨P, 0, none⟩), .agg #[.int .i64 20, rv]] W fun e w' => ∃ d, e = .returned (.int .i64 d) ∧ Done (edF a b c un 20 rs) P base W d w' := by
  have ef : edF a b c un 20 rs = ⟨a, b, c, un, 7⟩ := by simp [edF]
  have key : ∀ o : LD, edF a b c un 20 rs = o → ∀ (w w' : World) (e : Ending), Ext W w → (∃ d, e = .returned (.int .i64 d) ∧ Done o P base w d w') → ∃ d, e = .returned (.int .i64 d) ∧ Done (edF a b c un 20 rs) P base W d w' := by
    rintro o rfl w w' e E ⟨d, h1, h2⟩
    exact ⟨d, h1, h2.pre E⟩
  refine press_hit 102 (fun _ _ => by kernel_rfl) (.int .i64 7) P 20 rv W rfl (Done (edF a b c un 20 rs) P base W) (fun w E => ?_)
  refine (to_any 7 20 rv w).mono ?_
  rintro e1 w' ⟨rfl, E1⟩
  exact key _ ef w w' _ E (Done.of (o := ⟨a, b, c, un, 7⟩) ((e0.ext E).same E1 7) h.ea h.eb h.smA h.smB h.n)
theorem press_all (h : LnOk a b c un) (e0 : Ed0 P base W c u qs un (cutC (baL a)) (cutC (baL b)) cl rl rr) (kd : Int) (rv : Value) (rs : List Int) (hr : IntsAt W .i32 rv rs) (iR : I32s rs) (zR : rs.length ≤ 1048576) (hT : ∀ W', Fr (fun x => x = P ∨ base ≤ x) W W' → Laid W') :
    Calls Tryz.prog 28 #[.pointer (some ⟨P, 0, none⟩), .agg #[.int .i64 kd, rv]] W fun e w' => ∃ d, e = .returned (.int .i64 d) ∧ Done (edF a b c un kd rs) P base W d w' := by
  by_cases h1 : kd = 1
  · subst h1
    exact press_1 h e0 rv rs hr iR zR hT
  by_cases h2 : kd = 2
  · subst h2
    exact press_2 h e0 rv rs hr iR zR hT
  by_cases h3 : kd = 3
  · subst h3
    exact press_3 h e0 rv rs
  by_cases h4 : kd = 4
  · subst h4
    exact press_4 h e0 rv rs
  by_cases h5 : kd = 5
  · subst h5
    exact press_5 h e0 rv rs
  by_cases h6 : kd = 6
  · subst h6
    exact press_6 h e0 rv rs
  by_cases h7 : kd = 7
  · subst h7
    exact press_7 h e0 rv rs
  by_cases h8 : kd = 8
  · subst h8
    exact press_8 h e0 rv rs
  by_cases h9 : kd = 9
  · subst h9
    exact press_9 h e0 rv rs
  by_cases h10 : kd = 10
  · subst h10
    exact press_10 h e0 rv rs
  by_cases h11 : kd = 11
  · subst h11
    exact press_11 h e0 rv rs
  by_cases h12 : kd = 12
  · subst h12
    exact press_12 h e0 rv rs
  by_cases h13 : kd = 13
  · subst h13
    exact press_13 h e0 rv rs
  by_cases h14 : kd = 14
  · subst h14
    exact press_14 h e0 rv rs
  by_cases h15 : kd = 15
  · subst h15
    exact press_15 h e0 rv rs hT
  by_cases h16 : kd = 16
  · subst h16
    exact press_16 h e0 rv rs
  by_cases h17 : kd = 17
  · subst h17
    exact press_17 h e0 rv rs hT
  by_cases h18 : kd = 18
  · subst h18
    exact press_18 h e0 rv rs
  by_cases h19 : kd = 19
  · subst h19
    exact press_19 h e0 rv rs
  by_cases h20 : kd = 20
  · subst h20
    exact press_20 h e0 rv rs
  by_cases h21 : kd = 21
  · subst h21
    exact press_21 h e0 rv rs
  have ef : edF a b c un kd rs = ⟨a, b, c, un, 0⟩ := by simp [edF, h1, h2, h3, h4, h5, h6, h7, h8, h9, h10, h11, h12, h13, h14, h15, h16, h17, h18, h19, h20, h21]
  rw [ef]
  refine (press_miss P kd rv W (fun x hx e => ?_)).mono ?_
  · simp only [actL, List.mem_cons, List.not_mem_nil, or_false] at hx
    rcases hx with rfl | rfl | rfl | rfl | rfl | rfl | rfl | rfl | rfl | rfl | rfl | rfl | rfl | rfl | rfl | rfl | rfl | rfl | rfl | rfl | rfl <;> simp at e <;> omega
  · rintro e1 w' ⟨rfl, E1⟩
    exact Done.of (o := ⟨a, b, c, un, 0⟩) (e0.same E1 0) h.ea h.eb h.smA h.smB h.n
end
end Go.Proofs.YtokjpnlmkecleaaGreatDoor
