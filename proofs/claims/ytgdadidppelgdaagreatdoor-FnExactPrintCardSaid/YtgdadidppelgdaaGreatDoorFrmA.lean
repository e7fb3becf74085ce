import Derived.Test.YtgdadidppelgdaaGreatDoorViewM
import Derived.Test.YtgdadidppelgdaaGreatDoorWri
import Derived.Test.YtgdadidppelgdaaGreatDoorPaintM
import Derived.Deep.CutRange
namespace Go.Proofs.YtgdadidppelgdaaGreatDoor
open Go.RowKit

theorem leaves_congr {P : Program} {fn : Func} {R : Ending → World → Prop} {t t' : Array Value} (h : results fn t = results fn t') : ∀ (ds : List Deferred), Leaves P fn t R ds = Leaves P fn t' R ds
  | [] => by
    funext u w
    cases u <;> simp [Leaves, h]
  | d :: ds => by
    funext u w
    simp only [Leaves, leaves_congr h ds]
theorem infoWrs : (Tryz.prog.info? 83).map (·.size) = some 5 := by kernel_rfl
theorem infoBlkF : (Tryz.prog.info? 61).map (·.size) = some 3 := by kernel_rfl
theorem frame_put {R : Ending → World → Prop} {K : Act → World → Prop} {x : List PanicEntry} {a : Act} {w : World} {v : Value} {ds : Option Nat} (n : Nat) (hd : ds = some n) (hn : 6 ≤ n) (h : Exit.then K (bodyPostD Tryz.prog Tryz.f66 R) (.panic x) (a.put ds v) w) : Exit.then K (bodyPostD Tryz.prog Tryz.f66 R) (.panic x) a w := by
  subst hd
  have hr : results Tryz.f66 (a.put (some n) v).tmps = results Tryz.f66 a.tmps := by
    have h4 : (a.put (some n) v).tmps[4]? = a.tmps[4]? := by simp [Act.put, show n ≠ 4 by omega]
    have h5 : (a.put (some n) v).tmps[5]? = a.tmps[5]? := by simp [Act.put, show n ≠ 5 by omega]
    simp [results, Tryz.results66, h4, h5]
  have h2 : Leaves Tryz.prog Tryz.f66 (a.put (some n) v).tmps R a.defers (.panicking x) w := h
  rw [leaves_congr hr] at h2
  exact h2
/-- The five writers. -/
abbrev wrL (ob qb nb : Nat) : List Value := [.func (.func 129) #[] #[.pointer (some ⟨ob, 0, none⟩)], .func (.func 130) #[] #[.pointer (some ⟨nb, 0, none⟩)], .func (.func 131) #[] #[.pointer (some ⟨nb, 0, none⟩)], .func (.func 132) #[] #[.pointer (some ⟨qb, 0, none⟩)], .func (.func 133) #[] #[.pointer (some ⟨ob, 0, none⟩)]]
/-- What a session at work has besides, in a frame. -/
abbrev lvW (ob qb nb : Nat) (bv : Value) (R C : Int) : List Value := .int .i64 0 :: .slice none 0 0 :: .int .i32 1 :: .int .u32 0 :: (wrL ob qb nb ++ [bv, .int .i64 R, .int .i64 C])
theorem WrS.frP {W W' : World} {B ob qb nb : Nat} {bs : List Int} {S : Nat → Prop} (h : WrS W B ob qb nb bs) (f : Fr S W W') (hS : ∀ g, S g → g ≠ ob ∧ g ≠ qb ∧ g ≠ nb ∧ g ≠ 4 ∧ g < B) : WrS W' B ob qb nb bs := by
  obtain ⟨v, hc, ho⟩ := h.out
  have hle := h.le
  have hb := h.ltb
  have hq := h.ltq
  have hn := h.ltn
  have hl := h.lo
  refine ⟨⟨v, ?_, f.owns ho (fun g hg e => ?_)⟩, ?_, ?_, ?_, h.neq, h.nen, h.lo, h.ltb, h.ltq, h.ltn, Nat.le_trans hle f.size, h.tab.keep (f.block _ (by omega) (fun e => (hS _ e).2.2.2.1 rfl))⟩
  · rw [cell_same (f.block _ (by omega) (fun e => (hS _ e).1 rfl))]; exact hc
  · have h1 := (ho.lt g hg).1
    have h2 := (hS g e).2.2.2.2
    omega
  · rw [frozen_same (f.block _ (by omega) (fun e => (hS _ e).1 rfl))]; exact h.hf
  · rw [cell_same (f.block _ (by omega) (fun e => (hS _ e).2.1 rfl))]; exact h.q
  · rw [cell_same (f.block _ (by omega) (fun e => (hS _ e).2.2.1 rfl))]; exact h.nn
/-- What the work of a frame leaves: it has come to its end, or it has refused. -/
def WorkP (P B ob qb nb : Nat) (bv : Value) (R C : Int) (Ok : Array Value → List Int → World → Prop) (No : Int → Prop) (W : World) (e : Ending) (w' : World) : Prop :=
  (∃ sc bs, e = .returned (.tuple #[]) ∧ sc.size = 17 ∧ w'.heap[P]? = some (.cells (lvC sc (lvW ob qb nb bv R C)) 85 (0, 0)) ∧ WrS w' B ob qb nb bs ∧ Ok sc bs w' ∧ Fr (fun q => q = P ∨ WS B ob q) W w')
  ∨ (∃ c sc, e = .panicked [{ v := .iface 134 (.int .i64 c), recovered := false }] ∧ sc.size = 17 ∧ w'.heap[P]? = some (.cells (lvC sc (lvW ob qb nb bv R C)) 85 (0, 0)) ∧ No c ∧ Fr (fun q => q = P ∨ WS B ob q) W w')
/-- The same, of a work that may also write into the blocks X of the session. -/
def WorkX (X : Nat → Prop) (P B ob qb nb : Nat) (bv : Value) (R C : Int) (Ok : Array Value → List Int → World → Prop) (No : Int → Prop) (W : World) (e : Ending) (w' : World) : Prop :=
  (∃ sc bs, e = .returned (.tuple #[]) ∧ sc.size = 17 ∧ w'.heap[P]? = some (.cells (lvC sc (lvW ob qb nb bv R C)) 85 (0, 0)) ∧ WrS w' B ob qb nb bs ∧ Ok sc bs w' ∧ Fr (fun q => q = P ∨ X q ∨ WS B ob q) W w')
  ∨ (∃ c sc, e = .panicked [{ v := .iface 134 (.int .i64 c), recovered := false }] ∧ sc.size = 17 ∧ w'.heap[P]? = some (.cells (lvC sc (lvW ob qb nb bv R C)) 85 (0, 0)) ∧ No c ∧ Fr (fun q => q = P ∨ X q ∨ WS B ob q) W w')
theorem WorkP.x {P B ob qb nb : Nat} {bv : Value} {R C : Int} {Ok : Array Value → List Int → World → Prop} {No : Int → Prop} {W : World} {e : Ending} {w' : World} (h : WorkP P B ob qb nb bv R C Ok No W e w') : WorkX (fun _ => False) P B ob qb nb bv R C Ok No W e w' := by
  rcases h with ⟨sc, bs, h1, h2, h3, h4, h5, h6⟩ | ⟨c, sc, h1, h2, h3, h4, h5⟩
  · exact .inl ⟨sc, bs, h1, h2, h3, h4, h5, h6.mono (fun q hq => hq.elim .inl (fun h => .inr (.inr h)))⟩
  · exact .inr ⟨c, sc, h1, h2, h3, h4, h5.mono (fun q hq => hq.elim .inl (fun h => .inr (.inr h)))⟩
set_option linter.unusedSimpArgs false in
set_option maxRecDepth 10000 in
set_option maxHeartbeats 16000000 in
theorem frame_anyX (X : Nat → Prop) (P : Nat) (s : SS) (ua ha pa qa la da : Option Addr) (uc hc pc qc lc dc : Nat) (F : Nat) (caps : Array Value) (Ok : Array Value → List Int → World → Prop) (No : Int → Prop) (w0 w : World) (E0 : Ext w0 w) (hP0 : w0.heap.size ≤ P) (hX : ∀ q, X q → w0.heap.size ≤ q ∧ q < w.heap.size ∧ q ≠ P)
    (hL : w.heap[P]? = some (.cells (lvC (sesC s (.slice ua s.un uc) (.slice ha s.kh.length hc) (.slice pa s.pn pc) (.slice qa s.qn qc) (.slice la s.ln lc) (.slice da s.dn dc)) lv0) 85 (0, 0))) (hO : OwnSes w w0.heap.size s (.slice ua s.un uc) (.slice ha s.kh.length hc) (.slice pa s.pn pc) (.slice qa s.qn qc) (.slice la s.ln lc) (.slice da s.dn dc)) (hnf : ¬ SesFoot (.slice ua s.un uc) (.slice ha s.kh.length hc) (.slice pa s.pn pc) (.slice qa s.qn qc) (.slice la s.ln lc) (.slice da s.dn dc) P) (hz : s.Sz) (hT : Tabs3 w0) (hlo : 4 < w0.heap.size) (hPw : PowT w0)
    (hstab : ∀ sc bs W1 W2, Ok sc bs W1 → Fr (fun q => q = P ∨ q = w.heap.size + 1 ∨ q = w.heap.size + 1 + 1) W1 W2 → Ok sc bs W2)
    (hent : ∀ W, Sem.run Tryz.prog (callFunc F caps) W = .ok (.enter F caps) W)
    (hwork : SesP s → ∀ (W : World) (B ob qb nb : Nat) (bv : Value), Ext w0 W → Fr (fun q => q = P ∨ w.heap.size ≤ q) w W → w.heap.size ≤ ob ∧ w.heap.size ≤ qb ∧ w.heap.size ≤ nb → w.heap.size + 3 ≤ B → W.heap[P]? = some (.cells (lvC (sesC s (.slice ua s.un uc) (.slice ha s.kh.length hc) (.slice pa s.pn pc) (.slice qa s.qn qc) (.slice la s.ln lc) (.slice da s.dn dc)) (lvW ob qb nb bv (s.blk.R : Int) s.blk.C)) 85 (0, 0)) → WrS W B ob qb nb [] → Own1 W B 9 bv s.blk.n (fun i => .string (s.blk.tx i)) → Calls Tryz.prog F caps W fun e w' => WorkX X P B ob qb nb bv (s.blk.R : Int) s.blk.C Ok No W e w') :
    Calls Tryz.prog 66 #[.pointer (some ⟨P, 0, none⟩), .func (Fn.func F) #[] caps] w fun e w' => (∃ v sc bs r, e = .returned (.tuple #[v, .int .i64 0]) ∧ SesP s ∧ w'.ownsRow w.heap.size 5 1 v bs.length (bs.map (Value.int .u8)) ∧ w'.heap[P]? = some (.cells (lvC sc r) 85 (0, 0)) ∧ sc.size = 17 ∧ Ok sc bs w' ∧ Fr (fun q => q = P ∨ X q ∨ w.heap.size ≤ q) w w')
      ∨ (∃ c u h p q l d r, e = .returned (.tuple #[.slice none 0 0, .int .i64 c]) ∧ (c = 1 ∧ ¬ SesP s ∨ SesP s ∧ No c) ∧ w'.heap[P]? = some (.cells (lvC (sesC s u h p q l d) r) 85 (0, 0)) ∧ OwnSes w' w.heap.size s u h p q l d ∧ ¬ SesFoot u h p q l d P ∧ Fr (fun q => q = P ∨ X q ∨ w.heap.size ≤ q) w w') := by
  have hPs : P < w.heap.size := lt_of_block hL
  have hss := hide E0.size
  have hmf : ∀ (fn : Fn) (first cap : Array Value) (w : World), (Instr.makeFunc fn first cap).run Tryz.prog w = .ok (.func fn first cap) w := fun _ _ _ _ => rfl
  have HFT : Hid (∀ g, SesFoot (.slice ua s.un uc) (.slice ha s.kh.length hc) (.slice pa s.pn pc) (.slice qa s.qn qc) (.slice la s.ln lc) (.slice da s.dn dc) g → ¬ (g = P ∨ w.heap.size ≤ g)) := hide (fun g hg h9 => by
    rcases h9 with h9 | h9
    · subst h9; exact hnf hg
    · have := (hO.foot hg).2; omega)
  have hcC := hide (fun W (hF : Fr (fun q => q = P ∨ w.heap.size ≤ q) w W) => copySession_any s (.slice ua s.un uc) (.slice ha s.kh.length hc) (.slice pa s.pn pc) (.slice qa s.qn qc) (.slice la s.ln lc) (.slice da s.dn dc) W ((hO.fr hF (unhide HFT)).reads) hz)
  have hcH := hide (fun W => copyHistory_nil 0 W)
  obtain ⟨ok, hok⟩ := ex_bool (SesP s)
  have hcS := hide (fun W (hF : Fr (fun q => q = P ∨ w.heap.size ≤ q) w W) (hE : Ext w0 W) => implSessionOk_any s (.slice ua s.un uc) (.slice ha s.kh.length hc) (.slice pa s.pn pc) (.slice qa s.qn qc) (.slice la s.ln lc) (.slice da s.dn dc) W ((hO.fr hF (unhide HFT)).reads) hz (hT.ext hE) ok hok)
  have hcB := hide (fun (hk : SesP s) W (hF : Fr (fun q => q = P ∨ w.heap.size ≤ q) w W) (hE : Ext w0 W) => blockOf_any s (.slice ua s.un uc) (.slice ha s.kh.length hc) (.slice pa s.pn pc) (.slice qa s.qn qc) (.slice la s.ln lc) (.slice da s.dn dc) W ((hO.fr hF (unhide HFT)).reads) hz hk.2.1 (hT.ext hE).1)
  have hcW := hide (fun W (hE : Ext w0 W) => newWriters_all W (Nat.lt_of_lt_of_le hlo hE.size) (hPw.keep (hE.heap hlo)))
  have HOK := hide hok
  have HX := hide hX
  clear hX
  have HWK := hide hwork
  have HST := hide hstab
  simp only [sesV_C] at hcC hcS hcB
  clear hok hwork hstab hT hPw hz hnf
  obtain ⟨V, hV⟩ : ∃ V, V = ((w.alloc (.cells #[.pointer (some ⟨P, 0, none⟩)] 66)).alloc (.cells #[.slice none 0 0] 25)).alloc (.cells #[.int .i64 0] 3) := ⟨_, rfl⟩
  have EV : Ext w V := by rw [hV]; exact (((Ext.refl w).alloc _).alloc _).alloc _
  have zV : V.heap.size = w.heap.size + 1 + 1 + 1 := by rw [hV]; simp
  have b0 : V.heap[w.heap.size]? = some (.cells #[.pointer (some ⟨P, 0, none⟩)] 66 (0, 0)) := by rw [hV]; exact (((Ext.refl _).alloc _).alloc _).kept (new_block w _)
  have b1 : V.heap[w.heap.size + 1]? = some (.cells #[.slice none 0 0] 25 (0, 0)) := by rw [hV]; refine ((Ext.refl _).alloc _).kept ?_; have h := new_block (w.alloc (.cells #[.pointer (some ⟨P, 0, none⟩)] 66)) (.cells #[.slice none 0 0] 25); rw [show (w.alloc (.cells #[.pointer (some ⟨P, 0, none⟩)] 66)).heap.size = w.heap.size + 1 by simp] at h; exact h
  have b2 : V.heap[w.heap.size + 1 + 1]? = some (.cells #[.int .i64 0] 3 (0, 0)) := by rw [hV]; have h := new_block ((w.alloc (.cells #[.pointer (some ⟨P, 0, none⟩)] 66)).alloc (.cells #[.slice none 0 0] 25)) (.cells #[.int .i64 0] 3); rw [show ((w.alloc (.cells #[.pointer (some ⟨P, 0, none⟩)] 66)).alloc (.cells #[.slice none 0 0] 25)).heap.size = w.heap.size + 1 + 1 by simp] at h; exact h
  have bP := EV.kept hL
  have k19 : V.cell? ⟨P, 19, none⟩ = some (.int .i32 0) := by rw [cell_of_row V P 19 _ _ _ bP]; exact lvC_at (sc := (sesC s (.slice ua s.un uc) (.slice ha s.kh.length hc) (.slice pa s.pn pc) (.slice qa s.qn qc) (.slice la s.ln lc) (.slice da s.dn dc))) rfl 2
  have f19 : V.frozen? ⟨P, 19, none⟩ = false := Lib.frozen_of_heap bP 19
  have hlk := hide (lock_any ⟨P, 19, none⟩ V k19 f19)
  have HV := hide hV
  have HBB := hide (And.intro b0 (And.intro b1 (And.intro b2 bP)))
  clear hV b0 b1 b2 bP k19 f19 hL
  go_enter_defers Tryz.func66, Tryz.ntmps66
  go_wp2_with fail
  rw [← unhide HV]
  clear HV
  refine (unhide hlk).mono ?_
  rintro e w4 ⟨rfl, hw4⟩
  have F4 : Fr (fun q => q = P ∨ w.heap.size ≤ q) w w4 := by rw [hw4]; exact Fr.setCell (S := (fun q => q = P ∨ w.heap.size ≤ q)) (Fr.of_ext EV) (a := ⟨P, 19, none⟩) (.inl rfl) _
  have E4 : Ext w0 w4 := F4.ext E0 (fun q hq => by have := unhide hss; omega)
  have z4 : w.heap.size + 1 + 1 + 1 ≤ w4.heap.size := by rw [hw4]; simp [zV]
  have HP4 : Hid (w4.heap[P]? = some (.cells (lvC (sesC s (.slice ua s.un uc) (.slice ha s.kh.length hc) (.slice pa s.pn pc) (.slice qa s.qn qc) (.slice la s.ln lc) (.slice da s.dn dc)) [.int .i64 0, .slice none 0 0, .int .i32 1, .int .u32 0, .nilFunc, .nilFunc, .nilFunc, .nilFunc, .nilFunc, .slice none 0 0, .int .i64 0, .int .i64 0]) 85 (0, 0))) := hide (by rw [hw4]; exact set_blk2 (unhide HBB).2.2.2 (lvC_set (sc := (sesC s (.slice ua s.un uc) (.slice ha s.kh.length hc) (.slice pa s.pn pc) (.slice qa s.qn qc) (.slice la s.ln lc) (.slice da s.dn dc))) rfl 2 (.int .i32 1)))
  have H40 : Hid (w4.heap[w.heap.size]? = some (.cells #[.pointer (some ⟨P, 0, none⟩)] 66 (0, 0))) := hide (by rw [hw4]; exact set_else (unhide HBB).1 (by omega))
  have H41 : Hid (w4.heap[w.heap.size + 1]? = some (.cells #[.slice none 0 0] 25 (0, 0))) := hide (by rw [hw4]; exact set_else (unhide HBB).2.1 (by omega))
  have H42 : Hid (w4.heap[w.heap.size + 1 + 1]? = some (.cells #[.int .i64 0] 3 (0, 0))) := hide (by rw [hw4]; exact set_else (unhide HBB).2.2.1 (by omega))
  have k0 : w4.cell? ⟨w.heap.size, 0, none⟩ = some (.pointer (some ⟨P, 0, none⟩)) := cells_of (unhide H40) 0 _ rfl
  have HS4 := hide z4
  have HF4 := hide F4
  have HE4 := hide E4
  clear hw4 HBB hlk EV zV z4 F4 E4
  go_upto_region 3 with fail
  go_cut [6, 7] from 15 to 25 (fun v6 v7 wq => ∃ (b6 b7 : Nat) (u4a h4a p4a q4a l4a d4a : Option Addr) (u4c h4c p4c q4c l4c d4c : Nat), v6 = .pointer (some ⟨b6, 0, none⟩) ∧ v7 = .pointer (some ⟨b7, 0, none⟩) ∧ Hid (wq.heap[b6]? = some (.cells (sesC s (.slice u4a s.un u4c) (.slice h4a s.kh.length h4c) (.slice p4a s.pn p4c) (.slice q4a s.qn q4c) (.slice l4a s.ln l4c) (.slice d4a s.dn d4c)) 37 (0, 0))) ∧ Hid (wq.heap[b7]? = some (.cells #[.int .i64 0, .slice none 0 0] 69 (0, 0))) ∧ Hid (OwnSes wq w.heap.size s (.slice u4a s.un u4c) (.slice h4a s.kh.length h4c) (.slice p4a s.pn p4c) (.slice q4a s.qn q4c) (.slice l4a s.ln l4c) (.slice d4a s.dn d4c)) ∧ Hid (w4.heap.size ≤ b6 ∧ w4.heap.size ≤ b7 ∧ ∀ g, SesFoot (.slice u4a s.un u4c) (.slice h4a s.kh.length h4c) (.slice p4a s.pn p4c) (.slice q4a s.qn q4c) (.slice l4a s.ln l4c) (.slice d4a s.dn d4c) g → w4.heap.size ≤ g) ∧ Hid (Fr (fun q => w4.heap.size ≤ q) w4 wq))
  case first =>
    clear k0
    refine wp_region_held_drew (S := fun W => W.heap[w.heap.size]? = some (.cells #[.pointer (some ⟨P, 0, none⟩)] 66 (0, 0)) ∧ W.heap[P]? = some (.cells (lvC (sesC s (.slice ua s.un uc) (.slice ha s.kh.length hc) (.slice pa s.pn pc) (.slice qa s.qn qc) (.slice la s.ln lc) (.slice da s.dn dc)) [.int .i64 0, .slice none 0 0, .int .i32 1, .int .u32 0, .nilFunc, .nilFunc, .nilFunc, .nilFunc, .nilFunc, .slice none 0 0, .int .i64 0, .int .i64 0]) 85 (0, 0))) (by kernel_rfl) ⟨unhide H40, unhide HP4⟩ (fun hHeld => ?_)
    refine wpAnyH_take (i := 0) (v := .pointer (some ⟨P, 0, none⟩)) rfl (by kernel_rfl) (by kernel_rfl) (by kernel_rfl) (fun _ _ _ h => frame_put 15 rfl (by omega) h) (Or.inl ⟨by rfl, ?_⟩) (by assumption) ?_
    · intro w' hSw; have k9 := cells_of hSw.1 0 _ rfl; go_simp <;> with_reducible rfl
    simp only [Act.put, List.getElem_toArray, List.getElem_cons_succ, List.getElem_cons_zero, List.setIfInBounds_toArray, List.set_cons_zero, List.set_cons_succ]
    refine wpAnyH_take (i := 1) (v := .pointer (some ⟨P, 0, none⟩)) rfl (by kernel_rfl) (by kernel_rfl) (by kernel_rfl) (fun _ _ _ h => frame_put 16 rfl (by omega) h) (Or.inl ⟨by rfl, ?_⟩) (by assumption) ?_
    · intro w' hSw; go_simp <;> with_reducible rfl
    simp only [Act.put, List.getElem_toArray, List.getElem_cons_succ, List.getElem_cons_zero, List.setIfInBounds_toArray, List.set_cons_zero, List.set_cons_succ]
    refine wpAnyH_take (i := 2) (v := .pointer (some ⟨P, 0, none⟩)) rfl (by kernel_rfl) (by kernel_rfl) (by kernel_rfl) (fun _ _ _ h => frame_put 17 rfl (by omega) h) (Or.inl ⟨by rfl, ?_⟩) (by assumption) ?_
    · intro w' hSw; go_simp <;> with_reducible rfl
    simp only [Act.put, List.getElem_toArray, List.getElem_cons_succ, List.getElem_cons_zero, List.setIfInBounds_toArray, List.set_cons_zero, List.set_cons_succ]
    refine wpAnyH_take (i := 3) (v := .agg (sesC s (.slice ua s.un uc) (.slice ha s.kh.length hc) (.slice pa s.pn pc) (.slice qa s.qn qc) (.slice la s.ln lc) (.slice da s.dn dc))) rfl (by kernel_rfl) (by kernel_rfl) (by kernel_rfl) (fun _ _ _ h => frame_put 18 rfl (by omega) h) (Or.inl ⟨by rfl, ?_⟩) (by assumption) ?_
    · intro w' hSw; exact yields_load_part 37 _ rfl P 0 rfl _ _ (sesC s (.slice ua s.un uc) (.slice ha s.kh.length hc) (.slice pa s.pn pc) (.slice qa s.qn qc) (.slice la s.ln lc) (.slice da s.dn dc)) _ _ hSw.2 lvC_ses Tryz.underlying37 rfl infoSes
    simp only [Act.put, List.getElem_toArray, List.getElem_cons_succ, List.getElem_cons_zero, List.setIfInBounds_toArray, List.set_cons_zero, List.set_cons_succ]
    refine wpAnyH_take (i := 5) (v := .pointer (some ⟨P, 0, none⟩)) rfl (by kernel_rfl) (by kernel_rfl) (by kernel_rfl) (fun _ _ _ h => frame_put 20 rfl (by omega) h) (Or.inl ⟨by rfl, ?_⟩) (by assumption) ?_
    · intro w' hSw; have k9 := cells_of hSw.1 0 _ rfl; go_simp <;> with_reducible rfl
    simp only [Act.put, List.getElem_toArray, List.getElem_cons_succ, List.getElem_cons_zero, List.setIfInBounds_toArray, List.set_cons_zero, List.set_cons_succ]
    refine wpAnyH_take (i := 6) (v := .pointer (some ⟨P, 0, none⟩)) rfl (by kernel_rfl) (by kernel_rfl) (by kernel_rfl) (fun _ _ _ h => frame_put 21 rfl (by omega) h) (Or.inl ⟨by rfl, ?_⟩) (by assumption) ?_
    · intro w' hSw; go_simp <;> with_reducible rfl
    simp only [Act.put, List.getElem_toArray, List.getElem_cons_succ, List.getElem_cons_zero, List.setIfInBounds_toArray, List.set_cons_zero, List.set_cons_succ]
    refine wpAnyH_take (i := 7) (v := .pointer (some ⟨P, 17, none⟩)) rfl (by kernel_rfl) (by kernel_rfl) (by kernel_rfl) (fun _ _ _ h => frame_put 22 rfl (by omega) h) (Or.inl ⟨by rfl, ?_⟩) (by assumption) ?_
    · intro w' hSw; go_simp <;> with_reducible rfl
    simp only [Act.put, List.getElem_toArray, List.getElem_cons_succ, List.getElem_cons_zero, List.setIfInBounds_toArray, List.set_cons_zero, List.set_cons_succ]
    refine wpAnyH_take (i := 8) (v := .agg #[.int .i64 0, .slice none 0 0]) rfl (by kernel_rfl) (by kernel_rfl) (by kernel_rfl) (fun _ _ _ h => frame_put 23 rfl (by omega) h) (Or.inl ⟨by rfl, ?_⟩) (by assumption) ?_
    · intro w' hSw; exact yields_load_part 69 _ rfl P 17 rfl _ _ #[.int .i64 0, .slice none 0 0] _ _ hSw.2 (fun j v hj => by rw [lvC_at (sc := (sesC s (.slice ua s.un uc) (.slice ha s.kh.length hc) (.slice pa s.pn pc) (.slice qa s.qn qc) (.slice la s.ln lc) (.slice da s.dn dc))) rfl j]; match j, hj with | 0, hj => exact hj | 1, hj => exact hj | j + 2, hj => simp at hj) Tryz.underlying69 rfl infoHis
    simp only [Act.put, List.getElem_toArray, List.getElem_cons_succ, List.getElem_cons_zero, List.setIfInBounds_toArray, List.set_cons_zero, List.set_cons_succ]
    have G := hide ((Ext.refl w4).drew)
    generalize w4.drew = X0 at *
    clear hHeld
    refine wpAnyH_ready (rs := [4, 10, 11]) (by kernel_rfl) (by simp) ?_
    refine (AllReadyH.cons rfl (fun K hK => ?_) (AllReadyH.cons rfl (fun K hK => ?_) (AllReadyH.cons rfl (fun K hK => ?_) AllReadyH.nil)))
    · go_simp
      go_wp2_with (go_at_call 64; refine ((unhide hcC) _ ((unhide HF4).tr (Fr.of_ext (unhide G)))).mono ?_; rintro e X1 ⟨u4, h4, p4, q4, l4, d4, rfl, o9, f9⟩; obtain ⟨u4a, u4c, h4a, h4c, p4a, p4c, q4a, q4c, l4a, l4c, d4a, d4c, rfl, rfl, rfl, rfl, rfl, rfl⟩ := o9.reads.forms; have HLO : Hid (∀ g, SesFoot (.slice u4a s.un u4c) (.slice h4a s.kh.length h4c) (.slice p4a s.pn p4c) (.slice q4a s.qn q4c) (.slice l4a s.ln l4c) (.slice d4a s.dn d4c) g → w4.heap.size ≤ g) := hide (fun g hg => by have h1 := (o9.foot hg).1; have h2 := (unhide G).size; omega); have HO4 := hide (o9.mono (b' := w.heap.size) (by have h1 := (unhide G).size; have h2 := unhide HS4; omega)); replace G := hide ((unhide G).trans f9); clear o9 f9)
      refine hK.out _ _ ⟨(unhide G).kept (unhide H40), (unhide G).kept (unhide HP4)⟩ (fun hHeld => ?_)
      clear hK K hHeld
      refine wpAnyH_ready (rs := [9, 10, 11]) (by kernel_rfl) (by simp) ?_
      refine (AllReadyH.cons rfl (fun K hK => ?_) (AllReadyH.cons rfl (fun K hK => ?_) (AllReadyH.cons rfl (fun K hK => ?_) AllReadyH.nil)))
      · go_simp
        go_wp2_with (go_at_call 65; refine ((unhide hcH) _).mono ?_; rintro e X2 ⟨rfl, f9⟩; replace HO4 := hide ((unhide HO4).ext f9); replace G := hide ((unhide G).trans f9); clear f9)
        refine hK.out _ _ ⟨(unhide G).kept (unhide H40), (unhide G).kept (unhide HP4)⟩ (fun hHeld => ?_)
        clear hK K hHeld
        refine wpAnyH_ready (rs := [10, 11]) (by kernel_rfl) (by simp) ?_
        refine (AllReadyH.cons rfl (fun K hK => ?_) (AllReadyH.cons rfl (fun K hK => ?_) AllReadyH.nil))
        · go_simp
          have n9 := new_block X2 (.cells #[.string { data := #[] }, .int .i64 0, .int .i64 0, .string { data := #[] }, .string { data := #[] }, .string { data := #[] }, .slice none 0 0, .slice none 0 0, .bool false, .bool false, .slice none 0 0, .int .i64 0, .string { data := #[] }, .bool false, .slice none 0 0, .slice none 0 0, .slice none 0 0] 37)
          have e9 := (Ext.refl X2).alloc (.cells #[.string { data := #[] }, .int .i64 0, .int .i64 0, .string { data := #[] }, .string { data := #[] }, .string { data := #[] }, .slice none 0 0, .slice none 0 0, .bool false, .bool false, .slice none 0 0, .int .i64 0, .string { data := #[] }, .bool false, .slice none 0 0, .slice none 0 0, .slice none 0 0] 37)
          generalize X2.alloc (.cells #[.string { data := #[] }, .int .i64 0, .int .i64 0, .string { data := #[] }, .string { data := #[] }, .string { data := #[] }, .slice none 0 0, .slice none 0 0, .bool false, .bool false, .slice none 0 0, .int .i64 0, .string { data := #[] }, .bool false, .slice none 0 0, .slice none 0 0, .slice none 0 0] 37) = X3 at n9 e9 ⊢
          have HB6 := hide n9
          have NF6 : Hid (¬ SesFoot (.slice u4a s.un u4c) (.slice h4a s.kh.length h4c) (.slice p4a s.pn p4c) (.slice q4a s.qn q4c) (.slice l4a s.ln l4c) (.slice d4a s.dn d4c) (X2.heap.size)) := hide (fun hg => by have h1 := ((unhide HO4).foot hg).2; omega)
          replace HO4 := hide ((unhide HO4).ext e9)
          have L6 : Hid (w4.heap.size ≤ X2.heap.size) := hide (unhide G).size
          replace G := hide ((unhide G).trans e9)
          clear n9 e9
          refine hK.out _ _ ⟨(unhide G).kept (unhide H40), (unhide G).kept (unhide HP4)⟩ (fun hHeld => ?_)
          clear hK K hHeld
          refine wpAnyH_ready (rs := [11]) (by kernel_rfl) (by simp) ?_
          refine (AllReadyH.cons rfl (fun K hK => ?_) AllReadyH.nil)
          go_simp
          have n9 := new_block X3 (.cells #[.int .i64 0, .slice none 0 0] 69)
          have e9 := (Ext.refl X3).alloc (.cells #[.int .i64 0, .slice none 0 0] 69)
          generalize X3.alloc (.cells #[.int .i64 0, .slice none 0 0] 69) = X4 at n9 e9 ⊢
          have HB7 := hide n9
          have N67 : Hid ((X2.heap.size) ≠ (X3.heap.size)) := hide (by have h2 := lt_of_block (unhide HB6); omega)
          replace HB6 := hide (e9.kept (unhide HB6))
          have NF7 : Hid (¬ SesFoot (.slice u4a s.un u4c) (.slice h4a s.kh.length h4c) (.slice p4a s.pn p4c) (.slice q4a s.qn q4c) (.slice l4a s.ln l4c) (.slice d4a s.dn d4c) (X3.heap.size)) := hide (fun hg => by have h1 := ((unhide HO4).foot hg).2; omega)
          replace HO4 := hide ((unhide HO4).ext e9)
          have L7 : Hid (w4.heap.size ≤ X3.heap.size) := hide (unhide G).size
          replace G := hide ((unhide G).trans e9)
          clear n9 e9
          refine hK.out _ _ ⟨(unhide G).kept (unhide H40), (unhide G).kept (unhide HP4)⟩ (fun hHeld => ?_)
          clear hK K hHeld
          refine wpAnyH_ready (rs := [12]) (by kernel_rfl) (by simp) ?_
          refine AllReadyH.cons rfl (fun K hK => ?_) AllReadyH.nil
          refine wp_store_blk 37 _ _ rfl rfl (X2.heap.size) rfl _ _ (sesC s (.slice u4a s.un u4c) (.slice h4a s.kh.length h4c) (.slice p4a s.pn p4c) (.slice q4a s.qn q4c) (.slice l4a s.ln l4c) (.slice d4a s.dn d4c)) rfl (unhide HB6) infoSes rfl (by simp [Value.oneCell', sesC]) ?_
          intro X5 hb9 hf9
          have HB7 := hide (hf9.kept (unhide HB7) (fun e9 => unhide N67 e9.symm))
          have HB6 := hide hb9
          have HO4 := hide ((unhide HO4).fr hf9 (fun g hg e9 => by subst e9; exact unhide NF6 hg))
          have FY : Fr (fun q => w4.heap.size ≤ q) w4 X5 := (Fr.of_ext (unhide G)).tr (hf9.mono (fun q hq => by subst hq; exact unhide L6))
          clear hb9 hf9
          refine hK.out _ _ ⟨FY.kept (unhide H40) (by have h1 := unhide HS4; omega), FY.kept (unhide HP4) (by have h1 := unhide HS4; omega)⟩ (fun hHeld => ?_)
          clear hK K hHeld
          refine wpAnyH_ready (rs := [13]) (by kernel_rfl) (by simp) ?_
          refine AllReadyH.cons rfl (fun K hK => ?_) AllReadyH.nil
          refine wp_store_blk 69 _ _ rfl rfl (X3.heap.size) rfl _ _ #[.int .i64 0, .slice none 0 0] rfl (unhide HB7) infoHis rfl (by simp [Value.oneCell']) ?_
          intro X6 hb9 hf9
          have HB6 := hide (hf9.kept (unhide HB6) (unhide N67))
          have HB7 := hide hb9
          have HO4 := hide ((unhide HO4).fr hf9 (fun g hg e9 => by subst e9; exact unhide NF7 hg))
          have FY : Fr (fun q => w4.heap.size ≤ q) w4 X6 := FY.tr (hf9.mono (fun q hq => by subst hq; exact unhide L7))
          clear hb9 hf9
          refine hK.out _ _ ⟨FY.kept (unhide H40) (by have h1 := unhide HS4; omega), FY.kept (unhide HP4) (by have h1 := unhide HS4; omega)⟩ (fun hHeld => ?_)
          clear hK K hHeld
          refine wpAnyH_done (by kernel_rfl) ?_ _
          go_wp2
          go_meet
          exact ⟨_, _, _, _, _, _, _, _, _, _, _, _, _, _, rfl, rfl, HB6, HB7, HO4, hide ⟨unhide L6, unhide L7, unhide HLO⟩, hide FY⟩
        · go_simp
          have n9 := new_block X2 (.cells #[.int .i64 0, .slice none 0 0] 69)
          have e9 := (Ext.refl X2).alloc (.cells #[.int .i64 0, .slice none 0 0] 69)
          generalize X2.alloc (.cells #[.int .i64 0, .slice none 0 0] 69) = X7 at n9 e9 ⊢
          have HB7 := hide n9
          have NF7 : Hid (¬ SesFoot (.slice u4a s.un u4c) (.slice h4a s.kh.length h4c) (.slice p4a s.pn p4c) (.slice q4a s.qn q4c) (.slice l4a s.ln l4c) (.slice d4a s.dn d4c) (X2.heap.size)) := hide (fun hg => by have h1 := ((unhide HO4).foot hg).2; omega)
          replace HO4 := hide ((unhide HO4).ext e9)
          have L7 : Hid (w4.heap.size ≤ X2.heap.size) := hide (unhide G).size
          replace G := hide ((unhide G).trans e9)
          clear n9 e9
          refine hK.out _ _ ⟨(unhide G).kept (unhide H40), (unhide G).kept (unhide HP4)⟩ (fun hHeld => ?_)
          clear hK K hHeld
          refine wpAnyH_ready (rs := [10]) (by kernel_rfl) (by simp) ?_
          refine (AllReadyH.cons rfl (fun K hK => ?_) AllReadyH.nil)
          go_simp
          have n9 := new_block X7 (.cells #[.string { data := #[] }, .int .i64 0, .int .i64 0, .string { data := #[] }, .string { data := #[] }, .string { data := #[] }, .slice none 0 0, .slice none 0 0, .bool false, .bool false, .slice none 0 0, .int .i64 0, .string { data := #[] }, .bool false, .slice none 0 0, .slice none 0 0, .slice none 0 0] 37)
          have e9 := (Ext.refl X7).alloc (.cells #[.string { data := #[] }, .int .i64 0, .int .i64 0, .string { data := #[] }, .string { data := #[] }, .string { data := #[] }, .slice none 0 0, .slice none 0 0, .bool false, .bool false, .slice none 0 0, .int .i64 0, .string { data := #[] }, .bool false, .slice none 0 0, .slice none 0 0, .slice none 0 0] 37)
          generalize X7.alloc (.cells #[.string { data := #[] }, .int .i64 0, .int .i64 0, .string { data := #[] }, .string { data := #[] }, .string { data := #[] }, .slice none 0 0, .slice none 0 0, .bool false, .bool false, .slice none 0 0, .int .i64 0, .string { data := #[] }, .bool false, .slice none 0 0, .slice none 0 0, .slice none 0 0] 37) = X8 at n9 e9 ⊢
          have HB6 := hide n9
          have N67 : Hid ((X7.heap.size) ≠ (X2.heap.size)) := hide (by have h2 := lt_of_block (unhide HB7); omega)
          replace HB7 := hide (e9.kept (unhide HB7))
          have NF6 : Hid (¬ SesFoot (.slice u4a s.un u4c) (.slice h4a s.kh.length h4c) (.slice p4a s.pn p4c) (.slice q4a s.qn q4c) (.slice l4a s.ln l4c) (.slice d4a s.dn d4c) (X7.heap.size)) := hide (fun hg => by have h1 := ((unhide HO4).foot hg).2; omega)
          replace HO4 := hide ((unhide HO4).ext e9)
          have L6 : Hid (w4.heap.size ≤ X7.heap.size) := hide (unhide G).size
          replace G := hide ((unhide G).trans e9)
          clear n9 e9
          refine hK.out _ _ ⟨(unhide G).kept (unhide H40), (unhide G).kept (unhide HP4)⟩ (fun hHeld => ?_)
          clear hK K hHeld
          refine wpAnyH_ready (rs := [12]) (by kernel_rfl) (by simp) ?_
          refine AllReadyH.cons rfl (fun K hK => ?_) AllReadyH.nil
          refine wp_store_blk 37 _ _ rfl rfl (X7.heap.size) rfl _ _ (sesC s (.slice u4a s.un u4c) (.slice h4a s.kh.length h4c) (.slice p4a s.pn p4c) (.slice q4a s.qn q4c) (.slice l4a s.ln l4c) (.slice d4a s.dn d4c)) rfl (unhide HB6) infoSes rfl (by simp [Value.oneCell', sesC]) ?_
          intro X9 hb9 hf9
          have HB7 := hide (hf9.kept (unhide HB7) (fun e9 => unhide N67 e9.symm))
          have HB6 := hide hb9
          have HO4 := hide ((unhide HO4).fr hf9 (fun g hg e9 => by subst e9; exact unhide NF6 hg))
          have FY : Fr (fun q => w4.heap.size ≤ q) w4 X9 := (Fr.of_ext (unhide G)).tr (hf9.mono (fun q hq => by subst hq; exact unhide L6))
          clear hb9 hf9
          refine hK.out _ _ ⟨FY.kept (unhide H40) (by have h1 := unhide HS4; omega), FY.kept (unhide HP4) (by have h1 := unhide HS4; omega)⟩ (fun hHeld => ?_)
          clear hK K hHeld
          refine wpAnyH_ready (rs := [13]) (by kernel_rfl) (by simp) ?_
          refine AllReadyH.cons rfl (fun K hK => ?_) AllReadyH.nil
          refine wp_store_blk 69 _ _ rfl rfl (X2.heap.size) rfl _ _ #[.int .i64 0, .slice none 0 0] rfl (unhide HB7) infoHis rfl (by simp [Value.oneCell']) ?_
          intro X10 hb9 hf9
          have HB6 := hide (hf9.kept (unhide HB6) (unhide N67))
          have HB7 := hide hb9
          have HO4 := hide ((unhide HO4).fr hf9 (fun g hg e9 => by subst e9; exact unhide NF7 hg))
          have FY : Fr (fun q => w4.heap.size ≤ q) w4 X10 := FY.tr (hf9.mono (fun q hq => by subst hq; exact unhide L7))
          clear hb9 hf9
          refine hK.out _ _ ⟨FY.kept (unhide H40) (by have h1 := unhide HS4; omega), FY.kept (unhide HP4) (by have h1 := unhide HS4; omega)⟩ (fun hHeld => ?_)
          clear hK K hHeld
          refine wpAnyH_done (by kernel_rfl) ?_ _
          go_wp2
          go_meet
          exact ⟨_, _, _, _, _, _, _, _, _, _, _, _, _, _, rfl, rfl, HB6, HB7, HO4, hide ⟨unhide L6, unhide L7, unhide HLO⟩, hide FY⟩
      · go_simp
        have n9 := new_block X1 (.cells #[.string { data := #[] }, .int .i64 0, .int .i64 0, .string { data := #[] }, .string { data := #[] }, .string { data := #[] }, .slice none 0 0, .slice none 0 0, .bool false, .bool false, .slice none 0 0, .int .i64 0, .string { data := #[] }, .bool false, .slice none 0 0, .slice none 0 0, .slice none 0 0] 37)
        have e9 := (Ext.refl X1).alloc (.cells #[.string { data := #[] }, .int .i64 0, .int .i64 0, .string { data := #[] }, .string { data := #[] }, .string { data := #[] }, .slice none 0 0, .slice none 0 0, .bool false, .bool false, .slice none 0 0, .int .i64 0, .string { data := #[] }, .bool false, .slice none 0 0, .slice none 0 0, .slice none 0 0] 37)
        generalize X1.alloc (.cells #[.string { data := #[] }, .int .i64 0, .int .i64 0, .string { data := #[] }, .string { data := #[] }, .string { data := #[] }, .slice none 0 0, .slice none 0 0, .bool false, .bool false, .slice none 0 0, .int .i64 0, .string { data := #[] }, .bool false, .slice none 0 0, .slice none 0 0, .slice none 0 0] 37) = X11 at n9 e9 ⊢
        have HB6 := hide n9
        have NF6 : Hid (¬ SesFoot (.slice u4a s.un u4c) (.slice h4a s.kh.length h4c) (.slice p4a s.pn p4c) (.slice q4a s.qn q4c) (.slice l4a s.ln l4c) (.slice d4a s.dn d4c) (X1.heap.size)) := hide (fun hg => by have h1 := ((unhide HO4).foot hg).2; omega)
        replace HO4 := hide ((unhide HO4).ext e9)
        have L6 : Hid (w4.heap.size ≤ X1.heap.size) := hide (unhide G).size
        replace G := hide ((unhide G).trans e9)
        clear n9 e9
        refine hK.out _ _ ⟨(unhide G).kept (unhide H40), (unhide G).kept (unhide HP4)⟩ (fun hHeld => ?_)
        clear hK K hHeld
        refine wpAnyH_ready (rs := [9, 11]) (by kernel_rfl) (by simp) ?_
        refine (AllReadyH.cons rfl (fun K hK => ?_) (AllReadyH.cons rfl (fun K hK => ?_) AllReadyH.nil))
        · go_simp
          go_wp2_with (go_at_call 65; refine ((unhide hcH) _).mono ?_; rintro e X12 ⟨rfl, f9⟩; replace HB6 := hide (f9.kept (unhide HB6)); replace HO4 := hide ((unhide HO4).ext f9); replace G := hide ((unhide G).trans f9); clear f9)
          refine hK.out _ _ ⟨(unhide G).kept (unhide H40), (unhide G).kept (unhide HP4)⟩ (fun hHeld => ?_)
          clear hK K hHeld
          refine wpAnyH_ready (rs := [11]) (by kernel_rfl) (by simp) ?_
          refine (AllReadyH.cons rfl (fun K hK => ?_) AllReadyH.nil)
          go_simp
          have n9 := new_block X12 (.cells #[.int .i64 0, .slice none 0 0] 69)
          have e9 := (Ext.refl X12).alloc (.cells #[.int .i64 0, .slice none 0 0] 69)
          generalize X12.alloc (.cells #[.int .i64 0, .slice none 0 0] 69) = X13 at n9 e9 ⊢
          have HB7 := hide n9
          have N67 : Hid ((X1.heap.size) ≠ (X12.heap.size)) := hide (by have h2 := lt_of_block (unhide HB6); omega)
          replace HB6 := hide (e9.kept (unhide HB6))
          have NF7 : Hid (¬ SesFoot (.slice u4a s.un u4c) (.slice h4a s.kh.length h4c) (.slice p4a s.pn p4c) (.slice q4a s.qn q4c) (.slice l4a s.ln l4c) (.slice d4a s.dn d4c) (X12.heap.size)) := hide (fun hg => by have h1 := ((unhide HO4).foot hg).2; omega)
          replace HO4 := hide ((unhide HO4).ext e9)
          have L7 : Hid (w4.heap.size ≤ X12.heap.size) := hide (unhide G).size
          replace G := hide ((unhide G).trans e9)
          clear n9 e9
          refine hK.out _ _ ⟨(unhide G).kept (unhide H40), (unhide G).kept (unhide HP4)⟩ (fun hHeld => ?_)
          clear hK K hHeld
          refine wpAnyH_ready (rs := [12]) (by kernel_rfl) (by simp) ?_
          refine AllReadyH.cons rfl (fun K hK => ?_) AllReadyH.nil
          refine wp_store_blk 37 _ _ rfl rfl (X1.heap.size) rfl _ _ (sesC s (.slice u4a s.un u4c) (.slice h4a s.kh.length h4c) (.slice p4a s.pn p4c) (.slice q4a s.qn q4c) (.slice l4a s.ln l4c) (.slice d4a s.dn d4c)) rfl (unhide HB6) infoSes rfl (by simp [Value.oneCell', sesC]) ?_
          intro X14 hb9 hf9
          have HB7 := hide (hf9.kept (unhide HB7) (fun e9 => unhide N67 e9.symm))
          have HB6 := hide hb9
          have HO4 := hide ((unhide HO4).fr hf9 (fun g hg e9 => by subst e9; exact unhide NF6 hg))
          have FY : Fr (fun q => w4.heap.size ≤ q) w4 X14 := (Fr.of_ext (unhide G)).tr (hf9.mono (fun q hq => by subst hq; exact unhide L6))
          clear hb9 hf9
          refine hK.out _ _ ⟨FY.kept (unhide H40) (by have h1 := unhide HS4; omega), FY.kept (unhide HP4) (by have h1 := unhide HS4; omega)⟩ (fun hHeld => ?_)
          clear hK K hHeld
          refine wpAnyH_ready (rs := [13]) (by kernel_rfl) (by simp) ?_
          refine AllReadyH.cons rfl (fun K hK => ?_) AllReadyH.nil
          refine wp_store_blk 69 _ _ rfl rfl (X12.heap.size) rfl _ _ #[.int .i64 0, .slice none 0 0] rfl (unhide HB7) infoHis rfl (by simp [Value.oneCell']) ?_
          intro X15 hb9 hf9
          have HB6 := hide (hf9.kept (unhide HB6) (unhide N67))
          have HB7 := hide hb9
          have HO4 := hide ((unhide HO4).fr hf9 (fun g hg e9 => by subst e9; exact unhide NF7 hg))
          have FY : Fr (fun q => w4.heap.size ≤ q) w4 X15 := FY.tr (hf9.mono (fun q hq => by subst hq; exact unhide L7))
          clear hb9 hf9
          refine hK.out _ _ ⟨FY.kept (unhide H40) (by have h1 := unhide HS4; omega), FY.kept (unhide HP4) (by have h1 := unhide HS4; omega)⟩ (fun hHeld => ?_)
          clear hK K hHeld
          refine wpAnyH_done (by kernel_rfl) ?_ _
          go_wp2
          go_meet
          exact ⟨_, _, _, _, _, _, _, _, _, _, _, _, _, _, rfl, rfl, HB6, HB7, HO4, hide ⟨unhide L6, unhide L7, unhide HLO⟩, hide FY⟩
        · go_simp
          have n9 := new_block X11 (.cells #[.int .i64 0, .slice none 0 0] 69)
          have e9 := (Ext.refl X11).alloc (.cells #[.int .i64 0, .slice none 0 0] 69)
          generalize X11.alloc (.cells #[.int .i64 0, .slice none 0 0] 69) = X16 at n9 e9 ⊢
          have HB7 := hide n9
          have N67 : Hid ((X1.heap.size) ≠ (X11.heap.size)) := hide (by have h2 := lt_of_block (unhide HB6); omega)
          replace HB6 := hide (e9.kept (unhide HB6))
          have NF7 : Hid (¬ SesFoot (.slice u4a s.un u4c) (.slice h4a s.kh.length h4c) (.slice p4a s.pn p4c) (.slice q4a s.qn q4c) (.slice l4a s.ln l4c) (.slice d4a s.dn d4c) (X11.heap.size)) := hide (fun hg => by have h1 := ((unhide HO4).foot hg).2; omega)
          replace HO4 := hide ((unhide HO4).ext e9)
          have L7 : Hid (w4.heap.size ≤ X11.heap.size) := hide (unhide G).size
          replace G := hide ((unhide G).trans e9)
          clear n9 e9
          refine hK.out _ _ ⟨(unhide G).kept (unhide H40), (unhide G).kept (unhide HP4)⟩ (fun hHeld => ?_)
          clear hK K hHeld
          refine wpAnyH_ready (rs := [9]) (by kernel_rfl) (by simp) ?_
          refine (AllReadyH.cons rfl (fun K hK => ?_) AllReadyH.nil)
          go_simp
          go_wp2_with (go_at_call 65; refine ((unhide hcH) _).mono ?_; rintro e X17 ⟨rfl, f9⟩; replace HB6 := hide (f9.kept (unhide HB6)); replace HB7 := hide (f9.kept (unhide HB7)); replace HO4 := hide ((unhide HO4).ext f9); replace G := hide ((unhide G).trans f9); clear f9)
          refine hK.out _ _ ⟨(unhide G).kept (unhide H40), (unhide G).kept (unhide HP4)⟩ (fun hHeld => ?_)
          clear hK K hHeld
          refine wpAnyH_ready (rs := [12]) (by kernel_rfl) (by simp) ?_
          refine AllReadyH.cons rfl (fun K hK => ?_) AllReadyH.nil
          refine wp_store_blk 37 _ _ rfl rfl (X1.heap.size) rfl _ _ (sesC s (.slice u4a s.un u4c) (.slice h4a s.kh.length h4c) (.slice p4a s.pn p4c) (.slice q4a s.qn q4c) (.slice l4a s.ln l4c) (.slice d4a s.dn d4c)) rfl (unhide HB6) infoSes rfl (by simp [Value.oneCell', sesC]) ?_
          intro X18 hb9 hf9
          have HB7 := hide (hf9.kept (unhide HB7) (fun e9 => unhide N67 e9.symm))
          have HB6 := hide hb9
          have HO4 := hide ((unhide HO4).fr hf9 (fun g hg e9 => by subst e9; exact unhide NF6 hg))
          have FY : Fr (fun q => w4.heap.size ≤ q) w4 X18 := (Fr.of_ext (unhide G)).tr (hf9.mono (fun q hq => by subst hq; exact unhide L6))
          clear hb9 hf9
          refine hK.out _ _ ⟨FY.kept (unhide H40) (by have h1 := unhide HS4; omega), FY.kept (unhide HP4) (by have h1 := unhide HS4; omega)⟩ (fun hHeld => ?_)
          clear hK K hHeld
          refine wpAnyH_ready (rs := [13]) (by kernel_rfl) (by simp) ?_
          refine AllReadyH.cons rfl (fun K hK => ?_) AllReadyH.nil
          refine wp_store_blk 69 _ _ rfl rfl (X11.heap.size) rfl _ _ #[.int .i64 0, .slice none 0 0] rfl (unhide HB7) infoHis rfl (by simp [Value.oneCell']) ?_
          intro X19 hb9 hf9
          have HB6 := hide (hf9.kept (unhide HB6) (unhide N67))
          have HB7 := hide hb9
          have HO4 := hide ((unhide HO4).fr hf9 (fun g hg e9 => by subst e9; exact unhide NF7 hg))
          have FY : Fr (fun q => w4.heap.size ≤ q) w4 X19 := FY.tr (hf9.mono (fun q hq => by subst hq; exact unhide L7))
          clear hb9 hf9
          refine hK.out _ _ ⟨FY.kept (unhide H40) (by have h1 := unhide HS4; omega), FY.kept (unhide HP4) (by have h1 := unhide HS4; omega)⟩ (fun hHeld => ?_)
          clear hK K hHeld
          refine wpAnyH_done (by kernel_rfl) ?_ _
          go_wp2
          go_meet
          exact ⟨_, _, _, _, _, _, _, _, _, _, _, _, _, _, rfl, rfl, HB6, HB7, HO4, hide ⟨unhide L6, unhide L7, unhide HLO⟩, hide FY⟩
      · go_simp
        have n9 := new_block X1 (.cells #[.int .i64 0, .slice none 0 0] 69)
        have e9 := (Ext.refl X1).alloc (.cells #[.int .i64 0, .slice none 0 0] 69)
        generalize X1.alloc (.cells #[.int .i64 0, .slice none 0 0] 69) = X20 at n9 e9 ⊢
        have HB7 := hide n9
        have NF7 : Hid (¬ SesFoot (.slice u4a s.un u4c) (.slice h4a s.kh.length h4c) (.slice p4a s.pn p4c) (.slice q4a s.qn q4c) (.slice l4a s.ln l4c) (.slice d4a s.dn d4c) (X1.heap.size)) := hide (fun hg => by have h1 := ((unhide HO4).foot hg).2; omega)
        replace HO4 := hide ((unhide HO4).ext e9)
        have L7 : Hid (w4.heap.size ≤ X1.heap.size) := hide (unhide G).size
        replace G := hide ((unhide G).trans e9)
        clear n9 e9
        refine hK.out _ _ ⟨(unhide G).kept (unhide H40), (unhide G).kept (unhide HP4)⟩ (fun hHeld => ?_)
        clear hK K hHeld
        refine wpAnyH_ready (rs := [9, 10]) (by kernel_rfl) (by simp) ?_
        refine (AllReadyH.cons rfl (fun K hK => ?_) (AllReadyH.cons rfl (fun K hK => ?_) AllReadyH.nil))
        · go_simp
          go_wp2_with (go_at_call 65; refine ((unhide hcH) _).mono ?_; rintro e X21 ⟨rfl, f9⟩; replace HB7 := hide (f9.kept (unhide HB7)); replace HO4 := hide ((unhide HO4).ext f9); replace G := hide ((unhide G).trans f9); clear f9)
          refine hK.out _ _ ⟨(unhide G).kept (unhide H40), (unhide G).kept (unhide HP4)⟩ (fun hHeld => ?_)
          clear hK K hHeld
          refine wpAnyH_ready (rs := [10]) (by kernel_rfl) (by simp) ?_
          refine (AllReadyH.cons rfl (fun K hK => ?_) AllReadyH.nil)
          go_simp
          have n9 := new_block X21 (.cells #[.string { data := #[] }, .int .i64 0, .int .i64 0, .string { data := #[] }, .string { data := #[] }, .string { data := #[] }, .slice none 0 0, .slice none 0 0, .bool false, .bool false, .slice none 0 0, .int .i64 0, .string { data := #[] }, .bool false, .slice none 0 0, .slice none 0 0, .slice none 0 0] 37)
          have e9 := (Ext.refl X21).alloc (.cells #[.string { data := #[] }, .int .i64 0, .int .i64 0, .string { data := #[] }, .string { data := #[] }, .string { data := #[] }, .slice none 0 0, .slice none 0 0, .bool false, .bool false, .slice none 0 0, .int .i64 0, .string { data := #[] }, .bool false, .slice none 0 0, .slice none 0 0, .slice none 0 0] 37)
          generalize X21.alloc (.cells #[.string { data := #[] }, .int .i64 0, .int .i64 0, .string { data := #[] }, .string { data := #[] }, .string { data := #[] }, .slice none 0 0, .slice none 0 0, .bool false, .bool false, .slice none 0 0, .int .i64 0, .string { data := #[] }, .bool false, .slice none 0 0, .slice none 0 0, .slice none 0 0] 37) = X22 at n9 e9 ⊢
          have HB6 := hide n9
          have N67 : Hid ((X21.heap.size) ≠ (X1.heap.size)) := hide (by have h2 := lt_of_block (unhide HB7); omega)
          replace HB7 := hide (e9.kept (unhide HB7))
          have NF6 : Hid (¬ SesFoot (.slice u4a s.un u4c) (.slice h4a s.kh.length h4c) (.slice p4a s.pn p4c) (.slice q4a s.qn q4c) (.slice l4a s.ln l4c) (.slice d4a s.dn d4c) (X21.heap.size)) := hide (fun hg => by have h1 := ((unhide HO4).foot hg).2; omega)
          replace HO4 := hide ((unhide HO4).ext e9)
          have L6 : Hid (w4.heap.size ≤ X21.heap.size) := hide (unhide G).size
          replace G := hide ((unhide G).trans e9)
          clear n9 e9
          refine hK.out _ _ ⟨(unhide G).kept (unhide H40), (unhide G).kept (unhide HP4)⟩ (fun hHeld => ?_)
          clear hK K hHeld
          refine wpAnyH_ready (rs := [12]) (by kernel_rfl) (by simp) ?_
          refine AllReadyH.cons rfl (fun K hK => ?_) AllReadyH.nil
          refine wp_store_blk 37 _ _ rfl rfl (X21.heap.size) rfl _ _ (sesC s (.slice u4a s.un u4c) (.slice h4a s.kh.length h4c) (.slice p4a s.pn p4c) (.slice q4a s.qn q4c) (.slice l4a s.ln l4c) (.slice d4a s.dn d4c)) rfl (unhide HB6) infoSes rfl (by simp [Value.oneCell', sesC]) ?_
          intro X23 hb9 hf9
          have HB7 := hide (hf9.kept (unhide HB7) (fun e9 => unhide N67 e9.symm))
          have HB6 := hide hb9
          have HO4 := hide ((unhide HO4).fr hf9 (fun g hg e9 => by subst e9; exact unhide NF6 hg))
          have FY : Fr (fun q => w4.heap.size ≤ q) w4 X23 := (Fr.of_ext (unhide G)).tr (hf9.mono (fun q hq => by subst hq; exact unhide L6))
          clear hb9 hf9
          refine hK.out _ _ ⟨FY.kept (unhide H40) (by have h1 := unhide HS4; omega), FY.kept (unhide HP4) (by have h1 := unhide HS4; omega)⟩ (fun hHeld => ?_)
          clear hK K hHeld
          refine wpAnyH_ready (rs := [13]) (by kernel_rfl) (by simp) ?_
          refine AllReadyH.cons rfl (fun K hK => ?_) AllReadyH.nil
          refine wp_store_blk 69 _ _ rfl rfl (X1.heap.size) rfl _ _ #[.int .i64 0, .slice none 0 0] rfl (unhide HB7) infoHis rfl (by simp [Value.oneCell']) ?_
          intro X24 hb9 hf9
          have HB6 := hide (hf9.kept (unhide HB6) (unhide N67))
          have HB7 := hide hb9
          have HO4 := hide ((unhide HO4).fr hf9 (fun g hg e9 => by subst e9; exact unhide NF7 hg))
          have FY : Fr (fun q => w4.heap.size ≤ q) w4 X24 := FY.tr (hf9.mono (fun q hq => by subst hq; exact unhide L7))
          clear hb9 hf9
          refine hK.out _ _ ⟨FY.kept (unhide H40) (by have h1 := unhide HS4; omega), FY.kept (unhide HP4) (by have h1 := unhide HS4; omega)⟩ (fun hHeld => ?_)
          clear hK K hHeld
          refine wpAnyH_done (by kernel_rfl) ?_ _
          go_wp2
          go_meet
          exact ⟨_, _, _, _, _, _, _, _, _, _, _, _, _, _, rfl, rfl, HB6, HB7, HO4, hide ⟨unhide L6, unhide L7, unhide HLO⟩, hide FY⟩
        · go_simp
          have n9 := new_block X20 (.cells #[.string { data := #[] }, .int .i64 0, .int .i64 0, .string { data := #[] }, .string { data := #[] }, .string { data := #[] }, .slice none 0 0, .slice none 0 0, .bool false, .bool false, .slice none 0 0, .int .i64 0, .string { data := #[] }, .bool false, .slice none 0 0, .slice none 0 0, .slice none 0 0] 37)
          have e9 := (Ext.refl X20).alloc (.cells #[.string { data := #[] }, .int .i64 0, .int .i64 0, .string { data := #[] }, .string { data := #[] }, .string { data := #[] }, .slice none 0 0, .slice none 0 0, .bool false, .bool false, .slice none 0 0, .int .i64 0, .string { data := #[] }, .bool false, .slice none 0 0, .slice none 0 0, .slice none 0 0] 37)
          generalize X20.alloc (.cells #[.string { data := #[] }, .int .i64 0, .int .i64 0, .string { data := #[] }, .string { data := #[] }, .string { data := #[] }, .slice none 0 0, .slice none 0 0, .bool false, .bool false, .slice none 0 0, .int .i64 0, .string { data := #[] }, .bool false, .slice none 0 0, .slice none 0 0, .slice none 0 0] 37) = X25 at n9 e9 ⊢
          have HB6 := hide n9
          have N67 : Hid ((X20.heap.size) ≠ (X1.heap.size)) := hide (by have h2 := lt_of_block (unhide HB7); omega)
          replace HB7 := hide (e9.kept (unhide HB7))
          have NF6 : Hid (¬ SesFoot (.slice u4a s.un u4c) (.slice h4a s.kh.length h4c) (.slice p4a s.pn p4c) (.slice q4a s.qn q4c) (.slice l4a s.ln l4c) (.slice d4a s.dn d4c) (X20.heap.size)) := hide (fun hg => by have h1 := ((unhide HO4).foot hg).2; omega)
          replace HO4 := hide ((unhide HO4).ext e9)
          have L6 : Hid (w4.heap.size ≤ X20.heap.size) := hide (unhide G).size
          replace G := hide ((unhide G).trans e9)
          clear n9 e9
          refine hK.out _ _ ⟨(unhide G).kept (unhide H40), (unhide G).kept (unhide HP4)⟩ (fun hHeld => ?_)
          clear hK K hHeld
          refine wpAnyH_ready (rs := [9]) (by kernel_rfl) (by simp) ?_
          refine (AllReadyH.cons rfl (fun K hK => ?_) AllReadyH.nil)
          go_simp
          go_wp2_with (go_at_call 65; refine ((unhide hcH) _).mono ?_; rintro e X26 ⟨rfl, f9⟩; replace HB6 := hide (f9.kept (unhide HB6)); replace HB7 := hide (f9.kept (unhide HB7)); replace HO4 := hide ((unhide HO4).ext f9); replace G := hide ((unhide G).trans f9); clear f9)
          refine hK.out _ _ ⟨(unhide G).kept (unhide H40), (unhide G).kept (unhide HP4)⟩ (fun hHeld => ?_)
          clear hK K hHeld
          refine wpAnyH_ready (rs := [12]) (by kernel_rfl) (by simp) ?_
          refine AllReadyH.cons rfl (fun K hK => ?_) AllReadyH.nil
          refine wp_store_blk 37 _ _ rfl rfl (X20.heap.size) rfl _ _ (sesC s (.slice u4a s.un u4c) (.slice h4a s.kh.length h4c) (.slice p4a s.pn p4c) (.slice q4a s.qn q4c) (.slice l4a s.ln l4c) (.slice d4a s.dn d4c)) rfl (unhide HB6) infoSes rfl (by simp [Value.oneCell', sesC]) ?_
          intro X27 hb9 hf9
          have HB7 := hide (hf9.kept (unhide HB7) (fun e9 => unhide N67 e9.symm))
          have HB6 := hide hb9
          have HO4 := hide ((unhide HO4).fr hf9 (fun g hg e9 => by subst e9; exact unhide NF6 hg))
          have FY : Fr (fun q => w4.heap.size ≤ q) w4 X27 := (Fr.of_ext (unhide G)).tr (hf9.mono (fun q hq => by subst hq; exact unhide L6))
          clear hb9 hf9
          refine hK.out _ _ ⟨FY.kept (unhide H40) (by have h1 := unhide HS4; omega), FY.kept (unhide HP4) (by have h1 := unhide HS4; omega)⟩ (fun hHeld => ?_)
          clear hK K hHeld
          refine wpAnyH_ready (rs := [13]) (by kernel_rfl) (by simp) ?_
          refine AllReadyH.cons rfl (fun K hK => ?_) AllReadyH.nil
          refine wp_store_blk 69 _ _ rfl rfl (X1.heap.size) rfl _ _ #[.int .i64 0, .slice none 0 0] rfl (unhide HB7) infoHis rfl (by simp [Value.oneCell']) ?_
          intro X28 hb9 hf9
          have HB6 := hide (hf9.kept (unhide HB6) (unhide N67))
          have HB7 := hide hb9
          have HO4 := hide ((unhide HO4).fr hf9 (fun g hg e9 => by subst e9; exact unhide NF7 hg))
          have FY : Fr (fun q => w4.heap.size ≤ q) w4 X28 := FY.tr (hf9.mono (fun q hq => by subst hq; exact unhide L7))
          clear hb9 hf9
          refine hK.out _ _ ⟨FY.kept (unhide H40) (by have h1 := unhide HS4; omega), FY.kept (unhide HP4) (by have h1 := unhide HS4; omega)⟩ (fun hHeld => ?_)
          clear hK K hHeld
          refine wpAnyH_done (by kernel_rfl) ?_ _
          go_wp2
          go_meet
          exact ⟨_, _, _, _, _, _, _, _, _, _, _, _, _, _, rfl, rfl, HB6, HB7, HO4, hide ⟨unhide L6, unhide L7, unhide HLO⟩, hide FY⟩
    · go_simp
      have n9 := new_block X0 (.cells #[.string { data := #[] }, .int .i64 0, .int .i64 0, .string { data := #[] }, .string { data := #[] }, .string { data := #[] }, .slice none 0 0, .slice none 0 0, .bool false, .bool false, .slice none 0 0, .int .i64 0, .string { data := #[] }, .bool false, .slice none 0 0, .slice none 0 0, .slice none 0 0] 37)
      have e9 := (Ext.refl X0).alloc (.cells #[.string { data := #[] }, .int .i64 0, .int .i64 0, .string { data := #[] }, .string { data := #[] }, .string { data := #[] }, .slice none 0 0, .slice none 0 0, .bool false, .bool false, .slice none 0 0, .int .i64 0, .string { data := #[] }, .bool false, .slice none 0 0, .slice none 0 0, .slice none 0 0] 37)
      generalize X0.alloc (.cells #[.string { data := #[] }, .int .i64 0, .int .i64 0, .string { data := #[] }, .string { data := #[] }, .string { data := #[] }, .slice none 0 0, .slice none 0 0, .bool false, .bool false, .slice none 0 0, .int .i64 0, .string { data := #[] }, .bool false, .slice none 0 0, .slice none 0 0, .slice none 0 0] 37) = X29 at n9 e9 ⊢
      have HB6 := hide n9
      have L6 : Hid (w4.heap.size ≤ X0.heap.size) := hide (unhide G).size
      replace G := hide ((unhide G).trans e9)
      clear n9 e9
      refine hK.out _ _ ⟨(unhide G).kept (unhide H40), (unhide G).kept (unhide HP4)⟩ (fun hHeld => ?_)
      clear hK K hHeld
      refine wpAnyH_ready (rs := [4, 11]) (by kernel_rfl) (by simp) ?_
      refine (AllReadyH.cons rfl (fun K hK => ?_) (AllReadyH.cons rfl (fun K hK => ?_) AllReadyH.nil))
      · go_simp
        go_wp2_with (go_at_call 64; refine ((unhide hcC) _ ((unhide HF4).tr (Fr.of_ext (unhide G)))).mono ?_; rintro e X30 ⟨u4, h4, p4, q4, l4, d4, rfl, o9, f9⟩; obtain ⟨u4a, u4c, h4a, h4c, p4a, p4c, q4a, q4c, l4a, l4c, d4a, d4c, rfl, rfl, rfl, rfl, rfl, rfl⟩ := o9.reads.forms; have NF6 : Hid (¬ SesFoot (.slice u4a s.un u4c) (.slice h4a s.kh.length h4c) (.slice p4a s.pn p4c) (.slice q4a s.qn q4c) (.slice l4a s.ln l4c) (.slice d4a s.dn d4c) (X0.heap.size)) := hide (fun hg => by have h1 := (o9.foot hg).1; have h2 := lt_of_block (unhide HB6); omega); have HLO : Hid (∀ g, SesFoot (.slice u4a s.un u4c) (.slice h4a s.kh.length h4c) (.slice p4a s.pn p4c) (.slice q4a s.qn q4c) (.slice l4a s.ln l4c) (.slice d4a s.dn d4c) g → w4.heap.size ≤ g) := hide (fun g hg => by have h1 := (o9.foot hg).1; have h2 := (unhide G).size; omega); have HO4 := hide (o9.mono (b' := w.heap.size) (by have h1 := (unhide G).size; have h2 := unhide HS4; omega)); replace HB6 := hide (f9.kept (unhide HB6)); replace G := hide ((unhide G).trans f9); clear o9 f9)
        refine hK.out _ _ ⟨(unhide G).kept (unhide H40), (unhide G).kept (unhide HP4)⟩ (fun hHeld => ?_)
        clear hK K hHeld
        refine wpAnyH_ready (rs := [9, 11]) (by kernel_rfl) (by simp) ?_
        refine (AllReadyH.cons rfl (fun K hK => ?_) (AllReadyH.cons rfl (fun K hK => ?_) AllReadyH.nil))
        · go_simp
          go_wp2_with (go_at_call 65; refine ((unhide hcH) _).mono ?_; rintro e X31 ⟨rfl, f9⟩; replace HB6 := hide (f9.kept (unhide HB6)); replace HO4 := hide ((unhide HO4).ext f9); replace G := hide ((unhide G).trans f9); clear f9)
          refine hK.out _ _ ⟨(unhide G).kept (unhide H40), (unhide G).kept (unhide HP4)⟩ (fun hHeld => ?_)
          clear hK K hHeld
          refine wpAnyH_ready (rs := [11]) (by kernel_rfl) (by simp) ?_
          refine (AllReadyH.cons rfl (fun K hK => ?_) AllReadyH.nil)
          go_simp
          have n9 := new_block X31 (.cells #[.int .i64 0, .slice none 0 0] 69)
          have e9 := (Ext.refl X31).alloc (.cells #[.int .i64 0, .slice none 0 0] 69)
          generalize X31.alloc (.cells #[.int .i64 0, .slice none 0 0] 69) = X32 at n9 e9 ⊢
          have HB7 := hide n9
          have N67 : Hid ((X0.heap.size) ≠ (X31.heap.size)) := hide (by have h2 := lt_of_block (unhide HB6); omega)
          replace HB6 := hide (e9.kept (unhide HB6))
          have NF7 : Hid (¬ SesFoot (.slice u4a s.un u4c) (.slice h4a s.kh.length h4c) (.slice p4a s.pn p4c) (.slice q4a s.qn q4c) (.slice l4a s.ln l4c) (.slice d4a s.dn d4c) (X31.heap.size)) := hide (fun hg => by have h1 := ((unhide HO4).foot hg).2; omega)
          replace HO4 := hide ((unhide HO4).ext e9)
          have L7 : Hid (w4.heap.size ≤ X31.heap.size) := hide (unhide G).size
          replace G := hide ((unhide G).trans e9)
          clear n9 e9
          refine hK.out _ _ ⟨(unhide G).kept (unhide H40), (unhide G).kept (unhide HP4)⟩ (fun hHeld => ?_)
          clear hK K hHeld
          refine wpAnyH_ready (rs := [12]) (by kernel_rfl) (by simp) ?_
          refine AllReadyH.cons rfl (fun K hK => ?_) AllReadyH.nil
          refine wp_store_blk 37 _ _ rfl rfl (X0.heap.size) rfl _ _ (sesC s (.slice u4a s.un u4c) (.slice h4a s.kh.length h4c) (.slice p4a s.pn p4c) (.slice q4a s.qn q4c) (.slice l4a s.ln l4c) (.slice d4a s.dn d4c)) rfl (unhide HB6) infoSes rfl (by simp [Value.oneCell', sesC]) ?_
          intro X33 hb9 hf9
          have HB7 := hide (hf9.kept (unhide HB7) (fun e9 => unhide N67 e9.symm))
          have HB6 := hide hb9
          have HO4 := hide ((unhide HO4).fr hf9 (fun g hg e9 => by subst e9; exact unhide NF6 hg))
          have FY : Fr (fun q => w4.heap.size ≤ q) w4 X33 := (Fr.of_ext (unhide G)).tr (hf9.mono (fun q hq => by subst hq; exact unhide L6))
          clear hb9 hf9
          refine hK.out _ _ ⟨FY.kept (unhide H40) (by have h1 := unhide HS4; omega), FY.kept (unhide HP4) (by have h1 := unhide HS4; omega)⟩ (fun hHeld => ?_)
          clear hK K hHeld
          refine wpAnyH_ready (rs := [13]) (by kernel_rfl) (by simp) ?_
          refine AllReadyH.cons rfl (fun K hK => ?_) AllReadyH.nil
          refine wp_store_blk 69 _ _ rfl rfl (X31.heap.size) rfl _ _ #[.int .i64 0, .slice none 0 0] rfl (unhide HB7) infoHis rfl (by simp [Value.oneCell']) ?_
          intro X34 hb9 hf9
          have HB6 := hide (hf9.kept (unhide HB6) (unhide N67))
          have HB7 := hide hb9
          have HO4 := hide ((unhide HO4).fr hf9 (fun g hg e9 => by subst e9; exact unhide NF7 hg))
          have FY : Fr (fun q => w4.heap.size ≤ q) w4 X34 := FY.tr (hf9.mono (fun q hq => by subst hq; exact unhide L7))
          clear hb9 hf9
          refine hK.out _ _ ⟨FY.kept (unhide H40) (by have h1 := unhide HS4; omega), FY.kept (unhide HP4) (by have h1 := unhide HS4; omega)⟩ (fun hHeld => ?_)
          clear hK K hHeld
          refine wpAnyH_done (by kernel_rfl) ?_ _
          go_wp2
          go_meet
          exact ⟨_, _, _, _, _, _, _, _, _, _, _, _, _, _, rfl, rfl, HB6, HB7, HO4, hide ⟨unhide L6, unhide L7, unhide HLO⟩, hide FY⟩
        · go_simp
          have n9 := new_block X30 (.cells #[.int .i64 0, .slice none 0 0] 69)
          have e9 := (Ext.refl X30).alloc (.cells #[.int .i64 0, .slice none 0 0] 69)
          generalize X30.alloc (.cells #[.int .i64 0, .slice none 0 0] 69) = X35 at n9 e9 ⊢
          have HB7 := hide n9
          have N67 : Hid ((X0.heap.size) ≠ (X30.heap.size)) := hide (by have h2 := lt_of_block (unhide HB6); omega)
          replace HB6 := hide (e9.kept (unhide HB6))
          have NF7 : Hid (¬ SesFoot (.slice u4a s.un u4c) (.slice h4a s.kh.length h4c) (.slice p4a s.pn p4c) (.slice q4a s.qn q4c) (.slice l4a s.ln l4c) (.slice d4a s.dn d4c) (X30.heap.size)) := hide (fun hg => by have h1 := ((unhide HO4).foot hg).2; omega)
          replace HO4 := hide ((unhide HO4).ext e9)
          have L7 : Hid (w4.heap.size ≤ X30.heap.size) := hide (unhide G).size
          replace G := hide ((unhide G).trans e9)
          clear n9 e9
          refine hK.out _ _ ⟨(unhide G).kept (unhide H40), (unhide G).kept (unhide HP4)⟩ (fun hHeld => ?_)
          clear hK K hHeld
          refine wpAnyH_ready (rs := [9]) (by kernel_rfl) (by simp) ?_
          refine (AllReadyH.cons rfl (fun K hK => ?_) AllReadyH.nil)
          go_simp
          go_wp2_with (go_at_call 65; refine ((unhide hcH) _).mono ?_; rintro e X36 ⟨rfl, f9⟩; replace HB6 := hide (f9.kept (unhide HB6)); replace HB7 := hide (f9.kept (unhide HB7)); replace HO4 := hide ((unhide HO4).ext f9); replace G := hide ((unhide G).trans f9); clear f9)
          refine hK.out _ _ ⟨(unhide G).kept (unhide H40), (unhide G).kept (unhide HP4)⟩ (fun hHeld => ?_)
          clear hK K hHeld
          refine wpAnyH_ready (rs := [12]) (by kernel_rfl) (by simp) ?_
          refine AllReadyH.cons rfl (fun K hK => ?_) AllReadyH.nil
          refine wp_store_blk 37 _ _ rfl rfl (X0.heap.size) rfl _ _ (sesC s (.slice u4a s.un u4c) (.slice h4a s.kh.length h4c) (.slice p4a s.pn p4c) (.slice q4a s.qn q4c) (.slice l4a s.ln l4c) (.slice d4a s.dn d4c)) rfl (unhide HB6) infoSes rfl (by simp [Value.oneCell', sesC]) ?_
          intro X37 hb9 hf9
          have HB7 := hide (hf9.kept (unhide HB7) (fun e9 => unhide N67 e9.symm))
          have HB6 := hide hb9
          have HO4 := hide ((unhide HO4).fr hf9 (fun g hg e9 => by subst e9; exact unhide NF6 hg))
          have FY : Fr (fun q => w4.heap.size ≤ q) w4 X37 := (Fr.of_ext (unhide G)).tr (hf9.mono (fun q hq => by subst hq; exact unhide L6))
          clear hb9 hf9
          refine hK.out _ _ ⟨FY.kept (unhide H40) (by have h1 := unhide HS4; omega), FY.kept (unhide HP4) (by have h1 := unhide HS4; omega)⟩ (fun hHeld => ?_)
          clear hK K hHeld
          refine wpAnyH_ready (rs := [13]) (by kernel_rfl) (by simp) ?_
          refine AllReadyH.cons rfl (fun K hK => ?_) AllReadyH.nil
          refine wp_store_blk 69 _ _ rfl rfl (X30.heap.size) rfl _ _ #[.int .i64 0, .slice none 0 0] rfl (unhide HB7) infoHis rfl (by simp [Value.oneCell']) ?_
          intro X38 hb9 hf9
          have HB6 := hide (hf9.kept (unhide HB6) (unhide N67))
          have HB7 := hide hb9
          have HO4 := hide ((unhide HO4).fr hf9 (fun g hg e9 => by subst e9; exact unhide NF7 hg))
          have FY : Fr (fun q => w4.heap.size ≤ q) w4 X38 := FY.tr (hf9.mono (fun q hq => by subst hq; exact unhide L7))
          clear hb9 hf9
          refine hK.out _ _ ⟨FY.kept (unhide H40) (by have h1 := unhide HS4; omega), FY.kept (unhide HP4) (by have h1 := unhide HS4; omega)⟩ (fun hHeld => ?_)
          clear hK K hHeld
          refine wpAnyH_done (by kernel_rfl) ?_ _
          go_wp2
          go_meet
          exact ⟨_, _, _, _, _, _, _, _, _, _, _, _, _, _, rfl, rfl, HB6, HB7, HO4, hide ⟨unhide L6, unhide L7, unhide HLO⟩, hide FY⟩
      · go_simp
        have n9 := new_block X29 (.cells #[.int .i64 0, .slice none 0 0] 69)
        have e9 := (Ext.refl X29).alloc (.cells #[.int .i64 0, .slice none 0 0] 69)
        generalize X29.alloc (.cells #[.int .i64 0, .slice none 0 0] 69) = X39 at n9 e9 ⊢
        have HB7 := hide n9
        have N67 : Hid ((X0.heap.size) ≠ (X29.heap.size)) := hide (by have h2 := lt_of_block (unhide HB6); omega)
        replace HB6 := hide (e9.kept (unhide HB6))
        have L7 : Hid (w4.heap.size ≤ X29.heap.size) := hide (unhide G).size
        replace G := hide ((unhide G).trans e9)
        clear n9 e9
        refine hK.out _ _ ⟨(unhide G).kept (unhide H40), (unhide G).kept (unhide HP4)⟩ (fun hHeld => ?_)
        clear hK K hHeld
        refine wpAnyH_ready (rs := [4]) (by kernel_rfl) (by simp) ?_
        refine (AllReadyH.cons rfl (fun K hK => ?_) AllReadyH.nil)
        go_simp
        go_wp2_with (go_at_call 64; refine ((unhide hcC) _ ((unhide HF4).tr (Fr.of_ext (unhide G)))).mono ?_; rintro e X40 ⟨u4, h4, p4, q4, l4, d4, rfl, o9, f9⟩; obtain ⟨u4a, u4c, h4a, h4c, p4a, p4c, q4a, q4c, l4a, l4c, d4a, d4c, rfl, rfl, rfl, rfl, rfl, rfl⟩ := o9.reads.forms; have NF6 : Hid (¬ SesFoot (.slice u4a s.un u4c) (.slice h4a s.kh.length h4c) (.slice p4a s.pn p4c) (.slice q4a s.qn q4c) (.slice l4a s.ln l4c) (.slice d4a s.dn d4c) (X0.heap.size)) := hide (fun hg => by have h1 := (o9.foot hg).1; have h2 := lt_of_block (unhide HB6); omega); have NF7 : Hid (¬ SesFoot (.slice u4a s.un u4c) (.slice h4a s.kh.length h4c) (.slice p4a s.pn p4c) (.slice q4a s.qn q4c) (.slice l4a s.ln l4c) (.slice d4a s.dn d4c) (X29.heap.size)) := hide (fun hg => by have h1 := (o9.foot hg).1; have h2 := lt_of_block (unhide HB7); omega); have HLO : Hid (∀ g, SesFoot (.slice u4a s.un u4c) (.slice h4a s.kh.length h4c) (.slice p4a s.pn p4c) (.slice q4a s.qn q4c) (.slice l4a s.ln l4c) (.slice d4a s.dn d4c) g → w4.heap.size ≤ g) := hide (fun g hg => by have h1 := (o9.foot hg).1; have h2 := (unhide G).size; omega); have HO4 := hide (o9.mono (b' := w.heap.size) (by have h1 := (unhide G).size; have h2 := unhide HS4; omega)); replace HB6 := hide (f9.kept (unhide HB6)); replace HB7 := hide (f9.kept (unhide HB7)); replace G := hide ((unhide G).trans f9); clear o9 f9)
        refine hK.out _ _ ⟨(unhide G).kept (unhide H40), (unhide G).kept (unhide HP4)⟩ (fun hHeld => ?_)
        clear hK K hHeld
        refine wpAnyH_ready (rs := [9]) (by kernel_rfl) (by simp) ?_
        refine (AllReadyH.cons rfl (fun K hK => ?_) AllReadyH.nil)
        go_simp
        go_wp2_with (go_at_call 65; refine ((unhide hcH) _).mono ?_; rintro e X41 ⟨rfl, f9⟩; replace HB6 := hide (f9.kept (unhide HB6)); replace HB7 := hide (f9.kept (unhide HB7)); replace HO4 := hide ((unhide HO4).ext f9); replace G := hide ((unhide G).trans f9); clear f9)
        refine hK.out _ _ ⟨(unhide G).kept (unhide H40), (unhide G).kept (unhide HP4)⟩ (fun hHeld => ?_)
        clear hK K hHeld
        refine wpAnyH_ready (rs := [12]) (by kernel_rfl) (by simp) ?_
        refine AllReadyH.cons rfl (fun K hK => ?_) AllReadyH.nil
        refine wp_store_blk 37 _ _ rfl rfl (X0.heap.size) rfl _ _ (sesC s (.slice u4a s.un u4c) (.slice h4a s.kh.length h4c) (.slice p4a s.pn p4c) (.slice q4a s.qn q4c) (.slice l4a s.ln l4c) (.slice d4a s.dn d4c)) rfl (unhide HB6) infoSes rfl (by simp [Value.oneCell', sesC]) ?_
        intro X42 hb9 hf9
        have HB7 := hide (hf9.kept (unhide HB7) (fun e9 => unhide N67 e9.symm))
        have HB6 := hide hb9
        have HO4 := hide ((unhide HO4).fr hf9 (fun g hg e9 => by subst e9; exact unhide NF6 hg))
        have FY : Fr (fun q => w4.heap.size ≤ q) w4 X42 := (Fr.of_ext (unhide G)).tr (hf9.mono (fun q hq => by subst hq; exact unhide L6))
        clear hb9 hf9
        refine hK.out _ _ ⟨FY.kept (unhide H40) (by have h1 := unhide HS4; omega), FY.kept (unhide HP4) (by have h1 := unhide HS4; omega)⟩ (fun hHeld => ?_)
        clear hK K hHeld
        refine wpAnyH_ready (rs := [13]) (by kernel_rfl) (by simp) ?_
        refine AllReadyH.cons rfl (fun K hK => ?_) AllReadyH.nil
        refine wp_store_blk 69 _ _ rfl rfl (X29.heap.size) rfl _ _ #[.int .i64 0, .slice none 0 0] rfl (unhide HB7) infoHis rfl (by simp [Value.oneCell']) ?_
        intro X43 hb9 hf9
        have HB6 := hide (hf9.kept (unhide HB6) (unhide N67))
        have HB7 := hide hb9
        have HO4 := hide ((unhide HO4).fr hf9 (fun g hg e9 => by subst e9; exact unhide NF7 hg))
        have FY : Fr (fun q => w4.heap.size ≤ q) w4 X43 := FY.tr (hf9.mono (fun q hq => by subst hq; exact unhide L7))
        clear hb9 hf9
        refine hK.out _ _ ⟨FY.kept (unhide H40) (by have h1 := unhide HS4; omega), FY.kept (unhide HP4) (by have h1 := unhide HS4; omega)⟩ (fun hHeld => ?_)
        clear hK K hHeld
        refine wpAnyH_done (by kernel_rfl) ?_ _
        go_wp2
        go_meet
        exact ⟨_, _, _, _, _, _, _, _, _, _, _, _, _, _, rfl, rfl, HB6, HB7, HO4, hide ⟨unhide L6, unhide L7, unhide HLO⟩, hide FY⟩
    · go_simp
      have n9 := new_block X0 (.cells #[.int .i64 0, .slice none 0 0] 69)
      have e9 := (Ext.refl X0).alloc (.cells #[.int .i64 0, .slice none 0 0] 69)
      generalize X0.alloc (.cells #[.int .i64 0, .slice none 0 0] 69) = X44 at n9 e9 ⊢
      have HB7 := hide n9
      have L7 : Hid (w4.heap.size ≤ X0.heap.size) := hide (unhide G).size
      replace G := hide ((unhide G).trans e9)
      clear n9 e9
      refine hK.out _ _ ⟨(unhide G).kept (unhide H40), (unhide G).kept (unhide HP4)⟩ (fun hHeld => ?_)
      clear hK K hHeld
      refine wpAnyH_ready (rs := [4, 10]) (by kernel_rfl) (by simp) ?_
      refine (AllReadyH.cons rfl (fun K hK => ?_) (AllReadyH.cons rfl (fun K hK => ?_) AllReadyH.nil))
      · go_simp
        go_wp2_with (go_at_call 64; refine ((unhide hcC) _ ((unhide HF4).tr (Fr.of_ext (unhide G)))).mono ?_; rintro e X45 ⟨u4, h4, p4, q4, l4, d4, rfl, o9, f9⟩; obtain ⟨u4a, u4c, h4a, h4c, p4a, p4c, q4a, q4c, l4a, l4c, d4a, d4c, rfl, rfl, rfl, rfl, rfl, rfl⟩ := o9.reads.forms; have NF7 : Hid (¬ SesFoot (.slice u4a s.un u4c) (.slice h4a s.kh.length h4c) (.slice p4a s.pn p4c) (.slice q4a s.qn q4c) (.slice l4a s.ln l4c) (.slice d4a s.dn d4c) (X0.heap.size)) := hide (fun hg => by have h1 := (o9.foot hg).1; have h2 := lt_of_block (unhide HB7); omega); have HLO : Hid (∀ g, SesFoot (.slice u4a s.un u4c) (.slice h4a s.kh.length h4c) (.slice p4a s.pn p4c) (.slice q4a s.qn q4c) (.slice l4a s.ln l4c) (.slice d4a s.dn d4c) g → w4.heap.size ≤ g) := hide (fun g hg => by have h1 := (o9.foot hg).1; have h2 := (unhide G).size; omega); have HO4 := hide (o9.mono (b' := w.heap.size) (by have h1 := (unhide G).size; have h2 := unhide HS4; omega)); replace HB7 := hide (f9.kept (unhide HB7)); replace G := hide ((unhide G).trans f9); clear o9 f9)
        refine hK.out _ _ ⟨(unhide G).kept (unhide H40), (unhide G).kept (unhide HP4)⟩ (fun hHeld => ?_)
        clear hK K hHeld
        refine wpAnyH_ready (rs := [9, 10]) (by kernel_rfl) (by simp) ?_
        refine (AllReadyH.cons rfl (fun K hK => ?_) (AllReadyH.cons rfl (fun K hK => ?_) AllReadyH.nil))
        · go_simp
          go_wp2_with (go_at_call 65; refine ((unhide hcH) _).mono ?_; rintro e X46 ⟨rfl, f9⟩; replace HB7 := hide (f9.kept (unhide HB7)); replace HO4 := hide ((unhide HO4).ext f9); replace G := hide ((unhide G).trans f9); clear f9)
          refine hK.out _ _ ⟨(unhide G).kept (unhide H40), (unhide G).kept (unhide HP4)⟩ (fun hHeld => ?_)
          clear hK K hHeld
          refine wpAnyH_ready (rs := [10]) (by kernel_rfl) (by simp) ?_
          refine (AllReadyH.cons rfl (fun K hK => ?_) AllReadyH.nil)
          go_simp
          have n9 := new_block X46 (.cells #[.string { data := #[] }, .int .i64 0, .int .i64 0, .string { data := #[] }, .string { data := #[] }, .string { data := #[] }, .slice none 0 0, .slice none 0 0, .bool false, .bool false, .slice none 0 0, .int .i64 0, .string { data := #[] }, .bool false, .slice none 0 0, .slice none 0 0, .slice none 0 0] 37)
          have e9 := (Ext.refl X46).alloc (.cells #[.string { data := #[] }, .int .i64 0, .int .i64 0, .string { data := #[] }, .string { data := #[] }, .string { data := #[] }, .slice none 0 0, .slice none 0 0, .bool false, .bool false, .slice none 0 0, .int .i64 0, .string { data := #[] }, .bool false, .slice none 0 0, .slice none 0 0, .slice none 0 0] 37)
          generalize X46.alloc (.cells #[.string { data := #[] }, .int .i64 0, .int .i64 0, .string { data := #[] }, .string { data := #[] }, .string { data := #[] }, .slice none 0 0, .slice none 0 0, .bool false, .bool false, .slice none 0 0, .int .i64 0, .string { data := #[] }, .bool false, .slice none 0 0, .slice none 0 0, .slice none 0 0] 37) = X47 at n9 e9 ⊢
          have HB6 := hide n9
          have N67 : Hid ((X46.heap.size) ≠ (X0.heap.size)) := hide (by have h2 := lt_of_block (unhide HB7); omega)
          replace HB7 := hide (e9.kept (unhide HB7))
          have NF6 : Hid (¬ SesFoot (.slice u4a s.un u4c) (.slice h4a s.kh.length h4c) (.slice p4a s.pn p4c) (.slice q4a s.qn q4c) (.slice l4a s.ln l4c) (.slice d4a s.dn d4c) (X46.heap.size)) := hide (fun hg => by have h1 := ((unhide HO4).foot hg).2; omega)
          replace HO4 := hide ((unhide HO4).ext e9)
          have L6 : Hid (w4.heap.size ≤ X46.heap.size) := hide (unhide G).size
          replace G := hide ((unhide G).trans e9)
          clear n9 e9
          refine hK.out _ _ ⟨(unhide G).kept (unhide H40), (unhide G).kept (unhide HP4)⟩ (fun hHeld => ?_)
          clear hK K hHeld
          refine wpAnyH_ready (rs := [12]) (by kernel_rfl) (by simp) ?_
          refine AllReadyH.cons rfl (fun K hK => ?_) AllReadyH.nil
          refine wp_store_blk 37 _ _ rfl rfl (X46.heap.size) rfl _ _ (sesC s (.slice u4a s.un u4c) (.slice h4a s.kh.length h4c) (.slice p4a s.pn p4c) (.slice q4a s.qn q4c) (.slice l4a s.ln l4c) (.slice d4a s.dn d4c)) rfl (unhide HB6) infoSes rfl (by simp [Value.oneCell', sesC]) ?_
          intro X48 hb9 hf9
          have HB7 := hide (hf9.kept (unhide HB7) (fun e9 => unhide N67 e9.symm))
          have HB6 := hide hb9
          have HO4 := hide ((unhide HO4).fr hf9 (fun g hg e9 => by subst e9; exact unhide NF6 hg))
          have FY : Fr (fun q => w4.heap.size ≤ q) w4 X48 := (Fr.of_ext (unhide G)).tr (hf9.mono (fun q hq => by subst hq; exact unhide L6))
          clear hb9 hf9
          refine hK.out _ _ ⟨FY.kept (unhide H40) (by have h1 := unhide HS4; omega), FY.kept (unhide HP4) (by have h1 := unhide HS4; omega)⟩ (fun hHeld => ?_)
          clear hK K hHeld
          refine wpAnyH_ready (rs := [13]) (by kernel_rfl) (by simp) ?_
          refine AllReadyH.cons rfl (fun K hK => ?_) AllReadyH.nil
          refine wp_store_blk 69 _ _ rfl rfl (X0.heap.size) rfl _ _ #[.int .i64 0, .slice none 0 0] rfl (unhide HB7) infoHis rfl (by simp [Value.oneCell']) ?_
          intro X49 hb9 hf9
          have HB6 := hide (hf9.kept (unhide HB6) (unhide N67))
          have HB7 := hide hb9
          have HO4 := hide ((unhide HO4).fr hf9 (fun g hg e9 => by subst e9; exact unhide NF7 hg))
          have FY : Fr (fun q => w4.heap.size ≤ q) w4 X49 := FY.tr (hf9.mono (fun q hq => by subst hq; exact unhide L7))
          clear hb9 hf9
          refine hK.out _ _ ⟨FY.kept (unhide H40) (by have h1 := unhide HS4; omega), FY.kept (unhide HP4) (by have h1 := unhide HS4; omega)⟩ (fun hHeld => ?_)
          clear hK K hHeld
          refine wpAnyH_done (by kernel_rfl) ?_ _
          go_wp2
          go_meet
          exact ⟨_, _, _, _, _, _, _, _, _, _, _, _, _, _, rfl, rfl, HB6, HB7, HO4, hide ⟨unhide L6, unhide L7, unhide HLO⟩, hide FY⟩
        · go_simp
          have n9 := new_block X45 (.cells #[.string { data := #[] }, .int .i64 0, .int .i64 0, .string { data := #[] }, .string { data := #[] }, .string { data := #[] }, .slice none 0 0, .slice none 0 0, .bool false, .bool false, .slice none 0 0, .int .i64 0, .string { data := #[] }, .bool false, .slice none 0 0, .slice none 0 0, .slice none 0 0] 37)
          have e9 := (Ext.refl X45).alloc (.cells #[.string { data := #[] }, .int .i64 0, .int .i64 0, .string { data := #[] }, .string { data := #[] }, .string { data := #[] }, .slice none 0 0, .slice none 0 0, .bool false, .bool false, .slice none 0 0, .int .i64 0, .string { data := #[] }, .bool false, .slice none 0 0, .slice none 0 0, .slice none 0 0] 37)
          generalize X45.alloc (.cells #[.string { data := #[] }, .int .i64 0, .int .i64 0, .string { data := #[] }, .string { data := #[] }, .string { data := #[] }, .slice none 0 0, .slice none 0 0, .bool false, .bool false, .slice none 0 0, .int .i64 0, .string { data := #[] }, .bool false, .slice none 0 0, .slice none 0 0, .slice none 0 0] 37) = X50 at n9 e9 ⊢
          have HB6 := hide n9
          have N67 : Hid ((X45.heap.size) ≠ (X0.heap.size)) := hide (by have h2 := lt_of_block (unhide HB7); omega)
          replace HB7 := hide (e9.kept (unhide HB7))
          have NF6 : Hid (¬ SesFoot (.slice u4a s.un u4c) (.slice h4a s.kh.length h4c) (.slice p4a s.pn p4c) (.slice q4a s.qn q4c) (.slice l4a s.ln l4c) (.slice d4a s.dn d4c) (X45.heap.size)) := hide (fun hg => by have h1 := ((unhide HO4).foot hg).2; omega)
          replace HO4 := hide ((unhide HO4).ext e9)
          have L6 : Hid (w4.heap.size ≤ X45.heap.size) := hide (unhide G).size
          replace G := hide ((unhide G).trans e9)
          clear n9 e9
          refine hK.out _ _ ⟨(unhide G).kept (unhide H40), (unhide G).kept (unhide HP4)⟩ (fun hHeld => ?_)
          clear hK K hHeld
          refine wpAnyH_ready (rs := [9]) (by kernel_rfl) (by simp) ?_
          refine (AllReadyH.cons rfl (fun K hK => ?_) AllReadyH.nil)
          go_simp
          go_wp2_with (go_at_call 65; refine ((unhide hcH) _).mono ?_; rintro e X51 ⟨rfl, f9⟩; replace HB6 := hide (f9.kept (unhide HB6)); replace HB7 := hide (f9.kept (unhide HB7)); replace HO4 := hide ((unhide HO4).ext f9); replace G := hide ((unhide G).trans f9); clear f9)
          refine hK.out _ _ ⟨(unhide G).kept (unhide H40), (unhide G).kept (unhide HP4)⟩ (fun hHeld => ?_)
          clear hK K hHeld
          refine wpAnyH_ready (rs := [12]) (by kernel_rfl) (by simp) ?_
          refine AllReadyH.cons rfl (fun K hK => ?_) AllReadyH.nil
          refine wp_store_blk 37 _ _ rfl rfl (X45.heap.size) rfl _ _ (sesC s (.slice u4a s.un u4c) (.slice h4a s.kh.length h4c) (.slice p4a s.pn p4c) (.slice q4a s.qn q4c) (.slice l4a s.ln l4c) (.slice d4a s.dn d4c)) rfl (unhide HB6) infoSes rfl (by simp [Value.oneCell', sesC]) ?_
          intro X52 hb9 hf9
          have HB7 := hide (hf9.kept (unhide HB7) (fun e9 => unhide N67 e9.symm))
          have HB6 := hide hb9
          have HO4 := hide ((unhide HO4).fr hf9 (fun g hg e9 => by subst e9; exact unhide NF6 hg))
          have FY : Fr (fun q => w4.heap.size ≤ q) w4 X52 := (Fr.of_ext (unhide G)).tr (hf9.mono (fun q hq => by subst hq; exact unhide L6))
          clear hb9 hf9
          refine hK.out _ _ ⟨FY.kept (unhide H40) (by have h1 := unhide HS4; omega), FY.kept (unhide HP4) (by have h1 := unhide HS4; omega)⟩ (fun hHeld => ?_)
          clear hK K hHeld
          refine wpAnyH_ready (rs := [13]) (by kernel_rfl) (by simp) ?_
          refine AllReadyH.cons rfl (fun K hK => ?_) AllReadyH.nil
          refine wp_store_blk 69 _ _ rfl rfl (X0.heap.size) rfl _ _ #[.int .i64 0, .slice none 0 0] rfl (unhide HB7) infoHis rfl (by simp [Value.oneCell']) ?_
          intro X53 hb9 hf9
          have HB6 := hide (hf9.kept (unhide HB6) (unhide N67))
          have HB7 := hide hb9
          have HO4 := hide ((unhide HO4).fr hf9 (fun g hg e9 => by subst e9; exact unhide NF7 hg))
          have FY : Fr (fun q => w4.heap.size ≤ q) w4 X53 := FY.tr (hf9.mono (fun q hq => by subst hq; exact unhide L7))
          clear hb9 hf9
          refine hK.out _ _ ⟨FY.kept (unhide H40) (by have h1 := unhide HS4; omega), FY.kept (unhide HP4) (by have h1 := unhide HS4; omega)⟩ (fun hHeld => ?_)
          clear hK K hHeld
          refine wpAnyH_done (by kernel_rfl) ?_ _
          go_wp2
          go_meet
          exact ⟨_, _, _, _, _, _, _, _, _, _, _, _, _, _, rfl, rfl, HB6, HB7, HO4, hide ⟨unhide L6, unhide L7, unhide HLO⟩, hide FY⟩
      · go_simp
        have n9 := new_block X44 (.cells #[.string { data := #[] }, .int .i64 0, .int .i64 0, .string { data := #[] }, .string { data := #[] }, .string { data := #[] }, .slice none 0 0, .slice none 0 0, .bool false, .bool false, .slice none 0 0, .int .i64 0, .string { data := #[] }, .bool false, .slice none 0 0, .slice none 0 0, .slice none 0 0] 37)
        have e9 := (Ext.refl X44).alloc (.cells #[.string { data := #[] }, .int .i64 0, .int .i64 0, .string { data := #[] }, .string { data := #[] }, .string { data := #[] }, .slice none 0 0, .slice none 0 0, .bool false, .bool false, .slice none 0 0, .int .i64 0, .string { data := #[] }, .bool false, .slice none 0 0, .slice none 0 0, .slice none 0 0] 37)
        generalize X44.alloc (.cells #[.string { data := #[] }, .int .i64 0, .int .i64 0, .string { data := #[] }, .string { data := #[] }, .string { data := #[] }, .slice none 0 0, .slice none 0 0, .bool false, .bool false, .slice none 0 0, .int .i64 0, .string { data := #[] }, .bool false, .slice none 0 0, .slice none 0 0, .slice none 0 0] 37) = X54 at n9 e9 ⊢
        have HB6 := hide n9
        have N67 : Hid ((X44.heap.size) ≠ (X0.heap.size)) := hide (by have h2 := lt_of_block (unhide HB7); omega)
        replace HB7 := hide (e9.kept (unhide HB7))
        have L6 : Hid (w4.heap.size ≤ X44.heap.size) := hide (unhide G).size
        replace G := hide ((unhide G).trans e9)
        clear n9 e9
        refine hK.out _ _ ⟨(unhide G).kept (unhide H40), (unhide G).kept (unhide HP4)⟩ (fun hHeld => ?_)
        clear hK K hHeld
        refine wpAnyH_ready (rs := [4]) (by kernel_rfl) (by simp) ?_
        refine (AllReadyH.cons rfl (fun K hK => ?_) AllReadyH.nil)
        go_simp
        go_wp2_with (go_at_call 64; refine ((unhide hcC) _ ((unhide HF4).tr (Fr.of_ext (unhide G)))).mono ?_; rintro e X55 ⟨u4, h4, p4, q4, l4, d4, rfl, o9, f9⟩; obtain ⟨u4a, u4c, h4a, h4c, p4a, p4c, q4a, q4c, l4a, l4c, d4a, d4c, rfl, rfl, rfl, rfl, rfl, rfl⟩ := o9.reads.forms; have NF6 : Hid (¬ SesFoot (.slice u4a s.un u4c) (.slice h4a s.kh.length h4c) (.slice p4a s.pn p4c) (.slice q4a s.qn q4c) (.slice l4a s.ln l4c) (.slice d4a s.dn d4c) (X44.heap.size)) := hide (fun hg => by have h1 := (o9.foot hg).1; have h2 := lt_of_block (unhide HB6); omega); have NF7 : Hid (¬ SesFoot (.slice u4a s.un u4c) (.slice h4a s.kh.length h4c) (.slice p4a s.pn p4c) (.slice q4a s.qn q4c) (.slice l4a s.ln l4c) (.slice d4a s.dn d4c) (X0.heap.size)) := hide (fun hg => by have h1 := (o9.foot hg).1; have h2 := lt_of_block (unhide HB7); omega); have HLO : Hid (∀ g, SesFoot (.slice u4a s.un u4c) (.slice h4a s.kh.length h4c) (.slice p4a s.pn p4c) (.slice q4a s.qn q4c) (.slice l4a s.ln l4c) (.slice d4a s.dn d4c) g → w4.heap.size ≤ g) := hide (fun g hg => by have h1 := (o9.foot hg).1; have h2 := (unhide G).size; omega); have HO4 := hide (o9.mono (b' := w.heap.size) (by have h1 := (unhide G).size; have h2 := unhide HS4; omega)); replace HB6 := hide (f9.kept (unhide HB6)); replace HB7 := hide (f9.kept (unhide HB7)); replace G := hide ((unhide G).trans f9); clear o9 f9)
        refine hK.out _ _ ⟨(unhide G).kept (unhide H40), (unhide G).kept (unhide HP4)⟩ (fun hHeld => ?_)
        clear hK K hHeld
        refine wpAnyH_ready (rs := [9]) (by kernel_rfl) (by simp) ?_
        refine (AllReadyH.cons rfl (fun K hK => ?_) AllReadyH.nil)
        go_simp
        go_wp2_with (go_at_call 65; refine ((unhide hcH) _).mono ?_; rintro e X56 ⟨rfl, f9⟩; replace HB6 := hide (f9.kept (unhide HB6)); replace HB7 := hide (f9.kept (unhide HB7)); replace HO4 := hide ((unhide HO4).ext f9); replace G := hide ((unhide G).trans f9); clear f9)
        refine hK.out _ _ ⟨(unhide G).kept (unhide H40), (unhide G).kept (unhide HP4)⟩ (fun hHeld => ?_)
        clear hK K hHeld
        refine wpAnyH_ready (rs := [12]) (by kernel_rfl) (by simp) ?_
        refine AllReadyH.cons rfl (fun K hK => ?_) AllReadyH.nil
        refine wp_store_blk 37 _ _ rfl rfl (X44.heap.size) rfl _ _ (sesC s (.slice u4a s.un u4c) (.slice h4a s.kh.length h4c) (.slice p4a s.pn p4c) (.slice q4a s.qn q4c) (.slice l4a s.ln l4c) (.slice d4a s.dn d4c)) rfl (unhide HB6) infoSes rfl (by simp [Value.oneCell', sesC]) ?_
        intro X57 hb9 hf9
        have HB7 := hide (hf9.kept (unhide HB7) (fun e9 => unhide N67 e9.symm))
        have HB6 := hide hb9
        have HO4 := hide ((unhide HO4).fr hf9 (fun g hg e9 => by subst e9; exact unhide NF6 hg))
        have FY : Fr (fun q => w4.heap.size ≤ q) w4 X57 := (Fr.of_ext (unhide G)).tr (hf9.mono (fun q hq => by subst hq; exact unhide L6))
        clear hb9 hf9
        refine hK.out _ _ ⟨FY.kept (unhide H40) (by have h1 := unhide HS4; omega), FY.kept (unhide HP4) (by have h1 := unhide HS4; omega)⟩ (fun hHeld => ?_)
        clear hK K hHeld
        refine wpAnyH_ready (rs := [13]) (by kernel_rfl) (by simp) ?_
        refine AllReadyH.cons rfl (fun K hK => ?_) AllReadyH.nil
        refine wp_store_blk 69 _ _ rfl rfl (X0.heap.size) rfl _ _ #[.int .i64 0, .slice none 0 0] rfl (unhide HB7) infoHis rfl (by simp [Value.oneCell']) ?_
        intro X58 hb9 hf9
        have HB6 := hide (hf9.kept (unhide HB6) (unhide N67))
        have HB7 := hide hb9
        have HO4 := hide ((unhide HO4).fr hf9 (fun g hg e9 => by subst e9; exact unhide NF7 hg))
        have FY : Fr (fun q => w4.heap.size ≤ q) w4 X58 := FY.tr (hf9.mono (fun q hq => by subst hq; exact unhide L7))
        clear hb9 hf9
        refine hK.out _ _ ⟨FY.kept (unhide H40) (by have h1 := unhide HS4; omega), FY.kept (unhide HP4) (by have h1 := unhide HS4; omega)⟩ (fun hHeld => ?_)
        clear hK K hHeld
        refine wpAnyH_done (by kernel_rfl) ?_ _
        go_wp2
        go_meet
        exact ⟨_, _, _, _, _, _, _, _, _, _, _, _, _, _, rfl, rfl, HB6, HB7, HO4, hide ⟨unhide L6, unhide L7, unhide HLO⟩, hide FY⟩
  case rest =>
  obtain ⟨b6, b7, u4a, h4a, p4a, q4a, l4a, d4a, u4c, h4c, p4c, q4c, l4c, d4c, rfl, rfl, H6, H7, HO4, HLB, FQ⟩ := hcut
  have zc := hide (unhide FQ).size
  have FC : Hid (Fr (fun q => q = P ∨ w.heap.size ≤ q) w wc) := hide ((unhide HF4).tr ((unhide FQ).mono (fun q hq => .inr (by have h1 := unhide HS4; omega))))
  have EC : Hid (Ext w0 wc) := hide ((unhide FC).ext E0 (fun q hq => by have h1 := unhide hss; omega))
  have HPc := hide ((unhide FQ).kept (unhide HP4) (by have h1 := unhide HS4; omega))
  have Hc0 := hide ((unhide FQ).kept (unhide H40) (by have h1 := unhide HS4; omega))
  have Hc1 := hide ((unhide FQ).kept (unhide H41) (by have h1 := unhide HS4; omega))
  have Hc2 := hide ((unhide FQ).kept (unhide H42) (by have h1 := unhide HS4; omega))
  have kc0 : wc.cell? ⟨w.heap.size, 0, none⟩ = some (.pointer (some ⟨P, 0, none⟩)) := cells_of (unhide Hc0) 0 _ rfl
  clear HP4 H40 H41 H42 k0 hcC hcH
  go_wp2_with (refine wpList_load_part rfl 37 _ rfl P 0 rfl _ _ (sesC s (.slice ua s.un uc) (.slice ha s.kh.length hc) (.slice pa s.pn pc) (.slice qa s.qn qc) (.slice la s.ln lc) (.slice da s.dn dc)) _ _ (unhide HPc) lvC_ses Tryz.underlying37 rfl infoSes ?_)
  clear kc0
  refine ((unhide hcS) wc (unhide FC) (unhide EC)).mono ?_
  rintro e w5 ⟨rfl, F5⟩
  replace FC := hide ((unhide FC).tr (Fr.of_ext F5))
  replace EC := hide ((unhide EC).trans F5)
  replace zc := hide (Nat.le_trans (unhide zc) F5.size)
  replace HPc := hide (F5.kept (unhide HPc))
  replace Hc0 := hide (F5.kept (unhide Hc0))
  replace Hc1 := hide (F5.kept (unhide Hc1))
  replace Hc2 := hide (F5.kept (unhide Hc2))
  replace H6 := hide (F5.kept (unhide H6))
  replace H7 := hide (F5.kept (unhide H7))
  replace HO4 := hide ((unhide HO4).ext F5)
  clear F5 FQ HF4 HE4 hcS
  have kc0 : w5.cell? ⟨w.heap.size, 0, none⟩ = some (.pointer (some ⟨P, 0, none⟩)) := cells_of (unhide Hc0) 0 _ rfl
  cases ok with
  | false =>
    have hno : ¬ SesP s := fun h => by have := (unhide HOK).2 h; cases this
    have HNO := hide hno
    clear hno HOK
    go_wp2_with fail
    refine (require_no 1 w5).mono ?_
    rintro e w6 ⟨rfl, rfl⟩
    refine leaves_cons (f := 97) (args := #[.pointer (some ⟨b6, 0, none⟩), .pointer (some ⟨b7, 0, none⟩), .pointer (some ⟨w.heap.size, 0, none⟩), .pointer (some ⟨w.heap.size + 1, 0, none⟩), .pointer (some ⟨w.heap.size + 1 + 1, 0, none⟩)]) (by simp) (by simp [go_sem]) ?_
    have nn : P ≠ b6 ∧ P ≠ b7 ∧ P ≠ w.heap.size ∧ P ≠ w.heap.size + 1 ∧ P ≠ w.heap.size + 1 + 1 ∧ w.heap.size + 1 ≠ w.heap.size + 1 + 1 := by have h1 := (unhide HLB).1; have h2 := (unhide HLB).2.1; have h3 := unhide HS4; omega
    refine (frame1_hit b6 b7 (w.heap.size) (w.heap.size + 1) (w.heap.size + 1 + 1) P s _ _ _ _ _ _ (sesC s (.slice ua s.un uc) (.slice ha s.kh.length hc) (.slice pa s.pn pc) (.slice qa s.qn qc) (.slice la s.ln lc) (.slice da s.dn dc)) _ _ _ _ _ 0 _ 1 [] w6 rfl ⟨_, _, _, _, _, _, _, _, _, _, _, _, rfl, rfl, rfl, rfl, rfl, rfl⟩ ⟨_, _, _, rfl⟩ (unhide H6) (unhide H7) (unhide Hc0) (unhide Hc1) (unhide Hc2) (unhide HPc) nn).mono ?_
    rintro e u7 w7 ⟨rfl, rfl, g7, g71, g72, F7⟩
    show Leaves _ _ _ _ _ FrameMode.returning w7
    have k19 : w7.cell? ⟨P, 19, none⟩ = some (.int .i32 1) := by rw [cell_of_row w7 P 19 _ _ _ g7]; exact lvC_at (sc := (sesC s (.slice u4a s.un u4c) (.slice h4a s.kh.length h4c) (.slice p4a s.pn p4c) (.slice q4a s.qn q4c) (.slice l4a s.ln l4c) (.slice d4a s.dn d4c))) rfl 2
    refine leaves_cons (f := 96) (args := #[.pointer (some ⟨P, 19, none⟩)]) (by simp) (by simp [go_sem]) ?_
    refine (unlock_any ⟨P, 19, none⟩ _ w7 k19 (Lib.frozen_of_heap g7 19)).mono ?_
    rintro e u8 w8 ⟨rfl, rfl, hw8⟩
    show Leaves _ _ _ _ [] FrameMode.returning w8
    have F8 : Fr (fun q => q = P ∨ q = w.heap.size + 1 ∨ q = w.heap.size + 1 + 1) w6 w8 := by rw [hw8]; exact Fr.setCell (S := fun q => q = P ∨ q = w.heap.size + 1 ∨ q = w.heap.size + 1 + 1) F7 (a := ⟨P, 19, none⟩) (.inl rfl) _
    have r1 : w8.cell? ⟨w.heap.size + 1, 0, none⟩ = some (.slice none 0 0) := by rw [hw8]; exact cells_of (set_else g71 (by omega)) 0 _ rfl
    have r2 : w8.cell? ⟨w.heap.size + 1 + 1, 0, none⟩ = some (.int .i64 1) := by rw [hw8]; exact cells_of (set_else g72 (by omega)) 0 _ rfl
    have g8 : w8.heap[P]? = some (.cells (lvC (sesC s (.slice u4a s.un u4c) (.slice h4a s.kh.length h4c) (.slice p4a s.pn p4c) (.slice q4a s.qn q4c) (.slice l4a s.ln l4c) (.slice d4a s.dn d4c)) [.int .i64 0, .slice none 0 0, .int .i32 0, .int .u32 0, .nilFunc, .nilFunc, .nilFunc, .nilFunc, .nilFunc, .slice none 0 0, .int .i64 0, .int .i64 0]) 85 (0, 0)) := by rw [hw8]; exact set_blk2 g7 (lvC_set (sc := (sesC s (.slice u4a s.un u4c) (.slice h4a s.kh.length h4c) (.slice p4a s.pn p4c) (.slice q4a s.qn q4c) (.slice l4a s.ln l4c) (.slice d4a s.dn d4c))) rfl 2 (.int .i32 0))
    refine ⟨.tuple #[.slice none 0 0, .int .i64 1], by simp [results, Tryz.results66, go_sem, r1, r2], .inr ⟨1, _, _, _, _, _, _, _, rfl, .inl ⟨rfl, unhide HNO⟩, g8, (unhide HO4).fr F8 (fun g hg e9 => by have h1 := (unhide HLB).2.2 g hg; have h2 := unhide HS4; omega), fun hg => by have h1 := (unhide HLB).2.2 P hg; have h2 := unhide HS4; omega, ((unhide FC).tr (F8.mono (fun q hq => by omega))).mono (fun q hq => hq.elim .inl (fun h => .inr (.inr h)))⟩⟩
  | true =>
    have hyes : SesP s := (unhide HOK).1 rfl
    have HYES := hide hyes
    have hcBB := hide ((unhide hcB) hyes)
    have hWKK := hide ((unhide HWK) hyes)
    clear hyes HOK hcB HWK
    go_wp2_with fail
    refine (require_yes 1 w5).mono ?_
    rintro e w6 ⟨rfl, rfl⟩
    go_upto_region 6 with fail
    clear kc0
    refine wp_region_held_drew (S := fun W => W.heap[w.heap.size]? = some (.cells #[.pointer (some ⟨P, 0, none⟩)] 66 (0, 0)) ∧ ∃ r, W.heap[P]? = some (.cells (lvC (sesC s (.slice ua s.un uc) (.slice ha s.kh.length hc) (.slice pa s.pn pc) (.slice qa s.qn qc) (.slice la s.ln lc) (.slice da s.dn dc)) r) 85 (0, 0))) (by kernel_rfl) ⟨unhide Hc0, _, unhide HPc⟩ (fun hHeld => ?_)
    have G := hide ((Ext.refl w6).drew)
    generalize w6.drew = X0 at *

    refine wpAnyH_take (i := 0) (v := .pointer (some ⟨P, 0, none⟩)) rfl (by kernel_rfl) (by kernel_rfl) (by kernel_rfl) (fun _ _ _ h => frame_put 32 rfl (by omega) h) (Or.inl ⟨by rfl, ?_⟩) (by assumption) ?_
    · intro w' hSw; have k9 := cells_of hSw.1 0 _ rfl; go_simp <;> with_reducible rfl
    simp only [Act.put, List.getElem_toArray, List.getElem_cons_succ, List.getElem_cons_zero, List.setIfInBounds_toArray, List.set_cons_zero, List.set_cons_succ]
    refine wpAnyH_take (i := 1) (v := .pointer (some ⟨P, 0, none⟩)) rfl (by kernel_rfl) (by kernel_rfl) (by kernel_rfl) (fun _ _ _ h => frame_put 33 rfl (by omega) h) (Or.inl ⟨by rfl, ?_⟩) (by assumption) ?_
    · intro w' hSw; have k9 := cells_of hSw.1 0 _ rfl; go_simp <;> with_reducible rfl
    simp only [Act.put, List.getElem_toArray, List.getElem_cons_succ, List.getElem_cons_zero, List.setIfInBounds_toArray, List.set_cons_zero, List.set_cons_succ]
    refine wpAnyH_take (i := 3) (v := .pointer (some ⟨P, 0, none⟩)) rfl (by kernel_rfl) (by kernel_rfl) (by kernel_rfl) (fun _ _ _ h => frame_put 35 rfl (by omega) h) (Or.inl ⟨by rfl, ?_⟩) (by assumption) ?_
    · intro w' hSw; have k9 := cells_of hSw.1 0 _ rfl; go_simp <;> with_reducible rfl
    simp only [Act.put, List.getElem_toArray, List.getElem_cons_succ, List.getElem_cons_zero, List.setIfInBounds_toArray, List.set_cons_zero, List.set_cons_succ]
    refine wpAnyH_take (i := 4) (v := .pointer (some ⟨P, 0, none⟩)) rfl (by kernel_rfl) (by kernel_rfl) (by kernel_rfl) (fun _ _ _ h => frame_put 36 rfl (by omega) h) (Or.inl ⟨by rfl, ?_⟩) (by assumption) ?_
    · intro w' hSw; go_simp <;> with_reducible rfl
    simp only [Act.put, List.getElem_toArray, List.getElem_cons_succ, List.getElem_cons_zero, List.setIfInBounds_toArray, List.set_cons_zero, List.set_cons_succ]
    refine wpAnyH_take (i := 5) (v := .pointer (some ⟨P, 0, none⟩)) rfl (by kernel_rfl) (by kernel_rfl) (by kernel_rfl) (fun _ _ _ h => frame_put 37 rfl (by omega) h) (Or.inl ⟨by rfl, ?_⟩) (by assumption) ?_
    · intro w' hSw; go_simp <;> with_reducible rfl
    simp only [Act.put, List.getElem_toArray, List.getElem_cons_succ, List.getElem_cons_zero, List.setIfInBounds_toArray, List.set_cons_zero, List.set_cons_succ]
    refine wpAnyH_take (i := 6) (v := .agg (sesC s (.slice ua s.un uc) (.slice ha s.kh.length hc) (.slice pa s.pn pc) (.slice qa s.qn qc) (.slice la s.ln lc) (.slice da s.dn dc))) rfl (by kernel_rfl) (by kernel_rfl) (by kernel_rfl) (fun _ _ _ h => frame_put 38 rfl (by omega) h) (Or.inl ⟨by rfl, ?_⟩) (by assumption) ?_
    · rintro w' ⟨_, r9, hr9⟩; exact yields_load_part 37 _ rfl P 0 rfl _ _ (sesC s (.slice ua s.un uc) (.slice ha s.kh.length hc) (.slice pa s.pn pc) (.slice qa s.qn qc) (.slice la s.ln lc) (.slice da s.dn dc)) _ _ hr9 lvC_ses Tryz.underlying37 rfl infoSes
    simp only [Act.put, List.getElem_toArray, List.getElem_cons_succ, List.getElem_cons_zero, List.setIfInBounds_toArray, List.set_cons_zero, List.set_cons_succ]
    clear hHeld
    refine wpAnyH_ready (rs := [2]) (by kernel_rfl) (by simp) ?_
    refine AllReadyH.cons rfl (fun K hK => ?_) AllReadyH.nil
    go_simp
    go_wp2_with (go_at_call 100; refine ((unhide hcW) _ ((unhide EC).trans (unhide G))).mono ?_; rintro e Y1 ⟨ob, qb, nb, rfl, hs9, ⟨ho9, hq9, hn9⟩, f9⟩; have HWR := hide hs9; have HOB := hide (Nat.le_trans (unhide G).size ho9); have HQB := hide (And.intro (Nat.le_trans (unhide G).size hq9) (Nat.le_trans (unhide G).size hn9)); replace G := hide ((unhide G).trans f9); clear hs9 ho9 hq9 hn9 f9; dsimp only [wrV])
    refine hK.out _ _ ⟨(unhide G).kept (unhide Hc0), _, (unhide G).kept (unhide HPc)⟩ (fun hHeld => ?_)
    clear hK K hHeld
    refine wpAnyH_ready (rs := [7]) (by kernel_rfl) (by simp) ?_
    refine AllReadyH.cons rfl (fun K hK => ?_) AllReadyH.nil
    go_simp
    go_wp2_with (go_at_call 72; refine ((unhide hcBB) _ ((unhide FC).tr (Fr.of_ext (unhide G))) ((unhide EC).trans (unhide G))).mono ?_; rintro e Y2 ⟨bv, rfl, o9, f9⟩; obtain ⟨bva, bvc, rfl⟩ := o9.slice; have HBV := hide o9; have HBS := hide f9.size; have HWR2 := hide ((unhide HWR).on f9); replace G := hide ((unhide G).trans f9); clear o9 f9)
    refine hK.out _ _ ⟨(unhide G).kept (unhide Hc0), _, (unhide G).kept (unhide HPc)⟩ (fun hHeld => ?_)
    clear hK K
    refine wpAnyH_take (i := 8) (v := .pointer (some ⟨P, 0, none⟩)) rfl (by kernel_rfl) (by kernel_rfl) (by kernel_rfl) (fun _ _ _ h => frame_put 40 rfl (by omega) h) (Or.inl ⟨by rfl, ?_⟩) (by assumption) ?_
    · intro w' hSw; go_simp <;> with_reducible rfl
    simp only [Act.put, List.getElem_toArray, List.getElem_cons_succ, List.getElem_cons_zero, List.setIfInBounds_toArray, List.set_cons_zero, List.set_cons_succ]
    refine wpAnyH_take (i := 9) (v := .pointer (some ⟨P, 21, none⟩)) rfl (by kernel_rfl) (by kernel_rfl) (by kernel_rfl) (fun _ _ _ h => frame_put 41 rfl (by omega) h) (Or.inl ⟨by rfl, ?_⟩) (by assumption) ?_
    · intro w' hSw; go_simp <;> with_reducible rfl
    simp only [Act.put, List.getElem_toArray, List.getElem_cons_succ, List.getElem_cons_zero, List.setIfInBounds_toArray, List.set_cons_zero, List.set_cons_succ]
    clear hHeld
    refine wpAnyH_ready (rs := [10]) (by kernel_rfl) (by simp) ?_
    refine AllReadyH.cons rfl (fun K hK => ?_) AllReadyH.nil
    refine wp_store_part 83 _ _ rfl rfl P 21 rfl 85 _ #[.func (.func 129) #[] #[.pointer (some ⟨ob, 0, none⟩)], .func (.func 130) #[] #[.pointer (some ⟨nb, 0, none⟩)], .func (.func 131) #[] #[.pointer (some ⟨nb, 0, none⟩)], .func (.func 132) #[] #[.pointer (some ⟨qb, 0, none⟩)], .func (.func 133) #[] #[.pointer (some ⟨ob, 0, none⟩)]] (lvC (sesC s (.slice ua s.un uc) (.slice ha s.kh.length hc) (.slice pa s.pn pc) (.slice qa s.qn qc) (.slice la s.ln lc) (.slice da s.dn dc)) (.int .i64 0 :: .slice none 0 0 :: .int .i32 1 :: .int .u32 0 :: (wrL ob qb nb ++ [.slice none 0 0, .int .i64 0, .int .i64 0]))) rfl ((unhide G).kept (unhide HPc)) infoWrs (by show 21 + 5 ≤ 29; omega) (by simp [Value.oneCell']) rfl ?_
    intro Y3 hb9 hf9
    have HP3 := hide hb9
    have F3 := hide hf9
    refine hK.out _ _ ⟨hf9.kept ((unhide G).kept (unhide Hc0)) (by omega), _, hb9⟩ (fun hHeld => ?_)
    clear hK K hb9 hf9
    refine wpAnyH_take (i := 11) (v := .pointer (some ⟨P, 0, none⟩)) rfl (by kernel_rfl) (by kernel_rfl) (by kernel_rfl) (fun _ _ _ h => frame_put 42 rfl (by omega) h) (Or.inl ⟨by rfl, ?_⟩) (by assumption) ?_
    · intro w' hSw; go_simp <;> with_reducible rfl
    simp only [Act.put, List.getElem_toArray, List.getElem_cons_succ, List.getElem_cons_zero, List.setIfInBounds_toArray, List.set_cons_zero, List.set_cons_succ]
    refine wpAnyH_take (i := 12) (v := .pointer (some ⟨P, 26, none⟩)) rfl (by kernel_rfl) (by kernel_rfl) (by kernel_rfl) (fun _ _ _ h => frame_put 43 rfl (by omega) h) (Or.inl ⟨by rfl, ?_⟩) (by assumption) ?_
    · intro w' hSw; go_simp <;> with_reducible rfl
    simp only [Act.put, List.getElem_toArray, List.getElem_cons_succ, List.getElem_cons_zero, List.setIfInBounds_toArray, List.set_cons_zero, List.set_cons_succ]
    clear hHeld
    refine wpAnyH_ready (rs := [13]) (by kernel_rfl) (by simp) ?_
    refine AllReadyH.cons rfl (fun K hK => ?_) AllReadyH.nil
    refine wp_store_part 61 _ _ rfl rfl P 26 rfl 85 _ #[.slice bva s.blk.n bvc, .int .i64 (s.blk.R : Int), .int .i64 s.blk.C] (lvC (sesC s (.slice ua s.un uc) (.slice ha s.kh.length hc) (.slice pa s.pn pc) (.slice qa s.qn qc) (.slice la s.ln lc) (.slice da s.dn dc)) (lvW ob qb nb (.slice bva s.blk.n bvc) (s.blk.R : Int) s.blk.C)) rfl (unhide HP3) infoBlkF (by show 26 + 3 ≤ 29; omega) (by simp [Value.oneCell']) rfl ?_
    intro Y4 hb9 hf9
    have HPz := hide hb9
    have F4z := hide ((unhide F3).tr hf9)
    refine hK.out _ _ ⟨hf9.kept ((unhide F3).kept ((unhide G).kept (unhide Hc0)) (by omega)) (by omega), _, hb9⟩ (fun hHeld => ?_)
    clear hK K hb9 hf9 hHeld HP3 F3
    refine wpAnyH_done (by kernel_rfl) ?_ _
    have FZ : Hid (Fr (fun q => q = P ∨ w.heap.size ≤ q) w Y4) := hide (((unhide FC).tr (Fr.of_ext (unhide G))).tr ((unhide F4z).mono (fun q hq => .inl hq)))
    have EZ : Hid (Ext w0 Y4) := hide ((unhide FZ).ext E0 (fun q hq => by have h1 := unhide hss; omega))
    have hBz : Hid (w4.heap.size ≤ Y1.heap.size) := hide (by have h1 := (unhide HWR).ltb; have h2 := unhide HOB; have h3 := unhide zc; omega)
    have hzo : Hid (w4.heap.size ≤ ob) := hide (by have h2 := unhide HOB; have h3 := unhide zc; omega)
    have hnP : Hid (∀ g, g = P → g ≠ ob ∧ g ≠ qb ∧ g ≠ nb ∧ g ≠ 4 ∧ g < Y1.heap.size) := hide (fun g hg => by
      subst hg
      have h1 := unhide hBz
      have h2 := unhide HS4
      have h3 := unhide hzo
      refine ⟨by omega, fun e => ?_, fun e => ?_, by omega, by omega⟩
      · have h4 := (unhide HWR2).q
        rw [← e, cell_of_row Y2 g 0 _ _ _ ((unhide G).kept (unhide HPc))] at h4
        simp [lvC, sesC, seqF] at h4
      · have h4 := (unhide HWR2).nn
        rw [← e, cell_of_row Y2 g 0 _ _ _ ((unhide G).kept (unhide HPc))] at h4
        simp [lvC, sesC, anyF] at h4)
    have HWZ := hide ((unhide HWR2).frP (unhide F4z) (unhide hnP))
    have HBVZ := hide (((unhide HBV).fr (unhide F4z) (fun g hg e => by have h1 := ((unhide HBV).lt g hg).1; have h2 := ((unhide hnP) g e).2.2.2.2; omega)))
    have Hz0 := hide ((unhide F4z).kept ((unhide G).kept (unhide Hc0)) (by omega))
    have Hz1 := hide ((unhide F4z).kept ((unhide G).kept (unhide Hc1)) (by omega))
    have Hz2 := hide ((unhide F4z).kept ((unhide G).kept (unhide Hc2)) (by omega))
    have Hz6 := hide ((unhide F4z).kept ((unhide G).kept (unhide H6)) (by have h1 := (unhide HLB).1; have h2 := unhide HS4; omega))
    have Hz7 := hide ((unhide F4z).kept ((unhide G).kept (unhide H7)) (by have h1 := (unhide HLB).2.1; have h2 := unhide HS4; omega))
    have HO5 := hide (((unhide HO4).ext (unhide G)).fr (unhide F4z) (fun g hg e => by have h1 := (unhide HLB).2.2 g hg; have h2 := unhide HS4; omega))
    have hlt : Hid (b6 < Y1.heap.size ∧ b7 < Y1.heap.size ∧ b6 ≠ ob ∧ b7 ≠ ob ∧ ∀ g, SesFoot (.slice u4a s.un u4c) (.slice h4a s.kh.length h4c) (.slice p4a s.pn p4c) (.slice q4a s.qn q4c) (.slice l4a s.ln l4c) (.slice d4a s.dn d4c) g → g < Y1.heap.size ∧ g ≠ ob) := hide (by
      have h1 := lt_of_block (unhide H6)
      have h2 := lt_of_block (unhide H7)
      have h3 := unhide HOB
      have h4 := (unhide HWR).ltb
      refine ⟨by omega, by omega, by omega, by omega, fun g hg => ?_⟩
      have h5 := ((unhide HO4).foot hg).2
      omega)
    have hwk := hide ((unhide hWKK) Y4 Y1.heap.size ob qb nb (.slice bva s.blk.n bvc) (unhide EZ) (unhide FZ) ⟨by have h1 := unhide hzo; have h2 := unhide HS4; omega, by have h1 := (unhide HQB).1; have h2 := unhide HS4; have h3 := unhide zc; omega, by have h1 := (unhide HQB).2; have h2 := unhide HS4; have h3 := unhide zc; omega⟩ (by have h1 := unhide hBz; have h2 := unhide HS4; omega) (unhide HPz) (unhide HWZ) (unhide HBVZ))
    clear HPc Hc0 Hc1 Hc2 H6 H7 HO4 HWR HWR2 HBV HBVZ FC EC EZ hWKK hcBB hcW HWZ
    go_wp2_with fail
    refine (unhide hwk).mono ?_
    rintro e w7 (⟨sc, bs, rfl, hsz, hP7, hW7, hOk, F7⟩ | ⟨c, sc, rfl, hsz, hP7, hNo, F7⟩)
    · have HP7 := hide hP7
      have k0 : w7.cell? ⟨w.heap.size, 0, none⟩ = some (.pointer (some ⟨P, 0, none⟩)) := cells_of (F7.kept (unhide Hz0) (fun e => by have h1 := unhide hzo; have h2 := unhide HS4; have h3 := unhide hBz; rcases e with e | e | e | e <;> first | omega | (have h9 := (unhide HX) _ e; omega))) 0 _ rfl
      have k1 : w7.cell? ⟨w.heap.size + 1, 0, none⟩ = some (.slice none 0 0) := cells_of (F7.kept (unhide Hz1) (fun e => by have h1 := unhide hzo; have h2 := unhide HS4; have h3 := unhide hBz; rcases e with e | e | e | e <;> first | omega | (have h9 := (unhide HX) _ e; omega))) 0 _ rfl
      have b2' := F7.kept (unhide Hz2) (fun e => by have h1 := unhide hzo; have h2 := unhide HS4; have h3 := unhide hBz; rcases e with e | e | e | e <;> first | omega | (have h9 := (unhide HX) _ e; omega))
      have b1' := F7.kept (unhide Hz1) (fun e => by have h1 := unhide hzo; have h2 := unhide HS4; have h3 := unhide hBz; rcases e with e | e | e | e <;> first | omega | (have h9 := (unhide HX) _ e; omega))
      have e1 : w7.frozen? ⟨w.heap.size + 1, 0, none⟩ = false := Lib.frozen_of_heap b1' 0
      have e2 : w7.frozen? ⟨w.heap.size + 1 + 1, 0, none⟩ = false := Lib.frozen_of_heap b2' 0
      have k2s : ∀ v, (w7.setCell ⟨w.heap.size + 1, 0, none⟩ v).cell? ⟨w.heap.size + 1 + 1, 0, none⟩ = some (.int .i64 0) := fun v => cells_of (set_else b2' (by omega)) 0 _ rfl
      have k25 : w7.cell? ⟨P, 25, none⟩ = some (.func (.func 133) #[] #[.pointer (some ⟨ob, 0, none⟩)]) := by rw [cell_of_row w7 P 25 _ _ _ hP7]; exact lvC_at hsz 8
      have HB1 := hide b1'
      have HB2 := hide b2'
      have HSZ := hide hsz
      have HK := hide hOk
      have HF7 := hide F7
      have hcw := hide (written_any Y1.heap.size ob qb nb bs w7 hW7)
      clear hP7 hW7 hOk F7 hsz b1' b2'
      go_wp2_with fail
      clear k25 k0
      refine (unhide hcw).mono ?_
      rintro e w8 ⟨u8, rfl, o8, rfl⟩
      obtain ⟨a8, c8, rfl⟩ := owns_slice o8
      have HO8 := hide o8
      clear o8
      go_wp2
      clear k1 e1 e2 k2s
      refine leaves_cons (f := 97) (args := #[.pointer (some ⟨b6, 0, none⟩), .pointer (some ⟨b7, 0, none⟩), .pointer (some ⟨w.heap.size, 0, none⟩), .pointer (some ⟨w.heap.size + 1, 0, none⟩), .pointer (some ⟨w.heap.size + 1 + 1, 0, none⟩)]) (by simp) (by simp [go_sem]) ?_
      refine (frame1_idle _ _ _ _ _ _).mono ?_
      rintro e u9 w9 ⟨rfl, rfl, hw9⟩
      show Leaves _ _ _ _ _ FrameMode.returning w9
      have F9 : Fr (fun q => q = P ∨ q = w.heap.size + 1 ∨ q = w.heap.size + 1 + 1) w8 w9 := by rw [hw9]; exact Fr.setCell (S := fun q => q = P ∨ q = w.heap.size + 1 ∨ q = w.heap.size + 1 + 1) (Fr.setCell (S := fun q => q = P ∨ q = w.heap.size + 1 ∨ q = w.heap.size + 1 + 1) (Fr.refl _ _) (a := ⟨w.heap.size + 1, 0, none⟩) (.inr (.inl rfl)) _) (a := ⟨w.heap.size + 1 + 1, 0, none⟩) (.inr (.inr rfl)) _
      have g9 : w9.heap[P]? = some (.cells (lvC sc (.int .i64 0 :: .slice none 0 0 :: .int .i32 1 :: .int .u32 0 :: (wrL ob qb nb ++ [.slice bva s.blk.n bvc, .int .i64 (s.blk.R : Int), .int .i64 s.blk.C]))) 85 (0, 0)) := by rw [hw9]; exact set_else (set_else (unhide HP7) (by omega)) (by omega)
      have g91 : w9.heap[w.heap.size + 1]? = some (.cells #[.slice a8 bs.length c8] 25 (0, 0)) := by rw [hw9]; exact set_else (set_blk2 (unhide HB1) rfl) (by omega)
      have g92 : w9.heap[w.heap.size + 1 + 1]? = some (.cells #[.int .i64 0] 3 (0, 0)) := by rw [hw9]; exact set_blk2 (set_else (unhide HB2) (by omega)) rfl
      have k19 : w9.cell? ⟨P, 19, none⟩ = some (.int .i32 1) := by rw [cell_of_row w9 P 19 _ _ _ g9]; exact lvC_at (unhide HSZ) 2
      refine leaves_cons (f := 96) (args := #[.pointer (some ⟨P, 19, none⟩)]) (by simp) (by simp [go_sem]) ?_
      refine (unlock_any ⟨P, 19, none⟩ _ w9 k19 (Lib.frozen_of_heap g9 19)).mono ?_
      rintro e u10 wf ⟨rfl, rfl, hwf⟩
      show Leaves _ _ _ _ [] FrameMode.returning wf
      have FF : Fr (fun q => q = P ∨ q = w.heap.size + 1 ∨ q = w.heap.size + 1 + 1) w8 wf := by rw [hwf]; exact Fr.setCell (S := fun q => q = P ∨ q = w.heap.size + 1 ∨ q = w.heap.size + 1 + 1) F9 (a := ⟨P, 19, none⟩) (.inl rfl) _
      have r1 : wf.cell? ⟨w.heap.size + 1, 0, none⟩ = some (.slice a8 bs.length c8) := by rw [hwf]; exact cells_of (set_else g91 (by omega)) 0 _ rfl
      have r2 : wf.cell? ⟨w.heap.size + 1 + 1, 0, none⟩ = some (.int .i64 0) := by rw [hwf]; exact cells_of (set_else g92 (by omega)) 0 _ rfl
      have gf : wf.heap[P]? = some (.cells (lvC sc (.int .i64 0 :: .slice none 0 0 :: .int .i32 0 :: .int .u32 0 :: (wrL ob qb nb ++ [.slice bva s.blk.n bvc, .int .i64 (s.blk.R : Int), .int .i64 s.blk.C]))) 85 (0, 0)) := by rw [hwf]; exact set_blk2 g9 (lvC_set (unhide HSZ) 2 (.int .i32 0))
      refine ⟨.tuple #[.slice a8 bs.length c8, .int .i64 0], by simp [results, Tryz.results66, go_sem, r1, r2], .inl ⟨_, sc, bs, _, rfl, unhide HYES, owns_mono (FF.owns (unhide HO8) (fun g hg e9 => by have h1 := ((unhide HO8).lt g hg).1; have h2 := unhide hBz; have h3 := unhide HS4; rcases e9 with e9 | e9 | e9 <;> omega)) (by have h2 := unhide hBz; have h3 := unhide HS4; omega), gf, unhide HSZ, (unhide HST) sc bs w8 wf (unhide HK) FF, (((unhide FZ).mono (fun q hq => hq.elim .inl (fun h => .inr (.inr h)))).tr ((unhide HF7).mono (fun q hq => by have h1 := unhide hzo; have h2 := unhide HS4; have h3 := unhide hBz; rcases hq with hq | hq | hq | hq <;> first | exact .inl hq | exact .inr (.inl hq) | exact .inr (.inr (by omega))))).tr (FF.mono (fun q hq => by rcases hq with hq | hq | hq <;> first | exact .inl hq | exact .inr (.inr (by omega))))⟩⟩
    · have kz : ∀ g, g < w4.heap.size → g ≠ P → w.heap.size ≤ g → ¬ (g = P ∨ X g ∨ WS Y1.heap.size ob g) := fun g h1 h2 h5 e => by have h3 := unhide hzo; have h4 := unhide hBz; rcases e with e | e | e | e <;> first | omega | (have h9 := (unhide HX) _ e; omega)
      have kb : ∀ g, g < Y1.heap.size → g ≠ ob → g ≠ P → w.heap.size ≤ g → ¬ (g = P ∨ X g ∨ WS Y1.heap.size ob g) := fun g h1 h2 h3 h5 e => by rcases e with e | e | e | e <;> first | omega | (have h9 := (unhide HX) _ e; omega)
      have nn : P ≠ b6 ∧ P ≠ b7 ∧ P ≠ w.heap.size ∧ P ≠ w.heap.size + 1 ∧ P ≠ w.heap.size + 1 + 1 ∧ w.heap.size + 1 ≠ w.heap.size + 1 + 1 := by have h1 := (unhide HLB).1; have h2 := (unhide HLB).2.1; have h3 := unhide HS4; omega
      have hl := unhide hlt
      have hs4 := unhide HS4
      have HO6 := hide ((unhide HO5).fr F7 (fun g hg => kb g (hl.2.2.2.2 g hg).1 (hl.2.2.2.2 g hg).2 (fun e => by have h1 := (unhide HLB).2.2 g hg; omega) (by have h1 := (unhide HLB).2.2 g hg; omega)))
      refine leaves_cons (f := 97) (args := #[.pointer (some ⟨b6, 0, none⟩), .pointer (some ⟨b7, 0, none⟩), .pointer (some ⟨w.heap.size, 0, none⟩), .pointer (some ⟨w.heap.size + 1, 0, none⟩), .pointer (some ⟨w.heap.size + 1 + 1, 0, none⟩)]) (by simp) (by simp [go_sem]) ?_
      refine (frame1_hit b6 b7 (w.heap.size) (w.heap.size + 1) (w.heap.size + 1 + 1) P s _ _ _ _ _ _ sc _ _ _ _ _ 0 _ c [] w7 hsz ⟨_, _, _, _, _, _, _, _, _, _, _, _, rfl, rfl, rfl, rfl, rfl, rfl⟩ ⟨_, _, _, rfl⟩ (F7.kept (unhide Hz6) (kb b6 hl.1 hl.2.2.1 (fun e => nn.1 e.symm) (by have h1 := (unhide HLB).1; omega))) (F7.kept (unhide Hz7) (kb b7 hl.2.1 hl.2.2.2.1 (fun e => nn.2.1 e.symm) (by have h1 := (unhide HLB).2.1; omega))) (F7.kept (unhide Hz0) (kz _ (by omega) (by omega) (by omega))) (F7.kept (unhide Hz1) (kz _ (by omega) (by omega) (by omega))) (F7.kept (unhide Hz2) (kz _ (by omega) (by omega) (by omega))) hP7 nn).mono ?_
      rintro e u8 w8 ⟨rfl, rfl, g8, g81, g82, F8⟩
      show Leaves _ _ _ _ _ FrameMode.returning w8
      have k19 : w8.cell? ⟨P, 19, none⟩ = some (.int .i32 1) := by rw [cell_of_row w8 P 19 _ _ _ g8]; exact lvC_at (sc := (sesC s (.slice u4a s.un u4c) (.slice h4a s.kh.length h4c) (.slice p4a s.pn p4c) (.slice q4a s.qn q4c) (.slice l4a s.ln l4c) (.slice d4a s.dn d4c))) rfl 2
      refine leaves_cons (f := 96) (args := #[.pointer (some ⟨P, 19, none⟩)]) (by simp) (by simp [go_sem]) ?_
      refine (unlock_any ⟨P, 19, none⟩ _ w8 k19 (Lib.frozen_of_heap g8 19)).mono ?_
      rintro e u9 wf ⟨rfl, rfl, hwf⟩
      show Leaves _ _ _ _ [] FrameMode.returning wf
      have FF : Fr (fun q => q = P ∨ q = w.heap.size + 1 ∨ q = w.heap.size + 1 + 1) w7 wf := by rw [hwf]; exact Fr.setCell (S := fun q => q = P ∨ q = w.heap.size + 1 ∨ q = w.heap.size + 1 + 1) F8 (a := ⟨P, 19, none⟩) (.inl rfl) _
      have r1 : wf.cell? ⟨w.heap.size + 1, 0, none⟩ = some (.slice none 0 0) := by rw [hwf]; exact cells_of (set_else g81 (by omega)) 0 _ rfl
      have r2 : wf.cell? ⟨w.heap.size + 1 + 1, 0, none⟩ = some (.int .i64 c) := by rw [hwf]; exact cells_of (set_else g82 (by omega)) 0 _ rfl
      have gf : wf.heap[P]? = some (.cells (lvC (sesC s (.slice u4a s.un u4c) (.slice h4a s.kh.length h4c) (.slice p4a s.pn p4c) (.slice q4a s.qn q4c) (.slice l4a s.ln l4c) (.slice d4a s.dn d4c)) (.int .i64 0 :: .slice none 0 0 :: .int .i32 0 :: .int .u32 0 :: (wrL ob qb nb ++ [.slice bva s.blk.n bvc, .int .i64 (s.blk.R : Int), .int .i64 s.blk.C]))) 85 (0, 0)) := by rw [hwf]; exact set_blk2 g8 (lvC_set (sc := (sesC s (.slice u4a s.un u4c) (.slice h4a s.kh.length h4c) (.slice p4a s.pn p4c) (.slice q4a s.qn q4c) (.slice l4a s.ln l4c) (.slice d4a s.dn d4c))) rfl 2 (.int .i32 0))
      refine ⟨.tuple #[.slice none 0 0, .int .i64 c], by simp [results, Tryz.results66, go_sem, r1, r2], .inr ⟨c, _, _, _, _, _, _, _, rfl, .inr ⟨unhide HYES, hNo⟩, gf, (unhide HO6).fr FF (fun g hg e9 => by have h1 := (unhide HLB).2.2 g hg; omega), fun hg => by have h1 := (unhide HLB).2.2 P hg; omega, (((unhide FZ).mono (fun q hq => hq.elim .inl (fun h => .inr (.inr h)))).tr (F7.mono (fun q hq => by have h1 := unhide hzo; have h3 := unhide hBz; rcases hq with hq | hq | hq | hq <;> first | exact .inl hq | exact .inr (.inl hq) | exact .inr (.inr (by omega))))).tr (FF.mono (fun q hq => by rcases hq with hq | hq | hq <;> first | exact .inl hq | exact .inr (.inr (by omega))))⟩⟩
theorem frame_any (P : Nat) (s : SS) (ua ha pa qa la da : Option Addr) (uc hc pc qc lc dc : Nat) (F : Nat) (caps : Array Value) (Ok : Array Value → List Int → World → Prop) (No : Int → Prop) (w0 w : World) (E0 : Ext w0 w) (hP0 : w0.heap.size ≤ P)
    (hL : w.heap[P]? = some (.cells (lvC (sesC s (.slice ua s.un uc) (.slice ha s.kh.length hc) (.slice pa s.pn pc) (.slice qa s.qn qc) (.slice la s.ln lc) (.slice da s.dn dc)) lv0) 85 (0, 0))) (hO : OwnSes w w0.heap.size s (.slice ua s.un uc) (.slice ha s.kh.length hc) (.slice pa s.pn pc) (.slice qa s.qn qc) (.slice la s.ln lc) (.slice da s.dn dc)) (hnf : ¬ SesFoot (.slice ua s.un uc) (.slice ha s.kh.length hc) (.slice pa s.pn pc) (.slice qa s.qn qc) (.slice la s.ln lc) (.slice da s.dn dc) P) (hz : s.Sz) (hT : Tabs3 w0) (hlo : 4 < w0.heap.size) (hPw : PowT w0)
    (hstab : ∀ sc bs W1 W2, Ok sc bs W1 → Fr (fun q => q = P ∨ q = w.heap.size + 1 ∨ q = w.heap.size + 1 + 1) W1 W2 → Ok sc bs W2)
    (hent : ∀ W, Sem.run Tryz.prog (callFunc F caps) W = .ok (.enter F caps) W)
    (hwork : SesP s → ∀ (W : World) (B ob qb nb : Nat) (bv : Value), Ext w0 W → Fr (fun q => q = P ∨ w.heap.size ≤ q) w W → w.heap.size ≤ ob → w.heap.size + 3 ≤ B → W.heap[P]? = some (.cells (lvC (sesC s (.slice ua s.un uc) (.slice ha s.kh.length hc) (.slice pa s.pn pc) (.slice qa s.qn qc) (.slice la s.ln lc) (.slice da s.dn dc)) (lvW ob qb nb bv (s.blk.R : Int) s.blk.C)) 85 (0, 0)) → WrS W B ob qb nb [] → Own1 W B 9 bv s.blk.n (fun i => .string (s.blk.tx i)) → Calls Tryz.prog F caps W fun e w' => WorkP P B ob qb nb bv (s.blk.R : Int) s.blk.C Ok No W e w') :
    Calls Tryz.prog 66 #[.pointer (some ⟨P, 0, none⟩), .func (Fn.func F) #[] caps] w fun e w' => (∃ v sc bs r, e = .returned (.tuple #[v, .int .i64 0]) ∧ SesP s ∧ w'.ownsRow w.heap.size 5 1 v bs.length (bs.map (Value.int .u8)) ∧ w'.heap[P]? = some (.cells (lvC sc r) 85 (0, 0)) ∧ sc.size = 17 ∧ Ok sc bs w' ∧ Fr (fun q => q = P ∨ w.heap.size ≤ q) w w')
      ∨ (∃ c u h p q l d r, e = .returned (.tuple #[.slice none 0 0, .int .i64 c]) ∧ (c = 1 ∧ ¬ SesP s ∨ SesP s ∧ No c) ∧ w'.heap[P]? = some (.cells (lvC (sesC s u h p q l d) r) 85 (0, 0)) ∧ OwnSes w' w.heap.size s u h p q l d ∧ ¬ SesFoot u h p q l d P ∧ Fr (fun q => q = P ∨ w.heap.size ≤ q) w w') := by
  refine (frame_anyX (fun _ => False) P s ua ha pa qa la da uc hc pc qc lc dc F caps Ok No w0 w E0 hP0 (fun q h => h.elim) hL hO hnf hz hT hlo hPw hstab hent (fun hk W B ob qb nb bv h1 h2 h3 h4 h5 h6 h7 => (hwork hk W B ob qb nb bv h1 h2 h3.1 h4 h5 h6 h7).mono (fun e w' h => h.x))).mono ?_
  rintro e w' (⟨v, sc, bs, r, g1, g2, g3, g4, g5, g6, g7⟩ | ⟨c, u, h, p, q, l, d, r, g1, g2, g3, g4, g5, g6⟩)
  · exact .inl ⟨v, sc, bs, r, g1, g2, g3, g4, g5, g6, g7.mono (fun q hq => hq.elim .inl (fun h => h.elim False.elim .inr))⟩
  · exact .inr ⟨c, u, h, p, q, l, d, r, g1, g2, g3, g4, g5, g6.mono (fun q hq => hq.elim .inl (fun h => h.elim False.elim .inr))⟩
end Go.Proofs.YtgdadidppelgdaaGreatDoor
