import Derived.Test.YtmlkpdbfnffoaaaGreatDoorKyP
namespace Go.Proofs.YtmlkpdbfnffoaaaGreatDoor
open Go.RowKit
set_option maxHeartbeats 16000000
set_option maxRecDepth 10000
abbrev lvH (a0 a1 : Value) : List Value := [a0, a1, .int .i32 0, .int .u32 0, .nilFunc, .nilFunc, .nilFunc, .nilFunc, .nilFunc, .slice none 0 0, .int .i64 0, .int .i64 0]
abbrev lvK (a0 a1 : Value) (ob qb nb : Nat) (t : List Value) : List Value := a0 :: a1 :: .int .i32 1 :: .int .u32 0 :: (wrL ob qb nb ++ t)
theorem lvK_at {sc : Array Value} {a0 a1 : Value} {ob qb nb : Nat} {t : List Value} (h : sc.size = 17) : (lvC sc (lvK a0 a1 ob qb nb t))[25]? = some (.func (.func 153) #[] #[.pointer (some ⟨ob, 0, none⟩)]) := by
 rw [show 25 = 17 + 8 from rfl, zcA h 8]
 rfl
theorem zkA (B ob qb nb : Nat) (bs : List Int) (w : World) (h : WrS w B ob qb nb bs) :
  Calls Tryz.prog 153 #[.pointer (some ⟨ob, 0, none⟩)] w fun e w' => ∃ v, e = .returned v ∧ w.cell? ⟨ob, 0, none⟩ = some v ∧ w.ownsRow B 5 1 v bs.length (bs.map (Value.int .u8)) ∧ w' = w := by
 obtain ⟨v, hc, ho⟩ := h.out
 obtain ⟨ao, cap, hv, _⟩ := id (zaf ho)
 subst hv
 have HO := zi ho
 have HC := zi hc
 clear ho h
 go_enter Tryz.func153, Tryz.ntmps153
 go_wp2
 go_ret
 exact ⟨_, rfl, zg HC, zg HO, rfl⟩
def WorkH (X : Nat → Prop) (P B ob qb nb : Nat) (Ok : Array Value → Value → Value → List Int → Value → World → Prop) (No : Int → Prop) (W : World) (e : Ending) (w' : World) : Prop :=
 (∃ sc a0 a1 t bs, e = .returned (.tuple #[]) ∧ sc.size = 17 ∧ w'.heap[P]? = some (.cells (lvC sc (lvK a0 a1 ob qb nb t)) 88 (0, 0)) ∧ WrS w' B ob qb nb bs ∧ (∀ v, w'.cell? ⟨ob, 0, none⟩ = some v → Ok sc a0 a1 bs v w') ∧ Fr (fun q => q = P ∨ X q ∨ WS B ob q) W w')
 ∨ (∃ c sc a0 a1 t, e = .panicked [{ v := .iface 136 (.int .i64 c), recovered := false }] ∧ sc.size = 17 ∧ w'.heap[P]? = some (.cells (lvC sc (lvK a0 a1 ob qb nb t)) 88 (0, 0)) ∧ No c ∧ Fr (fun q => q = P ∨ X q ∨ WS B ob q) W w')
set_option linter.unusedSimpArgs false in
theorem zkx (X : Nat → Prop) (P : Nat) (s : SS) (cap : Int) (hn : Nat) (ht : Nat → ByteArray) (hva : Option Addr) (hvc : Nat) (ua ha pa qa la da : Option Addr) (uc hc pc qc lc dc : Nat) (F : Nat) (caps : Array Value) (Ok : Array Value → Value → Value → List Int → Value → World → Prop) (No : Int → Prop) (w0 w : World) (hH : zaD w w0.heap.size 9 (.slice hva hn hvc) hn (fun j => .string (ht j))) (hHP : (Value.slice hva hn hvc).ownBlock ≠ some P) (hHn : hn ≤ 1048576) (E0 : Ext w0 w) (hP0 : w0.heap.size ≤ P) (hX : ∀ q, X q → w0.heap.size ≤ q ∧ q < w.heap.size ∧ q ≠ P)
  (hL : w.heap[P]? = some (.cells (lvC (ze s (.slice ua s.un uc) (.slice ha s.kh.length hc) (.slice pa s.pn pc) (.slice qa s.qn qc) (.slice la s.ln lc) (.slice da s.dn dc)) (lvH (.int .i64 cap) (.slice hva hn hvc))) 88 (0, 0))) (hO : zax w w0.heap.size s (.slice ua s.un uc) (.slice ha s.kh.length hc) (.slice pa s.pn pc) (.slice qa s.qn qc) (.slice la s.ln lc) (.slice da s.dn dc)) (hnf : ¬ zab (.slice ua s.un uc) (.slice ha s.kh.length hc) (.slice pa s.pn pc) (.slice qa s.qn qc) (.slice la s.ln lc) (.slice da s.dn dc) P) (hz : s.Sz) (hT : zbf w0) (hlo : 3 < w0.heap.size) (hPw : zdP w0)
  (hstab : ∀ sc a0 a1 bs v W1 W2, Ok sc a0 a1 bs v W1 → Fr (fun q => q = P ∨ q = w.heap.size + 1 ∨ q = w.heap.size + 1 + 1) W1 W2 → Ok sc a0 a1 bs v W2)
  (hent : ∀ W, Sem.run Tryz.prog (callFunc F caps) W = .ok (.enter F caps) W)
  (hwork : zcv s → ∀ (W : World) (B ob qb nb : Nat) (bv : Value), Ext w0 W → Fr (fun q => q = P ∨ w.heap.size ≤ q) w W → w.heap.size ≤ ob ∧ w.heap.size ≤ qb ∧ w.heap.size ≤ nb → w.heap.size + 3 ≤ B → W.heap[P]? = some (.cells (lvC (ze s (.slice ua s.un uc) (.slice ha s.kh.length hc) (.slice pa s.pn pc) (.slice qa s.qn qc) (.slice la s.ln lc) (.slice da s.dn dc)) (lvK (.int .i64 cap) (.slice hva hn hvc) ob qb nb [bv, .int .i64 (s.blk.R : Int), .int .i64 s.blk.C])) 88 (0, 0)) → WrS W B ob qb nb [] → zaD W B 9 bv s.blk.n (fun i => .string (s.blk.tx i)) → Calls Tryz.prog F caps W fun e w' => WorkH X P B ob qb nb Ok No W e w') :
  Calls Tryz.prog 57 #[.pointer (some ⟨P, 0, none⟩), .func (Fn.func F) #[] caps] w fun e w' => (∃ v sc a0 a1 bs r, e = .returned (.tuple #[v, .int .i64 0]) ∧ zcv s ∧ w'.ownsRow w.heap.size 5 1 v bs.length (bs.map (Value.int .u8)) ∧ w'.heap[P]? = some (.cells (lvC sc (a0 :: a1 :: r)) 88 (0, 0)) ∧ sc.size = 17 ∧ Ok sc a0 a1 bs v w' ∧ Fr (fun q => q = P ∨ X q ∨ w.heap.size ≤ q) w w')
   ∨ (∃ c u h p q l d v r, e = .returned (.tuple #[.slice none 0 0, .int .i64 c]) ∧ (c = 1 ∧ ¬ zcv s ∨ zcv s ∧ No c) ∧ w'.heap[P]? = some (.cells (lvC (ze s u h p q l d) (.int .i64 cap :: v :: r)) 88 (0, 0)) ∧ zax w' w.heap.size s u h p q l d ∧ ¬ zab u h p q l d P ∧ zaD w' w.heap.size 9 v hn (fun j => .string (ht j)) ∧ (∀ g, zab u h p q l d g → v.ownBlock ≠ some g) ∧ Fr (fun q => q = P ∨ X q ∨ w.heap.size ≤ q) w w') := by
 have hPs : P < w.heap.size := zt hL
 have hss := zi E0.size
 have hmf : ∀ (fn : Fn) (first cap : Array Value) (w : World), (Instr.makeFunc fn first cap).run Tryz.prog w = .ok (.func fn first cap) w := fun _ _ _ _ => rfl
 have HFT : Hid (∀ g, zab (.slice ua s.un uc) (.slice ha s.kh.length hc) (.slice pa s.pn pc) (.slice qa s.qn qc) (.slice la s.ln lc) (.slice da s.dn dc) g → ¬ (g = P ∨ w.heap.size ≤ g)) := zi (fun g hg h9 => by
  rcases h9 with h9 | h9
  ·subst h9; exact hnf hg
  ·have := (hO.foot hg).2; omega)
 have hcC := zi (fun W (hF : Fr (fun q => q = P ∨ w.heap.size ≤ q) w W) => zdK s (.slice ua s.un uc) (.slice ha s.kh.length hc) (.slice pa s.pn pc) (.slice qa s.qn qc) (.slice la s.ln lc) (.slice da s.dn dc) W ((hO.fr hF (zg HFT)).reads) hz)
 have hcH := zi (fun W (hF : Fr (fun q => q = P ∨ w.heap.size ≤ q) w W) => zdL cap (.slice hva hn hvc) hn ht W ((hH.fr hF (fun g hg h9 => by
  rcases h9 with h9 | h9
  ·subst h9; exact hHP hg
  ·have := (hH.lt g hg).2; omega)).reads) hHn)
 obtain ⟨ok, hok⟩ := za2 (zcv s)
 have hcS := zi (fun W (hF : Fr (fun q => q = P ∨ w.heap.size ≤ q) w W) (hE : Ext w0 W) => zeZ s (.slice ua s.un uc) (.slice ha s.kh.length hc) (.slice pa s.pn pc) (.slice qa s.qn qc) (.slice la s.ln lc) (.slice da s.dn dc) W ((hO.fr hF (zg HFT)).reads) hz (hT.ext hE) ok hok)
 have hcB := zi (fun (hk : zcv s) W (hF : Fr (fun q => q = P ∨ w.heap.size ≤ q) w W) (hE : Ext w0 W) => zjQ s (.slice ua s.un uc) (.slice ha s.kh.length hc) (.slice pa s.pn pc) (.slice qa s.qn qc) (.slice la s.ln lc) (.slice da s.dn dc) W ((hO.fr hF (zg HFT)).reads) hz hk.2.1 (hT.ext hE).1)
 have hcW := zi (fun W (hE : Ext w0 W) => zhd W (Nat.lt_of_lt_of_le hlo hE.size) (hPw.keep (hE.heap hlo)))
 have HOK := zi hok
 have HX := zi hX
 clear hX
 have HWK := zi hwork
 have HST := zi hstab
 simp only [zb3] at hcC hcS hcB
 clear hok hwork hstab hT hPw hz hnf hH hHP
 obtain ⟨V, hV⟩ : ∃ V, V = ((w.alloc (.cells #[.pointer (some ⟨P, 0, none⟩)] 69)).alloc (.cells #[.slice none 0 0] 25)).alloc (.cells #[.int .i64 0] 3) := ⟨_, rfl⟩
 have EV : Ext w V := by rw [hV]; exact (((Ext.refl w).alloc _).alloc _).alloc _
 have zV : V.heap.size = w.heap.size + 1 + 1 + 1 := by rw [hV]; simp
 have b0 : V.heap[w.heap.size]? = some (.cells #[.pointer (some ⟨P, 0, none⟩)] 69 (0, 0)) := by rw [hV]; exact (((Ext.refl _).alloc _).alloc _).kept (zn w _)
 have b1 : V.heap[w.heap.size + 1]? = some (.cells #[.slice none 0 0] 25 (0, 0)) := by rw [hV]; refine ((Ext.refl _).alloc _).kept ?_; have h := zn (w.alloc (.cells #[.pointer (some ⟨P, 0, none⟩)] 69)) (.cells #[.slice none 0 0] 25); rw [show (w.alloc (.cells #[.pointer (some ⟨P, 0, none⟩)] 69)).heap.size = w.heap.size + 1 by simp] at h; exact h
 have b2 : V.heap[w.heap.size + 1 + 1]? = some (.cells #[.int .i64 0] 3 (0, 0)) := by rw [hV]; have h := zn ((w.alloc (.cells #[.pointer (some ⟨P, 0, none⟩)] 69)).alloc (.cells #[.slice none 0 0] 25)) (.cells #[.int .i64 0] 3); rw [show ((w.alloc (.cells #[.pointer (some ⟨P, 0, none⟩)] 69)).alloc (.cells #[.slice none 0 0] 25)).heap.size = w.heap.size + 1 + 1 by simp] at h; exact h
 have bP := EV.kept hL
 have k19 : V.cell? ⟨P, 19, none⟩ = some (.int .i32 0) := by rw [cell_of_row V P 19 _ _ _ bP]; exact zcA (sc := (ze s (.slice ua s.un uc) (.slice ha s.kh.length hc) (.slice pa s.pn pc) (.slice qa s.qn qc) (.slice la s.ln lc) (.slice da s.dn dc))) rfl 2
 have f19 : V.frozen? ⟨P, 19, none⟩ = false := Lib.frozen_of_heap bP 19
 have hlk := zi (zmI ⟨P, 19, none⟩ V k19 f19)
 have HV := zi hV
 have HBB := zi (And.intro b0 (And.intro b1 (And.intro b2 bP)))
 clear hV b0 b1 b2 bP k19 f19 hL
 go_enter_defers Tryz.func57, Tryz.ntmps57
 go_wp2_with fail
 rw [← zg HV]
 clear HV
 refine (zg hlk).mono ?_
 rintro e w4 ⟨rfl, hw4⟩
 have F4 : Fr (fun q => q = P ∨ w.heap.size ≤ q) w w4 := by rw [hw4]; exact Fr.setCell (S := (fun q => q = P ∨ w.heap.size ≤ q)) (Fr.of_ext EV) (a := ⟨P, 19, none⟩) (.inl rfl) _
 have E4 : Ext w0 w4 := F4.ext E0 (fun q hq => by have := zg hss; omega)
 have z4 : w.heap.size + 1 + 1 + 1 ≤ w4.heap.size := by rw [hw4]; simp [zV]
 have HP4 : Hid (w4.heap[P]? = some (.cells (lvC (ze s (.slice ua s.un uc) (.slice ha s.kh.length hc) (.slice pa s.pn pc) (.slice qa s.qn qc) (.slice la s.ln lc) (.slice da s.dn dc)) [.int .i64 cap, .slice hva hn hvc, .int .i32 1, .int .u32 0, .nilFunc, .nilFunc, .nilFunc, .nilFunc, .nilFunc, .slice none 0 0, .int .i64 0, .int .i64 0]) 88 (0, 0))) := zi (by rw [hw4]; exact zaM (zg HBB).2.2.2 (zeh (sc := (ze s (.slice ua s.un uc) (.slice ha s.kh.length hc) (.slice pa s.pn pc) (.slice qa s.qn qc) (.slice la s.ln lc) (.slice da s.dn dc))) rfl 2 (.int .i32 1)))
 have H40 : Hid (w4.heap[w.heap.size]? = some (.cells #[.pointer (some ⟨P, 0, none⟩)] 69 (0, 0))) := zi (by rw [hw4]; exact zat (zg HBB).1 (by omega))
 have H41 : Hid (w4.heap[w.heap.size + 1]? = some (.cells #[.slice none 0 0] 25 (0, 0))) := zi (by rw [hw4]; exact zat (zg HBB).2.1 (by omega))
 have H42 : Hid (w4.heap[w.heap.size + 1 + 1]? = some (.cells #[.int .i64 0] 3 (0, 0))) := zi (by rw [hw4]; exact zat (zg HBB).2.2.1 (by omega))
 have k0 := zk (zg H40) 0 _ rfl
 have HS4 := zi z4
 have HF4 := zi F4
 have HE4 := zi E4
 clear hw4 HBB hlk EV zV z4 F4 E4
 go_upto_region 3 with fail
 go_cut [6, 7] from 15 to 25 (fun v6 v7 wq => ∃ (b6 b7 : Nat) (u4a h4a p4a q4a l4a d4a : Option Addr) (u4c h4c p4c q4c l4c d4c : Nat) (c7a : Option Addr) (c7c : Nat), v6 = .pointer (some ⟨b6, 0, none⟩) ∧ v7 = .pointer (some ⟨b7, 0, none⟩) ∧ Hid (wq.heap[b6]? = some (.cells (ze s (.slice u4a s.un u4c) (.slice h4a s.kh.length h4c) (.slice p4a s.pn p4c) (.slice q4a s.qn q4c) (.slice l4a s.ln l4c) (.slice d4a s.dn d4c)) 40 (0, 0))) ∧ Hid (wq.heap[b7]? = some (.cells #[.int .i64 cap, .slice c7a hn c7c] 41 (0, 0))) ∧ Hid (zaD wq w4.heap.size 9 (.slice c7a hn c7c) hn (fun j => .string (ht j)) ∧ ∀ g, zab (.slice u4a s.un u4c) (.slice h4a s.kh.length h4c) (.slice p4a s.pn p4c) (.slice q4a s.qn q4c) (.slice l4a s.ln l4c) (.slice d4a s.dn d4c) g → (Value.slice c7a hn c7c).ownBlock ≠ some g) ∧ Hid (zax wq w.heap.size s (.slice u4a s.un u4c) (.slice h4a s.kh.length h4c) (.slice p4a s.pn p4c) (.slice q4a s.qn q4c) (.slice l4a s.ln l4c) (.slice d4a s.dn d4c)) ∧ Hid (w4.heap.size ≤ b6 ∧ w4.heap.size ≤ b7 ∧ ∀ g, zab (.slice u4a s.un u4c) (.slice h4a s.kh.length h4c) (.slice p4a s.pn p4c) (.slice q4a s.qn q4c) (.slice l4a s.ln l4c) (.slice d4a s.dn d4c) g → w4.heap.size ≤ g) ∧ Hid (Fr (fun q => w4.heap.size ≤ q) w4 wq))
 case first =>
  clear k0
  refine wp_region_held_drew (S := fun W => W.heap[w.heap.size]? = some (.cells #[.pointer (some ⟨P, 0, none⟩)] 69 (0, 0)) ∧ W.heap[P]? = some (.cells (lvC (ze s (.slice ua s.un uc) (.slice ha s.kh.length hc) (.slice pa s.pn pc) (.slice qa s.qn qc) (.slice la s.ln lc) (.slice da s.dn dc)) [.int .i64 cap, .slice hva hn hvc, .int .i32 1, .int .u32 0, .nilFunc, .nilFunc, .nilFunc, .nilFunc, .nilFunc, .slice none 0 0, .int .i64 0, .int .i64 0]) 88 (0, 0))) (by kernel_rfl) ⟨zg H40, zg HP4⟩ (fun hHeld => ?_)
  refine wpAnyH_take (i := 0) (v := .pointer (some ⟨P, 0, none⟩)) rfl (by kernel_rfl) (by kernel_rfl) (by kernel_rfl) (fun _ _ _ h => zaQ 15 rfl (by omega) h) (Or.inl ⟨by rfl, ?_⟩) (by assumption) ?_
  ·intro w' hSw; have k9 := zk hSw.1 0 _ rfl; go_simp <;> with_reducible rfl
  simp only [Act.put, q9]
  refine wpAnyH_take (i := 1) (v := .pointer (some ⟨P, 0, none⟩)) rfl (by kernel_rfl) (by kernel_rfl) (by kernel_rfl) (fun _ _ _ h => zaQ 16 rfl (by omega) h) (Or.inl ⟨by rfl, ?_⟩) (by assumption) ?_
  ·intro w' hSw; go_simp <;> with_reducible rfl
  simp only [Act.put, q9]
  refine wpAnyH_take (i := 2) (v := .pointer (some ⟨P, 0, none⟩)) rfl (by kernel_rfl) (by kernel_rfl) (by kernel_rfl) (fun _ _ _ h => zaQ 17 rfl (by omega) h) (Or.inl ⟨by rfl, ?_⟩) (by assumption) ?_
  ·intro w' hSw; go_simp <;> with_reducible rfl
  simp only [Act.put, q9]
  refine wpAnyH_take (i := 3) (v := .agg (ze s (.slice ua s.un uc) (.slice ha s.kh.length hc) (.slice pa s.pn pc) (.slice qa s.qn qc) (.slice la s.ln lc) (.slice da s.dn dc))) rfl (by kernel_rfl) (by kernel_rfl) (by kernel_rfl) (fun _ _ _ h => zaQ 18 rfl (by omega) h) (Or.inl ⟨by rfl, ?_⟩) (by assumption) ?_
  ·intro w' hSw; exact zaT 40 _ rfl P 0 rfl _ _ (ze s (.slice ua s.un uc) (.slice ha s.kh.length hc) (.slice pa s.pn pc) (.slice qa s.qn qc) (.slice la s.ln lc) (.slice da s.dn dc)) _ _ hSw.2 zeV Tryz.underlying40 rfl zap
  simp only [Act.put, q9]
  refine wpAnyH_take (i := 5) (v := .pointer (some ⟨P, 0, none⟩)) rfl (by kernel_rfl) (by kernel_rfl) (by kernel_rfl) (fun _ _ _ h => zaQ 20 rfl (by omega) h) (Or.inl ⟨by rfl, ?_⟩) (by assumption) ?_
  ·intro w' hSw; have k9 := zk hSw.1 0 _ rfl; go_simp <;> with_reducible rfl
  simp only [Act.put, q9]
  refine wpAnyH_take (i := 6) (v := .pointer (some ⟨P, 0, none⟩)) rfl (by kernel_rfl) (by kernel_rfl) (by kernel_rfl) (fun _ _ _ h => zaQ 21 rfl (by omega) h) (Or.inl ⟨by rfl, ?_⟩) (by assumption) ?_
  ·intro w' hSw; go_simp <;> with_reducible rfl
  simp only [Act.put, q9]
  refine wpAnyH_take (i := 7) (v := .pointer (some ⟨P, 17, none⟩)) rfl (by kernel_rfl) (by kernel_rfl) (by kernel_rfl) (fun _ _ _ h => zaQ 22 rfl (by omega) h) (Or.inl ⟨by rfl, ?_⟩) (by assumption) ?_
  ·intro w' hSw; go_simp <;> with_reducible rfl
  simp only [Act.put, q9]
  refine wpAnyH_take (i := 8) (v := .agg #[.int .i64 cap, .slice hva hn hvc]) rfl (by kernel_rfl) (by kernel_rfl) (by kernel_rfl) (fun _ _ _ h => zaQ 23 rfl (by omega) h) (Or.inl ⟨by rfl, ?_⟩) (by assumption) ?_
  ·intro w' hSw; exact zaT 41 _ rfl P 17 rfl _ _ #[.int .i64 cap, .slice hva hn hvc] _ _ hSw.2 (fun j v hj => by rw [zcA (sc := (ze s (.slice ua s.un uc) (.slice ha s.kh.length hc) (.slice pa s.pn pc) (.slice qa s.qn qc) (.slice la s.ln lc) (.slice da s.dn dc))) rfl j]; match j, hj with | 0, hj => exact hj | 1, hj => exact hj | j + 2, hj => simp at hj) Tryz.underlying41 rfl zaB
  simp only [Act.put, q9]
  have G := zi ((Ext.refl w4).drew)
  generalize w4.drew = Wc at *
  clear hHeld
  have tC : Tk 0 := rfl
  iterate 4 (all_goals ((first
   | (have _t : Tk 0 := tC; have _m := HB6; have _m := HB7; refine wpAnyH_ready (rs := [4]) (by kernel_rfl) (by simp) ?_; refine (AllReadyH.cons rfl (fun K hK => (fun (tE : Tk 4) => ?_) rfl) AllReadyH.nil))
   | (have _t : Tk 0 := tC; have _m := HB6; refine wpAnyH_ready (rs := [4, 11]) (by kernel_rfl) (by simp) ?_; refine (AllReadyH.cons rfl (fun K hK => (fun (tE : Tk 4) => ?_) rfl) (AllReadyH.cons rfl (fun K hK => (fun (tE : Tk 11) => ?_) rfl) AllReadyH.nil)))
   | (have _t : Tk 0 := tC; have _m := HB7; refine wpAnyH_ready (rs := [4, 10]) (by kernel_rfl) (by simp) ?_; refine (AllReadyH.cons rfl (fun K hK => (fun (tE : Tk 4) => ?_) rfl) (AllReadyH.cons rfl (fun K hK => (fun (tE : Tk 10) => ?_) rfl) AllReadyH.nil)))
   | (have _t : Tk 0 := tC; refine wpAnyH_ready (rs := [4, 10, 11]) (by kernel_rfl) (by simp) ?_; refine (AllReadyH.cons rfl (fun K hK => (fun (tE : Tk 4) => ?_) rfl) (AllReadyH.cons rfl (fun K hK => (fun (tE : Tk 10) => ?_) rfl) (AllReadyH.cons rfl (fun K hK => (fun (tE : Tk 11) => ?_) rfl) AllReadyH.nil))))
   | (have _t : Tk 1 := tC; have _m := HB6; have _m := HB7; refine wpAnyH_ready (rs := [9]) (by kernel_rfl) (by simp) ?_; refine (AllReadyH.cons rfl (fun K hK => (fun (tE : Tk 9) => ?_) rfl) AllReadyH.nil))
   | (have _t : Tk 1 := tC; have _m := HB6; refine wpAnyH_ready (rs := [9, 11]) (by kernel_rfl) (by simp) ?_; refine (AllReadyH.cons rfl (fun K hK => (fun (tE : Tk 9) => ?_) rfl) (AllReadyH.cons rfl (fun K hK => (fun (tE : Tk 11) => ?_) rfl) AllReadyH.nil)))
   | (have _t : Tk 1 := tC; have _m := HB7; refine wpAnyH_ready (rs := [9, 10]) (by kernel_rfl) (by simp) ?_; refine (AllReadyH.cons rfl (fun K hK => (fun (tE : Tk 9) => ?_) rfl) (AllReadyH.cons rfl (fun K hK => (fun (tE : Tk 10) => ?_) rfl) AllReadyH.nil)))
   | (have _t : Tk 1 := tC; refine wpAnyH_ready (rs := [9, 10, 11]) (by kernel_rfl) (by simp) ?_; refine (AllReadyH.cons rfl (fun K hK => (fun (tE : Tk 9) => ?_) rfl) (AllReadyH.cons rfl (fun K hK => (fun (tE : Tk 10) => ?_) rfl) (AllReadyH.cons rfl (fun K hK => (fun (tE : Tk 11) => ?_) rfl) AllReadyH.nil))))
   | (have _t : Tk 2 := tC; have _m := HB6; refine wpAnyH_ready (rs := [11]) (by kernel_rfl) (by simp) ?_; refine (AllReadyH.cons rfl (fun K hK => (fun (tE : Tk 11) => ?_) rfl) AllReadyH.nil))
   | (have _t : Tk 2 := tC; have _m := HB7; refine wpAnyH_ready (rs := [10]) (by kernel_rfl) (by simp) ?_; refine (AllReadyH.cons rfl (fun K hK => (fun (tE : Tk 10) => ?_) rfl) AllReadyH.nil))
   | (have _t : Tk 2 := tC; refine wpAnyH_ready (rs := [10, 11]) (by kernel_rfl) (by simp) ?_; refine (AllReadyH.cons rfl (fun K hK => (fun (tE : Tk 10) => ?_) rfl) (AllReadyH.cons rfl (fun K hK => (fun (tE : Tk 11) => ?_) rfl) AllReadyH.nil)))
  ) <;> (go_simp; first
   | (have _t : Tk 4 := tE; clear _t tE; refine ((zg hcC) _ ((zg HF4).tr (Fr.of_ext (zg G)))).mono ?_; rintro e Wc ⟨u4, h4, p4, q4, l4, d4, rfl, o9, f9⟩; obtain ⟨u4a, u4c, h4a, h4c, p4a, p4c, q4a, q4c, l4a, l4c, d4a, d4c, rfl, rfl, rfl, rfl, rfl, rfl⟩ := o9.reads.forms; (try have NF6 : Hid (¬ zab (.slice u4a s.un u4c) (.slice h4a s.kh.length h4c) (.slice p4a s.pn p4c) (.slice q4a s.qn q4c) (.slice l4a s.ln l4c) (.slice d4a s.dn d4c) b6) := zi (fun hg => by have h1 := (o9.foot hg).1; have h2 := zg LT6; omega)); (try have NF7 : Hid (¬ zab (.slice u4a s.un u4c) (.slice h4a s.kh.length h4c) (.slice p4a s.pn p4c) (.slice q4a s.qn q4c) (.slice l4a s.ln l4c) (.slice d4a s.dn d4c) b7) := zi (fun hg => by have h1 := (o9.foot hg).1; have h2 := zg LT7; omega)); have HLO : Hid (∀ g, zab (.slice u4a s.un u4c) (.slice h4a s.kh.length h4c) (.slice p4a s.pn p4c) (.slice q4a s.qn q4c) (.slice l4a s.ln l4c) (.slice d4a s.dn d4c) g → w4.heap.size ≤ g) := zi (fun g hg => by have h1 := (o9.foot hg).1; have h2 := (zg G).size; omega); have HO4 := zi (o9.mono (b' := w.heap.size) (by have h1 := (zg G).size; have h2 := zg HS4; omega)); clear o9; (try replace HB6 := f9.hk HB6); (try replace LT6 : Hid (b6 < Wc.heap.size) := zi (by have h1 := zg LT6; have h2 := f9.size; omega)); (try replace HB7 := f9.hk HB7); (try replace LT7 : Hid (b7 < Wc.heap.size) := zi (by have h1 := zg LT7; have h2 := f9.size; omega)); replace G := Hid.ht G f9; clear f9; refine hK.out _ _ ⟨(zg G).kept (zg H40), (zg G).kept (zg HP4)⟩ (fun hHeld => ?_); clear hK K hHeld; clear tC; have tC : Tk 1 := rfl)
   | (have _t : Tk 9 := tE; clear _t tE; have OF := zi (fun g hg => ((zg HO4).foot (g := g) hg).2); refine ((zg hcH) _ ((zg HF4).tr (Fr.of_ext (zg G)))).mono ?_; rintro e Wc ⟨v7, rfl, o7, f9⟩; obtain ⟨c7a, c7c, rfl⟩ := o7.slice; have HAP : Hid (∀ g, zab (.slice u4a s.un u4c) (.slice h4a s.kh.length h4c) (.slice p4a s.pn p4c) (.slice q4a s.qn q4c) (.slice l4a s.ln l4c) (.slice d4a s.dn d4c) g → (Value.slice c7a hn c7c).ownBlock ≠ some g) := zi (fun g hg e9 => by have h1 := (o7.lt g e9).1; have h2 := (zg OF) g hg; omega); (try have NH6 : Hid ((Value.slice c7a hn c7c).ownBlock ≠ some b6) := zi (fun e9 => by have h1 := (o7.lt _ e9).1; have h2 := zg LT6; omega)); (try have NH7 : Hid ((Value.slice c7a hn c7c).ownBlock ≠ some b7) := zi (fun e9 => by have h1 := (o7.lt _ e9).1; have h2 := zg LT7; omega)); have HO7 := zi (o7.mono (zg G).size); replace HO4 := zi ((zg HO4).ext f9); clear o7 OF; (try replace HB6 := f9.hk HB6); (try replace LT6 : Hid (b6 < Wc.heap.size) := zi (by have h1 := zg LT6; have h2 := f9.size; omega)); (try replace HB7 := f9.hk HB7); (try replace LT7 : Hid (b7 < Wc.heap.size) := zi (by have h1 := zg LT7; have h2 := f9.size; omega)); replace G := Hid.ht G f9; clear f9; refine hK.out _ _ ⟨(zg G).kept (zg H40), (zg G).kept (zg HP4)⟩ (fun hHeld => ?_); clear hK K hHeld; clear tC; have tC : Tk 2 := rfl)
   | (have _t : Tk 10 := tE; clear _t tE; have n9 := zn Wc (.cells zS7 40); have f9 := (Ext.refl Wc).alloc (.cells zS7 40); have L6 : Hid (w4.heap.size ≤ Wc.heap.size) := zi (zg G).size; obtain ⟨b6, hb9⟩ : ∃ b, b = Wc.heap.size := ⟨_, rfl⟩; (try have N67 : Hid (b6 ≠ b7) := zi (by have h2 := zg LT7; omega)); (try have NF6 : Hid (¬ zab (.slice u4a s.un u4c) (.slice h4a s.kh.length h4c) (.slice p4a s.pn p4c) (.slice q4a s.qn q4c) (.slice l4a s.ln l4c) (.slice d4a s.dn d4c) b6) := zi (fun hg => by have h1 := ((zg HO4).foot hg).2; omega)); (try have NH6 : Hid ((Value.slice c7a hn c7c).ownBlock ≠ some b6) := zi (fun e9 => by have h1 := ((zg HO7).lt _ e9).2; omega)); rw [← hb9] at n9 L6 ⊢; clear hb9; generalize Wc.alloc (.cells zS7 40) = Wc at n9 f9 ⊢; (try replace HO4 := zi ((zg HO4).ext f9)); (try replace HO7 := zi ((zg HO7).ext f9)); (try replace HB7 := f9.hk HB7); (try replace LT7 : Hid (b7 < Wc.heap.size) := zi (by have h1 := zg LT7; have h2 := f9.size; omega)); have LT6 : Hid (b6 < Wc.heap.size) := zi (zt n9); have HB6 := zi n9; clear n9; replace G := Hid.ht G f9; clear f9; refine hK.out _ _ ⟨(zg G).kept (zg H40), (zg G).kept (zg HP4)⟩ (fun hHeld => ?_); clear hK K hHeld)
   | (have _t : Tk 11 := tE; clear _t tE; have n9 := zn Wc (.cells zH2 41); have f9 := (Ext.refl Wc).alloc (.cells zH2 41); have L7 : Hid (w4.heap.size ≤ Wc.heap.size) := zi (zg G).size; obtain ⟨b7, hb9⟩ : ∃ b, b = Wc.heap.size := ⟨_, rfl⟩; (try have N67 : Hid (b6 ≠ b7) := zi (by have h2 := zg LT6; omega)); (try have NF7 : Hid (¬ zab (.slice u4a s.un u4c) (.slice h4a s.kh.length h4c) (.slice p4a s.pn p4c) (.slice q4a s.qn q4c) (.slice l4a s.ln l4c) (.slice d4a s.dn d4c) b7) := zi (fun hg => by have h1 := ((zg HO4).foot hg).2; omega)); (try have NH7 : Hid ((Value.slice c7a hn c7c).ownBlock ≠ some b7) := zi (fun e9 => by have h1 := ((zg HO7).lt _ e9).2; omega)); rw [← hb9] at n9 L7 ⊢; clear hb9; generalize Wc.alloc (.cells zH2 41) = Wc at n9 f9 ⊢; (try replace HO4 := zi ((zg HO4).ext f9)); (try replace HO7 := zi ((zg HO7).ext f9)); (try replace HB6 := f9.hk HB6); (try replace LT6 : Hid (b6 < Wc.heap.size) := zi (by have h1 := zg LT6; have h2 := f9.size; omega)); have LT7 : Hid (b7 < Wc.heap.size) := zi (zt n9); have HB7 := zi n9; clear n9; replace G := Hid.ht G f9; clear f9; refine hK.out _ _ ⟨(zg G).kept (zg H40), (zg G).kept (zg HP4)⟩ (fun hHeld => ?_); clear hK K hHeld)
  )))
  all_goals
   refine rdy 12 (by kernel_rfl) rfl (fun K hK => ?_)
   refine zad 40 _ _ rfl rfl (b6) rfl _ _ (ze s (.slice u4a s.un u4c) (.slice h4a s.kh.length h4c) (.slice p4a s.pn p4c) (.slice q4a s.qn q4c) (.slice l4a s.ln l4c) (.slice d4a s.dn d4c)) rfl (zg HB6) zap rfl (by simp [Value.oneCell', ze]) ?_
   intro X1 hb9 hf9
   have HB7 := zi (hf9.kept (zg HB7) (fun e9 => zg N67 e9.symm))
   have HB6 := zi hb9
   have HO4 := zi ((zg HO4).fr hf9 (fun g hg e9 => by subst e9; exact zg NF6 hg))
   have HO7 := zi ((zg HO7).fr hf9 (fun g hg e9 => by subst e9; exact zg NH6 hg))
   have FY : Fr (fun q => w4.heap.size ≤ q) w4 X1 := (Fr.of_ext (zg G)).tr (hf9.mono (fun q hq => by subst hq; exact zg L6))
   clear hb9 hf9
   refine hK.out _ _ ⟨FY.kept (zg H40) (by have h1 := zg HS4; omega), FY.kept (zg HP4) (by have h1 := zg HS4; omega)⟩ (fun hHeld => ?_)
   clear hK K hHeld
   refine rdy 13 (by kernel_rfl) rfl (fun K hK => ?_)
   refine zad 41 _ _ rfl rfl (b7) rfl _ _ #[.int .i64 cap, .slice c7a hn c7c] rfl (zg HB7) zaB rfl (by simp [Value.oneCell']) ?_
   intro X2 hb9 hf9
   have HB6 := zi (hf9.kept (zg HB6) (zg N67))
   have HB7 := zi hb9
   have HO4 := zi ((zg HO4).fr hf9 (fun g hg e9 => by subst e9; exact zg NF7 hg))
   have HO7 := zi ((zg HO7).fr hf9 (fun g hg e9 => by subst e9; exact zg NH7 hg))
   have FY : Fr (fun q => w4.heap.size ≤ q) w4 X2 := FY.tr (hf9.mono (fun q hq => by subst hq; exact zg L7))
   clear hb9 hf9
   refine hK.out _ _ ⟨FY.kept (zg H40) (by have h1 := zg HS4; omega), FY.kept (zg HP4) (by have h1 := zg HS4; omega)⟩ (fun hHeld => ?_)
   clear hK K hHeld
   refine wpAnyH_done (by kernel_rfl) ?_ _
   go_wp2
   go_meet
   exact ⟨_, _, _, _, _, _, _, _, _, _, _, _, _, _, _, _, rfl, rfl, HB6, HB7, zi ⟨zg HO7, zg HAP⟩, HO4, zi ⟨zg L6, zg L7, zg HLO⟩, zi FY⟩
 case rest =>
 obtain ⟨b6, b7, u4a, h4a, p4a, q4a, l4a, d4a, u4c, h4c, p4c, q4c, l4c, d4c, c7a, c7c, rfl, rfl, H6, H7, HOA, HO4, HLB, FQ⟩ := hcut
 have HO7 := zi (zg HOA).1
 have HAP := zi (zg HOA).2
 clear HOA
 have zc := zi (zg FQ).size
 have FC : Hid (Fr (fun q => q = P ∨ w.heap.size ≤ q) w wc) := zi ((zg HF4).tr ((zg FQ).mono (fun q hq => .inr (by have h1 := zg HS4; omega))))
 have EC : Hid (Ext w0 wc) := zi ((zg FC).ext E0 (fun q hq => by have h1 := zg hss; omega))
 have HPc := zi ((zg FQ).kept (zg HP4) (by have h1 := zg HS4; omega))
 have Hc0 := zi ((zg FQ).kept (zg H40) (by have h1 := zg HS4; omega))
 have Hc1 := zi ((zg FQ).kept (zg H41) (by have h1 := zg HS4; omega))
 have Hc2 := zi ((zg FQ).kept (zg H42) (by have h1 := zg HS4; omega))
 have kc0 := zk (zg Hc0) 0 _ rfl
 clear HP4 H40 H41 H42 k0 hcC hcH
 go_wp2_with (refine zbc rfl 40 _ rfl P 0 rfl _ _ (ze s (.slice ua s.un uc) (.slice ha s.kh.length hc) (.slice pa s.pn pc) (.slice qa s.qn qc) (.slice la s.ln lc) (.slice da s.dn dc)) _ _ (zg HPc) zeV Tryz.underlying40 rfl zap ?_)
 clear kc0
 refine ((zg hcS) wc (zg FC) (zg EC)).mono ?_
 rintro e w5 ⟨rfl, F5⟩
 replace FC := zi ((zg FC).tr (Fr.of_ext F5))
 replace EC := zi ((zg EC).trans F5)
 replace zc := zi (Nat.le_trans (zg zc) F5.size)
 replace HPc := F5.hk HPc
 replace Hc0 := F5.hk Hc0
 replace Hc1 := F5.hk Hc1
 replace Hc2 := F5.hk Hc2
 replace H6 := F5.hk H6
 replace H7 := F5.hk H7
 replace HO4 := zi ((zg HO4).ext F5)
 replace HO7 := zi ((zg HO7).ext F5)
 clear F5 FQ HF4 HE4 hcS
 have kc0 := zk (zg Hc0) 0 _ rfl
 cases ok with
 | false =>
  have hno : ¬ zcv s := fun h => by have := (zg HOK).2 h; cases this
  have HNO := zi hno
  clear hno HOK
  go_wp2_with fail
  refine (zeC 1 w5).mono ?_
  rintro e w6 ⟨rfl, rfl⟩
  refine leaves_cons (f := 92) (args := #[.pointer (some ⟨b6, 0, none⟩), .pointer (some ⟨b7, 0, none⟩), .pointer (some ⟨w.heap.size, 0, none⟩), .pointer (some ⟨w.heap.size + 1, 0, none⟩), .pointer (some ⟨w.heap.size + 1 + 1, 0, none⟩)]) (by simp) (by simp [go_sem]) ?_
  have nn : P ≠ b6 ∧ P ≠ b7 ∧ P ≠ w.heap.size ∧ P ≠ w.heap.size + 1 ∧ P ≠ w.heap.size + 1 + 1 ∧ w.heap.size + 1 ≠ w.heap.size + 1 + 1 := by have h1 := (zg HLB).1; have h2 := (zg HLB).2.1; have h3 := zg HS4; omega
  refine (zgP b6 b7 (w.heap.size) (w.heap.size + 1) (w.heap.size + 1 + 1) P s _ _ _ _ _ _ (ze s (.slice ua s.un uc) (.slice ha s.kh.length hc) (.slice pa s.pn pc) (.slice qa s.qn qc) (.slice la s.ln lc) (.slice da s.dn dc)) _ _ _ _ _ cap _ 1 [] w6 rfl ⟨_, _, _, _, _, _, _, _, _, _, _, _, rfl, rfl, rfl, rfl, rfl, rfl⟩ ⟨_, _, _, rfl⟩ (zg H6) (zg H7) (zg Hc0) (zg Hc1) (zg Hc2) (zg HPc) nn).mono ?_
  rintro e u7 w7 ⟨rfl, rfl, g7, g71, g72, F7⟩
  show Leaves _ _ _ _ _ FrameMode.returning w7
  have k19 : w7.cell? ⟨P, 19, none⟩ = some (.int .i32 1) := by rw [cell_of_row w7 P 19 _ _ _ g7]; exact zcA (sc := (ze s (.slice u4a s.un u4c) (.slice h4a s.kh.length h4c) (.slice p4a s.pn p4c) (.slice q4a s.qn q4c) (.slice l4a s.ln l4c) (.slice d4a s.dn d4c))) rfl 2
  refine leaves_cons (f := 91) (args := #[.pointer (some ⟨P, 19, none⟩)]) (by simp) (by simp [go_sem]) ?_
  refine (zeG ⟨P, 19, none⟩ _ w7 k19 (Lib.frozen_of_heap g7 19)).mono ?_
  rintro e u8 w8 ⟨rfl, rfl, hw8⟩
  show Leaves _ _ _ _ [] FrameMode.returning w8
  have F8 : Fr (fun q => q = P ∨ q = w.heap.size + 1 ∨ q = w.heap.size + 1 + 1) w6 w8 := by rw [hw8]; exact Fr.setCell (S := fun q => q = P ∨ q = w.heap.size + 1 ∨ q = w.heap.size + 1 + 1) F7 (a := ⟨P, 19, none⟩) (.inl rfl) _
  have r1 : w8.cell? ⟨w.heap.size + 1, 0, none⟩ = some (.slice none 0 0) := by rw [hw8]; exact zk (zat g71 (by omega)) 0 _ rfl
  have r2 : w8.cell? ⟨w.heap.size + 1 + 1, 0, none⟩ = some (.int .i64 1) := by rw [hw8]; exact zk (zat g72 (by omega)) 0 _ rfl
  have g8 : w8.heap[P]? = some (.cells (lvC (ze s (.slice u4a s.un u4c) (.slice h4a s.kh.length h4c) (.slice p4a s.pn p4c) (.slice q4a s.qn q4c) (.slice l4a s.ln l4c) (.slice d4a s.dn d4c)) [.int .i64 cap, .slice c7a hn c7c, .int .i32 0, .int .u32 0, .nilFunc, .nilFunc, .nilFunc, .nilFunc, .nilFunc, .slice none 0 0, .int .i64 0, .int .i64 0]) 88 (0, 0)) := by rw [hw8]; exact zaM g7 (zeh (sc := (ze s (.slice u4a s.un u4c) (.slice h4a s.kh.length h4c) (.slice p4a s.pn p4c) (.slice q4a s.qn q4c) (.slice l4a s.ln l4c) (.slice d4a s.dn d4c))) rfl 2 (.int .i32 0))
  refine ⟨.tuple #[.slice none 0 0, .int .i64 1], by simp [results, Tryz.results57, go_sem, r1, r2], .inr ⟨1, _, _, _, _, _, _, _, _, rfl, .inl ⟨rfl, zg HNO⟩, g8, (zg HO4).fr F8 (fun g hg e9 => by have h1 := (zg HLB).2.2 g hg; have h2 := zg HS4; omega), fun hg => by have h1 := (zg HLB).2.2 P hg; have h2 := zg HS4; omega, ((zg HO7).fr F8 (fun g hg e9 => by have h1 := ((zg HO7).lt g hg).1; have h2 := zg HS4; omega)).mono (by have h2 := zg HS4; omega), zg HAP, ((zg FC).tr (F8.mono (fun q hq => by omega))).mono (fun q hq => hq.elim .inl (fun h => .inr (.inr h)))⟩⟩
 | true =>
  have hyes : zcv s := (zg HOK).1 rfl
  have HYES := zi hyes
  have hcBB := zi ((zg hcB) hyes)
  have hWKK := zi ((zg HWK) hyes)
  clear hyes HOK hcB HWK
  go_wp2_with fail
  refine (zdX 1 w5).mono ?_
  rintro e w6 ⟨rfl, rfl⟩
  go_upto_region 6 with fail
  clear kc0
  refine wp_region_held_drew (S := fun W => W.heap[w.heap.size]? = some (.cells #[.pointer (some ⟨P, 0, none⟩)] 69 (0, 0)) ∧ ∃ r, W.heap[P]? = some (.cells (lvC (ze s (.slice ua s.un uc) (.slice ha s.kh.length hc) (.slice pa s.pn pc) (.slice qa s.qn qc) (.slice la s.ln lc) (.slice da s.dn dc)) r) 88 (0, 0))) (by kernel_rfl) ⟨zg Hc0, _, zg HPc⟩ (fun hHeld => ?_)
  have G := zi ((Ext.refl w6).drew)
  generalize w6.drew = X0 at *
  refine wpAnyH_take (i := 0) (v := .pointer (some ⟨P, 0, none⟩)) rfl (by kernel_rfl) (by kernel_rfl) (by kernel_rfl) (fun _ _ _ h => zaQ 32 rfl (by omega) h) (Or.inl ⟨by rfl, ?_⟩) (by assumption) ?_
  ·intro w' hSw; have k9 := zk hSw.1 0 _ rfl; go_simp <;> with_reducible rfl
  simp only [Act.put, q9]
  refine wpAnyH_take (i := 1) (v := .pointer (some ⟨P, 0, none⟩)) rfl (by kernel_rfl) (by kernel_rfl) (by kernel_rfl) (fun _ _ _ h => zaQ 33 rfl (by omega) h) (Or.inl ⟨by rfl, ?_⟩) (by assumption) ?_
  ·intro w' hSw; have k9 := zk hSw.1 0 _ rfl; go_simp <;> with_reducible rfl
  simp only [Act.put, q9]
  refine wpAnyH_take (i := 3) (v := .pointer (some ⟨P, 0, none⟩)) rfl (by kernel_rfl) (by kernel_rfl) (by kernel_rfl) (fun _ _ _ h => zaQ 35 rfl (by omega) h) (Or.inl ⟨by rfl, ?_⟩) (by assumption) ?_
  ·intro w' hSw; have k9 := zk hSw.1 0 _ rfl; go_simp <;> with_reducible rfl
  simp only [Act.put, q9]
  refine wpAnyH_take (i := 4) (v := .pointer (some ⟨P, 0, none⟩)) rfl (by kernel_rfl) (by kernel_rfl) (by kernel_rfl) (fun _ _ _ h => zaQ 36 rfl (by omega) h) (Or.inl ⟨by rfl, ?_⟩) (by assumption) ?_
  ·intro w' hSw; go_simp <;> with_reducible rfl
  simp only [Act.put, q9]
  refine wpAnyH_take (i := 5) (v := .pointer (some ⟨P, 0, none⟩)) rfl (by kernel_rfl) (by kernel_rfl) (by kernel_rfl) (fun _ _ _ h => zaQ 37 rfl (by omega) h) (Or.inl ⟨by rfl, ?_⟩) (by assumption) ?_
  ·intro w' hSw; go_simp <;> with_reducible rfl
  simp only [Act.put, q9]
  refine wpAnyH_take (i := 6) (v := .agg (ze s (.slice ua s.un uc) (.slice ha s.kh.length hc) (.slice pa s.pn pc) (.slice qa s.qn qc) (.slice la s.ln lc) (.slice da s.dn dc))) rfl (by kernel_rfl) (by kernel_rfl) (by kernel_rfl) (fun _ _ _ h => zaQ 38 rfl (by omega) h) (Or.inl ⟨by rfl, ?_⟩) (by assumption) ?_
  ·rintro w' ⟨_, r9, hr9⟩; exact zaT 40 _ rfl P 0 rfl _ _ (ze s (.slice ua s.un uc) (.slice ha s.kh.length hc) (.slice pa s.pn pc) (.slice qa s.qn qc) (.slice la s.ln lc) (.slice da s.dn dc)) _ _ hr9 zeV Tryz.underlying40 rfl zap
  simp only [Act.put, q9]
  clear hHeld
  refine rdy 2 (by kernel_rfl) rfl (fun K hK => ?_)
  go_simp
  go_wp2_with (go_at_call 95; refine ((zg hcW) _ ((zg EC).trans (zg G))).mono ?_; rintro e Y1 ⟨ob, qb, nb, rfl, hs9, ⟨ho9, hq9, hn9⟩, f9⟩; have HWR := zi hs9; have HOB := zi (Nat.le_trans (zg G).size ho9); have HQB := zi (And.intro (Nat.le_trans (zg G).size hq9) (Nat.le_trans (zg G).size hn9)); replace G := Hid.ht G f9; clear hs9 ho9 hq9 hn9 f9; dsimp only [wrV])
  refine hK.out _ _ ⟨(zg G).kept (zg Hc0), _, (zg G).kept (zg HPc)⟩ (fun hHeld => ?_)
  clear hK K hHeld
  refine rdy 7 (by kernel_rfl) rfl (fun K hK => ?_)
  go_simp
  go_wp2_with (go_at_call 96; refine ((zg hcBB) _ ((zg FC).tr (Fr.of_ext (zg G))) ((zg EC).trans (zg G))).mono ?_; rintro e Y2 ⟨bv, rfl, o9, f9⟩; obtain ⟨bva, bvc, rfl⟩ := o9.slice; have HBV := zi o9; have HBS := zi f9.size; have HWR2 := zi ((zg HWR).on f9); replace G := Hid.ht G f9; clear o9 f9)
  refine hK.out _ _ ⟨(zg G).kept (zg Hc0), _, (zg G).kept (zg HPc)⟩ (fun hHeld => ?_)
  clear hK K
  refine wpAnyH_take (i := 8) (v := .pointer (some ⟨P, 0, none⟩)) rfl (by kernel_rfl) (by kernel_rfl) (by kernel_rfl) (fun _ _ _ h => zaQ 40 rfl (by omega) h) (Or.inl ⟨by rfl, ?_⟩) (by assumption) ?_
  ·intro w' hSw; go_simp <;> with_reducible rfl
  simp only [Act.put, q9]
  refine wpAnyH_take (i := 9) (v := .pointer (some ⟨P, 21, none⟩)) rfl (by kernel_rfl) (by kernel_rfl) (by kernel_rfl) (fun _ _ _ h => zaQ 41 rfl (by omega) h) (Or.inl ⟨by rfl, ?_⟩) (by assumption) ?_
  ·intro w' hSw; go_simp <;> with_reducible rfl
  simp only [Act.put, q9]
  clear hHeld
  refine rdy 10 (by kernel_rfl) rfl (fun K hK => ?_)
  refine zdb 84 _ _ rfl rfl P 21 rfl 88 _ #[.func (.func 149) #[] #[.pointer (some ⟨ob, 0, none⟩)], .func (.func 150) #[] #[.pointer (some ⟨nb, 0, none⟩)], .func (.func 151) #[] #[.pointer (some ⟨nb, 0, none⟩)], .func (.func 152) #[] #[.pointer (some ⟨qb, 0, none⟩)], .func (.func 153) #[] #[.pointer (some ⟨ob, 0, none⟩)]] (lvC (ze s (.slice ua s.un uc) (.slice ha s.kh.length hc) (.slice pa s.pn pc) (.slice qa s.qn qc) (.slice la s.ln lc) (.slice da s.dn dc)) (.int .i64 cap :: .slice hva hn hvc :: .int .i32 1 :: .int .u32 0 :: (wrL ob qb nb ++ [.slice none 0 0, .int .i64 0, .int .i64 0]))) rfl ((zg G).kept (zg HPc)) zlo (by show 21 + 5 ≤ 29; omega) (by simp [Value.oneCell']) rfl ?_
  intro Y3 hb9 hf9
  have HP3 := zi hb9
  have F3 := zi hf9
  refine hK.out _ _ ⟨hf9.kept ((zg G).kept (zg Hc0)) (by omega), _, hb9⟩ (fun hHeld => ?_)
  clear hK K hb9 hf9
  refine wpAnyH_take (i := 11) (v := .pointer (some ⟨P, 0, none⟩)) rfl (by kernel_rfl) (by kernel_rfl) (by kernel_rfl) (fun _ _ _ h => zaQ 42 rfl (by omega) h) (Or.inl ⟨by rfl, ?_⟩) (by assumption) ?_
  ·intro w' hSw; go_simp <;> with_reducible rfl
  simp only [Act.put, q9]
  refine wpAnyH_take (i := 12) (v := .pointer (some ⟨P, 26, none⟩)) rfl (by kernel_rfl) (by kernel_rfl) (by kernel_rfl) (fun _ _ _ h => zaQ 43 rfl (by omega) h) (Or.inl ⟨by rfl, ?_⟩) (by assumption) ?_
  ·intro w' hSw; go_simp <;> with_reducible rfl
  simp only [Act.put, q9]
  clear hHeld
  refine rdy 13 (by kernel_rfl) rfl (fun K hK => ?_)
  refine zdb 86 _ _ rfl rfl P 26 rfl 88 _ #[.slice bva s.blk.n bvc, .int .i64 (s.blk.R : Int), .int .i64 s.blk.C] (lvC (ze s (.slice ua s.un uc) (.slice ha s.kh.length hc) (.slice pa s.pn pc) (.slice qa s.qn qc) (.slice la s.ln lc) (.slice da s.dn dc)) (lvK (.int .i64 cap) (.slice hva hn hvc) ob qb nb [.slice bva s.blk.n bvc, .int .i64 (s.blk.R : Int), .int .i64 s.blk.C])) rfl (zg HP3) zdZ (by show 26 + 3 ≤ 29; omega) (by simp [Value.oneCell']) rfl ?_
  intro Y4 hb9 hf9
  have HPz := zi hb9
  have F4z := zi ((zg F3).tr hf9)
  refine hK.out _ _ ⟨hf9.kept ((zg F3).kept ((zg G).kept (zg Hc0)) (by omega)) (by omega), _, hb9⟩ (fun hHeld => ?_)
  clear hK K hb9 hf9 hHeld HP3 F3
  refine wpAnyH_done (by kernel_rfl) ?_ _
  have FZ : Hid (Fr (fun q => q = P ∨ w.heap.size ≤ q) w Y4) := zi (((zg FC).tr (Fr.of_ext (zg G))).tr ((zg F4z).mono (fun q hq => .inl hq)))
  have EZ : Hid (Ext w0 Y4) := zi ((zg FZ).ext E0 (fun q hq => by have h1 := zg hss; omega))
  have hBz : Hid (w4.heap.size ≤ Y1.heap.size) := zi (by have h1 := (zg HWR).ltb; have h2 := zg HOB; have h3 := zg zc; omega)
  have hzo : Hid (w4.heap.size ≤ ob) := zi (by have h2 := zg HOB; have h3 := zg zc; omega)
  have hnP : Hid (∀ g, g = P → g ≠ ob ∧ g ≠ qb ∧ g ≠ nb ∧ g ≠ 3 ∧ g < Y1.heap.size) := zi (fun g hg => by
   subst hg
   have h1 := zg hBz
   have h2 := zg HS4
   have h3 := zg hzo
   refine ⟨by omega, fun e => ?_, fun e => ?_, by omega, by omega⟩
   ·have h4 := (zg HWR2).q
    rw [← e, cell_of_row Y2 g 0 _ _ _ ((zg G).kept (zg HPc))] at h4
    simp [lvC, ze, seqF] at h4
   ·have h4 := (zg HWR2).nn
    rw [← e, cell_of_row Y2 g 0 _ _ _ ((zg G).kept (zg HPc))] at h4
    simp [lvC, ze, anyF] at h4)
  have HWZ := zi ((zg HWR2).frP (zg F4z) (zg hnP))
  have HBVZ := zi (((zg HBV).fr (zg F4z) (fun g hg e => by have h1 := ((zg HBV).lt g hg).1; have h2 := ((zg hnP) g e).2.2.2.2; omega)))
  have Hz0 := zi ((zg F4z).kept ((zg G).kept (zg Hc0)) (by omega))
  have Hz1 := zi ((zg F4z).kept ((zg G).kept (zg Hc1)) (by omega))
  have Hz2 := zi ((zg F4z).kept ((zg G).kept (zg Hc2)) (by omega))
  have Hz6 := zi ((zg F4z).kept ((zg G).kept (zg H6)) (by have h1 := (zg HLB).1; have h2 := zg HS4; omega))
  have Hz7 := zi ((zg F4z).kept ((zg G).kept (zg H7)) (by have h1 := (zg HLB).2.1; have h2 := zg HS4; omega))
  have HQ5 := zi (((zg HO7).ext (zg G)).fr (zg F4z) (fun g hg e => by have h1 := ((zg HO7).lt g hg).1; have h2 := zg HS4; omega))
  have HO5 := zi (((zg HO4).ext (zg G)).fr (zg F4z) (fun g hg e => by have h1 := (zg HLB).2.2 g hg; have h2 := zg HS4; omega))
  have hlt : Hid (b6 < Y1.heap.size ∧ b7 < Y1.heap.size ∧ b6 ≠ ob ∧ b7 ≠ ob ∧ ∀ g, zab (.slice u4a s.un u4c) (.slice h4a s.kh.length h4c) (.slice p4a s.pn p4c) (.slice q4a s.qn q4c) (.slice l4a s.ln l4c) (.slice d4a s.dn d4c) g → g < Y1.heap.size ∧ g ≠ ob) := zi (by
   have h1 := zt (zg H6)
   have h2 := zt (zg H7)
   have h3 := zg HOB
   have h4 := (zg HWR).ltb
   refine ⟨by omega, by omega, by omega, by omega, fun g hg => ?_⟩
   have h5 := ((zg HO4).foot hg).2
   omega)
  have hwk := zi ((zg hWKK) Y4 Y1.heap.size ob qb nb (.slice bva s.blk.n bvc) (zg EZ) (zg FZ) ⟨by have h1 := zg hzo; have h2 := zg HS4; omega, by have h1 := (zg HQB).1; have h2 := zg HS4; have h3 := zg zc; omega, by have h1 := (zg HQB).2; have h2 := zg HS4; have h3 := zg zc; omega⟩ (by have h1 := zg hBz; have h2 := zg HS4; omega) (zg HPz) (zg HWZ) (zg HBVZ))
  have HWR9 := HWR
  clear HPc Hc0 Hc1 Hc2 H6 H7 HO4 HWR HWR2 HBV HBVZ FC EC EZ hWKK hcBB hcW HWZ
  go_wp2_with fail
  refine (zg hwk).mono ?_
  rintro e w7 (⟨sc, a0, a1, t, bs, rfl, hsz, hP7, hW7, hOk, F7⟩ | ⟨c, sc, a0, a1, t, rfl, hsz, hP7, hNo, F7⟩)
  ·have HP7 := zi hP7
   have k0 : w7.cell? ⟨w.heap.size, 0, none⟩ = some (.pointer (some ⟨P, 0, none⟩)) := zk (F7.kept (zg Hz0) (fun e => by have h1 := zg hzo; have h2 := zg HS4; have h3 := zg hBz; rcases e with e | e | e | e <;> first | omega | (have h9 := (zg HX) _ e; omega))) 0 _ rfl
   have k1 : w7.cell? ⟨w.heap.size + 1, 0, none⟩ = some (.slice none 0 0) := zk (F7.kept (zg Hz1) (fun e => by have h1 := zg hzo; have h2 := zg HS4; have h3 := zg hBz; rcases e with e | e | e | e <;> first | omega | (have h9 := (zg HX) _ e; omega))) 0 _ rfl
   have b2' := F7.kept (zg Hz2) (fun e => by have h1 := zg hzo; have h2 := zg HS4; have h3 := zg hBz; rcases e with e | e | e | e <;> first | omega | (have h9 := (zg HX) _ e; omega))
   have b1' := F7.kept (zg Hz1) (fun e => by have h1 := zg hzo; have h2 := zg HS4; have h3 := zg hBz; rcases e with e | e | e | e <;> first | omega | (have h9 := (zg HX) _ e; omega))
   have e1 : w7.frozen? ⟨w.heap.size + 1, 0, none⟩ = false := Lib.frozen_of_heap b1' 0
   have e2 : w7.frozen? ⟨w.heap.size + 1 + 1, 0, none⟩ = false := Lib.frozen_of_heap b2' 0
   have k2s : ∀ v, (w7.setCell ⟨w.heap.size + 1, 0, none⟩ v).cell? ⟨w.heap.size + 1 + 1, 0, none⟩ = some (.int .i64 0) := fun v => zk (zat b2' (by omega)) 0 _ rfl
   have k25 : w7.cell? ⟨P, 25, none⟩ = some (.func (.func 153) #[] #[.pointer (some ⟨ob, 0, none⟩)]) := by rw [cell_of_row w7 P 25 _ _ _ hP7]; exact lvK_at hsz
   have HB1 := zi b1'
   have HB2 := zi b2'
   have HSZ := zi hsz
   have HK := zi hOk
   have HF7 := zi F7
   have hcw := zi (zkA Y1.heap.size ob qb nb bs w7 hW7)
   clear hP7 hW7 hOk F7 hsz b1' b2'
   go_wp2_with fail
   clear k25 k0
   refine (zg hcw).mono ?_
   rintro e w8 ⟨u8, rfl, c8, o8, rfl⟩
   replace HK := zi ((zg HK) _ c8)
   clear c8
   obtain ⟨a8, c8, rfl⟩ := zaE o8
   have HO8 := zi o8
   clear o8
   go_wp2
   clear k1 e1 e2 k2s
   refine leaves_cons (f := 92) (args := #[.pointer (some ⟨b6, 0, none⟩), .pointer (some ⟨b7, 0, none⟩), .pointer (some ⟨w.heap.size, 0, none⟩), .pointer (some ⟨w.heap.size + 1, 0, none⟩), .pointer (some ⟨w.heap.size + 1 + 1, 0, none⟩)]) (by simp) (by simp [go_sem]) ?_
   refine (zjf _ _ _ _ _ _).mono ?_
   rintro e u9 w9 ⟨rfl, rfl, hw9⟩
   show Leaves _ _ _ _ _ FrameMode.returning w9
   have F9 : Fr (fun q => q = P ∨ q = w.heap.size + 1 ∨ q = w.heap.size + 1 + 1) w8 w9 := by rw [hw9]; exact Fr.setCell (S := fun q => q = P ∨ q = w.heap.size + 1 ∨ q = w.heap.size + 1 + 1) (Fr.setCell (S := fun q => q = P ∨ q = w.heap.size + 1 ∨ q = w.heap.size + 1 + 1) (Fr.refl _ _) (a := ⟨w.heap.size + 1, 0, none⟩) (.inr (.inl rfl)) _) (a := ⟨w.heap.size + 1 + 1, 0, none⟩) (.inr (.inr rfl)) _
   have g9 : w9.heap[P]? = some (.cells (lvC sc (a0 :: a1 :: .int .i32 1 :: .int .u32 0 :: (wrL ob qb nb ++ t))) 88 (0, 0)) := by rw [hw9]; exact zat (zat (zg HP7) (by omega)) (by omega)
   have g91 : w9.heap[w.heap.size + 1]? = some (.cells #[.slice a8 bs.length c8] 25 (0, 0)) := by rw [hw9]; exact zat (zaM (zg HB1) rfl) (by omega)
   have g92 : w9.heap[w.heap.size + 1 + 1]? = some (.cells #[.int .i64 0] 3 (0, 0)) := by rw [hw9]; exact zaM (zat (zg HB2) (by omega)) rfl
   have k19 : w9.cell? ⟨P, 19, none⟩ = some (.int .i32 1) := by rw [cell_of_row w9 P 19 _ _ _ g9]; exact zcA (zg HSZ) 2
   refine leaves_cons (f := 91) (args := #[.pointer (some ⟨P, 19, none⟩)]) (by simp) (by simp [go_sem]) ?_
   refine (zeG ⟨P, 19, none⟩ _ w9 k19 (Lib.frozen_of_heap g9 19)).mono ?_
   rintro e u10 wf ⟨rfl, rfl, hwf⟩
   show Leaves _ _ _ _ [] FrameMode.returning wf
   have FF : Fr (fun q => q = P ∨ q = w.heap.size + 1 ∨ q = w.heap.size + 1 + 1) w8 wf := by rw [hwf]; exact Fr.setCell (S := fun q => q = P ∨ q = w.heap.size + 1 ∨ q = w.heap.size + 1 + 1) F9 (a := ⟨P, 19, none⟩) (.inl rfl) _
   have r1 : wf.cell? ⟨w.heap.size + 1, 0, none⟩ = some (.slice a8 bs.length c8) := by rw [hwf]; exact zk (zat g91 (by omega)) 0 _ rfl
   have r2 : wf.cell? ⟨w.heap.size + 1 + 1, 0, none⟩ = some (.int .i64 0) := by rw [hwf]; exact zk (zat g92 (by omega)) 0 _ rfl
   have gf : wf.heap[P]? = some (.cells (lvC sc (a0 :: a1 :: .int .i32 0 :: .int .u32 0 :: (wrL ob qb nb ++ t))) 88 (0, 0)) := by rw [hwf]; exact zaM g9 (zeh (zg HSZ) 2 (.int .i32 0))
   refine ⟨.tuple #[.slice a8 bs.length c8, .int .i64 0], by simp [results, Tryz.results57, go_sem, r1, r2], .inl ⟨_, sc, a0, a1, bs, _, rfl, zg HYES, zas (FF.owns (zg HO8) (fun g hg e9 => by have h1 := ((zg HO8).lt g hg).1; have h2 := zg hBz; have h3 := zg HS4; rcases e9 with e9 | e9 | e9 <;> omega)) (by have h2 := zg hBz; have h3 := zg HS4; omega), gf, zg HSZ, (zg HST) sc a0 a1 bs _ w8 wf (zg HK) FF, (((zg FZ).mono (fun q hq => hq.elim .inl (fun h => .inr (.inr h)))).tr ((zg HF7).mono (fun q hq => by have h1 := zg hzo; have h2 := zg HS4; have h3 := zg hBz; rcases hq with hq | hq | hq | hq <;> first | exact .inl hq | exact .inr (.inl hq) | exact .inr (.inr (by omega))))).tr (FF.mono (fun q hq => by rcases hq with hq | hq | hq <;> first | exact .inl hq | exact .inr (.inr (by omega))))⟩⟩
  ·have kz : ∀ g, g < w4.heap.size → g ≠ P → w.heap.size ≤ g → ¬ (g = P ∨ X g ∨ WS Y1.heap.size ob g) := fun g h1 h2 h5 e => by have h3 := zg hzo; have h4 := zg hBz; rcases e with e | e | e | e <;> first | omega | (have h9 := (zg HX) _ e; omega)
   have kb : ∀ g, g < Y1.heap.size → g ≠ ob → g ≠ P → w.heap.size ≤ g → ¬ (g = P ∨ X g ∨ WS Y1.heap.size ob g) := fun g h1 h2 h3 h5 e => by rcases e with e | e | e | e <;> first | omega | (have h9 := (zg HX) _ e; omega)
   have nn : P ≠ b6 ∧ P ≠ b7 ∧ P ≠ w.heap.size ∧ P ≠ w.heap.size + 1 ∧ P ≠ w.heap.size + 1 + 1 ∧ w.heap.size + 1 ≠ w.heap.size + 1 + 1 := by have h1 := (zg HLB).1; have h2 := (zg HLB).2.1; have h3 := zg HS4; omega
   have hl := zg hlt
   have hs4 := zg HS4
   have HQ6 := zi ((zg HQ5).fr F7 (fun g hg => kb g (by have h1 := ((zg HO7).lt g hg).2; have h4 := (zg HWR9).ltb; have h3 := zg HOB; omega) (by have h1 := ((zg HO7).lt g hg).2; have h3 := zg HOB; omega) (fun e => by have h1 := ((zg HO7).lt g hg).1; omega) (by have h1 := ((zg HO7).lt g hg).1; omega)))
   have HO6 := zi ((zg HO5).fr F7 (fun g hg => kb g (hl.2.2.2.2 g hg).1 (hl.2.2.2.2 g hg).2 (fun e => by have h1 := (zg HLB).2.2 g hg; omega) (by have h1 := (zg HLB).2.2 g hg; omega)))
   refine leaves_cons (f := 92) (args := #[.pointer (some ⟨b6, 0, none⟩), .pointer (some ⟨b7, 0, none⟩), .pointer (some ⟨w.heap.size, 0, none⟩), .pointer (some ⟨w.heap.size + 1, 0, none⟩), .pointer (some ⟨w.heap.size + 1 + 1, 0, none⟩)]) (by simp) (by simp [go_sem]) ?_
   refine (zgP b6 b7 (w.heap.size) (w.heap.size + 1) (w.heap.size + 1 + 1) P s _ _ _ _ _ _ sc _ _ _ _ _ cap _ c [] w7 hsz ⟨_, _, _, _, _, _, _, _, _, _, _, _, rfl, rfl, rfl, rfl, rfl, rfl⟩ ⟨_, _, _, rfl⟩ (F7.kept (zg Hz6) (kb b6 hl.1 hl.2.2.1 (fun e => nn.1 e.symm) (by have h1 := (zg HLB).1; omega))) (F7.kept (zg Hz7) (kb b7 hl.2.1 hl.2.2.2.1 (fun e => nn.2.1 e.symm) (by have h1 := (zg HLB).2.1; omega))) (F7.kept (zg Hz0) (kz _ (by omega) (by omega) (by omega))) (F7.kept (zg Hz1) (kz _ (by omega) (by omega) (by omega))) (F7.kept (zg Hz2) (kz _ (by omega) (by omega) (by omega))) hP7 nn).mono ?_
   rintro e u8 w8 ⟨rfl, rfl, g8, g81, g82, F8⟩
   show Leaves _ _ _ _ _ FrameMode.returning w8
   have k19 : w8.cell? ⟨P, 19, none⟩ = some (.int .i32 1) := by rw [cell_of_row w8 P 19 _ _ _ g8]; exact zcA (sc := (ze s (.slice u4a s.un u4c) (.slice h4a s.kh.length h4c) (.slice p4a s.pn p4c) (.slice q4a s.qn q4c) (.slice l4a s.ln l4c) (.slice d4a s.dn d4c))) rfl 2
   refine leaves_cons (f := 91) (args := #[.pointer (some ⟨P, 19, none⟩)]) (by simp) (by simp [go_sem]) ?_
   refine (zeG ⟨P, 19, none⟩ _ w8 k19 (Lib.frozen_of_heap g8 19)).mono ?_
   rintro e u9 wf ⟨rfl, rfl, hwf⟩
   show Leaves _ _ _ _ [] FrameMode.returning wf
   have FF : Fr (fun q => q = P ∨ q = w.heap.size + 1 ∨ q = w.heap.size + 1 + 1) w7 wf := by rw [hwf]; exact Fr.setCell (S := fun q => q = P ∨ q = w.heap.size + 1 ∨ q = w.heap.size + 1 + 1) F8 (a := ⟨P, 19, none⟩) (.inl rfl) _
   have r1 : wf.cell? ⟨w.heap.size + 1, 0, none⟩ = some (.slice none 0 0) := by rw [hwf]; exact zk (zat g81 (by omega)) 0 _ rfl
   have r2 : wf.cell? ⟨w.heap.size + 1 + 1, 0, none⟩ = some (.int .i64 c) := by rw [hwf]; exact zk (zat g82 (by omega)) 0 _ rfl
   have gf : wf.heap[P]? = some (.cells (lvC (ze s (.slice u4a s.un u4c) (.slice h4a s.kh.length h4c) (.slice p4a s.pn p4c) (.slice q4a s.qn q4c) (.slice l4a s.ln l4c) (.slice d4a s.dn d4c)) (.int .i64 cap :: .slice c7a hn c7c :: .int .i32 0 :: .int .u32 0 :: (wrL ob qb nb ++ t))) 88 (0, 0)) := by rw [hwf]; exact zaM g8 (zeh (sc := (ze s (.slice u4a s.un u4c) (.slice h4a s.kh.length h4c) (.slice p4a s.pn p4c) (.slice q4a s.qn q4c) (.slice l4a s.ln l4c) (.slice d4a s.dn d4c))) rfl 2 (.int .i32 0))
   refine ⟨.tuple #[.slice none 0 0, .int .i64 c], by simp [results, Tryz.results57, go_sem, r1, r2], .inr ⟨c, _, _, _, _, _, _, _, _, rfl, .inr ⟨zg HYES, hNo⟩, gf, (zg HO6).fr FF (fun g hg e9 => by have h1 := (zg HLB).2.2 g hg; omega), fun hg => by have h1 := (zg HLB).2.2 P hg; omega, ((zg HQ6).fr FF (fun g hg e9 => by have h1 := ((zg HO7).lt g hg).1; omega)).mono (by omega), zg HAP, (((zg FZ).mono (fun q hq => hq.elim .inl (fun h => .inr (.inr h)))).tr (F7.mono (fun q hq => by have h1 := zg hzo; have h3 := zg hBz; rcases hq with hq | hq | hq | hq <;> first | exact .inl hq | exact .inr (.inl hq) | exact .inr (.inr (by omega))))).tr (FF.mono (fun q hq => by rcases hq with hq | hq | hq <;> first | exact .inl hq | exact .inr (.inr (by omega))))⟩⟩
end Go.Proofs.YtmlkpdbfnffoaaaGreatDoor
