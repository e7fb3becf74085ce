import Derived.Test.YtbieoijeilhadaaDoorDrL
import Derived.Deep.DeepCutAuto
namespace Go.Proofs.YtbieoijeilhadaaDoor
open Go.RowKit
def Sm2 (a b c : ByteArray) (un : List (ByteArray × ByteArray)) : Prop := a.size ≤ 4000 ∧ b.size ≤ 4000 ∧ c.size ≤ 4000 ∧ un.length ≤ 100 ∧ ∀ s ∈ un, s.1.size ≤ 4000 ∧ s.2.size ≤ 4000
theorem Sml.two {a b c : ByteArray} {un : List (ByteArray × ByteArray)} (h : Sml a b c un) : Sm2 a b c un := by
  obtain ⟨h1, h2, h3, h4, h5⟩ := h
  exact ⟨by omega, by omega, by omega, by omega, fun s hs => by have := h5 s hs; omega⟩
theorem Sm2.each {a b c : ByteArray} {un : List (ByteArray × ByteArray)} (h : Sm2 a b c un) : ∀ j, j < un.length → (lnT un j).size ≤ 1048576 ∧ (lnH un j).size ≤ 1048576 := fun j hj => by
  have := h.2.2.2.2 _ (ln_mem hj)
  simp only [] at this
  omega
def LnD2 (base : Nat) (w : World) (e : Ending) : Prop :=
  ∃ (a b c : ByteArray) (un : List (ByteArray × ByteArray)) (v : Value), e = .returned (.agg #[.string a, .string b, .string c, v]) ∧ Sm2 a b c un ∧ Own2 w base 140 v un.length (fun j => .string (lnT un j)) (fun j => .string (lnH un j))
theorem own2_off {w : World} {base p : Nat} {v : Value} {n : Nat} {A B : Nat → Value} {cs : Array Value} (h : Own2 w base 140 v n A B) (hp : w.heap[p]? = some (.cells cs 46 (0, 0))) : ∀ q, v.ownBlock = some q → q ≠ p := by
  obtain ⟨ys, h1, _⟩ := h
  rcases h1.2 with ⟨rfl, _⟩ | ⟨g, cap, cur, rfl, _, hb, _⟩
  · intro q hq; simp [Value.ownBlock] at hq
  · intro q hq e
    have h9 : g = q := Option.some.inj hq
    rw [h9, e, hp] at hb
    simp at hb
def lenAt (w : World) (B : Nat) : Nat := match w.cell? ⟨B, 3, none⟩ with | some (.slice _ l _) => l | _ => 0
theorem lenAt_eq {w : World} {B l c : Nat} {a : Option Addr} (h : w.cell? ⟨B, 3, none⟩ = some (.slice a l c)) : lenAt w B = l := by simp [lenAt, h]
theorem own2_prD {w : World} {base : Nat} {T : TypeId} {v : Value} {un : List (ByteArray × ByteArray)} (h : w.ownsRow base T 2 v un.length (prL un)) : Own2 w base T v un.length (fun j => .string (lnT un j)) (fun j => .string (lnH un j)) := ⟨prL un, h, fun j hj => prL_at un j hj⟩
theorem own2_prL {w : World} {base : Nat} {T : TypeId} {v : Value} {un : List (ByteArray × ByteArray)} (h : Own2 w base T v un.length (fun j => .string (lnT un j)) (fun j => .string (lnH un j))) : w.ownsRow base T 2 v un.length (prL un) := own2_list h
def odds : List ByteArray := [{ data := #[1] }, { data := #[204, 129] }, { data := #[255] }, { data := #[97, 10] }]
set_option maxRecDepth 10000 in
set_option maxHeartbeats 8000000 in
theorem l4Spoil_any (D : Nat) (v : Value) (bs : List Int) (p : Nat) (a b c : ByteArray) (un : List (ByteArray × ByteArray)) (ua : Option Addr) (uc : Nat) (w0 w : World) (h0 : ∃ p0, RdAt w0 D v bs p0) (h : RdAt w D v bs p) (hF : Fr (fun k => k = D) w0 w) (hB : Bytes bs) (hl : bs.length ≤ 16777216) (hS : Sml a b c un) (hO : Own2 w w0.heap.size 140 (.slice ua un.length uc) un.length (fun j => .string (lnT un j)) (fun j => .string (lnH un j))) :
    Calls Tryd.prog 81 #[.pointer (some ⟨D, 0, none⟩), .agg #[.string a, .string b, .string c, .slice ua un.length uc]] w fun e w' => LnD2 w0.heap.size w' e ∧ (∃ p', RdAt w' D v bs p') ∧ Fr (fun k => k = D) w0 w' := by
  have HR := hide h
  obtain ⟨p0, h00⟩ := h0
  have HR0 := hide h00
  have hDw : D < w0.heap.size := lt_of_cell h00.1
  have infoL : (Tryd.prog.info? 46).map (·.size) = some 4 := by kernel_rfl
  have hb := hB.at0 p
  obtain ⟨x, hx⟩ : ∃ x : Nat, at0 bs p = (x : Int) := ⟨(at0 bs p).toNat, by omega⟩
  have hx255 : x ≤ 255 := by omega
  have hnx := hide (fun W (hr : RdAt W D v bs p) => next_any D v bs p W hr hB hl)
  rw [hx] at hnx
  have hz0 := hF.size
  clear hx hb h h00
  go_enter Tryd.func81, Tryd.ntmps81
  go_wp2_with fail
  refine ((unhide hnx) _ ((unhide HR).ext (((Ext.refl _).alloc _).alloc _))).mono ?_
  rintro e w1 ⟨rfl, hr1, fr1⟩
  obtain ⟨p1, hp1⟩ : ∃ q, q = (if p < bs.length then p + 1 else p) := ⟨_, rfl⟩
  rw [← hp1] at hr1
  have E00 : Ext w ((w.alloc (.cells #[.string a, .string b, .string c, .slice ua un.length uc] 46)).alloc (.cells #[.string { data := #[] }, .string { data := #[] }, .string { data := #[] }, .slice none 0 0] 46)) := ((Ext.refl w).alloc _).alloc _
  have HL := hide (fr1.kept (((Ext.refl _).alloc (.cells #[.string { data := #[] }, .string { data := #[] }, .string { data := #[] }, .slice none 0 0] 46)).kept (new_block w (.cells #[.string a, .string b, .string c, .slice ua un.length uc] 46))) (by omega))
  have HQ : Hid (w1.heap[w.heap.size + 1]? = some (.cells #[.string { data := #[] }, .string { data := #[] }, .string { data := #[] }, .slice none 0 0] 46 (0, 0))) := hide (fr1.kept (by have h := new_block (w.alloc (.cells #[.string a, .string b, .string c, .slice ua un.length uc] 46)) (.cells #[.string { data := #[] }, .string { data := #[] }, .string { data := #[] }, .slice none 0 0] 46); rw [show (w.alloc (.cells #[.string a, .string b, .string c, .slice ua un.length uc] 46)).heap.size = w.heap.size + 1 by simp] at h; exact h) (by omega))
  have HF := hide ((hF.tr (Fr.of_ext E00)).tr fr1)
  have HO := hide ((hO.ext E00).fr fr1 (fun q hq e9 => by have := (hO.lt q hq).1; omega))
  have HOB : Hid (∀ q, (Value.slice ua un.length uc).ownBlock = some q → q < w.heap.size) := hide (fun q hq => (hO.lt q hq).2)
  have HR1 := hide hr1
  obtain ⟨V, hV⟩ : ∃ V, V = w1.alloc (.cells (odds.map Value.string).toArray 9) := ⟨_, rfl⟩
  have EV : Ext w1 V := by rw [hV]; exact (Ext.refl w1).alloc _
  obtain ⟨od, hod, hoc⟩ := strs_at (xs := odds) (p := w1.heap.size) (w := V) (by rw [hV]; exact new_block w1 _) (x / 8 % 4) (Nat.mod_lt _ (by decide))
  have hodz : od.size ≤ 2 := by have h9 : ∀ t ∈ odds, t.size ≤ 2 := by decide
                                exact h9 od hod
  have HVV := hide (show V = w1.alloc (.cells #[.string { data := #[1] }, .string { data := #[204, 129] }, .string { data := #[255] }, .string { data := #[97, 10] }] 9) from hV)
  have hoc2 := hoc
  rw [unhide HVV] at hoc2
  replace HL := hide (EV.kept (unhide HL))
  replace HQ := hide (EV.kept (unhide HQ))
  replace HF := hide ((unhide HF).tr (Fr.of_ext EV))
  replace HO := hide ((unhide HO).ext EV)
  replace HR1 := hide ((unhide HR1).ext EV)
  have hLV := lt_of_block (unhide HQ)
  obtain ⟨s1, s2, s3, s4, s5⟩ := id hS
  clear hV EV hr1 fr1 hnx hp1 E00 hO hF hod hoc hS
  go_upto_if 18 with fail
  rw [← unhide HVV]
  clear HVV hoc2
  go_cut [3] (fun v3 wq => v3 = .pointer (some ⟨w.heap.size, 0, none⟩) ∧ ∃ (A B C : ByteArray) (UN : List (ByteArray × ByteArray)) (va : Option Addr) (vc : Nat), Hid (Sm2 A B C UN) ∧ Hid (wq.heap[w.heap.size]? = some (.cells #[.string A, .string B, .string C, .slice va UN.length vc] 46 (0, 0))) ∧ Hid (Own2 wq w0.heap.size 140 (.slice va UN.length vc) UN.length (fun j => .string (lnT UN j)) (fun j => .string (lnH UN j))) ∧ Hid (wq.heap[w.heap.size + 1]? = some (.cells #[.string { data := #[] }, .string { data := #[] }, .string { data := #[] }, .slice none 0 0] 46 (0, 0))) ∧ Hid (Fr (fun k => k = D) w0 wq) ∧ Hid (RdAt wq D v bs p1))
  case rest =>
    obtain ⟨rfl, A, B, C, UN, va, vc, HS2, HL2, HO2, HQ2, HF2, HR2⟩ := hcut
    have hzc := lt_of_block (unhide HQ2)
    clear HL HQ HF HO HR1 HOB s1 s2 s3 s4 s5 hodz hLV
    go_wp2_with (first | (refine wpList_load_blk rfl 46 _ rfl (w.heap.size) rfl _ _ _ _ (unhide HL2) Tryd.underlying46 rfl infoL ?_) | (refine wpList_store_blk rfl 46 _ _ rfl rfl (w.heap.size + 1) rfl _ _ #[.string A, .string B, .string C, .slice va UN.length vc] rfl (unhide HQ2) infoL rfl (by simp [Value.oneCell']) ?_; intro Z hyZ hfZ; have HYZ := hide hyZ; have HfZ := hide hfZ; clear hyZ hfZ))
    have y0 : Z.cell? ⟨w.heap.size + 1, 0, none⟩ = some (.string A) := cells_of (unhide HYZ) 0 _ rfl
    have y1 : Z.cell? ⟨w.heap.size + 1, 1, none⟩ = some (.string B) := cells_of (unhide HYZ) 1 _ rfl
    have y2 : Z.cell? ⟨w.heap.size + 1, 2, none⟩ = some (.string C) := cells_of (unhide HYZ) 2 _ rfl
    have y3 : Z.cell? ⟨w.heap.size + 1, 3, none⟩ = some (.slice va UN.length vc) := cells_of (unhide HYZ) 3 _ rfl
    have FZ : Fr (fun k => k = D) w0 Z := (unhide HfZ).upon (unhide HF2) (fun q hq => by omega)
    exact bodyPost_ret (v := .agg #[.string A, .string B, .string C, .slice va UN.length vc]) (by simp [results, Tryd.results81, go_sem, y0, y1, y2, y3]) rfl ⟨⟨A, B, C, UN, _, rfl, unhide HS2, (unhide HO2).fr (unhide HfZ) (fun q hq e9 => own2_off (unhide HO2) (unhide HQ2) q hq e9)⟩, ⟨p1, (unhide HR0).keep (unhide HR2) FZ ((unhide HfZ).block D (by omega) (by omega))⟩, FZ⟩
  case first =>
    by_cases h0 : x % 8 = 0
    · have hq : ((x : Int) % 8 == 0) = true := by rw [beq_iff_eq]; omega
      have hsum : ¬ 9223372036854775807 < a.size + od.size := by omega
      have k0 : V.cell? ⟨w.heap.size, 0, none⟩ = some (.string a) := cells_of (unhide HL) 0 _ rfl
      have f0 : V.frozen? ⟨w.heap.size, 0, none⟩ = false := Lib.frozen_of_heap (unhide HL) 0
      have HLn : Hid ((V.setCell ⟨w.heap.size, 0, none⟩ (.string (a ++ od))).heap[w.heap.size]? = some (.cells #[.string ((a ++ od)), .string (b), .string (c), .slice ua un.length uc] 46 (0, 0))) := hide (set_blk2 (unhide HL) rfl)
      have FT : Fr (fun q => q = w.heap.size) V (V.setCell ⟨w.heap.size, 0, none⟩ (.string (a ++ od))) := Fr.setCell (S := fun q => q = w.heap.size) (Fr.refl _ V) (a := ⟨w.heap.size, 0, none⟩) rfl _
      have HOn := hide ((unhide HO).fr FT (fun q hq e9 => by have := (unhide HOB) q hq; omega))
      have HQn := hide (FT.kept (unhide HQ) (by omega))
      have FZ := FT.upon (unhide HF) (fun q hq => by omega)
      have HFn := hide FZ
      have HRn := hide ((unhide HR0).keep (unhide HR1) FZ (FT.block D (by omega) (by omega)))
      clear FT FZ
      go_wp2
      go_meet
      exact ⟨rfl, (a ++ od), b, c, un, ua, uc, hide ⟨by rw [ByteArray.size_append]; omega, by omega, by omega, by omega, fun s hs => by have := s5 s hs; omega⟩, HLn, HOn, HQn, HFn, HRn⟩
    have n0 : ((x : Int) % 8 == 0) = false := by rw [beq_eq_false_iff_ne]; omega
    rw [n0]
    by_cases h1 : x % 8 = 1
    · have hq : ((x : Int) % 8 == 1) = true := by rw [beq_iff_eq]; omega
      have hsum : ¬ 9223372036854775807 < od.size + b.size := by omega
      have k0 : V.cell? ⟨w.heap.size, 1, none⟩ = some (.string b) := cells_of (unhide HL) 1 _ rfl
      have f0 : V.frozen? ⟨w.heap.size, 1, none⟩ = false := Lib.frozen_of_heap (unhide HL) 1
      have HLn : Hid ((V.setCell ⟨w.heap.size, 1, none⟩ (.string (od ++ b))).heap[w.heap.size]? = some (.cells #[.string (a), .string ((od ++ b)), .string (c), .slice ua un.length uc] 46 (0, 0))) := hide (set_blk2 (unhide HL) rfl)
      have FT : Fr (fun q => q = w.heap.size) V (V.setCell ⟨w.heap.size, 1, none⟩ (.string (od ++ b))) := Fr.setCell (S := fun q => q = w.heap.size) (Fr.refl _ V) (a := ⟨w.heap.size, 1, none⟩) rfl _
      have HOn := hide ((unhide HO).fr FT (fun q hq e9 => by have := (unhide HOB) q hq; omega))
      have HQn := hide (FT.kept (unhide HQ) (by omega))
      have FZ := FT.upon (unhide HF) (fun q hq => by omega)
      have HFn := hide FZ
      have HRn := hide ((unhide HR0).keep (unhide HR1) FZ (FT.block D (by omega) (by omega)))
      clear FT FZ
      go_wp2
      go_meet
      exact ⟨rfl, a, (od ++ b), c, un, ua, uc, hide ⟨by omega, by rw [ByteArray.size_append]; omega, by omega, by omega, fun s hs => by have := s5 s hs; omega⟩, HLn, HOn, HQn, HFn, HRn⟩
    have n1 : ((x : Int) % 8 == 1) = false := by rw [beq_eq_false_iff_ne]; omega
    by_cases h2 : x % 8 = 2
    · have hq : ((x : Int) % 8 == 2) = true := by rw [beq_iff_eq]; omega
      have k0 : V.cell? ⟨w.heap.size, 2, none⟩ = some (.string c) := cells_of (unhide HL) 2 _ rfl
      have f0 : V.frozen? ⟨w.heap.size, 2, none⟩ = false := Lib.frozen_of_heap (unhide HL) 2
      have HLn : Hid ((V.setCell ⟨w.heap.size, 2, none⟩ (.string (od))).heap[w.heap.size]? = some (.cells #[.string (a), .string (b), .string (od), .slice ua un.length uc] 46 (0, 0))) := hide (set_blk2 (unhide HL) rfl)
      have FT : Fr (fun q => q = w.heap.size) V (V.setCell ⟨w.heap.size, 2, none⟩ (.string (od))) := Fr.setCell (S := fun q => q = w.heap.size) (Fr.refl _ V) (a := ⟨w.heap.size, 2, none⟩) rfl _
      have HOn := hide ((unhide HO).fr FT (fun q hq e9 => by have := (unhide HOB) q hq; omega))
      have HQn := hide (FT.kept (unhide HQ) (by omega))
      have FZ := FT.upon (unhide HF) (fun q hq => by omega)
      have HFn := hide FZ
      have HRn := hide ((unhide HR0).keep (unhide HR1) FZ (FT.block D (by omega) (by omega)))
      clear FT FZ
      go_wp2
      go_meet
      exact ⟨rfl, a, b, od, un, ua, uc, hide ⟨by omega, by omega, by omega, by omega, fun s hs => by have := s5 s hs; omega⟩, HLn, HOn, HQn, HFn, HRn⟩
    have n2 : ((x : Int) % 8 == 2) = false := by rw [beq_eq_false_iff_ne]; omega
    by_cases h3 : x % 8 = 3
    · have hq : ((x : Int) % 8 == 3) = true := by rw [beq_iff_eq]; omega
      obtain ⟨isn, hisn, hs0, hs1, hs2⟩ := info_parts infoSnap
      have HLx := HL
      have HOx := HO
      have HQx := HQ
      have HFx := HF
      have HRx := HR1
      have k3 : V.cell? ⟨w.heap.size, 3, none⟩ = some (.slice ua un.length uc) := cells_of (unhide HLx) 3 _ rfl
      have k3a : ∀ o, (V.alloc o).cell? ⟨w.heap.size, 3, none⟩ = some (.slice ua un.length uc) := fun o => ((Ext.refl V).alloc o).cell k3
      have HO6 := hide ((own2_prL (unhide HOx)).alloc (.cells #[.string od, .string { data := #[] }] 140))
      have HS6 := hide (Src.made (w := V) (size := 2) [.string od, .string { data := #[] }] 1 140 rfl (by simp [Value.oneCell']))
      have hzW : w0.heap.size ≤ V.heap.size := (unhide HFx).size
      go_wp2_with (at_builtin; refine StopQ.intro ?_)
      show wpList _ _ _ _ _ _
      refine wpList_app rfl _ _ 44 rfl w0.heap.size 140 isn (.agg #[.string noT, .string noT]) 2 32 Tryd.underlying44 hisn hs0 hs1 hs2 rfl (by decide) _ _ _ rfl (unhide HO6) _ 1 [.string od, .string { data := #[] }] rfl (unhide HS6) (by unfold maxLen; omega) (by omega) (by simp; omega) ?_
      intro v9 w9 o9 G9 _
      obtain ⟨a9, c9, rfl⟩ : ∃ a c, v9 = .slice a (un.length + 1) c := by
        rcases o9.2 with ⟨e, h0⟩ | ⟨g, cap9, cur, e, _⟩
        · omega
        · exact ⟨_, _, e⟩
      have hoff := own2_off (unhide HOx) (unhide HLx)
      have hoff2 := own2_off (unhide HOx) (unhide HQx)
      have hlo : ∀ q, (Value.slice ua un.length uc).ownBlock = some q → w0.heap.size ≤ q := fun q hq => ((unhide HOx).lt q hq).1
      have HL9 : Hid (w9.heap[w.heap.size]? = some (.cells #[.string a, .string b, .string c, .slice ua un.length uc] 46 (0, 0))) := hide ((G9.block _ (by have := lt_of_block (unhide HLx); simp; omega) (fun e9 => hoff _ e9.symm rfl)).trans (((Ext.refl V).alloc _).kept (unhide HLx)))
      have HQ9 : Hid (w9.heap[w.heap.size + 1]? = some (.cells #[.string { data := #[] }, .string { data := #[] }, .string { data := #[] }, .slice none 0 0] 46 (0, 0))) := hide ((G9.block _ (by have := lt_of_block (unhide HQx); simp; omega) (fun e9 => hoff2 _ e9.symm rfl)).trans (((Ext.refl V).alloc _).kept (unhide HQx)))
      have X9 : Fr (fun q => w0.heap.size ≤ q) V w9 := Fr.grown (Fr.of_ext ((Ext.refl V).alloc _)) G9 hlo
      have hD9 : w9.heap[D]? = V.heap[D]? := X9.block D (by omega) (by omega)
      have F9 : Fr (fun k => k = D) w0 w9 := ⟨X9.os.trans (unhide HFx).os, X9.tape.trans (unhide HFx).tape, X9.output.trans (unhide HFx).output, Nat.le_trans (unhide HFx).size X9.size, fun q hq hn => (X9.block q (by have := (unhide HFx).size; omega) (by omega)).trans ((unhide HFx).block q hq hn)⟩
      have HO9 : Hid (Own2 w9 w0.heap.size 140 (.slice a9 (un ++ [(od, noT)]).length c9) (un ++ [(od, noT)]).length (fun j => .string (lnT (un ++ [(od, noT)]) j)) (fun j => .string (lnH (un ++ [(od, noT)]) j))) := hide (own2_prD (by rw [prL_snoc, List.length_append]; exact o9))
      have hoff9 := own2_off (unhide HO9) (unhide HL9)
      have d1 : w9.cell? ⟨w.heap.size, 3, none⟩ = some (.slice ua un.length uc) := cells_of (unhide HL9) 3 _ rfl
      have d2 : w9.frozen? ⟨w.heap.size, 3, none⟩ = false := Lib.frozen_of_heap (unhide HL9) 3
      have FT : Fr (fun q => q = w.heap.size) w9 (w9.setCell ⟨w.heap.size, 3, none⟩ (.slice a9 (un.length + 1) c9)) := Fr.setCell (S := fun q => q = w.heap.size) (Fr.refl _ w9) (a := ⟨w.heap.size, 3, none⟩) rfl _
      have HLn : Hid ((w9.setCell ⟨w.heap.size, 3, none⟩ (.slice a9 (un.length + 1) c9)).heap[w.heap.size]? = some (.cells #[.string a, .string b, .string c, .slice a9 (un ++ [(od, noT)]).length c9] 46 (0, 0))) := hide (set_blk2 (unhide HL9) (by rw [List.length_append]; rfl))
      have HOn := hide ((unhide HO9).fr FT (fun q hq e9 => hoff9 q hq e9))
      have HQn := hide (FT.kept (unhide HQ9) (by omega))
      have FZ := FT.upon F9 (fun q hq => by omega)
      have HFn := hide FZ
      have zW9 := X9.size
      have HRn := hide ((unhide HR0).keep (unhide HRx) FZ ((FT.block D (by omega) (by omega)).trans hD9))
      clear FT FZ o9 G9 X9 F9 hD9 hoff hoff2 hoff9 hlo HO6 HS6 HO9 HL9 HQ9 k3 k3a
      go_wp2
      go_meet
      exact ⟨rfl, a, b, c, un ++ [(od, noT)], a9, c9, hide ⟨by omega, by omega, by omega, by simp; omega, fun s hs => by
        rcases List.mem_append.1 hs with h9 | h9
        · have := s5 s h9; omega
        · simp at h9; subst h9; exact ⟨by show od.size ≤ 4000; omega, by show noT.size ≤ 4000; decide⟩⟩, HLn, HOn, HQn, HFn, HRn⟩
    have n3 : ((x : Int) % 8 == 3) = false := by rw [beq_eq_false_iff_ne]; omega
    by_cases h4 : x % 8 = 4
    · have hq : ((x : Int) % 8 == 4) = true := by rw [beq_iff_eq]; omega
      clear h0 h1 h2 h3 h4
      go_wp2_with fail
      clear hq n0 n1 n2 n3
      go_loopw [7] (fun i9 wr => ∃ (j : Nat) (B : ByteArray), j ≤ 301 ∧ i9 = .int .i64 j ∧ B.size ≤ 2000 + j ∧ Hid (wr.heap[w.heap.size]? = some (.cells #[.string a, .string B, .string c, .slice ua un.length uc] 46 (0, 0))) ∧ Hid (Fr (fun q => q = w.heap.size) V wr)) (fun i9 _ => 301 - (intOf i9).toNat)
      case atStart => exact ⟨0, b, Nat.zero_le _, rfl, by omega, HL, hide (Fr.refl _ V)⟩
      case round =>
        obtain ⟨j, B, hj, rfl, hBs, HX, HFr⟩ := hrel
        by_cases hlt : j < 301
        · have hltI : (j : Int) < 301 := by omega
          have k1 : wr.cell? ⟨w.heap.size, 1, none⟩ = some (.string B) := cells_of (unhide HX) 1 _ rfl
          have f1 : wr.frozen? ⟨w.heap.size, 1, none⟩ = false := Lib.frozen_of_heap (unhide HX) 1
          have hsum : ¬ 9223372036854775807 < B.size + 1 := by omega
          have hs9 : (B ++ ({ data := #[120] } : ByteArray)).size = B.size + 1 := by rw [ByteArray.size_append]; rfl
          have HXn : Hid ((wr.setCell ⟨w.heap.size, 1, none⟩ (.string (B ++ { data := #[120] }))).heap[w.heap.size]? = some (.cells #[.string a, .string (B ++ { data := #[120] }), .string c, .slice ua un.length uc] 46 (0, 0))) := hide (set_blk2 (unhide HX) rfl)
          have HFn := hide (Fr.setCell (S := fun q => q = w.heap.size) (unhide HFr) (a := ⟨w.heap.size, 1, none⟩) rfl (.string (B ++ { data := #[120] })))
          have HS9 := hide hs9
          clear hs9
          go_wp2
          go_roundw
          case rel => exact ⟨j + 1, B ++ { data := #[120] }, by omega, by go_num, by rw [unhide HS9]; omega, HXn, HFn⟩
          case measure => simp [intOf]; omega
        · obtain rfl : j = 301 := by omega
          have hFr := unhide HFr
          have HOn := hide ((unhide HO).fr hFr (fun q hq e9 => by have := (unhide HOB) q hq; omega))
          have HQn := hide (hFr.kept (unhide HQ) (by omega))
          have FZ := hFr.upon (unhide HF) (fun q hq => by omega)
          have HFn := hide FZ
          have HRn := hide ((unhide HR0).keep (unhide HR1) FZ (hFr.block D (by omega) (by omega)))
          clear FZ hFr
          go_wp2
          go_meet
          exact ⟨rfl, a, B, c, un, ua, uc, hide ⟨by omega, by omega, by omega, by omega, fun s hs => by have := s5 s hs; omega⟩, HX, HOn, HQn, HFn, HRn⟩
    · have n4 : ((x : Int) % 8 == 4) = false := by rw [beq_eq_false_iff_ne]; omega
      clear h0 h1 h2 h3 h4
      obtain ⟨isn, hisn, hs0, hs1, hs2⟩ := info_parts infoSnap
      obtain ⟨N, hN⟩ : ∃ N : Nat, (N : Int) = 50 + (x : Int) / 128 := ⟨50 + x / 128, by omega⟩
      have hwN : IntKind.i64.wrap (50 + (x : Int) / 128) = (N : Int) := by rw [IntKind.wrap_i64]; omega
      have hN2 : N ≤ 60 := by omega
      clear hN
      go_wp2_with fail
      clear n0 n1 n2 n3 n4
      go_loopw [60] (fun _ wr => ∃ (UN : List (ByteArray × ByteArray)) (va : Option Addr) (vc : Nat), Hid (UN.length ≤ 60 ∧ ∀ s ∈ UN, s.1.size ≤ 4000 ∧ s.2.size ≤ 4000) ∧ Hid (wr.heap[w.heap.size]? = some (.cells #[.string a, .string b, .string c, .slice va UN.length vc] 46 (0, 0))) ∧ Hid (Own2 wr w0.heap.size 140 (.slice va UN.length vc) UN.length (fun j => .string (lnT UN j)) (fun j => .string (lnH UN j))) ∧ Hid (wr.heap[w.heap.size + 1]? = some (.cells #[.string { data := #[] }, .string { data := #[] }, .string { data := #[] }, .slice none 0 0] 46 (0, 0))) ∧ Hid (Fr (fun k => k = D) w0 wr) ∧ Hid (RdAt wr D v bs p1)) (fun _ wr => 100 - lenAt wr w.heap.size)
      case atStart => exact ⟨un, ua, uc, hide ⟨by omega, fun s hs => by have := s5 s hs; omega⟩, HL, HO, HQ, HF, HR1⟩
      case round =>
        obtain ⟨UN, va, vc, HU, HLx, HOx, HQx, HFx, HRx⟩ := hrel
        have hU := (unhide HU).1
        have k3' : wr.cell? ⟨w.heap.size, 3, none⟩ = some (.slice va UN.length vc) := cells_of (unhide HLx) 3 _ rfl
        have hwr9 := lt_of_block (unhide HQx)
        by_cases hlt : UN.length < N
        · have hltI : (UN.length : Int) < (N : Int) := by omega
          have k3 : wr.cell? ⟨w.heap.size, 3, none⟩ = some (.slice va UN.length vc) := cells_of (unhide HLx) 3 _ rfl
          have k3a : ∀ o, (wr.alloc o).cell? ⟨w.heap.size, 3, none⟩ = some (.slice va UN.length vc) := fun o => ((Ext.refl wr).alloc o).cell k3
          have HO6 := hide ((own2_prL (unhide HOx)).alloc (.cells #[.string ({ data := #[] } : ByteArray), .string { data := #[] }] 140))
          have HS6 := hide (Src.made (w := wr) (size := 2) [.string ({ data := #[] } : ByteArray), .string { data := #[] }] 1 140 rfl (by simp [Value.oneCell']))
          have hzW : w0.heap.size ≤ wr.heap.size := (unhide HFx).size
          go_wp2_with (at_builtin; refine StopQ.intro ?_)
          show wpList _ _ _ _ _ _
          refine wpList_app rfl _ _ 44 rfl w0.heap.size 140 isn (.agg #[.string noT, .string noT]) 2 32 Tryd.underlying44 hisn hs0 hs1 hs2 rfl (by decide) _ _ _ rfl (unhide HO6) _ 1 [.string ({ data := #[] } : ByteArray), .string { data := #[] }] rfl (unhide HS6) (by unfold maxLen; omega) (by omega) (by simp; omega) ?_
          intro v9 w9 o9 G9 _
          obtain ⟨a9, c9, rfl⟩ : ∃ a c, v9 = .slice a (UN.length + 1) c := by
            rcases o9.2 with ⟨e, h0⟩ | ⟨g, cap9, cur, e, _⟩
            · omega
            · exact ⟨_, _, e⟩
          have hoff := own2_off (unhide HOx) (unhide HLx)
          have hoff2 := own2_off (unhide HOx) (unhide HQx)
          have hlo : ∀ q, (Value.slice va UN.length vc).ownBlock = some q → w0.heap.size ≤ q := fun q hq => ((unhide HOx).lt q hq).1
          have HL9 : Hid (w9.heap[w.heap.size]? = some (.cells #[.string a, .string b, .string c, .slice va UN.length vc] 46 (0, 0))) := hide ((G9.block _ (by have := lt_of_block (unhide HLx); simp; omega) (fun e9 => hoff _ e9.symm rfl)).trans (((Ext.refl wr).alloc _).kept (unhide HLx)))
          have HQ9 : Hid (w9.heap[w.heap.size + 1]? = some (.cells #[.string { data := #[] }, .string { data := #[] }, .string { data := #[] }, .slice none 0 0] 46 (0, 0))) := hide ((G9.block _ (by have := lt_of_block (unhide HQx); simp; omega) (fun e9 => hoff2 _ e9.symm rfl)).trans (((Ext.refl wr).alloc _).kept (unhide HQx)))
          have X9 : Fr (fun q => w0.heap.size ≤ q) wr w9 := Fr.grown (Fr.of_ext ((Ext.refl wr).alloc _)) G9 hlo
          have hD9 : w9.heap[D]? = wr.heap[D]? := X9.block D (by omega) (by omega)
          have F9 : Fr (fun k => k = D) w0 w9 := ⟨X9.os.trans (unhide HFx).os, X9.tape.trans (unhide HFx).tape, X9.output.trans (unhide HFx).output, Nat.le_trans (unhide HFx).size X9.size, fun q hq hn => (X9.block q (by have := (unhide HFx).size; omega) (by omega)).trans ((unhide HFx).block q hq hn)⟩
          have HO9 : Hid (Own2 w9 w0.heap.size 140 (.slice a9 (UN ++ [(({ data := #[] } : ByteArray), noT)]).length c9) (UN ++ [(({ data := #[] } : ByteArray), noT)]).length (fun j => .string (lnT (UN ++ [(({ data := #[] } : ByteArray), noT)]) j)) (fun j => .string (lnH (UN ++ [(({ data := #[] } : ByteArray), noT)]) j))) := hide (own2_prD (by rw [prL_snoc, List.length_append]; exact o9))
          have hoff9 := own2_off (unhide HO9) (unhide HL9)
          have d1 : w9.cell? ⟨w.heap.size, 3, none⟩ = some (.slice va UN.length vc) := cells_of (unhide HL9) 3 _ rfl
          have d2 : w9.frozen? ⟨w.heap.size, 3, none⟩ = false := Lib.frozen_of_heap (unhide HL9) 3
          have FT : Fr (fun q => q = w.heap.size) w9 (w9.setCell ⟨w.heap.size, 3, none⟩ (.slice a9 (UN.length + 1) c9)) := Fr.setCell (S := fun q => q = w.heap.size) (Fr.refl _ w9) (a := ⟨w.heap.size, 3, none⟩) rfl _
          have HLn : Hid ((w9.setCell ⟨w.heap.size, 3, none⟩ (.slice a9 (UN.length + 1) c9)).heap[w.heap.size]? = some (.cells #[.string a, .string b, .string c, .slice a9 (UN ++ [(({ data := #[] } : ByteArray), noT)]).length c9] 46 (0, 0))) := hide (set_blk2 (unhide HL9) (by rw [List.length_append]; rfl))
          have HOn := hide ((unhide HO9).fr FT (fun q hq e9 => hoff9 q hq e9))
          have HQn := hide (FT.kept (unhide HQ9) (by omega))
          have FZ := FT.upon F9 (fun q hq => by omega)
          have HFn := hide FZ
          have zW9 := X9.size
          have HRn := hide ((unhide HR0).keep (unhide HRx) FZ ((FT.block D (by omega) (by omega)).trans hD9))
          clear FT FZ o9 G9 X9 F9 hD9 hoff hoff2 hoff9 hlo HO6 HS6 HO9 HL9 HQ9 k3 k3a
          have k9 : (w9.setCell ⟨w.heap.size, 3, none⟩ (.slice a9 (UN.length + 1) c9)).cell? ⟨w.heap.size, 3, none⟩ = some (.slice a9 (UN ++ [(({ data := #[] } : ByteArray), noT)]).length c9) := cells_of (unhide HLn) 3 _ rfl
          have HK9 := hide k9
          clear k9
          have HU2 : Hid ((UN ++ [(({ data := #[] } : ByteArray), noT)]).length ≤ 60 ∧ ∀ s ∈ UN ++ [(({ data := #[] } : ByteArray), noT)], s.1.size ≤ 4000 ∧ s.2.size ≤ 4000) := hide ⟨by simp; omega, fun s hs => by
            rcases List.mem_append.1 hs with h9 | h9
            · exact (unhide HU).2 s h9
            · simp at h9; subst h9; exact ⟨by decide, by show noT.size ≤ 4000; decide⟩⟩
          have HKo := hide k3'
          clear k3'
          go_wp2
          go_roundw
          case rel => exact ⟨_, a9, c9, HU2, HLn, HOn, HQn, HFn, HRn⟩
          case measure => rw [lenAt_eq (unhide HK9), lenAt_eq (unhide HKo)]; simp; omega
        · have hltI : ¬ (UN.length : Int) < (N : Int) := by omega
          go_wp2
          go_meet
          exact ⟨rfl, a, b, c, UN, va, vc, hide ⟨by omega, by omega, by omega, by omega, (unhide HU).2⟩, HLx, HOx, HQx, HFx, HRx⟩
end Go.Proofs.YtbieoijeilhadaaDoor

namespace Go.Proofs.YtbieoijeilhadaaDoor
open Go.RowKit
theorem LnD2.reads {base : Nat} {w : World} {e : Ending} (h : LnD2 base w e) : ∃ (a b c : ByteArray) (un : List (ByteArray × ByteArray)) (ua : Option Addr) (uc : Nat), e = .returned (.agg #[.string a, .string b, .string c, .slice ua un.length uc]) ∧ Sm2 a b c un ∧ Own2 w base 140 (.slice ua un.length uc) un.length (fun j => .string (lnT un j)) (fun j => .string (lnH un j)) := by
  obtain ⟨a, b, c, un, v, rfl, h1, h2⟩ := h
  obtain ⟨x, y, rfl, _⟩ := h2.reads
  exact ⟨a, b, c, un, x, y, rfl, h1, h2⟩
set_option maxRecDepth 10000 in
set_option maxHeartbeats 4000000 in
theorem l4DrawAny_any (D : Nat) (v : Value) (bs : List Int) (p : Nat) (w : World) (h : RdAt w D v bs p) (hB : Bytes bs) (hl : bs.length ≤ 16777216) :
    Calls Tryd.prog 49 #[.pointer (some ⟨D, 0, none⟩)] w fun e w' => LnD2 w.heap.size w' e ∧ (∃ p', RdAt w' D v bs p') ∧ Fr (fun k => k = D) w w' := by
  have HR := hide h
  have hDw : D < w.heap.size := lt_of_cell h.1
  have infoL : (Tryd.prog.info? 46).map (·.size) = some 4 := by kernel_rfl
  have hb := hB.at0 p
  obtain ⟨x, hx⟩ : ∃ x : Nat, at0 bs p = (x : Int) := ⟨(at0 bs p).toNat, by omega⟩
  have hx255 : x ≤ 255 := by omega
  have hnx := hide (fun W (hr : RdAt W D v bs p) => next_any D v bs p W hr hB hl)
  rw [hx] at hnx
  clear hx hb h
  go_enter Tryd.func49, Tryd.ntmps49
  go_wp2_with fail
  refine ((unhide hnx) _ ((unhide HR).ext ((Ext.refl _).alloc _))).mono ?_
  rintro e w1 ⟨rfl, hr1, fr1⟩
  obtain ⟨p1, hp1⟩ : ∃ q, q = (if p < bs.length then p + 1 else p) := ⟨_, rfl⟩
  rw [← hp1] at hr1
  have HQ := hide (fr1.kept (new_block w (.cells #[.string { data := #[] }, .string { data := #[] }, .string { data := #[] }, .slice none 0 0] 46)) (by omega))
  have HF := hide ((Fr.of_ext (S := fun k => k = D) ((Ext.refl w).alloc (.cells #[.string { data := #[] }, .string { data := #[] }, .string { data := #[] }, .slice none 0 0] 46))).tr fr1)
  have HFa := hide fr1
  have HDr := hide (l4Draw_any D v bs p1 w1 hr1 hB hl)
  have hz1 : w.heap.size < w1.heap.size := lt_of_block (unhide HQ)
  clear hp1 hr1 fr1 hnx
  go_wp2_with fail
  refine (unhide HDr).mono ?_
  rintro e w2 ⟨⟨a, b, c, un, v2, rfl, hS, hO⟩, ⟨p2, hr2⟩, fr2⟩
  obtain ⟨ua, uc, rfl⟩ : ∃ ua uc, v2 = .slice ua un.length uc := by
    obtain ⟨x, y, e, _⟩ := hO.reads
    exact ⟨x, y, e⟩
  have HQ2 := hide (fr2.kept (unhide HQ) (by omega))
  have HF2 := hide ((unhide HF).tr fr2)
  replace HFa := hide ((unhide HFa).tr fr2)
  have z2 := fr2.size
  have HN := hide (heap_alloc_new w2 (.cells #[.string { data := #[] }, .string { data := #[] }, .string { data := #[] }, .slice none 0 0] 46))
  have HO := hide hO
  have HR2 := hide hr2
  have HS := hide hS
  clear hO hr2 fr2 HDr HQ HF hS
  go_wp2_with (first | (refine wpList_store_blk rfl 46 _ _ rfl rfl (w2.heap.size) rfl _ _ #[.string a, .string b, .string c, .slice ua un.length uc] rfl (unhide HN) infoL rfl (by simp [Value.oneCell']) ?_; intro U hb9 hf9; have HB := hide hb9; have HEU := hide (hf9.ext ((Ext.refl w2).alloc _) (fun q hq => by omega)); clear hb9 hf9; refine StopQ.intro ?_))
  show wpList _ _ _ _ _ _
  have EU := unhide HEU
  have zU := EU.size
  replace HO := hide ((unhide HO).ext EU)
  replace HQ2 := hide (EU.kept (unhide HQ2))
  replace HF2 := hide ((unhide HF2).tr (Fr.of_ext EU))
  replace HFa := hide ((unhide HFa).tr (Fr.of_ext EU))
  replace HR2 := hide ((unhide HR2).ext EU)
  clear EU HEU HN
  by_cases h7 : x % 8 = 7
  · have hq : ((x : Int) % 8 == 7) = true := by rw [beq_iff_eq]; omega
    have HSp := hide (l4Spoil_any D v bs p2 a b c un ua uc (w.alloc (.cells #[.string { data := #[] }, .string { data := #[] }, .string { data := #[] }, .slice none 0 0] 46)) U ⟨p, (unhide HR).ext ((Ext.refl _).alloc _)⟩ (unhide HR2) (unhide HFa) hB hl (unhide HS) ((unhide HO).mono (by simp; omega)))
    go_wp2_with (first | (refine wpList_load_blk rfl 46 _ rfl (w2.heap.size) rfl _ _ _ _ (unhide HB) Tryd.underlying46 rfl infoL ?_))
    refine (unhide HSp).mono ?_
    rintro e w4 ⟨hD2, ⟨p4, hr4⟩, fr4⟩
    obtain ⟨A, B, C, UN, va, vc, rfl, hS2, hO2⟩ := hD2.reads
    have HQ4 := hide (fr4.kept (new_block w (.cells #[.string { data := #[] }, .string { data := #[] }, .string { data := #[] }, .slice none 0 0] 46)) (by omega))
    have HF4 := hide ((Fr.of_ext (S := fun k => k = D) ((Ext.refl w).alloc (.cells #[.string { data := #[] }, .string { data := #[] }, .string { data := #[] }, .slice none 0 0] 46))).tr fr4)
    have HO4 := hide hO2
    have HR4 := hide hr4
    have hz4 := lt_of_block (unhide HQ4)
    have hsz4 : (w.alloc (.cells #[.string { data := #[] }, .string { data := #[] }, .string { data := #[] }, .slice none 0 0] 46)).heap.size = w.heap.size + 1 := by simp
    clear hD2 hO2 hr4 fr4 HSp
    go_wp2_with (first | (refine wpList_store_blk rfl 46 _ _ rfl rfl (w.heap.size) rfl _ _ #[.string A, .string B, .string C, .slice va UN.length vc] rfl (unhide HQ4) infoL rfl (by simp [Value.oneCell']) ?_; intro Z hyZ hfZ; have HYZ := hide hyZ; have HfZ := hide hfZ; clear hyZ hfZ))
    have y0 : Z.cell? ⟨w.heap.size, 0, none⟩ = some (.string A) := cells_of (unhide HYZ) 0 _ rfl
    have y1 : Z.cell? ⟨w.heap.size, 1, none⟩ = some (.string B) := cells_of (unhide HYZ) 1 _ rfl
    have y2 : Z.cell? ⟨w.heap.size, 2, none⟩ = some (.string C) := cells_of (unhide HYZ) 2 _ rfl
    have y3 : Z.cell? ⟨w.heap.size, 3, none⟩ = some (.slice va UN.length vc) := cells_of (unhide HYZ) 3 _ rfl
    have FZ : Fr (fun k => k = D) w Z := (unhide HfZ).upon (unhide HF4) (fun q hq => by omega)
    exact bodyPost_ret (v := .agg #[.string A, .string B, .string C, .slice va UN.length vc]) (by simp [results, Tryd.results49, go_sem, y0, y1, y2, y3]) rfl ⟨⟨A, B, C, UN, _, rfl, hS2, ((unhide HO4).fr (unhide HfZ) (fun q hq e9 => by have := ((unhide HO4).lt q hq).1; omega)).mono (by omega)⟩, ⟨p4, (unhide HR).keep (unhide HR4) FZ ((unhide HfZ).block D (by omega) (by omega))⟩, FZ⟩
  · have hq : ((x : Int) % 8 == 7) = false := by rw [beq_eq_false_iff_ne]; omega
    go_wp2_with (first | (refine wpList_load_blk rfl 46 _ rfl (w2.heap.size) rfl _ _ _ _ (unhide HB) Tryd.underlying46 rfl infoL ?_) | (refine wpList_store_blk rfl 46 _ _ rfl rfl (w.heap.size) rfl _ _ #[.string a, .string b, .string c, .slice ua un.length uc] rfl (unhide HQ2) infoL rfl (by simp [Value.oneCell']) ?_; intro Z hyZ hfZ; have HYZ := hide hyZ; have HfZ := hide hfZ; clear hyZ hfZ))
    have y0 : Z.cell? ⟨w.heap.size, 0, none⟩ = some (.string a) := cells_of (unhide HYZ) 0 _ rfl
    have y1 : Z.cell? ⟨w.heap.size, 1, none⟩ = some (.string b) := cells_of (unhide HYZ) 1 _ rfl
    have y2 : Z.cell? ⟨w.heap.size, 2, none⟩ = some (.string c) := cells_of (unhide HYZ) 2 _ rfl
    have y3 : Z.cell? ⟨w.heap.size, 3, none⟩ = some (.slice ua un.length uc) := cells_of (unhide HYZ) 3 _ rfl
    have FZ : Fr (fun k => k = D) w Z := (unhide HfZ).upon (unhide HF2) (fun q hq => by omega)
    exact bodyPost_ret (v := .agg #[.string a, .string b, .string c, .slice ua un.length uc]) (by simp [results, Tryd.results49, go_sem, y0, y1, y2, y3]) rfl ⟨⟨a, b, c, un, _, rfl, (unhide HS).two, ((unhide HO).fr (unhide HfZ) (fun q hq e9 => by have := ((unhide HO).lt q hq).1; omega)).mono (by omega)⟩, ⟨p2, (unhide HR).keep (unhide HR2) FZ ((unhide HfZ).block D (by omega) (by omega))⟩, FZ⟩
end Go.Proofs.YtbieoijeilhadaaDoor
