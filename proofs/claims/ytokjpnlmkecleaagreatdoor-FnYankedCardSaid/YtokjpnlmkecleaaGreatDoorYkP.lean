import Derived.Test.YtokjpnlmkecleaaGreatDoorDrL
import Derived.Deep.DeepCutAuto
namespace Go.Proofs.YtokjpnlmkecleaaGreatDoor
open Go.RowKit
def Sm2 (a b c : ByteArray) (un : List (ByteArray × ByteArray)) : Prop := a.size ≤ 4000 ∧ b.size ≤ 4000 ∧ c.size ≤ 4000 ∧ un.length ≤ 100 ∧ ∀ s ∈ un, s.1.size ≤ 4000 ∧ s.2.size ≤ 4000
theorem Sml.two {a b c : ByteArray} {un : List (ByteArray × ByteArray)} (h : Sml a b c un) : Sm2 a b c un := by
  obtain ⟨h1, h2, h3, h4, h5⟩ := h
  exact ⟨by omega, by omega, by omega, by omega, fun s hs => by have := h5 s hs; omega⟩
theorem Sm2.each {a b c : ByteArray} {un : List (ByteArray × ByteArray)} (h : Sm2 a b c un) : ∀ j, j < un.length → (lnT un j).size ≤ 1048576 ∧ (lnH un j).size ≤ 1048576 := fun j hj => by
  have := h.2.2.2.2 _ (ln_mem hj)
  simp only [] at this
  omega
def LnD2 (base : Nat) (w : World) (e : Ending) : Prop :=
  ∃ (a b c : ByteArray) (un : List (ByteArray × ByteArray)) (v : Value), e = .returned (.agg #[.string a, .string b, .string c, v]) ∧ Sm2 a b c un ∧ Own2 w base 49 v un.length (fun j => .string (lnT un j)) (fun j => .string (lnH un j))
theorem own2_off {w : World} {base p : Nat} {v : Value} {n : Nat} {A B : Nat → Value} {cs : Array Value} (h : Own2 w base 49 v n A B) (hp : w.heap[p]? = some (.cells cs 25 (0, 0))) : ∀ q, v.ownBlock = some q → q ≠ p := by
  obtain ⟨ys, h1, _⟩ := h
  rcases h1.2 with ⟨rfl, _⟩ | ⟨g, cap, cur, rfl, _, hb, _⟩
  · intro q hq; simp [Value.ownBlock] at hq
  · intro q hq e
    have h9 : g = q := Option.some.inj hq
    rw [h9, e, hp] at hb
    simp at hb
def lenAt (w : World) (B : Nat) : Nat := match w.cell? ⟨B, 3, none⟩ with | some (.slice _ l _) => l | _ => 0
theorem lenAt_eq {w : World} {B l c : Nat} {a : Option Addr} (h : w.cell? ⟨B, 3, none⟩ = some (.slice a l c)) : lenAt w B = l := by simp [lenAt, h]
theorem own2_prD {w : World} {base : Nat} {T : TypeId} {v : Value} {un : List (ByteArray × ByteArray)} (h : w.ownsRow base T 2 v un.length (prL un)) : Own2 w base T v un.length (fun j => .string (lnT un j)) (fun j => .string (lnH un j)) := ⟨prL un, h, fun j hj => prL_at un j hj⟩
theorem own2_prL {w : World} {base : Nat} {T : TypeId} {v : Value} {un : List (ByteArray × ByteArray)} (h : Own2 w base T v un.length (fun j => .string (lnT un j)) (fun j => .string (lnH un j))) : w.ownsRow base T 2 v un.length (prL un) := own2_list h
def odds : List ByteArray := [{ data := #[1] }, { data := #[204, 129] }, { data := #[255] }, { data := #[97, 10] }]
set_option maxRecDepth 10000 in
set_option maxHeartbeats 8000000 in
theorem l4Spoil_any (D : Nat) (v : Value) (bs : List Int) (p : Nat) (a b c : ByteArray) (un : List (ByteArray × ByteArray)) (ua : Option Addr) (uc : Nat) (w0 w : World) (h0 : ∃ p0, RdAt w0 D v bs p0) (h : RdAt w D v bs p) (hF : Fr (fun k => k = D) w0 w) (hB : Bytes bs) (hl : bs.length ≤ 16777216) (hS : Sml a b c un) (hO : Own2 w w0.heap.size 49 (.slice ua un.length uc) un.length (fun j => .string (lnT un j)) (fun j => .string (lnH un j))) :
    Calls Tryz.prog 57 #[.pointer (some ⟨D, 0, none⟩), .agg #[.string a, .string b, .string c, .slice ua un.length uc]] w fun e w' => LnD2 w0.heap.size w' e ∧ (∃ p', RdAt w' D v bs p') ∧ Fr (fun k => k = D) w0 w' := by
  have HR := hide h
  obtain ⟨p0, h00⟩ := h0
  have HR0 := hide h00
  have hDw : D < w0.heap.size := lt_of_cell h00.1
  have infoL : (Tryz.prog.info? 25).map (·.size) = some 4 := by kernel_rfl
  have hb := hB.at0 p
  obtain ⟨x, hx⟩ : ∃ x : Nat, at0 bs p = (x : Int) := ⟨(at0 bs p).toNat, by omega⟩
  have hx255 : x ≤ 255 := by omega
  have hnx := hide (fun W (hr : RdAt W D v bs p) => next_any D v bs p W hr hB hl)
  rw [hx] at hnx
  have hz0 := hF.size
  clear hx hb h h00
  go_enter Tryz.func57, Tryz.ntmps57
  go_wp2_with fail
  refine ((unhide hnx) _ ((unhide HR).ext (((Ext.refl _).alloc _).alloc _))).mono ?_
  rintro e w1 ⟨rfl, hr1, fr1⟩
  obtain ⟨p1, hp1⟩ : ∃ q, q = (if p < bs.length then p + 1 else p) := ⟨_, rfl⟩
  rw [← hp1] at hr1
  have E00 : Ext w ((w.alloc (.cells #[.string a, .string b, .string c, .slice ua un.length uc] 25)).alloc (.cells #[.string { data := #[] }, .string { data := #[] }, .string { data := #[] }, .slice none 0 0] 25)) := ((Ext.refl w).alloc _).alloc _
  have HL := hide (fr1.kept (((Ext.refl _).alloc (.cells #[.string { data := #[] }, .string { data := #[] }, .string { data := #[] }, .slice none 0 0] 25)).kept (new_block w (.cells #[.string a, .string b, .string c, .slice ua un.length uc] 25))) (by omega))
  have HQ : Hid (w1.heap[w.heap.size + 1]? = some (.cells #[.string { data := #[] }, .string { data := #[] }, .string { data := #[] }, .slice none 0 0] 25 (0, 0))) := hide (fr1.kept (by have h := new_block (w.alloc (.cells #[.string a, .string b, .string c, .slice ua un.length uc] 25)) (.cells #[.string { data := #[] }, .string { data := #[] }, .string { data := #[] }, .slice none 0 0] 25); rw [show (w.alloc (.cells #[.string a, .string b, .string c, .slice ua un.length uc] 25)).heap.size = w.heap.size + 1 by simp] at h; exact h) (by omega))
  have HF := hide ((hF.tr (Fr.of_ext E00)).tr fr1)
  have HO := hide ((hO.ext E00).fr fr1 (fun q hq e9 => by have := (hO.lt q hq).1; omega))
  have HOB : Hid (∀ q, (Value.slice ua un.length uc).ownBlock = some q → q < w.heap.size) := hide (fun q hq => (hO.lt q hq).2)
  have HR1 := hide hr1
  obtain ⟨V, hV⟩ : ∃ V, V = w1.alloc (.cells (odds.map Value.string).toArray 9) := ⟨_, rfl⟩
  have EV : Ext w1 V := by rw [hV]; exact (Ext.refl w1).alloc _
  obtain ⟨od, hod, hoc⟩ := strs_at (xs := odds) (p := w1.heap.size) (w := V) (by rw [hV]; exact new_block w1 _) (x / 8 % 4) (Nat.mod_lt _ (by decide))
  have hodz : od.size ≤ 2 := by have h9 : ∀ t ∈ odds, t.size ≤ 2 := by decide
                                exact h9 od hod
  have HVV := hide (show V = w1.alloc (.cells #[.string { data := #[1] }, .string { data := #[204, 129] }, .string { data := #[255] }, .string { data := #[97, 10] }] 9) from hV)
  have hoc2 := hoc
  rw [unhide HVV] at hoc2
  replace HL := hide (EV.kept (unhide HL))
  replace HQ := hide (EV.kept (unhide HQ))
  replace HF := hide ((unhide HF).tr (Fr.of_ext EV))
  replace HO := hide ((unhide HO).ext EV)
  replace HR1 := hide ((unhide HR1).ext EV)
  have hLV := lt_of_block (unhide HQ)
  obtain ⟨s1, s2, s3, s4, s5⟩ := id hS
  clear hV EV hr1 fr1 hnx hp1 E00 hO hF hod hoc hS
  go_upto_if 18 with fail
  rw [← unhide HVV]
  clear HVV hoc2
  go_cut [3] (fun v3 wq => v3 = .pointer (some ⟨w.heap.size, 0, none⟩) ∧ ∃ (A B C : ByteArray) (UN : List (ByteArray × ByteArray)) (va : Option Addr) (vc : Nat), Hid (Sm2 A B C UN) ∧ Hid (wq.heap[w.heap.size]? = some (.cells #[.string A, .string B, .string C, .slice va UN.length vc] 25 (0, 0))) ∧ Hid (Own2 wq w0.heap.size 49 (.slice va UN.length vc) UN.length (fun j => .string (lnT UN j)) (fun j => .string (lnH UN j))) ∧ Hid (wq.heap[w.heap.size + 1]? = some (.cells #[.string { data := #[] }, .string { data := #[] }, .string { data := #[] }, .slice none 0 0] 25 (0, 0))) ∧ Hid (Fr (fun k => k = D) w0 wq) ∧ Hid (RdAt wq D v bs p1))
  case rest =>
    obtain ⟨rfl, A, B, C, UN, va, vc, HS2, HL2, HO2, HQ2, HF2, HR2⟩ := hcut
    have hzc := lt_of_block (unhide HQ2)
    clear HL HQ HF HO HR1 HOB s1 s2 s3 s4 s5 hodz hLV
    go_wp2_with (first | (refine wpList_load_blk rfl 25 _ rfl (w.heap.size) rfl _ _ _ _ (unhide HL2) Tryz.underlying25 rfl infoL ?_) | (refine wpList_store_blk rfl 25 _ _ rfl rfl (w.heap.size + 1) rfl _ _ #[.string A, .string B, .string C, .slice va UN.length vc] rfl (unhide HQ2) infoL rfl (by simp [Value.oneCell']) ?_; intro Z hyZ hfZ; have HYZ := hide hyZ; have HfZ := hide hfZ; clear hyZ hfZ))
    have y0 : Z.cell? ⟨w.heap.size + 1, 0, none⟩ = some (.string A) := cells_of (unhide HYZ) 0 _ rfl
    have y1 : Z.cell? ⟨w.heap.size + 1, 1, none⟩ = some (.string B) := cells_of (unhide HYZ) 1 _ rfl
    have y2 : Z.cell? ⟨w.heap.size + 1, 2, none⟩ = some (.string C) := cells_of (unhide HYZ) 2 _ rfl
    have y3 : Z.cell? ⟨w.heap.size + 1, 3, none⟩ = some (.slice va UN.length vc) := cells_of (unhide HYZ) 3 _ rfl
    have FZ : Fr (fun k => k = D) w0 Z := (unhide HfZ).upon (unhide HF2) (fun q hq => by omega)
    exact bodyPost_ret (v := .agg #[.string A, .string B, .string C, .slice va UN.length vc]) (by simp [results, Tryz.results57, go_sem, y0, y1, y2, y3]) rfl ⟨⟨A, B, C, UN, _, rfl, unhide HS2, (unhide HO2).fr (unhide HfZ) (fun q hq e9 => own2_off (unhide HO2) (unhide HQ2) q hq e9)⟩, ⟨p1, (unhide HR0).keep (unhide HR2) FZ ((unhide HfZ).block D (by omega) (by omega))⟩, FZ⟩
  case first =>
    by_cases h0 : x % 8 = 0
    · have hq : ((x : Int) % 8 == 0) = true := by rw [beq_iff_eq]; omega
      have hsum : ¬ 9223372036854775807 < a.size + od.size := by omega
      have k0 : V.cell? ⟨w.heap.size, 0, none⟩ = some (.string a) := cells_of (unhide HL) 0 _ rfl
      have f0 : V.frozen? ⟨w.heap.size, 0, none⟩ = false := Lib.frozen_of_heap (unhide HL) 0
      have HLn : Hid ((V.setCell ⟨w.heap.size, 0, none⟩ (.string (a ++ od))).heap[w.heap.size]? = some (.cells #[.string ((a ++ od)), .string (b), .string (c), .slice ua un.length uc] 25 (0, 0))) := hide (set_blk2 (unhide HL) rfl)
      have FT : Fr (fun q => q = w.heap.size) V (V.setCell ⟨w.heap.size, 0, none⟩ (.string (a ++ od))) := Fr.setCell (S := fun q => q = w.heap.size) (Fr.refl _ V) (a := ⟨w.heap.size, 0, none⟩) rfl _
      have HOn := hide ((unhide HO).fr FT (fun q hq e9 => by have := (unhide HOB) q hq; omega))
      have HQn := hide (FT.kept (unhide HQ) (by omega))
      have FZ := FT.upon (unhide HF) (fun q hq => by omega)
      have HFn := hide FZ
      have HRn := hide ((unhide HR0).keep (unhide HR1) FZ (FT.block D (by omega) (by omega)))
      clear FT FZ
      go_wp2
      go_meet
      exact ⟨rfl, (a ++ od), b, c, un, ua, uc, hide ⟨by rw [ByteArray.size_append]; omega, by omega, by omega, by omega, fun s hs => by have := s5 s hs; omega⟩, HLn, HOn, HQn, HFn, HRn⟩
    have n0 : ((x : Int) % 8 == 0) = false := by rw [beq_eq_false_iff_ne]; omega
    rw [n0]
    by_cases h1 : x % 8 = 1
    · have hq : ((x : Int) % 8 == 1) = true := by rw [beq_iff_eq]; omega
      have hsum : ¬ 9223372036854775807 < od.size + b.size := by omega
      have k0 : V.cell? ⟨w.heap.size, 1, none⟩ = some (.string b) := cells_of (unhide HL) 1 _ rfl
      have f0 : V.frozen? ⟨w.heap.size, 1, none⟩ = false := Lib.frozen_of_heap (unhide HL) 1
      have HLn : Hid ((V.setCell ⟨w.heap.size, 1, none⟩ (.string (od ++ b))).heap[w.heap.size]? = some (.cells #[.string (a), .string ((od ++ b)), .string (c), .slice ua un.length uc] 25 (0, 0))) := hide (set_blk2 (unhide HL) rfl)
      have FT : Fr (fun q => q = w.heap.size) V (V.setCell ⟨w.heap.size, 1, none⟩ (.string (od ++ b))) := Fr.setCell (S := fun q => q = w.heap.size) (Fr.refl _ V) (a := ⟨w.heap.size, 1, none⟩) rfl _
      have HOn := hide ((unhide HO).fr FT (fun q hq e9 => by have := (unhide HOB) q hq; omega))
      have HQn := hide (FT.kept (unhide HQ) (by omega))
      have FZ := FT.upon (unhide HF) (fun q hq => by omega)
      have HFn := hide FZ
      have HRn := hide ((unhide HR0).keep (unhide HR1) FZ (FT.block D (by omega) (by omega)))
      clear FT FZ
      go_wp2
      go_meet
      exact ⟨rfl, a, (od ++ b), c, un, ua, uc, hide ⟨by omega, by rw [ByteArray.size_append]; omega, by omega, by omega, fun s hs => by have := s5 s hs; omega⟩, HLn, HOn, HQn, HFn, HRn⟩
    have n1 : ((x : Int) % 8 == 1) = false := by rw [beq_eq_false_iff_ne]; omega
    by_cases h2 : x % 8 = 2
    · have hq : ((x : Int) % 8 == 2) = true := by rw [beq_iff_eq]; omega
      have k0 : V.cell? ⟨w.heap.size, 2, none⟩ = some (.string c) := cells_of (unhide HL) 2 _ rfl
      have f0 : V.frozen? ⟨w.heap.size, 2, none⟩ = false := Lib.frozen_of_heap (unhide HL) 2
      have HLn : Hid ((V.setCell ⟨w.heap.size, 2, none⟩ (.string (od))).heap[w.heap.size]? = some (.cells #[.string (a), .string (b), .string (od), .slice ua un.length uc] 25 (0, 0))) := hide (set_blk2 (unhide HL) rfl)
      have FT : Fr (fun q => q = w.heap.size) V (V.setCell ⟨w.heap.size, 2, none⟩ (.string (od))) := Fr.setCell (S := fun q => q = w.heap.size) (Fr.refl _ V) (a := ⟨w.heap.size, 2, none⟩) rfl _
      have HOn := hide ((unhide HO).fr FT (fun q hq e9 => by have := (unhide HOB) q hq; omega))
      have HQn := hide (FT.kept (unhide HQ) (by omega))
      have FZ := FT.upon (unhide HF) (fun q hq => by omega)
      have HFn := hide FZ
      have HRn := hide ((unhide HR0).keep (unhide HR1) FZ (FT.block D (by omega) (by omega)))
      clear FT FZ
      go_wp2
      go_meet
      exact ⟨rfl, a, b, od, un, ua, uc, hide ⟨by omega, by omega, by omega, by omega, fun s hs => by have := s5 s hs; omega⟩, HLn, HOn, HQn, HFn, HRn⟩
    have n2 : ((x : Int) % 8 == 2) = false := by rw [beq_eq_false_iff_ne]; omega
    by_cases h3 : x % 8 = 3
    · have hq : ((x : Int) % 8 == 3) = true := by rw [beq_iff_eq]; omega
      obtain ⟨isn, hisn, hs0, hs1, hs2⟩ := info_parts infoSnap
      have HLx := HL
      have HOx := HO
      have HQx := HQ
      have HFx := HF
      have HRx := HR1
      have k3 : V.cell? ⟨w.heap.size, 3, none⟩ = some (.slice ua un.length uc) := cells_of (unhide HLx) 3 _ rfl
      have k3a : ∀ o, (V.alloc o).cell? ⟨w.heap.size, 3, none⟩ = some (.slice ua un.length uc) := fun o => ((Ext.refl V).alloc o).cell k3
      have HO6 := hide ((own2_prL (unhide HOx)).alloc (.cells #[.string od, .string { data := #[] }] 49))
      have HS6 := hide (Src.made (w := V) (size := 2) [.string od, .string { data := #[] }] 1 49 rfl (by simp [Value.oneCell']))
      have hzW : w0.heap.size ≤ V.heap.size := (unhide HFx).size
      go_wp2_with (at_builtin; refine StopQ.intro ?_)
      show wpList _ _ _ _ _ _
      refine wpList_app rfl _ _ 23 rfl w0.heap.size 49 isn (.agg #[.string noT, .string noT]) 2 32 Tryz.underlying23 hisn hs0 hs1 hs2 rfl (by decide) _ _ _ rfl (unhide HO6) _ 1 [.string od, .string { data := #[] }] rfl (unhide HS6) (by unfold maxLen; omega) (by omega) (by simp; omega) ?_
      intro v9 w9 o9 G9 _
      obtain ⟨a9, c9, rfl⟩ : ∃ a c, v9 = .slice a (un.length + 1) c := by
        rcases o9.2 with ⟨e, h0⟩ | ⟨g, cap9, cur, e, _⟩
        · omega
        · exact ⟨_, _, e⟩
      have hoff := own2_off (unhide HOx) (unhide HLx)
      have hoff2 := own2_off (unhide HOx) (unhide HQx)
      have hlo : ∀ q, (Value.slice ua un.length uc).ownBlock = some q → w0.heap.size ≤ q := fun q hq => ((unhide HOx).lt q hq).1
      have HL9 : Hid (w9.heap[w.heap.size]? = some (.cells #[.string a, .string b, .string c, .slice ua un.length uc] 25 (0, 0))) := hide ((G9.block _ (by have := lt_of_block (unhide HLx); simp; omega) (fun e9 => hoff _ e9.symm rfl)).trans (((Ext.refl V).alloc _).kept (unhide HLx)))
      have HQ9 : Hid (w9.heap[w.heap.size + 1]? = some (.cells #[.string { data := #[] }, .string { data := #[] }, .string { data := #[] }, .slice none 0 0] 25 (0, 0))) := hide ((G9.block _ (by have := lt_of_block (unhide HQx); simp; omega) (fun e9 => hoff2 _ e9.symm rfl)).trans (((Ext.refl V).alloc _).kept (unhide HQx)))
      have X9 : Fr (fun q => w0.heap.size ≤ q) V w9 := Fr.grown (Fr.of_ext ((Ext.refl V).alloc _)) G9 hlo
      have hD9 : w9.heap[D]? = V.heap[D]? := X9.block D (by omega) (by omega)
      have F9 : Fr (fun k => k = D) w0 w9 := ⟨X9.os.trans (unhide HFx).os, X9.tape.trans (unhide HFx).tape, X9.output.trans (unhide HFx).output, Nat.le_trans (unhide HFx).size X9.size, fun q hq hn => (X9.block q (by have := (unhide HFx).size; omega) (by omega)).trans ((unhide HFx).block q hq hn)⟩
      have HO9 : Hid (Own2 w9 w0.heap.size 49 (.slice a9 (un ++ [(od, noT)]).length c9) (un ++ [(od, noT)]).length (fun j => .string (lnT (un ++ [(od, noT)]) j)) (fun j => .string (lnH (un ++ [(od, noT)]) j))) := hide (own2_prD (by rw [prL_snoc, List.length_append]; exact o9))
      have hoff9 := own2_off (unhide HO9) (unhide HL9)
      have d1 : w9.cell? ⟨w.heap.size, 3, none⟩ = some (.slice ua un.length uc) := cells_of (unhide HL9) 3 _ rfl
      have d2 : w9.frozen? ⟨w.heap.size, 3, none⟩ = false := Lib.frozen_of_heap (unhide HL9) 3
      have FT : Fr (fun q => q = w.heap.size) w9 (w9.setCell ⟨w.heap.size, 3, none⟩ (.slice a9 (un.length + 1) c9)) := Fr.setCell (S := fun q => q = w.heap.size) (Fr.refl _ w9) (a := ⟨w.heap.size, 3, none⟩) rfl _
      have HLn : Hid ((w9.setCell ⟨w.heap.size, 3, none⟩ (.slice a9 (un.length + 1) c9)).heap[w.heap.size]? = some (.cells #[.string a, .string b, .string c, .slice a9 (un ++ [(od, noT)]).length c9] 25 (0, 0))) := hide (set_blk2 (unhide HL9) (by rw [List.length_append]; rfl))
      have HOn := hide ((unhide HO9).fr FT (fun q hq e9 => hoff9 q hq e9))
      have HQn := hide (FT.kept (unhide HQ9) (by omega))
      have FZ := FT.upon F9 (fun q hq => by omega)
      have HFn := hide FZ
      have zW9 := X9.size
      have HRn := hide ((unhide HR0).keep (unhide HRx) FZ ((FT.block D (by omega) (by omega)).trans hD9))
      clear FT FZ o9 G9 X9 F9 hD9 hoff hoff2 hoff9 hlo HO6 HS6 HO9 HL9 HQ9 k3 k3a
      go_wp2
      go_meet
      exact ⟨rfl, a, b, c, un ++ [(od, noT)], a9, c9, hide ⟨by omega, by omega, by omega, by simp; omega, fun s hs => by
        rcases List.mem_append.1 hs with h9 | h9
        · have := s5 s h9; omega
        · simp at h9; subst h9; exact ⟨by show od.size ≤ 4000; omega, by show noT.size ≤ 4000; decide⟩⟩, HLn, HOn, HQn, HFn, HRn⟩
    have n3 : ((x : Int) % 8 == 3) = false := by rw [beq_eq_false_iff_ne]; omega
    by_cases h4 : x % 8 = 4
    · have hq : ((x : Int) % 8 == 4) = true := by rw [beq_iff_eq]; omega
      clear h0 h1 h2 h3 h4
      go_wp2_with fail
      clear hq n0 n1 n2 n3
      go_loopw [7] (fun i9 wr => ∃ (j : Nat) (B : ByteArray), j ≤ 301 ∧ i9 = .int .i64 j ∧ B.size ≤ 2000 + j ∧ Hid (wr.heap[w.heap.size]? = some (.cells #[.string a, .string B, .string c, .slice ua un.length uc] 25 (0, 0))) ∧ Hid (Fr (fun q => q = w.heap.size) V wr)) (fun i9 _ => 301 - (intOf i9).toNat)
      case atStart => exact ⟨0, b, Nat.zero_le _, rfl, by omega, HL, hide (Fr.refl _ V)⟩
      case round =>
        obtain ⟨j, B, hj, rfl, hBs, HX, HFr⟩ := hrel
        by_cases hlt : j < 301
        · have hltI : (j : Int) < 301 := by omega
          have k1 : wr.cell? ⟨w.heap.size, 1, none⟩ = some (.string B) := cells_of (unhide HX) 1 _ rfl
          have f1 : wr.frozen? ⟨w.heap.size, 1, none⟩ = false := Lib.frozen_of_heap (unhide HX) 1
          have hsum : ¬ 9223372036854775807 < B.size + 1 := by omega
          have hs9 : (B ++ ({ data := #[120] } : ByteArray)).size = B.size + 1 := by rw [ByteArray.size_append]; rfl
          have HXn : Hid ((wr.setCell ⟨w.heap.size, 1, none⟩ (.string (B ++ { data := #[120] }))).heap[w.heap.size]? = some (.cells #[.string a, .string (B ++ { data := #[120] }), .string c, .slice ua un.length uc] 25 (0, 0))) := hide (set_blk2 (unhide HX) rfl)
          have HFn := hide (Fr.setCell (S := fun q => q = w.heap.size) (unhide HFr) (a := ⟨w.heap.size, 1, none⟩) rfl (.string (B ++ { data := #[120] })))
          have HS9 := hide hs9
          clear hs9
          go_wp2
          go_roundw
          case rel => exact ⟨j + 1, B ++ { data := #[120] }, by omega, by go_num, by rw [unhide HS9]; omega, HXn, HFn⟩
          case measure => simp [intOf]; omega
        · obtain rfl : j = 301 := by omega
          have hFr := unhide HFr
          have HOn := hide ((unhide HO).fr hFr (fun q hq e9 => by have := (unhide HOB) q hq; omega))
          have HQn := hide (hFr.kept (unhide HQ) (by omega))
          have FZ := hFr.upon (unhide HF) (fun q hq => by omega)
          have HFn := hide FZ
          have HRn := hide ((unhide HR0).keep (unhide HR1) FZ (hFr.block D (by omega) (by omega)))
          clear FZ hFr
          go_wp2
          go_meet
          exact ⟨rfl, a, B, c, un, ua, uc, hide ⟨by omega, by omega, by omega, by omega, fun s hs => by have := s5 s hs; omega⟩, HX, HOn, HQn, HFn, HRn⟩
    · have n4 : ((x : Int) % 8 == 4) = false := by rw [beq_eq_false_iff_ne]; omega
      clear h0 h1 h2 h3 h4
      obtain ⟨isn, hisn, hs0, hs1, hs2⟩ := info_parts infoSnap
      obtain ⟨N, hN⟩ : ∃ N : Nat, (N : Int) = 50 + (x : Int) / 128 := ⟨50 + x / 128, by omega⟩
      have hwN : IntKind.i64.wrap (50 + (x : Int) / 128) = (N : Int) := by rw [IntKind.wrap_i64]; omega
      have hN2 : N ≤ 60 := by omega
      clear hN
      go_wp2_with fail
      clear n0 n1 n2 n3 n4
      go_loopw [60] (fun _ wr => ∃ (UN : List (ByteArray × ByteArray)) (va : Option Addr) (vc : Nat), Hid (UN.length ≤ 60 ∧ ∀ s ∈ UN, s.1.size ≤ 4000 ∧ s.2.size ≤ 4000) ∧ Hid (wr.heap[w.heap.size]? = some (.cells #[.string a, .string b, .string c, .slice va UN.length vc] 25 (0, 0))) ∧ Hid (Own2 wr w0.heap.size 49 (.slice va UN.length vc) UN.length (fun j => .string (lnT UN j)) (fun j => .string (lnH UN j))) ∧ Hid (wr.heap[w.heap.size + 1]? = some (.cells #[.string { data := #[] }, .string { data := #[] }, .string { data := #[] }, .slice none 0 0] 25 (0, 0))) ∧ Hid (Fr (fun k => k = D) w0 wr) ∧ Hid (RdAt wr D v bs p1)) (fun _ wr => 100 - lenAt wr w.heap.size)
      case atStart => exact ⟨un, ua, uc, hide ⟨by omega, fun s hs => by have := s5 s hs; omega⟩, HL, HO, HQ, HF, HR1⟩
      case round =>
        obtain ⟨UN, va, vc, HU, HLx, HOx, HQx, HFx, HRx⟩ := hrel
        have hU := (unhide HU).1
        have k3' : wr.cell? ⟨w.heap.size, 3, none⟩ = some (.slice va UN.length vc) := cells_of (unhide HLx) 3 _ rfl
        have hwr9 := lt_of_block (unhide HQx)
        by_cases hlt : UN.length < N
        · have hltI : (UN.length : Int) < (N : Int) := by omega
          have k3 : wr.cell? ⟨w.heap.size, 3, none⟩ = some (.slice va UN.length vc) := cells_of (unhide HLx) 3 _ rfl
          have k3a : ∀ o, (wr.alloc o).cell? ⟨w.heap.size, 3, none⟩ = some (.slice va UN.length vc) := fun o => ((Ext.refl wr).alloc o).cell k3
          have HO6 := hide ((own2_prL (unhide HOx)).alloc (.cells #[.string ({ data := #[] } : ByteArray), .string { data := #[] }] 49))
          have HS6 := hide (Src.made (w := wr) (size := 2) [.string ({ data := #[] } : ByteArray), .string { data := #[] }] 1 49 rfl (by simp [Value.oneCell']))
          have hzW : w0.heap.size ≤ wr.heap.size := (unhide HFx).size
          go_wp2_with (at_builtin; refine StopQ.intro ?_)
          show wpList _ _ _ _ _ _
          refine wpList_app rfl _ _ 23 rfl w0.heap.size 49 isn (.agg #[.string noT, .string noT]) 2 32 Tryz.underlying23 hisn hs0 hs1 hs2 rfl (by decide) _ _ _ rfl (unhide HO6) _ 1 [.string ({ data := #[] } : ByteArray), .string { data := #[] }] rfl (unhide HS6) (by unfold maxLen; omega) (by omega) (by simp; omega) ?_
          intro v9 w9 o9 G9 _
          obtain ⟨a9, c9, rfl⟩ : ∃ a c, v9 = .slice a (UN.length + 1) c := by
            rcases o9.2 with ⟨e, h0⟩ | ⟨g, cap9, cur, e, _⟩
            · omega
            · exact ⟨_, _, e⟩
          have hoff := own2_off (unhide HOx) (unhide HLx)
          have hoff2 := own2_off (unhide HOx) (unhide HQx)
          have hlo : ∀ q, (Value.slice va UN.length vc).ownBlock = some q → w0.heap.size ≤ q := fun q hq => ((unhide HOx).lt q hq).1
          have HL9 : Hid (w9.heap[w.heap.size]? = some (.cells #[.string a, .string b, .string c, .slice va UN.length vc] 25 (0, 0))) := hide ((G9.block _ (by have := lt_of_block (unhide HLx); simp; omega) (fun e9 => hoff _ e9.symm rfl)).trans (((Ext.refl wr).alloc _).kept (unhide HLx)))
          have HQ9 : Hid (w9.heap[w.heap.size + 1]? = some (.cells #[.string { data := #[] }, .string { data := #[] }, .string { data := #[] }, .slice none 0 0] 25 (0, 0))) := hide ((G9.block _ (by have := lt_of_block (unhide HQx); simp; omega) (fun e9 => hoff2 _ e9.symm rfl)).trans (((Ext.refl wr).alloc _).kept (unhide HQx)))
          have X9 : Fr (fun q => w0.heap.size ≤ q) wr w9 := Fr.grown (Fr.of_ext ((Ext.refl wr).alloc _)) G9 hlo
          have hD9 : w9.heap[D]? = wr.heap[D]? := X9.block D (by omega) (by omega)
          have F9 : Fr (fun k => k = D) w0 w9 := ⟨X9.os.trans (unhide HFx).os, X9.tape.trans (unhide HFx).tape, X9.output.trans (unhide HFx).output, Nat.le_trans (unhide HFx).size X9.size, fun q hq hn => (X9.block q (by have := (unhide HFx).size; omega) (by omega)).trans ((unhide HFx).block q hq hn)⟩
          have HO9 : Hid (Own2 w9 w0.heap.size 49 (.slice a9 (UN ++ [(({ data := #[] } : ByteArray), noT)]).length c9) (UN ++ [(({ data := #[] } : ByteArray), noT)]).length (fun j => .string (lnT (UN ++ [(({ data := #[] } : ByteArray), noT)]) j)) (fun j => .string (lnH (UN ++ [(({ data := #[] } : ByteArray), noT)]) j))) := hide (own2_prD (by rw [prL_snoc, List.length_append]; exact o9))
          have hoff9 := own2_off (unhide HO9) (unhide HL9)
          have d1 : w9.cell? ⟨w.heap.size, 3, none⟩ = some (.slice va UN.length vc) := cells_of (unhide HL9) 3 _ rfl
          have d2 : w9.frozen? ⟨w.heap.size, 3, none⟩ = false := Lib.frozen_of_heap (unhide HL9) 3
          have FT : Fr (fun q => q = w.heap.size) w9 (w9.setCell ⟨w.heap.size, 3, none⟩ (.slice a9 (UN.length + 1) c9)) := Fr.setCell (S := fun q => q = w.heap.size) (Fr.refl _ w9) (a := ⟨w.heap.size, 3, none⟩) rfl _
          have HLn : Hid ((w9.setCell ⟨w.heap.size, 3, none⟩ (.slice a9 (UN.length + 1) c9)).heap[w.heap.size]? = some (.cells #[.string a, .string b, .string c, .slice a9 (UN ++ [(({ data := #[] } : ByteArray), noT)]).length c9] 25 (0, 0))) := hide (set_blk2 (unhide HL9) (by rw [List.length_append]; rfl))
          have HOn := hide ((unhide HO9).fr FT (fun q hq e9 => hoff9 q hq e9))
          have HQn := hide (FT.kept (unhide HQ9) (by omega))
          have FZ := FT.upon F9 (fun q hq => by omega)
          have HFn := hide FZ
          have zW9 := X9.size
          have HRn := hide ((unhide HR0).keep (unhide HRx) FZ ((FT.block D (by omega) (by omega)).trans hD9))
          clear FT FZ o9 G9 X9 F9 hD9 hoff hoff2 hoff9 hlo HO6 HS6 HO9 HL9 HQ9 k3 k3a
          have k9 : (w9.setCell ⟨w.heap.size, 3, none⟩ (.slice a9 (UN.length + 1) c9)).cell? ⟨w.heap.size, 3, none⟩ = some (.slice a9 (UN ++ [(({ data := #[] } : ByteArray), noT)]).length c9) := cells_of (unhide HLn) 3 _ rfl
          have HK9 := hide k9
          clear k9
          have HU2 : Hid ((UN ++ [(({ data := #[] } : ByteArray), noT)]).length ≤ 60 ∧ ∀ s ∈ UN ++ [(({ data := #[] } : ByteArray), noT)], s.1.size ≤ 4000 ∧ s.2.size ≤ 4000) := hide ⟨by simp; omega, fun s hs => by
            rcases List.mem_append.1 hs with h9 | h9
            · exact (unhide HU).2 s h9
            · simp at h9; subst h9; exact ⟨by decide, by show noT.size ≤ 4000; decide⟩⟩
          have HKo := hide k3'
          clear k3'
          go_wp2
          go_roundw
          case rel => exact ⟨_, a9, c9, HU2, HLn, HOn, HQn, HFn, HRn⟩
          case measure => rw [lenAt_eq (unhide HK9), lenAt_eq (unhide HKo)]; simp; omega
        · have hltI : ¬ (UN.length : Int) < (N : Int) := by omega
          go_wp2
          go_meet
          exact ⟨rfl, a, b, c, UN, va, vc, hide ⟨by omega, by omega, by omega, by omega, (unhide HU).2⟩, HLx, HOx, HQx, HFx, HRx⟩
end Go.Proofs.YtokjpnlmkecleaaGreatDoor

namespace Go.Proofs.YtokjpnlmkecleaaGreatDoor
open Go.RowKit
theorem LnD2.reads {base : Nat} {w : World} {e : Ending} (h : LnD2 base w e) : ∃ (a b c : ByteArray) (un : List (ByteArray × ByteArray)) (ua : Option Addr) (uc : Nat), e = .returned (.agg #[.string a, .string b, .string c, .slice ua un.length uc]) ∧ Sm2 a b c un ∧ Own2 w base 49 (.slice ua un.length uc) un.length (fun j => .string (lnT un j)) (fun j => .string (lnH un j)) := by
  obtain ⟨a, b, c, un, v, rfl, h1, h2⟩ := h
  obtain ⟨x, y, rfl, _⟩ := h2.reads
  exact ⟨a, b, c, un, x, y, rfl, h1, h2⟩
set_option maxRecDepth 10000 in
set_option maxHeartbeats 4000000 in
theorem l4DrawAny_any (D : Nat) (v : Value) (bs : List Int) (p : Nat) (w : World) (h : RdAt w D v bs p) (hB : Bytes bs) (hl : bs.length ≤ 16777216) :
    Calls Tryz.prog 23 #[.pointer (some ⟨D, 0, none⟩)] w fun e w' => LnD2 w.heap.size w' e ∧ (∃ p', RdAt w' D v bs p') ∧ Fr (fun k => k = D) w w' := by
  have HR := hide h
  have hDw : D < w.heap.size := lt_of_cell h.1
  have infoL : (Tryz.prog.info? 25).map (·.size) = some 4 := by kernel_rfl
  have hb := hB.at0 p
  obtain ⟨x, hx⟩ : ∃ x : Nat, at0 bs p = (x : Int) := ⟨(at0 bs p).toNat, by omega⟩
  have hx255 : x ≤ 255 := by omega
  have hnx := hide (fun W (hr : RdAt W D v bs p) => next_any D v bs p W hr hB hl)
  rw [hx] at hnx
  clear hx hb h
  go_enter Tryz.func23, Tryz.ntmps23
  go_wp2_with fail
  refine ((unhide hnx) _ ((unhide HR).ext ((Ext.refl _).alloc _))).mono ?_
  rintro e w1 ⟨rfl, hr1, fr1⟩
  obtain ⟨p1, hp1⟩ : ∃ q, q = (if p < bs.length then p + 1 else p) := ⟨_, rfl⟩
  rw [← hp1] at hr1
  have HQ := hide (fr1.kept (new_block w (.cells #[.string { data := #[] }, .string { data := #[] }, .string { data := #[] }, .slice none 0 0] 25)) (by omega))
  have HF := hide ((Fr.of_ext (S := fun k => k = D) ((Ext.refl w).alloc (.cells #[.string { data := #[] }, .string { data := #[] }, .string { data := #[] }, .slice none 0 0] 25))).tr fr1)
  have HFa := hide fr1
  have HDr := hide (l4Draw_any D v bs p1 w1 hr1 hB hl)
  have hz1 : w.heap.size < w1.heap.size := lt_of_block (unhide HQ)
  clear hp1 hr1 fr1 hnx
  go_wp2_with fail
  refine (unhide HDr).mono ?_
  rintro e w2 ⟨⟨a, b, c, un, v2, rfl, hS, hO⟩, ⟨p2, hr2⟩, fr2⟩
  obtain ⟨ua, uc, rfl⟩ : ∃ ua uc, v2 = .slice ua un.length uc := by
    obtain ⟨x, y, e, _⟩ := hO.reads
    exact ⟨x, y, e⟩
  have HQ2 := hide (fr2.kept (unhide HQ) (by omega))
  have HF2 := hide ((unhide HF).tr fr2)
  replace HFa := hide ((unhide HFa).tr fr2)
  have z2 := fr2.size
  have HN := hide (heap_alloc_new w2 (.cells #[.string { data := #[] }, .string { data := #[] }, .string { data := #[] }, .slice none 0 0] 25))
  have HO := hide hO
  have HR2 := hide hr2
  have HS := hide hS
  clear hO hr2 fr2 HDr HQ HF hS
  go_wp2_with (first | (refine wpList_store_blk rfl 25 _ _ rfl rfl (w2.heap.size) rfl _ _ #[.string a, .string b, .string c, .slice ua un.length uc] rfl (unhide HN) infoL rfl (by simp [Value.oneCell']) ?_; intro U hb9 hf9; have HB := hide hb9; have HEU := hide (hf9.ext ((Ext.refl w2).alloc _) (fun q hq => by omega)); clear hb9 hf9; refine StopQ.intro ?_))
  show wpList _ _ _ _ _ _
  have EU := unhide HEU
  have zU := EU.size
  replace HO := hide ((unhide HO).ext EU)
  replace HQ2 := hide (EU.kept (unhide HQ2))
  replace HF2 := hide ((unhide HF2).tr (Fr.of_ext EU))
  replace HFa := hide ((unhide HFa).tr (Fr.of_ext EU))
  replace HR2 := hide ((unhide HR2).ext EU)
  clear EU HEU HN
  by_cases h7 : x % 8 = 7
  · have hq : ((x : Int) % 8 == 7) = true := by rw [beq_iff_eq]; omega
    have HSp := hide (l4Spoil_any D v bs p2 a b c un ua uc (w.alloc (.cells #[.string { data := #[] }, .string { data := #[] }, .string { data := #[] }, .slice none 0 0] 25)) U ⟨p, (unhide HR).ext ((Ext.refl _).alloc _)⟩ (unhide HR2) (unhide HFa) hB hl (unhide HS) ((unhide HO).mono (by simp; omega)))
    go_wp2_with (first | (refine wpList_load_blk rfl 25 _ rfl (w2.heap.size) rfl _ _ _ _ (unhide HB) Tryz.underlying25 rfl infoL ?_))
    refine (unhide HSp).mono ?_
    rintro e w4 ⟨hD2, ⟨p4, hr4⟩, fr4⟩
    obtain ⟨A, B, C, UN, va, vc, rfl, hS2, hO2⟩ := hD2.reads
    have HQ4 := hide (fr4.kept (new_block w (.cells #[.string { data := #[] }, .string { data := #[] }, .string { data := #[] }, .slice none 0 0] 25)) (by omega))
    have HF4 := hide ((Fr.of_ext (S := fun k => k = D) ((Ext.refl w).alloc (.cells #[.string { data := #[] }, .string { data := #[] }, .string { data := #[] }, .slice none 0 0] 25))).tr fr4)
    have HO4 := hide hO2
    have HR4 := hide hr4
    have hz4 := lt_of_block (unhide HQ4)
    have hsz4 : (w.alloc (.cells #[.string { data := #[] }, .string { data := #[] }, .string { data := #[] }, .slice none 0 0] 25)).heap.size = w.heap.size + 1 := by simp
    clear hD2 hO2 hr4 fr4 HSp
    go_wp2_with (first | (refine wpList_store_blk rfl 25 _ _ rfl rfl (w.heap.size) rfl _ _ #[.string A, .string B, .string C, .slice va UN.length vc] rfl (unhide HQ4) infoL rfl (by simp [Value.oneCell']) ?_; intro Z hyZ hfZ; have HYZ := hide hyZ; have HfZ := hide hfZ; clear hyZ hfZ))
    have y0 : Z.cell? ⟨w.heap.size, 0, none⟩ = some (.string A) := cells_of (unhide HYZ) 0 _ rfl
    have y1 : Z.cell? ⟨w.heap.size, 1, none⟩ = some (.string B) := cells_of (unhide HYZ) 1 _ rfl
    have y2 : Z.cell? ⟨w.heap.size, 2, none⟩ = some (.string C) := cells_of (unhide HYZ) 2 _ rfl
    have y3 : Z.cell? ⟨w.heap.size, 3, none⟩ = some (.slice va UN.length vc) := cells_of (unhide HYZ) 3 _ rfl
    have FZ : Fr (fun k => k = D) w Z := (unhide HfZ).upon (unhide HF4) (fun q hq => by omega)
    exact bodyPost_ret (v := .agg #[.string A, .string B, .string C, .slice va UN.length vc]) (by simp [results, Tryz.results23, go_sem, y0, y1, y2, y3]) rfl ⟨⟨A, B, C, UN, _, rfl, hS2, ((unhide HO4).fr (unhide HfZ) (fun q hq e9 => by have := ((unhide HO4).lt q hq).1; omega)).mono (by omega)⟩, ⟨p4, (unhide HR).keep (unhide HR4) FZ ((unhide HfZ).block D (by omega) (by omega))⟩, FZ⟩
  · have hq : ((x : Int) % 8 == 7) = false := by rw [beq_eq_false_iff_ne]; omega
    go_wp2_with (first | (refine wpList_load_blk rfl 25 _ rfl (w2.heap.size) rfl _ _ _ _ (unhide HB) Tryz.underlying25 rfl infoL ?_) | (refine wpList_store_blk rfl 25 _ _ rfl rfl (w.heap.size) rfl _ _ #[.string a, .string b, .string c, .slice ua un.length uc] rfl (unhide HQ2) infoL rfl (by simp [Value.oneCell']) ?_; intro Z hyZ hfZ; have HYZ := hide hyZ; have HfZ := hide hfZ; clear hyZ hfZ))
    have y0 : Z.cell? ⟨w.heap.size, 0, none⟩ = some (.string a) := cells_of (unhide HYZ) 0 _ rfl
    have y1 : Z.cell? ⟨w.heap.size, 1, none⟩ = some (.string b) := cells_of (unhide HYZ) 1 _ rfl
    have y2 : Z.cell? ⟨w.heap.size, 2, none⟩ = some (.string c) := cells_of (unhide HYZ) 2 _ rfl
    have y3 : Z.cell? ⟨w.heap.size, 3, none⟩ = some (.slice ua un.length uc) := cells_of (unhide HYZ) 3 _ rfl
    have FZ : Fr (fun k => k = D) w Z := (unhide HfZ).upon (unhide HF2) (fun q hq => by omega)
    exact bodyPost_ret (v := .agg #[.string a, .string b, .string c, .slice ua un.length uc]) (by simp [results, Tryz.results23, go_sem, y0, y1, y2, y3]) rfl ⟨⟨a, b, c, un, _, rfl, (unhide HS).two, ((unhide HO).fr (unhide HfZ) (fun q hq e9 => by have := ((unhide HO).lt q hq).1; omega)).mono (by omega)⟩, ⟨p2, (unhide HR).keep (unhide HR2) FZ ((unhide HfZ).block D (by omega) (by omega))⟩, FZ⟩
def EdDr (w : World) (e : Ending) : Prop :=
  ∃ (a b c : ByteArray) (un : List (ByteArray × ByteArray)) (ua : Option Addr) (uc : Nat) (kd : Int) (ra : Option Addr) (rc : Nat) (rs : List Int), e = .returned (.tuple #[.agg #[.string a, .string b, .string c, .slice ua un.length uc], .agg #[.int .i64 kd, .slice ra rs.length rc]]) ∧ Sm2 a b c un ∧ LnAt w (.slice ua un.length uc) un ∧ IntsAt w .i32 (.slice ra rs.length rc) rs ∧ I32s rs ∧ rs.length ≤ 1000
set_option linter.unusedSimpArgs false in
set_option maxRecDepth 10000 in
set_option maxHeartbeats 4000000 in
theorem DrawEdit_any (v : Value) (code : List Int) (w : World) (hv : IntsAt w .u8 v code) (hB : Bytes code) (hl : code.length ≤ 1048576) :
    Calls Tryz.prog 6 #[v] w fun e w' => EdDr w' e ∧ Ext w w' := by
  have HOp := hide (fun W (hW : Ext w W) => l1Open_any v code W (hv.ext hW) (by omega))
  have hBt : Bytes (code.take 1000) := fun n hn => hB n (List.mem_of_mem_take hn)
  have hlt : (code.take 1000).length ≤ 16777216 := by rw [List.length_take]; omega
  have infoL : (Tryz.prog.info? 25).map (·.size) = some 4 := by kernel_rfl
  have infoK : (Tryz.prog.info? 28).map (·.size) = some 2 := by kernel_rfl
  obtain ⟨va, vc, rfl, _⟩ := id hv
  clear hv
  go_enter Tryz.func6, Tryz.ntmps6
  go_wp2_with fail
  have E0 := ((Ext.refl w).alloc (.cells #[.string { data := #[] }, .string { data := #[] }, .string { data := #[] }, .slice none 0 0] 25)).alloc (.cells #[.int .i64 0, .slice none 0 0] 28)
  refine ((unhide HOp) _ E0).mono ?_
  rintro e w1 ⟨rfl, ⟨u, r1⟩, E1⟩
  have HL1 := hide (E1.kept (((Ext.refl _).alloc (.cells #[.int .i64 0, .slice none 0 0] 28)).kept (new_block w (.cells #[.string { data := #[] }, .string { data := #[] }, .string { data := #[] }, .slice none 0 0] 25))))
  have hk1 := E1.kept (new_block (w.alloc (.cells #[.string { data := #[] }, .string { data := #[] }, .string { data := #[] }, .slice none 0 0] 25)) (.cells #[.int .i64 0, .slice none 0 0] 28))
  have hzz : (w.alloc (.cells #[.string { data := #[] }, .string { data := #[] }, .string { data := #[] }, .slice none 0 0] 25)).heap.size = w.heap.size + 1 := by simp
  rw [hzz] at hk1
  have HK1 := hide hk1
  obtain ⟨D, hD⟩ : ∃ D, D = ((w.alloc (.cells #[.string { data := #[] }, .string { data := #[] }, .string { data := #[] }, .slice none 0 0] 25)).alloc (.cells #[.int .i64 0, .slice none 0 0] 28)).heap.size := ⟨_, rfl⟩
  rw [← hD] at r1 ⊢
  have hwD : w.heap.size + 1 < D := by rw [hD]; simp
  have hDw1 : D < w1.heap.size := lt_of_cell r1.1
  have HE1 := hide (E0.trans E1)
  have HKy := hide (l4Key_any D u _ 0 w1 r1 hBt hlt)
  clear HOp E0 E1 r1 hD hk1 hzz
  go_wp2_with fail
  refine (unhide HKy).mono ?_
  rintro e w2 ⟨⟨kd, kv, rs, rfl, ok, hI, hr⟩, ⟨p2, r2⟩, f2⟩
  obtain ⟨ra, rc, rfl, _⟩ := ints_of_owns ok
  have hz1 := (unhide HE1).size
  have hkz := lt_of_block (unhide HK1)
  have HE2 := hide (f2.ext (unhide HE1) (fun q hq => by omega))
  have HL2 := hide (f2.kept (unhide HL1) (by omega))
  have HK2 := hide (f2.kept (unhide HK1) (by omega))
  have z12 := f2.size
  have HOk := hide ok
  have HR2 := hide r2
  clear HKy HE1 HL1 HK1 ok r2 f2
  obtain ⟨V, hV⟩ : ∃ V, V = w2.alloc (.cells #[.int .i64 kd, .slice ra rs.length rc] 28) := ⟨_, rfl⟩
  have EV : Ext w2 V := by rw [hV]; exact (Ext.refl w2).alloc _
  have HBV : Hid (V.heap[w2.heap.size]? = some (.cells #[.int .i64 kd, .slice ra rs.length rc] 28 (0, 0))) := hide (by rw [hV]; exact new_block w2 _)
  have zV := EV.size
  have HLV := hide (EV.kept (unhide HL2))
  have HKV := hide (EV.kept (unhide HK2))
  have HOV := hide (Ext.owns EV (unhide HOk))
  have HEV := hide ((unhide HE2).trans EV)
  have HRV := hide ((unhide HR2).ext EV)
  have HW := hide hV
  have hbz := lt_of_block (unhide HBV)
  have hlz := lt_of_block (unhide HL2)
  clear hV EV HL2 HK2 HE2 HOk HR2
  go_upto_region 3 with fail
  rw [← unhide HW]
  clear HW
  refine wp_region_held_drew (S := fun W => W.heap[w2.heap.size]? = some (.cells #[.int .i64 kd, .slice ra rs.length rc] 28 (0, 0))) (by kernel_rfl) (unhide HBV) (fun hHeld => ?_)
  refine wpAnyH_take (i := 0) (v := ?_) rfl (by kernel_rfl) (by kernel_rfl) (by kernel_rfl) (fun _ _ _ h => h) (Or.inl ⟨by rfl, ?_⟩) (by assumption) ?_
  rotate_left
  · intro w' hSw; go_simp <;> with_reducible rfl
  simp only [Act.put, qA, qB, qC, qD, qE, qF]
  refine wpAnyH_take (i := 2) (v := .agg #[.int .i64 kd, .slice ra rs.length rc]) rfl (by kernel_rfl) (by kernel_rfl) (by kernel_rfl) (fun _ _ _ h => h) (Or.inl ⟨by rfl, ?_⟩) (by assumption) ?_
  · intro w' hSw; exact yields_load_blk 28 _ rfl (w2.heap.size) rfl _ _ _ _ hSw Tryz.underlying28 rfl infoK
  simp only [Act.put, qA, qB, qC, qD, qE, qF]
  have GV := (Ext.refl V).drew
  have HDr := hide (l4DrawAny_any D u _ p2 V.drew ((unhide HRV).ext GV) hBt hlt)
  replace HBV := hide (GV.kept (unhide HBV))
  replace HLV := hide (GV.kept (unhide HLV))
  replace HKV := hide (GV.kept (unhide HKV))
  replace HOV := hide (Ext.owns GV (unhide HOV))
  replace HEV := hide ((unhide HEV).trans GV)
  have zg := GV.size
  clear HRV GV
  generalize V.drew = V0 at *
  refine wpAnyH_ready (rs := [1]) (by kernel_rfl) (by simp) ?_
  refine AllReadyH.cons rfl (fun K hK => ?_) AllReadyH.nil
  go_simp
  refine (unhide HDr).mono ?_
  rintro e w4 ⟨hD2, ⟨p4, hr4⟩, fr4⟩
  obtain ⟨A, B, C, UN, va2, vc2, rfl, hS2, hO2⟩ := hD2.reads
  have HE4 := hide (fr4.ext (unhide HEV) (fun q hq => by omega))
  have HL4 := hide (fr4.kept (unhide HLV) (by omega))
  have HK4 := hide (fr4.kept (unhide HKV) (by omega))
  have HB4 := hide (fr4.kept (unhide HBV) (by omega))
  have hoD : ∀ g, Value.ownBlock (.slice ra rs.length rc) = some g → ¬ g = D := fun g hg e9 => by
    have := ((unhide HOV).lt g hg).1; omega
  have HO4 := hide (fr4.owns (unhide HOV) hoD)
  have HQ4 := hide hO2
  have z4 := fr4.size
  clear hD2 hO2 hr4 fr4 HDr HLV HKV HBV HOV HEV
  refine hK.out _ _ (unhide HB4) (fun hHeld => ?_)
  clear hK K
  have hQL : ∀ q, Value.ownBlock (.slice va2 UN.length vc2) = some q → V0.heap.size ≤ q ∧ q < w4.heap.size := fun q hq => (unhide HQ4).lt q hq
  have hkL : ∀ g, Value.ownBlock (.slice ra rs.length rc) = some g → w1.heap.size ≤ g := fun g hg => ((unhide HO4).lt g hg).1
  refine wpAnyH_ready (rs := [3]) (by kernel_rfl) (by simp) ?_
  refine AllReadyH.cons rfl (fun K hK => ?_) AllReadyH.nil
  refine wp_store_blk 25 _ _ rfl rfl (w.heap.size) rfl _ _ #[.string A, .string B, .string C, .slice va2 UN.length vc2] rfl (unhide HL4) infoL rfl (by simp [Value.oneCell']) ?_
  intro X hyX hfX
  refine hK.out _ _ (hfX.kept (unhide HB4) (by omega)) (fun hHeld => ?_)
  have HLX := hide hyX
  have HKX := hide (hfX.kept (unhide HK4) (by omega))
  have HOX := hide (hfX.owns (unhide HO4) (fun g hg e9 => by have := hkL g hg; omega))
  have HQX := hide ((unhide HQ4).fr hfX (fun q hq e9 => by have := (hQL q hq).1; omega))
  have HEX := hide (hfX.ext (unhide HE4) (fun q hq => by omega))
  have zX := hfX.size
  have HBX := hide (hfX.kept (unhide HB4) (by omega))
  clear hK K hyX hfX HL4 HK4 HO4 HQ4 HE4 HB4
  refine wpAnyH_ready (rs := [4]) (by kernel_rfl) (by simp) ?_
  refine AllReadyH.cons rfl (fun K hK => ?_) AllReadyH.nil
  refine wp_store_blk 28 _ _ rfl rfl (w.heap.size + 1) rfl _ _ #[.int .i64 kd, .slice ra rs.length rc] rfl (unhide HKX) infoK rfl (by simp [Value.oneCell']) ?_
  intro Y hyY hfY
  refine hK.out _ _ (hfY.kept (unhide HBX) (by omega)) (fun hHeld => ?_)
  have HKY := hide hyY
  have HLY := hide (hfY.kept (unhide HLX) (by omega))
  have HOY := hide (hfY.owns (unhide HOX) (fun g hg e9 => by have := hkL g hg; omega))
  have HQY := hide ((unhide HQX).fr hfY (fun q hq e9 => by have := (hQL q hq).1; omega))
  have HEY := hide (hfY.ext (unhide HEX) (fun q hq => by omega))
  clear hK K hyY hfY HLX HKX HOX HQX HEX HBX
  refine wpAnyH_done (by kernel_rfl) ?_ _
  go_wp2
  have y0 : Y.cell? ⟨w.heap.size, 0, none⟩ = some (.string A) := cells_of (unhide HLY) 0 _ rfl
  have y1 : Y.cell? ⟨w.heap.size, 1, none⟩ = some (.string B) := cells_of (unhide HLY) 1 _ rfl
  have y2 : Y.cell? ⟨w.heap.size, 2, none⟩ = some (.string C) := cells_of (unhide HLY) 2 _ rfl
  have y3 : Y.cell? ⟨w.heap.size, 3, none⟩ = some (.slice va2 UN.length vc2) := cells_of (unhide HLY) 3 _ rfl
  have k0 : Y.cell? ⟨w.heap.size + 1, 0, none⟩ = some (.int .i64 kd) := cells_of (unhide HKY) 0 _ rfl
  have k1 : Y.cell? ⟨w.heap.size + 1, 1, none⟩ = some (.slice ra rs.length rc) := cells_of (unhide HKY) 1 _ rfl
  exact bodyPost_ret (v := .tuple #[.agg #[.string A, .string B, .string C, .slice va2 UN.length vc2], .agg #[.int .i64 kd, .slice ra rs.length rc]]) (by simp [results, Tryz.results6, go_sem, y0, y1, y2, y3, k0, k1]) rfl ⟨⟨A, B, C, UN, va2, vc2, kd, ra, rc, rs, rfl, hS2, (unhide HQY).reads, ints_of_owns (unhide HOY), hI, hr⟩, unhide HEY⟩
end Go.Proofs.YtokjpnlmkecleaaGreatDoor

namespace Go.Proofs.YtokjpnlmkecleaaGreatDoor
open Go.RowKit
section
variable {a b c : ByteArray} {un : List (ByteArray × ByteArray)}
def Idle (a b c : ByteArray) (un : List (ByteArray × ByteArray)) (o : LD) : Prop := o.d ≠ 1 → o.a = a ∧ o.b = b ∧ o.c = c ∧ o.un = un
theorem edF_idle (kd : Int) (rs : List Int) : Idle a b c un (edF a b c un kd rs) := by
  have same : ∀ d, Idle a b c un ⟨a, b, c, un, d⟩ := fun d _ => ⟨rfl, rfl, rfl, rfl⟩
  have one : ∀ x y z v, Idle a b c un ⟨x, y, z, v, 1⟩ := fun x y z v h => absurd rfl h
  have key : ∀ (p : Prop) [Decidable p] (x y : LD), Idle a b c un x → Idle a b c un y → Idle a b c un (if p then x else y) := by
    intro p _ x y hx hy
    by_cases h : p
    · rw [if_pos h]; exact hx
    · rw [if_neg h]; exact hy
  unfold edF edPut edBack edDel edLeft edRight edHome edEnd edWl edWr edKe edKs edKw edYank edSwap edUndo edSet edMv
  repeat' first | refine key _ _ _ ?_ ?_ | exact one _ _ _ _ | exact same _
theorem edA_yes (h : LineP a b c un.length (lnT un) (lnH un)) (kd : Int) (rs : List Int) : edA a b c un kd rs = edF a b c un kd rs := by
  unfold edA
  rw [if_pos h]
theorem edA_not (h : ¬ LineP a b c un.length (lnT un) (lnH un)) (kd : Int) (rs : List Int) : edA a b c un kd rs = ⟨a, b, c, un, 0⟩ := by
  unfold edA
  rw [if_neg h]
theorem edA_idle (kd : Int) (rs : List Int) : Idle a b c un (edA a b c un kd rs) := by
  by_cases h : LineP a b c un.length (lnT un) (lnH un)
  · rw [edA_yes h]; exact edF_idle kd rs
  · rw [edA_not h]; exact fun _ => ⟨rfl, rfl, rfl, rfl⟩
theorem edA_okL (kd : Int) (rs : List Int) : OkL (edA a b c un kd rs) ↔ LineP a b c un.length (lnT un) (lnH un) := by
  by_cases h : LineP a b c un.length (lnT un) (lnH un)
  · rw [edA_yes h]; exact ⟨fun _ => h, fun _ => edF_ok h kd rs⟩
  · rw [edA_not h]; exact Iff.rfl
theorem edA_did {kd : Int} {rs : List Int} (h : (edA a b c un kd rs).d = 1) : LineP a b c un.length (lnT un) (lnH un) := by
  by_cases h1 : LineP a b c un.length (lnT un) (lnH un)
  · exact h1
  · rw [edA_not h1] at h; simp at h
theorem edA_undo {rs : List Int} (h : (edA a b c un 17 rs).d = 1) : 0 < un.length ∧ (edA a b c un 17 rs).a = lnT un (un.length - 1) ∧ (edA a b c un 17 rs).b = lnH un (un.length - 1) := by
  have hP := edA_did h
  rw [edA_yes hP] at h ⊢
  have e : edF a b c un 17 rs = edUndo a b c un := by simp [edF]
  rw [e] at h ⊢
  unfold edUndo at h ⊢
  by_cases h0 : un.length = 0
  · rw [if_pos h0] at h; simp at h
  · rw [if_neg h0]; exact ⟨by omega, rfl, rfl⟩
theorem encA_pos {xs : List Int} (h : xs ≠ []) : 0 < (encA xs).length := by
  cases xs with
  | nil => exact absurd rfl h
  | cons x xs => rw [encA, List.length_append]; have := encR_pos x; omega
theorem textC_posN {X : List (List Int × Int)} (h : ∀ c ∈ X, GoodC c) (hn : 0 < X.length) : 0 < (textC X).length := by
  cases X with
  | nil => simp at hn
  | cons c X =>
    rw [textC_flat]
    refine encA_pos ?_
    simp only [flat]
    intro e
    exact goodC_ne (h c (by simp)) (List.append_eq_nil_iff.1 e).1
theorem edMv_move (h : LineP a b c un.length (lnT un) (lnH un)) (n : Nat) (hn : n ≤ (cutC (baL a)).length + (cutC (baL b)).length) (hne : n ≠ (cutC (baL a)).length) :
    (edMv a b c un n).a ++ (edMv a b c un n).b = a ++ b ∧ (edMv a b c un n).a ≠ a := by
  obtain ⟨_, ⟨sa, sb, _⟩, _, _⟩ := h
  have tB : textC (cutC (baL b)) = baL b := sb
  have tA : textC (cutC (baL a)) = baL a := sa
  have gA := cut_good (baL a)
  have gB := cut_good (baL b)
  constructor
  · show toBA _ ++ toBA _ = _
    rw [toBA_app, ← textC_app, List.take_append_drop, textC_app, tA, tB, ← toBA_app, toBA_baL, toBA_baL]
  · intro e
    have e2 : textC ((cutC (baL a) ++ cutC (baL b)).take n) = textC (cutC (baL a)) := by
      rw [tA]
      exact (baL_text _).symm.trans (congrArg baL e)
    by_cases hl : n < (cutC (baL a)).length
    · rw [List.take_append_of_le_length (by omega)] at e2
      have h1 : textC (cutC (baL a)) = textC ((cutC (baL a)).take n) ++ textC ((cutC (baL a)).drop n) := by rw [← textC_app, List.take_append_drop]
      rw [h1] at e2
      have h2 := congrArg List.length e2
      rw [List.length_append] at h2
      have := textC_posN (X := (cutC (baL a)).drop n) (fun x hx => gA x (List.mem_of_mem_drop hx)) (by rw [List.length_drop]; omega)
      omega
    · rw [List.take_append, List.take_of_length_le (by omega), textC_app] at e2
      have h2 := congrArg List.length e2
      rw [List.length_append] at h2
      have := textC_posN (X := (cutC (baL b)).take (n - (cutC (baL a)).length)) (fun x hx => gB x (List.mem_of_mem_take hx)) (by rw [List.length_take]; omega)
      omega
def MvKind (kd : Int) : Prop := (6 ≤ kd ∧ kd ≤ 9) ∨ kd = 18 ∨ kd = 19
theorem edA_move {kd : Int} {rs : List Int} (hk : MvKind kd) (h : (edA a b c un kd rs).d = 1) :
    (edA a b c un kd rs).a ++ (edA a b c un kd rs).b = a ++ b ∧ (edA a b c un kd rs).a ≠ a ∧ (edA a b c un kd rs).c = c ∧ (edA a b c un kd rs).un = un := by
  have hP := edA_did h
  rw [edA_yes hP] at h ⊢
  have hL := wdL_le (cutC (baL a))
  have hR := wdR_le (cutC (baL b))
  have go : ∀ n, n ≤ (cutC (baL a)).length + (cutC (baL b)).length → n ≠ (cutC (baL a)).length → (edMv a b c un n).a ++ (edMv a b c un n).b = a ++ b ∧ (edMv a b c un n).a ≠ a ∧ (edMv a b c un n).c = c ∧ (edMv a b c un n).un = un :=
    fun n h1 h2 => ⟨(edMv_move hP n h1 h2).1, (edMv_move hP n h1 h2).2, rfl, rfl⟩
  rcases (by unfold MvKind at hk; omega : kd = 6 ∨ kd = 7 ∨ kd = 8 ∨ kd = 9 ∨ kd = 18 ∨ kd = 19) with rfl | rfl | rfl | rfl | rfl | rfl
  · have e : edF a b c un 6 rs = edLeft a b c un := by simp [edF]
    rw [e] at h ⊢; unfold edLeft at h ⊢
    split at h
    · simp at h
    · rename_i h0; rw [if_neg h0]; exact go _ (by omega) (by omega)
  · have e : edF a b c un 7 rs = edRight a b c un := by simp [edF]
    rw [e] at h ⊢; unfold edRight at h ⊢
    split at h
    · simp at h
    · rename_i h0; rw [if_neg h0]; exact go _ (by omega) (by omega)
  · have e : edF a b c un 8 rs = edHome a b c un := by simp [edF]
    rw [e] at h ⊢; unfold edHome at h ⊢
    split at h
    · simp at h
    · rename_i h0; rw [if_neg h0]; exact go _ (by omega) (by omega)
  · have e : edF a b c un 9 rs = edEnd a b c un := by simp [edF]
    rw [e] at h ⊢; unfold edEnd at h ⊢
    split at h
    · simp at h
    · rename_i h0; rw [if_neg h0]; exact go _ (by omega) (by omega)
  · have e : edF a b c un 18 rs = edWl a b c un := by simp [edF]
    rw [e] at h ⊢; unfold edWl at h ⊢
    split at h
    · simp at h
    · rename_i h0; rw [if_neg h0]; exact go _ (by omega) (by omega)
  · have e : edF a b c un 19 rs = edWr a b c un := by simp [edF]
    rw [e] at h ⊢; unfold edWr at h ⊢
    split at h
    · simp at h
    · rename_i h0; rw [if_neg h0]; exact go _ (by omega) (by omega)
def Put1 (a b : ByteArray) (un : List (ByteArray × ByteArray)) (o : LD) : Prop := o.d = 1 → o.un = undoN un (a, b)
theorem edF_put {kd : Int} (rs : List Int) (hk : ¬ MvKind kd) (hu : kd ≠ 17) : Put1 a b un (edF a b c un kd rs) := by
  have set : ∀ x y z d, Put1 a b un ⟨x, y, z, undoN un (a, b), d⟩ := fun x y z d _ => rfl
  have two : Put1 a b un ⟨a, b, c, un, 2⟩ := fun h => by simp at h
  have zer : Put1 a b un ⟨a, b, c, un, 0⟩ := fun h => by simp at h
  have eig : Put1 a b un ⟨a, b, c, un, 8⟩ := fun h => by simp at h
  have key : ∀ (p : Prop) [Decidable p] (x y : LD), (p → Put1 a b un x) → (¬ p → Put1 a b un y) → Put1 a b un (if p then x else y) := by
    intro p _ x y hx hy
    by_cases h : p
    · rw [if_pos h]; exact hx h
    · rw [if_neg h]; exact hy h
  unfold MvKind at hk
  have lst : Put1 a b un ⟨a, b, c, un, if kd = 3 then 3 else if kd = 21 then 4 else if kd = 10 then 5 else if kd = 11 then 6 else if kd = 20 then 7 else 0⟩ := fun h => by
    simp only [] at h
    repeat' split at h
    all_goals omega
  unfold edF edPut edBack edDel edKe edKs edKw edYank edSwap edSet
  repeat' first | refine key _ _ _ (fun _ => ?_) (fun _ => ?_) | exact set _ _ _ _ | exact two | exact zer | exact eig | exact lst | (intro _; omega)
theorem undoN_last (un : List (ByteArray × ByteArray)) (s : ByteArray × ByteArray) : 0 < (undoN un s).length ∧ lnT (undoN un s) ((undoN un s).length - 1) = s.1 ∧ lnH (undoN un s) ((undoN un s).length - 1) = s.2 := by
  have h : ∃ X, undoN un s = X ++ [s] := by
    unfold undoN
    split
    · cases un with
      | nil => simp at *
      | cons x xs => exact ⟨xs, by simp⟩
    · exact ⟨un, rfl⟩
  obtain ⟨X, e⟩ := h
  have h9 : (undoN un s)[(undoN un s).length - 1]? = some s := by rw [e]; simp
  exact ⟨by rw [e]; simp, lnT_at h9, lnH_at h9⟩
theorem edA_back {kd : Int} {rs : List Int} (hk : ¬ MvKind kd) (hu : kd ≠ 17) (h : (edA a b c un kd rs).d = 1) (o : LD) (ho : o = edA a b c un kd rs) :
    (edA o.a o.b o.c o.un 17 []).d = 1 ∧ (edA o.a o.b o.c o.un 17 []).a = a ∧ (edA o.a o.b o.c o.un 17 []).b = b ∧ OkL (edA o.a o.b o.c o.un 17 []) := by
  have hP := edA_did h
  have hk2 := edF_put (a := a) (b := b) (c := c) (un := un) rs hk hu
  rw [← edA_yes hP, ← ho] at hk2
  have hO : OkL o := by rw [ho]; exact (edA_okL kd rs).2 hP
  have hun := hk2 (by rw [ho]; exact h)
  obtain ⟨l1, l2, l3⟩ := undoN_last un (a, b)
  have e : edF o.a o.b o.c o.un 17 [] = edUndo o.a o.b o.c o.un := by simp [edF]
  have hF := edF_ok hO 17 []
  rw [edA_yes hO]
  rw [e] at hF ⊢
  have e2 : edUndo o.a o.b o.c o.un = ⟨a, b, o.c, o.un.take (o.un.length - 1), 1⟩ := by
    unfold edUndo
    rw [if_neg (by rw [hun]; omega), hun, l2, l3]
  rw [e2] at hF ⊢
  exact ⟨rfl, rfl, rfl, hF⟩
end
end Go.Proofs.YtokjpnlmkecleaaGreatDoor
