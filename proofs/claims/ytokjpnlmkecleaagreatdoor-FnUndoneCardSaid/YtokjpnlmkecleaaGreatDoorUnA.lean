import Derived.Test.YtokjpnlmkecleaaGreatDoorYkU
import Derived.Test.YtokjpnlmkecleaaGreatDoorLineS2
import Derived.Test.YtokjpnlmkecleaaGreatDoorItemOk
namespace Go.Proofs.YtokjpnlmkecleaaGreatDoor
open Go.RowKit
set_option linter.unusedSimpArgs false in
set_option maxRecDepth 10000 in
set_option maxHeartbeats 4000000 in
theorem fnUndone_walk (v : Value) (code : List Int) (w : World) (hv : IntsAt w .u8 v code) (hB : Bytes code) (hT : Tabs3 w) :
    Calls Tryz.prog 5 #[v] w fun e w' => e = .returned (.bool true) ∧ Below w.heap.size w w' := by
  have infoL : (Tryz.prog.info? 25).map (·.size) = some 4 := by kernel_rfl
  have infoK : (Tryz.prog.info? 28).map (·.size) = some 2 := by kernel_rfl
  have HD := hide (fun (hl : code.length ≤ 1048576) => DrawEdit_any v code w hv hB hl)
  have HT := hide hT
  obtain ⟨va, vc, rfl, _⟩ := id hv
  clear hv hT
  by_cases hl : code.length ≤ 1048576
  · have hl2 : ¬ ((1048576 : Int) < (code.length : Int)) := by omega
    go_enter Tryz.func5, Tryz.ntmps5
    go_wp2_with fail
    refine ((unhide HD) hl).mono ?_
    rintro e w1 ⟨⟨a, b, c, un, ua, uc, kd, ra, rc, rs, rfl, hS, hU, hR, hI, hr⟩, E1⟩
    have HS := hide hS
    obtain ⟨s1, s2, s3, s4, s5⟩ := id hS
    have EV := ((Ext.refl w1).alloc (.cells #[.string a, .string b, .string c, .slice ua un.length uc] 25)).alloc (.cells #[.int .i64 kd, .slice ra rs.length rc] 28)
    have bL := ((Ext.refl _).alloc (.cells #[.int .i64 kd, .slice ra rs.length rc] 28)).kept (new_block w1 (.cells #[.string a, .string b, .string c, .slice ua un.length uc] 25))
    have bK := new_block (w1.alloc (.cells #[.string a, .string b, .string c, .slice ua un.length uc] 25)) (.cells #[.int .i64 kd, .slice ra rs.length rc] 28)
    have hz : (w1.alloc (.cells #[.string a, .string b, .string c, .slice ua un.length uc] 25)).heap.size = w1.heap.size + 1 := by simp
    rw [hz] at bK
    clear hz
    obtain ⟨V, hV⟩ : ∃ V, V = (w1.alloc (.cells #[.string a, .string b, .string c, .slice ua un.length uc] 25)).alloc (.cells #[.int .i64 kd, .slice ra rs.length rc] 28) := ⟨_, rfl⟩
    rw [← hV] at EV bL bK
    have HV := hide hV
    clear hV
    obtain ⟨o, ho⟩ : ∃ o, o = edA a b c un kd rs := ⟨_, rfl⟩
    have hSE := specEdit_all a b c (.slice ua un.length uc) un.length (lnT un) (lnH un) kd (.slice ra rs.length rc) rs V (Row2At.ext hU EV) (by omega) (by omega) (by omega) (by omega) hS.each (hR.ext EV) hI
    have HIE := hide (fun W (hW : Ext w1 W) => implEdit_all a b c (.slice ua un.length uc) un.length (lnT un) (lnH un) kd (.slice ra rs.length rc) rs W (Row2At.ext hU hW) (by omega) (by omega) (by omega) (by omega) hS.each ((unhide HT).ext (E1.trans hW)) (hR.ext hW) hI (by omega))
    rw [unL_ln, ← ho] at hSE HIE
    have HSE := hide hSE
    have HU := hide hU
    have HE1 := hide E1
    have HEV := hide EV
    have HBL := hide bL
    have HBK := hide bK
    have HO := hide ho
    have HSo : Hid (Sm2 o.a o.b o.c o.un) := hide (by rw [ho]; exact edA_sm2 hS kd rs)
    have HI := hide hI
    clear hSE hU hR hI hS s5 HD E1 EV bL bK ho
    go_wp2_with fail
    rw [← unhide HV]
    clear HV
    refine (unhide HSE).mono ?_
    rintro e w2 ⟨⟨v2, rfl, o2⟩, E2⟩
    obtain ⟨ta, tc, rfl, _⟩ := o2.reads
    have HE2 := hide ((unhide HEV).trans E2)
    have kL := fun (q : Obj) => ((Ext.refl w2).alloc q).kept (E2.kept (unhide HBL))
    have kK := fun (q : Obj) => ((Ext.refl w2).alloc q).kept (E2.kept (unhide HBK))
    have l0 := fun q => cells_of (kL q) 0 _ rfl
    have l1 := fun q => cells_of (kL q) 1 _ rfl
    have l2 := fun q => cells_of (kL q) 2 _ rfl
    have l3 := fun q => cells_of (kL q) 3 _ rfl
    have k0 := fun q => cells_of (kK q) 0 _ rfl
    have k1 := fun q => cells_of (kK q) 1 _ rfl
    have KL := hide kL
    have KK := hide kK
    clear kL kK o2 E2 HSE HBL HBK HEV
    go_wp2_with fail
    refine ((unhide HIE) _ ((unhide HE2).alloc _)).mono ?_
    rintro e w3 ⟨⟨v3, rfl, o3⟩, E3⟩
    obtain ⟨na, nc, rfl, _⟩ := id o3.reads
    have bL := E3.kept ((unhide KL) (.cells #[.string o.a, .string o.b, .string o.c, .slice ta o.un.length tc] 25))
    have bK := E3.kept ((unhide KK) (.cells #[.string o.a, .string o.b, .string o.c, .slice ta o.un.length tc] 25))
    have E3' := ((unhide HE2).alloc (.cells #[.string o.a, .string o.b, .string o.c, .slice ta o.un.length tc] 25)).trans E3
    obtain ⟨X, hX⟩ : ∃ X, X = w3.alloc (.cells #[.string o.a, .string o.b, .string o.c, .slice na o.un.length nc] 25) := ⟨_, rfl⟩
    have EX : Ext w3 X := by rw [hX]; exact (Ext.refl w3).alloc _
    have HBN : Hid (X.heap[w3.heap.size]? = some (.cells #[.string o.a, .string o.b, .string o.c, .slice na o.un.length nc] 25 (0, 0))) := hide (by rw [hX]; exact new_block w3 _)
    have HBL := hide (EX.kept bL)
    have HBK := hide (EX.kept bK)
    have HOX := hide (Row2At.ext o3.reads EX)
    have HEX := hide (E3'.trans EX)
    have HXX := hide hX
    clear HIE l0 l1 l2 l3 k0 k1 KL KK o3 E3 E3' bL bK HE2 EX hX
    go_upto_region 6 with fail
    rw [← unhide HXX]
    clear HXX
    obtain ⟨ok, hok⟩ := ex_bool (LineP a b c un.length (lnT un) (lnH un))
    have hok2 : ok = true ↔ LineP o.a o.b o.c o.un.length (lnT o.un) (lnH o.un) := by rw [hok, unhide HO]; exact (edA_okL kd rs).symm
    obtain ⟨t1, t2, t3, t4, _⟩ := id (unhide HSo)
    have HLI := hide (fun W (hW : Ext X W) => implLineOk_any o.a o.b o.c (.slice na o.un.length nc) o.un.length (lnT o.un) (lnH o.un) W ((unhide HOX).ext hW) (by omega) (by omega) (by omega) (by omega) (unhide HSo).each ((unhide HT).ext (((unhide HE1).trans (unhide HEX)).trans hW)) ok hok2)
    have HLS := hide (fun W (hW : Ext X W) => specLineOk_all a b c ua un.length uc (lnT un) (lnH un) W (Row2At.ext (unhide HU) ((unhide HEX).trans hW)) (by omega) (by omega) (by omega) (unhide HS).each ok hok)
    clear hok hok2
    have hneq : (o.d != o.d) = false := by simp
    refine wp_region_held_drew (S := fun W => W.heap[w3.heap.size]? = some (.cells #[.string o.a, .string o.b, .string o.c, .slice na o.un.length nc] 25 (0, 0)) ∧ W.heap[w1.heap.size]? = some (.cells #[.string a, .string b, .string c, .slice ua un.length uc] 25 (0, 0))) (by kernel_rfl) ⟨unhide HBN, unhide HBL⟩ (fun hHeld => ?_)
    refine wpAnyH_take (i := 0) (v := ?_) rfl (by kernel_rfl) (by kernel_rfl) (by kernel_rfl) (fun _ _ _ h => h) (Or.inl ⟨by rfl, ?_⟩) (by assumption) ?_
    rotate_left
    · intro w' hSw; go_simp <;> with_reducible rfl
    simp only [Act.put, qA, qB, qC, qD, qE, qF]
    refine wpAnyH_take (i := 1) (v := ?_) rfl (by kernel_rfl) (by kernel_rfl) (by kernel_rfl) (fun _ _ _ h => h) (Or.inl ⟨by rfl, ?_⟩) (by assumption) ?_
    rotate_left
    · intro w' hSw; go_simp <;> with_reducible rfl
    simp only [Act.put, qA, qB, qC, qD, qE, qF]
    refine wpAnyH_take (i := 2) (v := ?_) rfl (by kernel_rfl) (by kernel_rfl) (by kernel_rfl) (fun _ _ _ h => h) (Or.inl ⟨by rfl, ?_⟩) (by assumption) ?_
    rotate_left
    · intro w' hSw; go_simp <;> with_reducible rfl
    simp only [Act.put, qA, qB, qC, qD, qE, qF]
    refine wpAnyH_take (i := 3) (v := ?_) rfl (by kernel_rfl) (by kernel_rfl) (by kernel_rfl) (fun _ _ _ h => h) (Or.inl ⟨by rfl, ?_⟩) (by assumption) ?_
    rotate_left
    · intro w' hSw; go_simp <;> with_reducible rfl
    simp only [Act.put, qA, qB, qC, qD, qE, qF]
    refine wpAnyH_take (i := 4) (v := .agg #[.string o.a, .string o.b, .string o.c, .slice na o.un.length nc]) rfl (by kernel_rfl) (by kernel_rfl) (by kernel_rfl) (fun _ _ _ h => h) (Or.inl ⟨by rfl, ?_⟩) (by assumption) ?_
    · intro w' hSw; exact yields_load_blk 25 _ rfl (w3.heap.size) rfl _ _ _ _ hSw.1 Tryz.underlying25 rfl infoL
    simp only [Act.put, qA, qB, qC, qD, qE, qF]
    refine wpAnyH_take (i := 6) (v := .agg #[.string a, .string b, .string c, .slice ua un.length uc]) rfl (by kernel_rfl) (by kernel_rfl) (by kernel_rfl) (fun _ _ _ h => h) (Or.inl ⟨by rfl, ?_⟩) (by assumption) ?_
    · intro w' hSw; exact yields_load_blk 25 _ rfl (w1.heap.size) rfl _ _ _ _ hSw.2 Tryz.underlying25 rfl infoL
    simp only [Act.put, qA, qB, qC, qD, qE, qF]
    have G := hide ((Ext.refl X).drew)
    generalize X.drew = X0 at *
    refine wpAnyH_ready (rs := [5]) (by kernel_rfl) (by simp) ?_
    refine AllReadyH.cons rfl (fun K hK => ?_) AllReadyH.nil
    go_simp
    refine ((unhide HLI) _ (unhide G)).mono ?_
    rintro e w5 ⟨rfl, F5⟩
    have G5 := hide ((unhide G).trans F5)
    refine hK.out _ _ ⟨(unhide G5).kept (unhide HBN), (unhide G5).kept (unhide HBL)⟩ (fun hHeld => ?_)
    clear hK K F5 G HLI
    refine wpAnyH_ready (rs := [7]) (by kernel_rfl) (by simp) ?_
    refine AllReadyH.cons rfl (fun K hK => ?_) AllReadyH.nil
    go_simp
    refine ((unhide HLS) _ (unhide G5)).mono ?_
    rintro e w6 ⟨rfl, F6⟩
    have G6 := hide ((unhide G5).trans F6)
    refine hK.out _ _ ⟨(unhide G6).kept (unhide HBN), (unhide G6).kept (unhide HBL)⟩ (fun hHeld => ?_)
    clear hK K F6 G5 HLS
    refine wpAnyH_take (i := 8) (v := ?_) rfl (by kernel_rfl) (by kernel_rfl) (by kernel_rfl) (fun _ _ _ h => h) (Or.inl ⟨by rfl, ?_⟩) (by assumption) ?_
    rotate_left
    · intro w' hSw; go_simp <;> with_reducible rfl
    simp only [Act.put, qA, qB, qC, qD, qE, qF]
    refine wpAnyH_take (i := 9) (v := ?_) rfl (by kernel_rfl) (by kernel_rfl) (by kernel_rfl) (fun _ _ _ h => h) (Or.inl ⟨by rfl, ?_⟩) (by assumption) ?_
    rotate_left
    · intro w' hSw; go_simp <;> with_reducible rfl
    simp only [Act.put, qA, qB, qC, qD, qE, qF]
    refine wpAnyH_done (by kernel_rfl) ?_ _
    replace HBN := hide ((unhide G6).kept (unhide HBN))
    replace HBL := hide ((unhide G6).kept (unhide HBL))
    replace HBK := hide ((unhide G6).kept (unhide HBK))
    replace HOX := hide ((unhide HOX).ext (unhide G6))
    replace HEX := hide ((unhide HEX).trans (unhide G6))
    clear G6 hHeld hneq
    go_upto_region 8 with fail
    have n0 := cells_of (unhide HBN) 0 _ rfl
    have n1 := cells_of (unhide HBN) 1 _ rfl
    have n2 := cells_of (unhide HBN) 2 _ rfl
    have n3 := cells_of (unhide HBN) 3 _ rfl
    have l0 := cells_of (unhide HBL) 0 _ rfl
    have l1 := cells_of (unhide HBL) 1 _ rfl
    have l2 := cells_of (unhide HBL) 2 _ rfl
    have l3 := cells_of (unhide HBL) 3 _ rfl
    have k0 := cells_of (unhide HBK) 0 _ rfl
    have HLU := hide (Row2At.ext (unhide HU) (unhide HEX))
    have HEW := hide ((unhide HE1).trans (unhide HEX))
    by_cases hd : o.d = 1
    · have hd2 : (edA a b c un kd rs).d = 1 := by rw [← unhide HO]; exact hd
      have HD1 := hide hd
      by_cases hk : kd = 17
      · subst hk
        obtain ⟨u1, u2, u3⟩ := edA_undo hd2
        rw [← unhide HO] at u2 u3
        obtain ⟨ao, cc, e9, hcc, hx⟩ := (unhide HLU)
        obtain ⟨bb, off, e8, hcell⟩ := hx u1
        obtain ⟨rfl, -, rfl⟩ := Value.slice.inj e9
        subst e8
        have g1 : w6.cell? ⟨bb, off + (un.length - 1) * 2, none⟩ = some (.string (lnT un (un.length - 1))) := (hcell (un.length - 1) (by omega)).1
        have g2 : w6.cell? ⟨bb, off + (un.length - 1) * 2 + 1, none⟩ = some (.string (lnH un (un.length - 1))) := (hcell (un.length - 1) (by omega)).2
        rw [← u2] at g1
        rw [← u3] at g2
        have hw1 : IntKind.i64.wrap ((un.length : Int) - 1) = ((un.length - 1 : Nat) : Int) := by rw [IntKind.wrap_i64]; omega
        have hb1 : ((un.length - 1 : Nat) : Int) < (un.length : Int) := by omega
        have hp1 : (0 : Int) < (un.length : Int) := by omega
        clear hcell hx hcc u2 u3 e9 hd2
        go_upto_region 12 with fail
        refine wp_region_held_drew (S := fun W => W.cell? ⟨w3.heap.size, 0, none⟩ = some (.string o.a) ∧ W.cell? ⟨w3.heap.size, 1, none⟩ = some (.string o.b) ∧ W.cell? ⟨w1.heap.size, 3, none⟩ = some (.slice (some ⟨bb, off, none⟩) un.length uc) ∧ W.cell? ⟨bb, off + (un.length - 1) * 2, none⟩ = some (.string o.a) ∧ W.cell? ⟨bb, off + (un.length - 1) * 2 + 1, none⟩ = some (.string o.b)) (by kernel_rfl) ⟨n0, n1, l3, g1, g2⟩ (fun hHeld => ?_)
        clear n0 n1 n2 n3 l0 l1 l2 l3 k0 g1 g2
        refine wpAnyH_take (i := 0) (v := ?_) rfl (by kernel_rfl) (by kernel_rfl) (by kernel_rfl) (fun _ _ _ h => h) (Or.inl ⟨by rfl, ?_⟩) (by assumption) ?_
        rotate_left
        · intro w' hSw; obtain ⟨h1, h2, h3, h4, h5⟩ := hSw; go_simp <;> with_reducible rfl
        simp only [Act.put, qA, qB, qC, qD, qE, qF]
        refine wpAnyH_take (i := 1) (v := ?_) rfl (by kernel_rfl) (by kernel_rfl) (by kernel_rfl) (fun _ _ _ h => h) (Or.inl ⟨by rfl, ?_⟩) (by assumption) ?_
        rotate_left
        · intro w' hSw; obtain ⟨h1, h2, h3, h4, h5⟩ := hSw; go_simp <;> with_reducible rfl
        simp only [Act.put, qA, qB, qC, qD, qE, qF]
        refine wpAnyH_take (i := 2) (v := ?_) rfl (by kernel_rfl) (by kernel_rfl) (by kernel_rfl) (fun _ _ _ h => h) (Or.inl ⟨by rfl, ?_⟩) (by assumption) ?_
        rotate_left
        · intro w' hSw; obtain ⟨h1, h2, h3, h4, h5⟩ := hSw; go_simp <;> with_reducible rfl
        simp only [Act.put, qA, qB, qC, qD, qE, qF]
        refine wpAnyH_take (i := 3) (v := ?_) rfl (by kernel_rfl) (by kernel_rfl) (by kernel_rfl) (fun _ _ _ h => h) (Or.inl ⟨by rfl, ?_⟩) (by assumption) ?_
        rotate_left
        · intro w' hSw; obtain ⟨h1, h2, h3, h4, h5⟩ := hSw; go_simp <;> with_reducible rfl
        simp only [Act.put, qA, qB, qC, qD, qE, qF]
        refine wpAnyH_take (i := 4) (v := ?_) rfl (by kernel_rfl) (by kernel_rfl) (by kernel_rfl) (fun _ _ _ h => h) (Or.inl ⟨by rfl, ?_⟩) (by assumption) ?_
        rotate_left
        · intro w' hSw; obtain ⟨h1, h2, h3, h4, h5⟩ := hSw; go_simp <;> with_reducible rfl
        simp only [Act.put, qA, qB, qC, qD, qE, qF]
        refine wpAnyH_take (i := 5) (v := ?_) rfl (by kernel_rfl) (by kernel_rfl) (by kernel_rfl) (fun _ _ _ h => h) (Or.inl ⟨by rfl, ?_⟩) (by assumption) ?_
        rotate_left
        · intro w' hSw; obtain ⟨h1, h2, h3, h4, h5⟩ := hSw; go_simp <;> with_reducible rfl
        simp only [Act.put, qA, qB, qC, qD, qE, qF]
        refine wpAnyH_take (i := 6) (v := ?_) rfl (by kernel_rfl) (by kernel_rfl) (by kernel_rfl) (fun _ _ _ h => h) (Or.inl ⟨by rfl, ?_⟩) (by assumption) ?_
        rotate_left
        · intro w' hSw; obtain ⟨h1, h2, h3, h4, h5⟩ := hSw; go_simp <;> with_reducible rfl
        simp only [Act.put, qA, qB, qC, qD, qE, qF]
        refine wpAnyH_take (i := 7) (v := ?_) rfl (by kernel_rfl) (by kernel_rfl) (by kernel_rfl) (fun _ _ _ h => h) (Or.inl ⟨by rfl, ?_⟩) (by assumption) ?_
        rotate_left
        · intro w' hSw; obtain ⟨h1, h2, h3, h4, h5⟩ := hSw; go_simp <;> with_reducible rfl
        simp only [Act.put, qA, qB, qC, qD, qE, qF]
        refine wpAnyH_take (i := 8) (v := ?_) rfl (by kernel_rfl) (by kernel_rfl) (by kernel_rfl) (fun _ _ _ h => h) (Or.inl ⟨by rfl, ?_⟩) (by assumption) ?_
        rotate_left
        · intro w' hSw; obtain ⟨h1, h2, h3, h4, h5⟩ := hSw; go_simp <;> with_reducible rfl
        simp only [Act.put, qA, qB, qC, qD, qE, qF]
        refine wpAnyH_take (i := 9) (v := ?_) rfl (by kernel_rfl) (by kernel_rfl) (by kernel_rfl) (fun _ _ _ h => h) (Or.inl ⟨by rfl, ?_⟩) (by assumption) ?_
        rotate_left
        · intro w' hSw; obtain ⟨h1, h2, h3, h4, h5⟩ := hSw; go_simp <;> with_reducible rfl
        simp only [Act.put, qA, qB, qC, qD, qE, qF]
        refine wpAnyH_take (i := 10) (v := ?_) rfl (by kernel_rfl) (by kernel_rfl) (by kernel_rfl) (fun _ _ _ h => h) (Or.inl ⟨by rfl, ?_⟩) (by assumption) ?_
        rotate_left
        · intro w' hSw; obtain ⟨h1, h2, h3, h4, h5⟩ := hSw; go_simp <;> with_reducible rfl
        simp only [Act.put, qA, qB, qC, qD, qE, qF]
        refine wpAnyH_take (i := 11) (v := ?_) rfl (by kernel_rfl) (by kernel_rfl) (by kernel_rfl) (fun _ _ _ h => h) (Or.inl ⟨by rfl, ?_⟩) (by assumption) ?_
        rotate_left
        · intro w' hSw; obtain ⟨h1, h2, h3, h4, h5⟩ := hSw; go_simp <;> with_reducible rfl
        simp only [Act.put, qA, qB, qC, qD, qE, qF]
        refine wpAnyH_take (i := 12) (v := ?_) rfl (by kernel_rfl) (by kernel_rfl) (by kernel_rfl) (fun _ _ _ h => h) (Or.inl ⟨by rfl, ?_⟩) (by assumption) ?_
        rotate_left
        · intro w' hSw; obtain ⟨h1, h2, h3, h4, h5⟩ := hSw; go_simp <;> with_reducible rfl
        simp only [Act.put, qA, qB, qC, qD, qE, qF]
        refine wpAnyH_take (i := 13) (v := ?_) rfl (by kernel_rfl) (by kernel_rfl) (by kernel_rfl) (fun _ _ _ h => h) (Or.inl ⟨by rfl, ?_⟩) (by assumption) ?_
        rotate_left
        · intro w' hSw; obtain ⟨h1, h2, h3, h4, h5⟩ := hSw; go_simp <;> with_reducible rfl
        simp only [Act.put, qA, qB, qC, qD, qE, qF]
        refine wpAnyH_take (i := 14) (v := ?_) rfl (by kernel_rfl) (by kernel_rfl) (by kernel_rfl) (fun _ _ _ h => h) (Or.inl ⟨by rfl, ?_⟩) (by assumption) ?_
        rotate_left
        · intro w' hSw; obtain ⟨h1, h2, h3, h4, h5⟩ := hSw; go_simp <;> with_reducible rfl
        simp only [Act.put, qA, qB, qC, qD, qE, qF]
        refine wpAnyH_take (i := 15) (v := ?_) rfl (by kernel_rfl) (by kernel_rfl) (by kernel_rfl) (fun _ _ _ h => h) (Or.inl ⟨by rfl, ?_⟩) (by assumption) ?_
        rotate_left
        · intro w' hSw; obtain ⟨h1, h2, h3, h4, h5⟩ := hSw; go_simp <;> with_reducible rfl
        simp only [Act.put, qA, qB, qC, qD, qE, qF]
        refine wpAnyH_take (i := 16) (v := ?_) rfl (by kernel_rfl) (by kernel_rfl) (by kernel_rfl) (fun _ _ _ h => h) (Or.inl ⟨by rfl, ?_⟩) (by assumption) ?_
        rotate_left
        · intro w' hSw; obtain ⟨h1, h2, h3, h4, h5⟩ := hSw; go_simp <;> with_reducible rfl
        simp only [Act.put, qA, qB, qC, qD, qE, qF]
        refine wpAnyH_take (i := 17) (v := ?_) rfl (by kernel_rfl) (by kernel_rfl) (by kernel_rfl) (fun _ _ _ h => h) (Or.inl ⟨by rfl, ?_⟩) (by assumption) ?_
        rotate_left
        · intro w' hSw; obtain ⟨h1, h2, h3, h4, h5⟩ := hSw; go_simp <;> with_reducible rfl
        simp only [Act.put, qA, qB, qC, qD, qE, qF]
        refine wpAnyH_take (i := 18) (v := ?_) rfl (by kernel_rfl) (by kernel_rfl) (by kernel_rfl) (fun _ _ _ h => h) (Or.inl ⟨by rfl, ?_⟩) (by assumption) ?_
        rotate_left
        · intro w' hSw; obtain ⟨h1, h2, h3, h4, h5⟩ := hSw; go_simp <;> with_reducible rfl
        simp only [Act.put, qA, qB, qC, qD, qE, qF]
        refine wpAnyH_take (i := 19) (v := ?_) rfl (by kernel_rfl) (by kernel_rfl) (by kernel_rfl) (fun _ _ _ h => h) (Or.inl ⟨by rfl, ?_⟩) (by assumption) ?_
        rotate_left
        · intro w' hSw; obtain ⟨h1, h2, h3, h4, h5⟩ := hSw; go_simp <;> with_reducible rfl
        simp only [Act.put, qA, qB, qC, qD, qE, qF]
        refine wpAnyH_take (i := 20) (v := ?_) rfl (by kernel_rfl) (by kernel_rfl) (by kernel_rfl) (fun _ _ _ h => h) (Or.inl ⟨by rfl, ?_⟩) (by assumption) ?_
        rotate_left
        · intro w' hSw; obtain ⟨h1, h2, h3, h4, h5⟩ := hSw; go_simp <;> with_reducible rfl
        simp only [Act.put, qA, qB, qC, qD, qE, qF]
        refine wpAnyH_take (i := 21) (v := ?_) rfl (by kernel_rfl) (by kernel_rfl) (by kernel_rfl) (fun _ _ _ h => h) (Or.inl ⟨by rfl, ?_⟩) (by assumption) ?_
        rotate_left
        · intro w' hSw; obtain ⟨h1, h2, h3, h4, h5⟩ := hSw; go_simp <;> with_reducible rfl
        simp only [Act.put, qA, qB, qC, qD, qE, qF]
        refine wpAnyH_take (i := 22) (v := ?_) rfl (by kernel_rfl) (by kernel_rfl) (by kernel_rfl) (fun _ _ _ h => h) (Or.inl ⟨by rfl, ?_⟩) (by assumption) ?_
        rotate_left
        · intro w' hSw; obtain ⟨h1, h2, h3, h4, h5⟩ := hSw; go_simp <;> with_reducible rfl
        simp only [Act.put, qA, qB, qC, qD, qE, qF]
        refine wpAnyH_take (i := 23) (v := ?_) rfl (by kernel_rfl) (by kernel_rfl) (by kernel_rfl) (fun _ _ _ h => h) (Or.inl ⟨by rfl, ?_⟩) (by assumption) ?_
        rotate_left
        · intro w' hSw; obtain ⟨h1, h2, h3, h4, h5⟩ := hSw; go_simp <;> with_reducible rfl
        simp only [Act.put, qA, qB, qC, qD, qE, qF]
        refine wpAnyH_take (i := 24) (v := ?_) rfl (by kernel_rfl) (by kernel_rfl) (by kernel_rfl) (fun _ _ _ h => h) (Or.inl ⟨by rfl, ?_⟩) (by assumption) ?_
        rotate_left
        · intro w' hSw; obtain ⟨h1, h2, h3, h4, h5⟩ := hSw; go_simp <;> with_reducible rfl
        simp only [Act.put, qA, qB, qC, qD, qE, qF]
        refine wpAnyH_take (i := 25) (v := ?_) rfl (by kernel_rfl) (by kernel_rfl) (by kernel_rfl) (fun _ _ _ h => h) (Or.inl ⟨by rfl, ?_⟩) (by assumption) ?_
        rotate_left
        · intro w' hSw; obtain ⟨h1, h2, h3, h4, h5⟩ := hSw; go_simp <;> with_reducible rfl
        simp only [Act.put, qA, qB, qC, qD, qE, qF]
        refine wpAnyH_take (i := 26) (v := ?_) rfl (by kernel_rfl) (by kernel_rfl) (by kernel_rfl) (fun _ _ _ h => h) (Or.inl ⟨by rfl, ?_⟩) (by assumption) ?_
        rotate_left
        · intro w' hSw; obtain ⟨h1, h2, h3, h4, h5⟩ := hSw; go_simp <;> with_reducible rfl
        simp only [Act.put, qA, qB, qC, qD, qE, qF]
        refine wpAnyH_done (by kernel_rfl) ?_ _
        go_wp2
        exact bodyPost_ret (v := .bool true) (by simp [results, Tryz.results5, go_sem]) rfl ⟨rfl, (unhide HEW).drew.below⟩
      · by_cases hm : MvKind kd
        · obtain ⟨m1, m2, m3, m4⟩ := edA_move hm hd2
          rw [← unhide HO] at m1 m2 m3 m4
          have eqn : Hid (o.a ++ o.b = a ++ b) := hide m1
          have HM3 := hide m3
          have HM4 := hide m4
          clear m3 m4 hd2
          obtain ⟨Y0, hY0⟩ : ∃ Y, Y = w6.alloc (.cells #[.string o.a, .string o.b, .string o.c, .slice na o.un.length nc] 25) := ⟨_, rfl⟩
          have EY : Ext w6 Y0 := by rw [hY0]; exact (Ext.refl w6).alloc _
          have bM : Y0.heap[w6.heap.size]? = some (.cells #[.string o.a, .string o.b, .string o.c, .slice na o.un.length nc] 25 (0, 0)) := by rw [hY0]; exact new_block w6 _
          have hLz := lt_of_block (unhide HBL)
          have hNz := lt_of_block (unhide HBN)
          have bM1 : (Y0.setCell ⟨w6.heap.size, 0, none⟩ (.string a)).heap[w6.heap.size]? = some (.cells #[.string a, .string o.b, .string o.c, .slice na o.un.length nc] 25 (0, 0)) := set_blk2 bM rfl
          have F1 : Fr (fun q => q = w6.heap.size) Y0 (Y0.setCell ⟨w6.heap.size, 0, none⟩ (.string a)) := Fr.setCell (S := fun q => q = w6.heap.size) (Fr.refl _ _) (a := ⟨w6.heap.size, 0, none⟩) rfl _
          obtain ⟨Y1, hY1⟩ : ∃ Y, Y0.setCell ⟨w6.heap.size, 0, none⟩ (.string a) = Y := ⟨_, rfl⟩
          rw [hY1] at bM1 F1
          have bM2 : (Y1.setCell ⟨w6.heap.size, 1, none⟩ (.string b)).heap[w6.heap.size]? = some (.cells #[.string a, .string b, .string o.c, .slice na o.un.length nc] 25 (0, 0)) := set_blk2 bM1 rfl
          have F2 : Fr (fun q => q = w6.heap.size) Y1 (Y1.setCell ⟨w6.heap.size, 1, none⟩ (.string b)) := Fr.setCell (S := fun q => q = w6.heap.size) (Fr.refl _ _) (a := ⟨w6.heap.size, 1, none⟩) rfl _
          obtain ⟨Y2, hY2⟩ : ∃ Y, Y1.setCell ⟨w6.heap.size, 1, none⟩ (.string b) = Y := ⟨_, rfl⟩
          rw [hY2] at bM2 F2
          have p0 := cells_of bM 0 _ rfl
          have p1 := cells_of bM 1 _ rfl
          have p2 : (Y0.setCell ⟨w6.heap.size, 0, none⟩ (.string a)).cell? ⟨w6.heap.size, 1, none⟩ = some (.string o.b) := by rw [hY1]; exact cells_of bM1 1 _ rfl
          have fr0 : ∀ i, Y0.frozen? ⟨w6.heap.size, i, none⟩ = false := fun i => Lib.frozen_of_heap bM i
          have fr1 : ∀ i, (Y0.setCell ⟨w6.heap.size, 0, none⟩ (.string a)).frozen? ⟨w6.heap.size, i, none⟩ = false := fun i => by rw [hY1]; exact Lib.frozen_of_heap bM1 i
          have kL := F1.kept (EY.kept (unhide HBL)) (by omega)
          have kN := F1.kept (EY.kept (unhide HBN)) (by omega)
          have x0 := EY.cell l0
          have x1 : (Y0.setCell ⟨w6.heap.size, 0, none⟩ (.string a)).cell? ⟨w1.heap.size, 1, none⟩ = some (.string b) := by rw [hY1]; exact cells_of kL 1 _ rfl
          have HL2 := hide (F2.kept kL (by omega))
          have HN2 := hide (F2.kept kN (by omega))
          rw [unhide HM3, unhide HM4] at bM2
          have HM2 := hide bM2
          have HEY := hide (F2.ext (F1.ext EY (fun q hq => by omega)) (fun q hq => by omega))
          have hO := (unhide HOX).ext (unhide HEY)
          rw [unhide HM4] at hO
          have HSL := hide (SameLine_any a b c un _ _ Y2 hO (Row2At.ext (unhide HLU) (unhide HEY)) (by omega))
          have HY0 := hide hY0
          have HY1 := hide hY1
          have HY2 := hide hY2
          clear hY0 hY1 hY2 EY bM bM1 bM2 F1 F2 kL kN hO
          rcases (by unfold MvKind at hm; omega : (6 ≤ kd ∧ kd ≤ 9) ∨ kd = 18 ∨ kd = 19) with ⟨q1, q2⟩ | rfl | rfl
          · skip
            go_upto_region 15 with fail
            rw [← unhide HY0]
            clear HY0
            go_upto_region 17 with fail
            rw [unhide HY1, unhide HY2]
            clear HY1 HY2 p0 p1 p2 fr0 fr1 l0 l1 l2 l3 n0 n1 n2 n3 k0 x0 x1
            have N0 := cells_of (unhide HN2) 0 _ rfl
            have N1 := cells_of (unhide HN2) 1 _ rfl
            have L0 := cells_of (unhide HL2) 0 _ rfl
            have L1 := cells_of (unhide HL2) 1 _ rfl
            have L2 := cells_of (unhide HL2) 2 _ rfl
            have L3 := cells_of (unhide HL2) 3 _ rfl
            have M0 := cells_of (unhide HM2) 0 _ rfl
            have M1 := cells_of (unhide HM2) 1 _ rfl
            have M2 := cells_of (unhide HM2) 2 _ rfl
            have M3 := cells_of (unhide HM2) 3 _ rfl
            have j1 : ((o.a ++ o.b).toList == (a ++ b).toList) = true := by rw [unhide eqn]; simp
            have j2 : (o.a.toList == a.toList) = false := str_ne2 m2
            have j3 : ¬ o.a.toList = a.toList := fun e => by rw [e] at j2; simp at j2
            go_wp2_with fail
            refine (unhide HSL).mono ?_
            rintro e w8 ⟨rfl, F8⟩
            go_wp2
            exact bodyPost_ret (v := .bool true) (by simp [results, Tryz.results5, go_sem]) rfl ⟨rfl, (((unhide HEW).trans (unhide HEY)).trans F8).below⟩
          · skip
            go_upto_region 15 with fail
            rw [← unhide HY0]
            clear HY0
            go_upto_region 17 with fail
            rw [unhide HY1, unhide HY2]
            clear HY1 HY2 p0 p1 p2 fr0 fr1 l0 l1 l2 l3 n0 n1 n2 n3 k0 x0 x1
            have N0 := cells_of (unhide HN2) 0 _ rfl
            have N1 := cells_of (unhide HN2) 1 _ rfl
            have L0 := cells_of (unhide HL2) 0 _ rfl
            have L1 := cells_of (unhide HL2) 1 _ rfl
            have L2 := cells_of (unhide HL2) 2 _ rfl
            have L3 := cells_of (unhide HL2) 3 _ rfl
            have M0 := cells_of (unhide HM2) 0 _ rfl
            have M1 := cells_of (unhide HM2) 1 _ rfl
            have M2 := cells_of (unhide HM2) 2 _ rfl
            have M3 := cells_of (unhide HM2) 3 _ rfl
            have j1 : ((o.a ++ o.b).toList == (a ++ b).toList) = true := by rw [unhide eqn]; simp
            have j2 : (o.a.toList == a.toList) = false := str_ne2 m2
            have j3 : ¬ o.a.toList = a.toList := fun e => by rw [e] at j2; simp at j2
            go_wp2_with fail
            refine (unhide HSL).mono ?_
            rintro e w8 ⟨rfl, F8⟩
            go_wp2
            exact bodyPost_ret (v := .bool true) (by simp [results, Tryz.results5, go_sem]) rfl ⟨rfl, (((unhide HEW).trans (unhide HEY)).trans F8).below⟩
          · skip
            go_upto_region 15 with fail
            rw [← unhide HY0]
            clear HY0
            go_upto_region 17 with fail
            rw [unhide HY1, unhide HY2]
            clear HY1 HY2 p0 p1 p2 fr0 fr1 l0 l1 l2 l3 n0 n1 n2 n3 k0 x0 x1
            have N0 := cells_of (unhide HN2) 0 _ rfl
            have N1 := cells_of (unhide HN2) 1 _ rfl
            have L0 := cells_of (unhide HL2) 0 _ rfl
            have L1 := cells_of (unhide HL2) 1 _ rfl
            have L2 := cells_of (unhide HL2) 2 _ rfl
            have L3 := cells_of (unhide HL2) 3 _ rfl
            have M0 := cells_of (unhide HM2) 0 _ rfl
            have M1 := cells_of (unhide HM2) 1 _ rfl
            have M2 := cells_of (unhide HM2) 2 _ rfl
            have M3 := cells_of (unhide HM2) 3 _ rfl
            have j1 : ((o.a ++ o.b).toList == (a ++ b).toList) = true := by rw [unhide eqn]; simp
            have j2 : (o.a.toList == a.toList) = false := str_ne2 m2
            have j3 : ¬ o.a.toList = a.toList := fun e => by rw [e] at j2; simp at j2
            go_wp2_with fail
            refine (unhide HSL).mono ?_
            rintro e w8 ⟨rfl, F8⟩
            go_wp2
            exact bodyPost_ret (v := .bool true) (by simp [results, Tryz.results5, go_sem]) rfl ⟨rfl, (((unhide HEW).trans (unhide HEY)).trans F8).below⟩
        · have hbk := edA_back hm hk hd2 o (unhide HO)
          clear hd2
          obtain ⟨y1, y2, y3, y4⟩ := hbk
          have HIU := hide (fun W (hW : Ext w6 W) => implEdit_all o.a o.b o.c (.slice na o.un.length nc) o.un.length (lnT o.un) (lnH o.un) 17 (.slice none 0 0) [] W ((unhide HOX).ext hW) (by omega) (by omega) (by omega) (by omega) (unhide HSo).each ((unhide HT).ext ((unhide HEW).trans hW)) ⟨none, 0, rfl, Nat.le_refl _, fun h => by simp at h⟩ (fun n hn => by simp at hn) (by simp))
          rw [unL_ln] at HIU
          have HSq := hide (edA_sm2 (unhide HSo) 17 [])
          obtain ⟨q, hq⟩ : ∃ q, q = edA o.a o.b o.c o.un 17 [] := ⟨_, rfl⟩
          rw [← hq] at HIU y1 y2 y3 y4 HSq
          clear hq
          obtain ⟨z1, z2, z3, z4, _⟩ := id (unhide HSq)
          have HLB := hide (fun W (x : Option Addr) (z : Nat) (hR : Row2At W (.slice x q.un.length z) q.un.length (fun j => .string (lnT q.un j)) (fun j => .string (lnH q.un j))) (hW : Ext w6 W) => implLineOk_any q.a q.b q.c _ q.un.length (lnT q.un) (lnH q.un) W hR (by omega) (by omega) (by omega) (by omega) (unhide HSq).each ((unhide HT).ext ((unhide HEW).trans hW)) true ⟨fun _ => y4, fun _ => rfl⟩)
          rw [y2, y3] at HLB
          rcases (by unfold MvKind at hm; omega : kd < 6 ∨ (9 < kd ∧ 6 ≤ kd ∧ kd ≠ 18 ∧ kd ≠ 19)) with q1 | ⟨q1, q2, q3, q4⟩
          · have q9 : ¬ (6 : Int) ≤ kd := by omega
            have q8 : (kd == 18) = false := by rw [beq_eq_false_iff_ne]; omega
            have q7 : (kd == 19) = false := by rw [beq_eq_false_iff_ne]; omega
            go_wp2_with fail
            refine ((unhide HIU) _ (Ext.refl _)).mono ?_
            rintro e w7 ⟨⟨v7, rfl, o7⟩, E7⟩
            obtain ⟨xa, xc, rfl, _⟩ := id o7.reads
            have HO7 := hide o7.reads
            have m0 := fun (p : Obj) => ((Ext.refl w7).alloc p).cell (E7.cell l0)
            have m1 := fun (p : Obj) => ((Ext.refl w7).alloc p).cell (E7.cell l1)
            have HE7 := hide E7
            clear o7 E7 HIU
            go_wp2_with fail
            refine ((unhide HLB) _ xa xc (Row2At.ext (unhide HO7) ((Ext.refl w7).alloc _)) ((unhide HE7).alloc _)).mono ?_
            rintro e w8 ⟨rfl, F8⟩
            go_wp2
            exact bodyPost_ret (v := .bool true) (by simp [results, Tryz.results5, go_sem]) rfl ⟨rfl, (((unhide HEW).trans ((unhide HE7).alloc _)).trans F8).below⟩
          · have q9 : ¬ kd ≤ 9 := by omega
            have q8 : (kd == 18) = false := by rw [beq_eq_false_iff_ne]; omega
            have q7 : (kd == 19) = false := by rw [beq_eq_false_iff_ne]; omega
            go_wp2_with fail
            refine ((unhide HIU) _ (Ext.refl _)).mono ?_
            rintro e w7 ⟨⟨v7, rfl, o7⟩, E7⟩
            obtain ⟨xa, xc, rfl, _⟩ := id o7.reads
            have HO7 := hide o7.reads
            have m0 := fun (p : Obj) => ((Ext.refl w7).alloc p).cell (E7.cell l0)
            have m1 := fun (p : Obj) => ((Ext.refl w7).alloc p).cell (E7.cell l1)
            have HE7 := hide E7
            clear o7 E7 HIU
            go_wp2_with fail
            refine ((unhide HLB) _ xa xc (Row2At.ext (unhide HO7) ((Ext.refl w7).alloc _)) ((unhide HE7).alloc _)).mono ?_
            rintro e w8 ⟨rfl, F8⟩
            go_wp2
            exact bodyPost_ret (v := .bool true) (by simp [results, Tryz.results5, go_sem]) rfl ⟨rfl, (((unhide HEW).trans ((unhide HE7).alloc _)).trans F8).below⟩
    · obtain ⟨e1, e2, e3, e4⟩ := edA_idle (a := a) (b := b) (c := c) (un := un) kd rs (by rw [← unhide HO]; exact hd)
      rw [← unhide HO] at e1 e2 e3 e4
      have hO := unhide HOX
      rw [e4] at hO
      have HSL := hide (SameLine_any a b c un _ _ w6 hO (unhide HLU) (by omega))
      clear hO
      rw [e1] at n0
      rw [e2] at n1
      rw [e3] at n2
      rw [e4] at n3
      go_wp2_with fail
      refine (unhide HSL).mono ?_
      rintro e w7 ⟨rfl, F7⟩
      go_wp2
      exact bodyPost_ret (v := .bool true) (by simp [results, Tryz.results5, go_sem]) rfl ⟨rfl, ((unhide HEW).trans F7).below⟩
  · have hl2 : ((1048576 : Int) < (code.length : Int)) := by omega
    go_enter Tryz.func5, Tryz.ntmps5
    go_wp2
    exact bodyPost_ret (v := .bool true) (by simp [results, Tryz.results5, go_sem]) rfl ⟨rfl, (Ext.refl _).below⟩
end Go.Proofs.YtokjpnlmkecleaaGreatDoor
