import Derived.Test.YtaddlkhaokdpdaaDoorHTab
import Derived.Test.YtaddlkhaokdpdaaDoorLineS
import Derived.Test.YtaddlkhaokdpdaaDoorLineI
import Derived.Test.YtaddlkhaokdpdaaDoorCameLine
import Derived.Test.YtaddlkhaokdpdaaDoorBlocks
import Derived.Test.YtaddlkhaokdpdaaDoorTie
import Derived.Test.YtaddlkhaokdpdaaDoorCards
import Derived.SevenTiedAt
import Derived.Lay
namespace Go.Proofs.YtaddlkhaokdpdaaDoor
open Go.ChangeShapes Go.WideShapes Go.ChangeAt Go.RowKit Go.Deep
theorem tl2_le (t h : Nat → ByteArray) (n : Nat) : ∀ k, k ≤ n → tl2 t h k ≤ tl2 t h n := by
  have aux : ∀ m k, tl2 t h k ≤ tl2 t h (k + m) := by
    intro m
    induction m with
    | zero => intro k; exact Nat.le_refl _
    | succ m ih => intro k; have := ih k; rw [← Nat.add_assoc, tl2]; omega
  intro k hk
  have := aux (n - k) k
  rwa [show k + (n - k) = n by omega] at this
set_option maxRecDepth 10000 in
set_option maxHeartbeats 4000000 in
theorem fnExactLineOk_walk (a b c : ByteArray) (v : Value) (n : Nat) (tx hf : Nat → ByteArray) (w : World) (hv : Row2At w v n (fun j => .string (tx j)) (fun j => .string (hf j))) (ha9 : a.size ≤ maxLen) (hb9 : b.size ≤ maxLen) (hc9 : c.size ≤ maxLen) (hn9 : n ≤ maxLen) (hx9 : ∀ j, j < n → (tx j).size ≤ maxLen ∧ (hf j).size ≤ maxLen) (hT : Tabs3 w) :
    Calls Tryd.prog 4 #[.agg #[.string a, .string b, .string c, v]] w fun e w' => e = .returned (.bool true) ∧ Below w.heap.size w w' := by
  obtain ⟨ok, hok⟩ : ∃ q : Bool, q = true ↔ LineP a b c n tx hf := by
    by_cases h : LineP a b c n tx hf
    · exact ⟨true, by simp [h]⟩
    · exact ⟨false, by simp [h]⟩
  have HK := hide hok
  obtain ⟨ao, ca, hvv, _, _⟩ := id hv
  subst hvv
  unfold maxLen at ha9 hb9 hc9 hn9 hx9
  have hcZ := hide (fun W (hW : Ext w W) => szLine_any a b c (.slice ao n ca) n tx hf 1048576 W (hv.ext hW) (by omega) (by omega) (by omega) (by omega) (by omega) (by omega) (fun j hj => by have := hx9 j hj; omega))
  have hcT := hide (fun W (hW : Ext w W) (h : n ≤ 1048576) => toLine_any a b c (.slice ao n ca) n tx hf W (hv.ext hW) h)
  have HT := hide hT
  clear hv hT hx9 hok
  go_enter Tryd.func4, Tryd.ntmps4
  go_wp2_with fail
  obtain ⟨W0, hW0⟩ : ∃ W0, W0 = w.alloc (.cells #[.string a, .string b, .string c, .slice ao n ca] 33) := ⟨_, rfl⟩
  rw [← hW0]
  have E0 : Ext w W0 := by rw [hW0]; exact (Ext.refl w).alloc _
  have hb0 : W0.heap[w.heap.size]? = some (.cells #[.string a, .string b, .string c, .slice ao n ca] 33 (0, 0)) := by rw [hW0]; exact new_block w _
  have q0 := cells_of hb0 0 _ rfl
  have q1 := cells_of hb0 1 _ rfl
  have q2 := cells_of hb0 2 _ rfl
  have q3 := cells_of hb0 3 _ rfl
  clear hW0
  refine ((unhide hcZ) _ E0).mono ?_
  rintro e w1 ⟨r, rfl, hr, F1⟩
  have hN : 0 ≤ r → a.size + b.size + c.size + (n + tl2 tx hf n) ≤ 1048576 := by rcases hr with h1 | ⟨h1, h2⟩ <;> omega
  clear hr hcZ
  have d0 := F1.cell q0
  have d1 := F1.cell q1
  have d2 := F1.cell q2
  have d3 := F1.cell q3
  by_cases hr0 : r < 0
  · go_wp2
    go_ret
    exact ⟨rfl, (E0.trans F1).below⟩
  have hn : a.size + b.size + c.size + (n + tl2 tx hf n) ≤ 1048576 := hN (by omega)
  have hx : ∀ j, j < n → (tx j).size ≤ 1048576 ∧ (hf j).size ≤ 1048576 := fun j hj => by
    have h1 := tl2_le tx hf n (j + 1) (by omega)
    rw [tl2] at h1
    omega
  have HX := hide hx
  clear hN hx
  go_wp2_with fail
  refine ((unhide hcT) _ (E0.trans F1) (by omega)).mono ?_
  rintro e w2 ⟨rfl, o2, F2⟩
  obtain ⟨g2, hg2⟩ : ∃ g2, g2 = w1.heap.size + 3 := ⟨_, rfl⟩
  rw [← hg2] at o2 ⊢
  clear hg2
  have X2 := F1.trans F2
  have hcS := hide (specLineOk_some a b c ⟨g2, 0, none⟩ n n tx hf w2 o2.reads (by omega) (by omega) (by omega) (unhide HX) ok (unhide HK))
  clear d0 d1 d2 d3 o2
  go_wp2_with fail
  refine (unhide hcS).mono ?_
  rintro e w3 ⟨rfl, F3⟩
  have X3 := X2.trans F3
  have d0 := X3.cell q0
  have d1 := X3.cell q1
  have d2 := X3.cell q2
  have d3 := X3.cell q3
  clear hcS
  go_wp2_with fail
  refine ((unhide hcT) _ (E0.trans X3) (by omega)).mono ?_
  rintro e w4 ⟨rfl, o4, F4⟩
  obtain ⟨g4, hg4⟩ : ∃ g4, g4 = w3.heap.size + 3 := ⟨_, rfl⟩
  rw [← hg4] at o4 ⊢
  clear hg4
  have X4 := X3.trans F4
  have OX := hide o4
  have hb5 := new_block w4 (.cells #[.string a, .string b, .string c, .slice (some ⟨g4, 0, none⟩) n n] 38)
  have F5 := (Ext.refl w4).alloc (.cells #[.string a, .string b, .string c, .slice (some ⟨g4, 0, none⟩) n n] 38)
  have hcI := hide (fun W (hW : Ext w4 W) => implLineOk_any a b c (.slice (some ⟨g4, 0, none⟩) n n) n tx hf W (o4.ext hW).reads (by omega) (by omega) (by omega) (by omega) (unhide HX) ((unhide HT).ext ((E0.trans X4).trans hW)) ok (unhide HK))
  clear d0 d1 d2 d3 o4
  go_wp2_with fail
  refine ((unhide hcI) _ F5).mono ?_
  rintro e w6 ⟨rfl, F6⟩
  have hb6 := F6.kept hb5
  have Y6 := F5.trans F6
  have X6 := X4.trans Y6
  have q0' := X6.cell q0
  have q1' := X6.cell q1
  have q2' := X6.cell q2
  have q3' := X6.cell q3
  have p0 := cells_of hb6 0 _ rfl
  have p1 := cells_of hb6 1 _ rfl
  have p2 := cells_of hb6 2 _ rfl
  have p3 := cells_of hb6 3 _ rfl
  have hto := hide (fun U (hU : Ext w6 U) => (unhide hcT) U ((E0.trans X6).trans hU) (by omega))
  clear hb5 hb6
  go_wp2
  go_region_held3 (fun W => (W.cell? ⟨w.heap.size, 0, none⟩ = some (.string a) ∧ W.cell? ⟨w.heap.size, 1, none⟩ = some (.string b) ∧ W.cell? ⟨w.heap.size, 2, none⟩ = some (.string c) ∧ W.cell? ⟨w.heap.size, 3, none⟩ = some (.slice ao n ca)) ∧ W.cell? ⟨w4.heap.size, 0, none⟩ = some (.string a) ∧ W.cell? ⟨w4.heap.size, 1, none⟩ = some (.string b) ∧ W.cell? ⟨w4.heap.size, 2, none⟩ = some (.string c) ∧ W.cell? ⟨w4.heap.size, 3, none⟩ = some (.slice (some ⟨g4, 0, none⟩) n n)) (first | exact ⟨⟨q0', q1', q2', q3'⟩, p0, p1, p2, p3⟩ | exact ⟨⟨he'.cell q0', he'.cell q1', he'.cell q2', he'.cell q3'⟩, he'.cell p0, he'.cell p1, he'.cell p2, he'.cell p3⟩)
    (first
      | (go_at_call 14; refine ((unhide hto) _ (Ext.refl w6).drew).mono ?_; rintro e w8 ⟨rfl, o8, F8⟩; have he' := (Ext.refl w6).drew.trans F8; have R8 := hide o8.reads; clear o8 F8)
      | (go_at_call 16; refine (eqLine_same a b c _ _ n tx hf _ (((unhide OX).ext (Y6.trans he')).reads) (unhide R8) (by omega)).mono ?_; rintro e w9 ⟨rfl, F9⟩; have he' := he'.trans F9))
  have X9 := X6.trans he'
  go_wp2
  go_ret
  exact ⟨rfl, (E0.trans X9).below⟩
theorem laidL_eq : Rows.fnExactLineOkRow.laid = laidH := by kernel_rfl
set_option maxRecDepth 100000 in
theorem fnExactLineOk_lifted (os : Os) (started : os.Started) (H : Type) (enc : TypeId × Value → H) :
    ReturnsInHanded {} Tryd.checked os 4 .any (fun w args => (Rows.fnExactLineOkSpec.pre enc Tryd.prog Tryd.f4 [] false w args ∧ laidMetH Tryd.prog Rows.fnExactLineOkRow.laid w) ∧ sizedMet enc Tryd.prog Tryd.f4 (OpenSpec.ofChange Rows.fnExactLineOkSpec) false w args)
      (Rows.fnExactLineOkSpec.post enc Tryd.prog Tryd.f4 false true false false) := by
  rw [laidL_eq]
  refine returnsInHanded_of_change_and (C := Tryd.checked) (X := fun w _ => laidMetH Tryd.prog laidH w) (fun _ _ _ hh h => h.of_heap hh) ownH started (by kernel_rfl) Tryd.func4
    (ChangeSpec.witness_shaped (enc := enc) (C := Tryd.checked) (os := os) (X := fun w _ => laidMetH Tryd.prog laidH w) false (World.laidAll Tryd.prog os laidH) #[.agg #[.string noT, .string noT, .string noT, .slice none 0 0]] 8 (World.laidAll_os _ _ _)
      (World.shaped_of_ZipB (by kernel_rfl) (by kernel_rfl)) (by kernel_rfl) (by kernel_rfl) (by kernel_rfl)
      (by rw [MakeChecks.laidMetH_plain _ _ _ (by kernel_rfl)]; exact laidMet_laidAll _ (by kernel_rfl) (by kernel_rfl))) ?_
  intro W base args ds gs before hval0 hW _ _ hL _
  have hval : ∀ (j : Nat) t v, Tryd.f4.params[j]? = some t → args[j]? = some v → Value.okWide Tryd.prog W .any base t v := hval0
  have hW' := hW
  obtain ⟨p, q, hA0, hV0, rfl, hfz, hnd⟩ := hW
  have hV : DataW.TrodVars enc Tryd.prog W (fun _ => true) [wideName] gs q := hV0
  have hA : DataW.TrodAll enc Tryd.prog W 0 (fun _ => true) true Tryd.f4.params.toList args.toList ds p := hA0
  rw [Tryd.params4] at hA hval
  obtain ⟨v0, d0, rfl, rfl, h0⟩ := trodAll_one hA
  obtain ⟨g, t, cs, fuel, d, p', rfl, _, _, _, _, _⟩ := trodVars_one hV
  obtain ⟨a, b, c, u, n, tx, hf, rfl, c1, c2, c3, c4, c5, c6⟩ := line_came (hval 0 33 v0 rfl rfl) h0
  clear hA0 hval0
  refine (fnExactLineOk_walk a b c u n tx hf W c1 c2 c3 c4 c5 c6 (tabs3_of_laid hL)).mono fun e W' ⟨he, hb⟩ => ?_
  subst he
  exact ⟨_, rfl, post_law laidOutH (by kernel_rfl) (by kernel_rfl) (bt := 4) (by kernel_rfl) Tryd.underlying4 hW' rfl hb⟩
theorem fnExactLineOk_holds : Rows.FnExactLineOkSaid :=
  OpenClaim.holds_of_wide 4 Tryd.f4 rfl rfl rfl rfl rfl rfl rfl ⟨rfl, rfl, rfl, rfl, rfl⟩ rfl rfl rfl rfl rfl (by kernel_rfl) Tryd.func4 (by kernel_rfl)
    (of_decide_eq_true (by kernel_rfl)) (by unfold Func.isWrapper; first | (rw [if_pos (by decide +kernel)]; kernel_rfl) | (rw [if_neg (by decide +kernel)]; exact ⟨rfl, rfl⟩))
    (fun os started H enc _ => fnExactLineOk_lifted os started H enc)
theorem fnExactLineOk_card_holds : Rows.FnExactLineOkCardSaid :=
  Claim7.holds_tied_plain_at .later [] [.data, .data, .pinned] true Rows.fnExactLineOkCard.stood.harness false
    fnExactLineOk_holds (fun _ h => by cases h) (by kernel_rfl) (fun _ h => by cases h) fnExactLineOk_row_tie rfl ⟨rfl, rfl⟩ (by kernel_rfl) rfl
    (fun f fn hf hfn => by
      obtain rfl : f = 4 := Option.some.inj ((show Tryd.prog.funcNamed Rows.fnExactLineOkRow.func = some 4 by kernel_rfl).symm.trans hf) |>.symm
      obtain rfl : fn = Tryd.f4 := (Option.some.inj (Tryd.func4.symm.trans hfn)).symm
      exact ⟨by kernel_rfl, fun j t ht => by
        rw [Tryd.params4] at ht
        have hm : t ∈ [33] := by simpa using Array.mem_of_getElem? ht
        have hall : ([33].all fun u => !Tryd.prog.wantsStandIn u) = true := by kernel_rfl
        exact (show Tryd.prog.wantsStandIn t = false by simpa using List.all_eq_true.1 hall t hm)⟩)
    (by kernel_rfl)
#print axioms fnExactLineOk_card_holds
end Go.Proofs.YtaddlkhaokdpdaaDoor
