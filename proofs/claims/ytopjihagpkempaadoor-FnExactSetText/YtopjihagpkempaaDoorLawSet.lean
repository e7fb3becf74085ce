import Derived.Test.YtopjihagpkempaaDoorGenSetText
import Derived.Test.YtopjihagpkempaaDoorItemOk
import Derived.Test.YtopjihagpkempaaDoorHTab
import Derived.Test.YtopjihagpkempaaDoorTie
import Derived.Test.YtopjihagpkempaaDoorCards
import Derived.SevenTiedAt
import Derived.Lay
import Derived.ChangeMaps5
namespace Go.Proofs.YtopjihagpkempaaDoor
open Go.ChangeShapes Go.WideShapes Go.ChangeAt Go.RowKit Go.Deep

theorem tl2_mono (t h : Nat → ByteArray) (n : Nat) : ∀ k, k ≤ n → tl2 t h k ≤ tl2 t h n := by
  have aux : ∀ m k, tl2 t h k ≤ tl2 t h (k + m) := by
    intro m
    induction m with
    | zero => intro k; exact Nat.le_refl _
    | succ m ih => intro k; have := ih k; rw [← Nat.add_assoc, tl2]; omega
  intro k hk
  have := aux (n - k) k
  rwa [show k + (n - k) = n by omega] at this
theorem tl2_each {t h : Nat → ByteArray} {n m : Nat} (hm : tl2 t h n ≤ m) : ∀ j, j < n → (t j).size ≤ m ∧ (h j).size ≤ m := fun j hj => by
  have h1 := tl2_mono t h n (j + 1) (by omega)
  rw [tl2] at h1
  omega
set_option maxRecDepth 10000 in
set_option maxHeartbeats 1000000 in
theorem fnExactSetText_walk (a b c : ByteArray) (u : Value) (n : Nat) (tx hf : Nat → ByteArray) (s : ByteArray) (w : World) (hu : Row2At w u n (fun j => .string (tx j)) (fun j => .string (hf j))) (ha : a.size ≤ maxLen) (hb : b.size ≤ maxLen) (hc : c.size ≤ maxLen) (hn : n ≤ maxLen) (hx : ∀ j, j < n → (tx j).size ≤ maxLen ∧ (hf j).size ≤ maxLen) (hs : s.size ≤ maxLen) (hT : Tabs3 w) :
    Calls Tryd.prog 3 #[.agg #[.string a, .string b, .string c, u], .string s] w fun e w' => e = .returned (.bool true) ∧ Below w.heap.size w w' := by
  unfold maxLen at ha hb hc hn hx hs
  obtain ⟨ua, uc, rfl, _⟩ := id hu
  by_cases hl : s.size ≤ 1048576
  case neg =>
    have hlI : (1048576 : Int) < (s.size : Int) := by omega
    go_enter Tryd.func3, Tryd.ntmps3
    go_wp2
    go_ret
    exact ⟨rfl, ((Ext.refl _).alloc _).below⟩
  obtain ⟨A, B, N, TX, HF, q, hN, hI, hS⟩ : ∃ (A B : ByteArray) (N : Nat) (TX HF : Nat → ByteArray) (q : Bool), (a.size + b.size + c.size + (n + tl2 tx hf n) ≤ 1048576 → N ≤ 1048576)
      ∧ (a.size + b.size + c.size + (n + tl2 tx hf n) ≤ 1048576 → ∀ W v, Row2At W v n (fun j => .string (tx j)) (fun j => .string (hf j)) → Tabs3 W → Calls Tryd.prog 7 #[.agg #[.string a, .string b, .string c, v], .string s] W fun e w' => ∃ v, e = .returned (.tuple #[.agg #[.string A, .string B, .string c, v], .bool q]) ∧ Own2 w' W.heap.size 51 v N (fun j => .string (TX j)) (fun j => .string (HF j)) ∧ Ext W w')
      ∧ (a.size + b.size + c.size + (n + tl2 tx hf n) ≤ 1048576 → ∀ W v, Row2At W v n (fun j => .string (tx j)) (fun j => .string (hf j)) → Calls Tryd.prog 5 #[.agg #[.string a, .string b, .string c, v], .string s] W fun e w' => ∃ v, e = .returned (.tuple #[.agg #[.string A, .string B, .string c, v], .bool q]) ∧ Own2 w' W.heap.size 51 v N (fun j => .string (TX j)) (fun j => .string (HF j)) ∧ Ext W w') := by
    by_cases hP : LineP a b c n tx hf ∧ TextP (baL s)
    · refine ⟨s, noT, (undoN (unL tx hf n) (a, b)).length, lnT (undoN (unL tx hf n) (a, b)), lnH (undoN (unL tx hf n) (a, b)), true, fun _ => ?_, fun hF W v hv hL => ?_, fun hF W v hv => ?_⟩
      · have := undoN_len (unL tx hf n) (a, b) (by rw [unL_len]; exact hP.1.1)
        omega
      · exact implSetText_yes a b c v n tx hf s W hv (by omega) (by omega) (by omega) (by omega) (tl2_each (by omega)) hl hL hP.1 hP.2
      · exact specSetText_yes a b c v n tx hf s W hv (by omega) (by omega) (by omega) (by omega) (tl2_each (by omega)) hl hP.1 hP.2
    · refine ⟨a, b, n, tx, hf, false, fun _ => by omega, fun hF W v hv hL => ?_, fun hF W v hv => ?_⟩
      · exact implSetText_no a b c v n tx hf s W hv (by omega) (by omega) (by omega) (by omega) (tl2_each (by omega)) hl hL hP
      · exact specSetText_no a b c v n tx hf s W hv (by omega) (by omega) (by omega) (by omega) (tl2_each (by omega)) hl hP
  refine law_SetText a b c ua n uc s q w hl (lineK a b c n tx hf) (fun k => lineK a b c n (fun j => mtx (k + 2 * (j : Int))) (fun j => mtx (k + 2 * (j : Int) + 1))) (2 * n) (lineK A B c N TX HF) (fun k => lineK A B c N (fun j => mtx (k + 2 * (j : Int))) (fun j => mtx (k + 2 * (j : Int) + 1))) (2 * N) (a.size + b.size + c.size + (n + tl2 tx hf n) ≤ 1048576)
    ?_ ?_ ?_ ?_ ?_ ?_ ?_ ?_ ?_ ?_ ?_
  · refine hide (fun W hW => (szLine_any a b c _ n tx hf 1048576 W (hu.ext hW) (by omega) (by omega) (by omega) (by omega) (by omega) (by omega) (fun j hj => by have := hx j hj; omega)).mono ?_)
    rintro e w' ⟨r, rfl, hr, F⟩
    refine ⟨r, rfl, fun h0 => ?_, F⟩
    rcases hr with h1 | ⟨_, h1⟩ <;> omega
  · refine hide (fun hF W hW => (toLine_any a b c _ n tx hf W (hu.ext hW) (by omega)).mono ?_)
    rintro e w' ⟨rfl, o, F⟩
    exact ⟨_, _, rfl, lineK_own (o.mono (by omega)), F⟩
  · exact hide (fun W u hu => by
      obtain ⟨a1, a2, e⟩ := lineK_shape hu
      exact ⟨_, _, _, _, _, _, e⟩)
  · exact hide (fun hF => lineK_eq a b c n tx hf (by omega))
  · exact hide (fun hF => ⟨lineK_mark a b c n tx hf (by omega), by omega⟩)
  · refine hide (fun hF W u hW hu => ?_)
    obtain ⟨v, rfl, hv⟩ := hu
    refine (hS hF W v hv).mono ?_
    rintro e w' ⟨v, rfl, o, F⟩
    exact ⟨_, rfl, (lineK A B c N TX HF).reads (lineK_own o), F⟩
  · refine hide (fun hF W u hW hu => ?_)
    obtain ⟨v, rfl, hv⟩ := hu
    refine (hI hF W v hv (hT.ext hW)).mono ?_
    rintro e w' ⟨v, rfl, o, F⟩
    exact ⟨_, _, rfl, lineK_own o, F⟩
  · exact hide (fun W u hu => by
      obtain ⟨a1, a2, e⟩ := lineK_shape hu
      exact ⟨_, _, _, _, _, _, e⟩)
  · exact hide (fun hF => lineK_eq A B c N TX HF (by have := hN hF; omega))
  · exact hide (fun hF => ⟨lineK_mark A B c N TX HF (hN hF), by have := hN hF; omega⟩)
  · exact hide (fun hF => lineK_held A B c N (hN hF))
--@card FnExactSetText | laws.Line ; string | .agg #[.string noT, .string noT, .string noT, .slice none 0 0], .string noT | 1 | [.data, .data, .pinned] | obtain ⟨a, b, c, u, n, tx, hf, rfl, c1, c2, c3, c4, c5, c6⟩ := line_came (hval 0 24 v0 rfl rfl) h0 ;; obtain ⟨s1, rfl, rfl, rfl, z1⟩ := Go.ChangeMaps.open_string Tryd.underlying9 (hval 1 9 v1 rfl rfl) h1 | fnExactSetText_walk a b c u n tx hf s1 W c1 c2 c3 c4 c5 c6 z1 (tabs3_of_laid hL)
set_option maxRecDepth 100000 in
theorem fnExactSetText_lifted (os : Os) (started : os.Started) (H : Type) (enc : TypeId × Value → H) :
    ReturnsInHanded {} Tryd.checked os 3 .any (fun w args => (Rows.fnExactSetTextSpec.pre enc Tryd.prog Tryd.f3 [] false w args ∧ laidMetH Tryd.prog Rows.fnExactSetTextRow.laid w) ∧ sizedMet enc Tryd.prog Tryd.f3 (OpenSpec.ofChange Rows.fnExactSetTextSpec) false w args)
      (Rows.fnExactSetTextSpec.post enc Tryd.prog Tryd.f3 false true false false) := by
  have own : ownKnob Tryd.prog.godebug = none := by kernel_rfl
  refine returnsInHanded_of_change_and (C := Tryd.checked) (X := fun w _ => laidMetH Tryd.prog Rows.fnExactSetTextRow.laid w) (fun _ _ _ hh h => h.of_heap hh) own started (by kernel_rfl) Tryd.func3
    (ChangeSpec.witness_shaped (enc := enc) (C := Tryd.checked) (os := os) (X := fun w _ => laidMetH Tryd.prog Rows.fnExactSetTextRow.laid w) false (World.laidAll Tryd.prog os Rows.fnExactSetTextRow.laid) #[.agg #[.string noT, .string noT, .string noT, .slice none 0 0], .string noT] 8 (World.laidAll_os _ _ _)
      (World.shaped_of_ZipB (by kernel_rfl) (by kernel_rfl)) (by kernel_rfl) (by kernel_rfl) (by kernel_rfl)
      (by rw [MakeChecks.laidMetH_plain _ _ _ (by kernel_rfl)]; exact laidMet_laidAll _ (by kernel_rfl) (by kernel_rfl))) ?_
  intro W base args ds gs before hval0 hW _ _ hL _
  have hval : ∀ (j : Nat) t v, Tryd.f3.params[j]? = some t → args[j]? = some v → Value.okWide Tryd.prog W .any base t v := hval0
  have hW' := hW
  obtain ⟨p, q, hA0, hV0, rfl, hfz, hnd⟩ := hW
  have hV : DataW.TrodVars enc Tryd.prog W (fun _ => true) [Rows.fnExactSetTextSpec.vars.headD ""] gs q := hV0
  have hA : DataW.TrodAll enc Tryd.prog W 0 (fun _ => true) true Tryd.f3.params.toList args.toList ds p := hA0
  rw [Tryd.params3] at hA hval
  obtain ⟨v0, v1, d0, d1, p0, p1, rfl, rfl, rfl, h0, h1⟩ := trodAll_two hA
  obtain ⟨g, t, cs, fuel, d, p', rfl, _, _, _, _, _⟩ := trodVars_one hV
  obtain ⟨a, b, c, u, n, tx, hf, rfl, c1, c2, c3, c4, c5, c6⟩ := line_came (hval 0 24 v0 rfl rfl) h0
  obtain ⟨s1, rfl, rfl, rfl, z1⟩ := Go.ChangeMaps.open_string Tryd.underlying9 (hval 1 9 v1 rfl rfl) h1
  clear hA0 hval0
  refine (fnExactSetText_walk a b c u n tx hf s1 W c1 c2 c3 c4 c5 c6 z1 (tabs3_of_laid hL)).mono fun e W' ⟨he, hb⟩ => ?_
  subst he
  exact ⟨_, rfl, post_law (by kernel_rfl) (by kernel_rfl) (by kernel_rfl) (bt := 4) (by kernel_rfl) Tryd.underlying4 hW' rfl hb⟩

theorem fnExactSetText_holds : Rows.FnExactSetTextSaid :=
  OpenClaim.holds_of_wide 3 Tryd.f3 rfl rfl rfl rfl rfl rfl rfl ⟨rfl, rfl, rfl, rfl, rfl⟩ rfl rfl rfl rfl rfl (by kernel_rfl) Tryd.func3 (by kernel_rfl)
    (of_decide_eq_true (by kernel_rfl)) (by unfold Func.isWrapper; first | (rw [if_pos (by decide +kernel)]; kernel_rfl) | (rw [if_neg (by decide +kernel)]; exact ⟨rfl, rfl⟩))
    (fun os started H enc _ => fnExactSetText_lifted os started H enc)

theorem fnExactSetText_card_holds : Rows.FnExactSetTextCardSaid :=
  Claim7.holds_tied_plain_at .later [] [.data, .data, .pinned] true Rows.fnExactSetTextCard.stood.harness Rows.fnExactSetTextCard.stood.looks
    fnExactSetText_holds (fun _ h => by cases h) (by kernel_rfl) (fun _ h => by cases h) fnExactSetText_row_tie rfl ⟨rfl, rfl⟩ (by kernel_rfl) rfl
    (fun f fn hf hfn => by
      obtain rfl : f = 3 := Option.some.inj ((show Tryd.prog.funcNamed Rows.fnExactSetTextRow.func = some 3 by kernel_rfl).symm.trans hf) |>.symm
      obtain rfl : fn = Tryd.f3 := (Option.some.inj (Tryd.func3.symm.trans hfn)).symm
      exact ⟨by kernel_rfl, fun j t ht => by
        rw [Tryd.params3] at ht
        have hm : t ∈ [24, 9] := by simpa using Array.mem_of_getElem? ht
        have hall : ([24, 9].all fun u => !Tryd.prog.wantsStandIn u) = true := by kernel_rfl
        exact (show Tryd.prog.wantsStandIn t = false by simpa using List.all_eq_true.1 hall t hm)⟩)
    (by kernel_rfl)
#print axioms fnExactSetText_card_holds
--@endcard
end Go.Proofs.YtopjihagpkempaaDoor
