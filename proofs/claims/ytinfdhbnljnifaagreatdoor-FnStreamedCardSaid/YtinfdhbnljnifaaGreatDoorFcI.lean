import Derived.Test.YtinfdhbnljnifaaGreatDoorSnapMark
import Derived.Test.YtinfdhbnljnifaaGreatDoorApp
import Derived.Test.YtinfdhbnljnifaaGreatDoorRowO
import Derived.Test.YtinfdhbnljnifaaGreatDoorOkSpec
import Derived.Test.YtinfdhbnljnifaaGreatDoorAppRune
import Derived.Deep.RegionLaw
namespace Go.Proofs.YtinfdhbnljnifaaGreatDoor
open Go.RowKit
theorem pairsL_oneC {A : Nat → ByteArray} {B : Nat → Bool} {n : Nat} : ∀ u ∈ pairsL (fun j => .string (A j)) (fun j => .bool (B j)) n, u.oneCell' = true := by
  intro u hu
  simp only [pairsL, List.mem_map] at hu
  obtain ⟨q, _, rfl⟩ := hu
  split <;> rfl
theorem Src.cells {w : World} {v : Value} {n : Nat} {tx : Nat → ByteArray} {hf : Nat → Bool} (h : Row2At w v n (fun j => .string (tx j)) (fun j => .bool (hf j))) : Src w 2 v n (pairsL (fun j => .string (tx j)) (fun j => .bool (hf j)) n) := by
  refine ⟨pairsL_len _ _ _, pairsL_oneC, ?_⟩
  obtain ⟨ao, c, rfl, hc, hx⟩ := h
  by_cases h0 : n = 0
  · subst h0
    cases ao with
    | none => exact .inl ⟨c, rfl, rfl⟩
    | some ad => exact .inr ⟨ad, c, rfl, fun j u hu => by simp [pairsL] at hu⟩
  · obtain ⟨bb, off, e, hcc⟩ := hx (by omega)
    subst e
    exact .inr ⟨_, c, rfl, pairsL_news hcc⟩
def PG3 (w : World) (base : Nat) (v : Value) (r : Nat) (C : Nat → Nat) (A B : Nat → Nat → Value) (rv : Nat → Value) (j : Nat) : Prop :=
  Own1 w base 81 v r (fun i => if i < j then rv i else .slice none 0 0) ∧ (∀ i, i < j → Own2 w base 83 (rv i) (C i) (A i) (B i)) ∧ (∀ i i' g, i < i' → i' < j → (rv i).ownBlock = some g → (rv i').ownBlock ≠ some g)
theorem PG3.done {w : World} {base : Nat} {v : Value} {r : Nat} {C : Nat → Nat} {A B : Nat → Nat → Value} {rv : Nat → Value} (h : PG3 w base v r C A B rv r) : OwnGrid w base v rv r C A B :=
  ⟨h.1.congr (fun j hj => by simp [hj]), h.2.1, h.2.2⟩
theorem PG3.step {wr w2 : World} {base r cap j g : Nat} {C : Nat → Nat} {A B : Nat → Nat → Value} {rv : Nat → Value} (h : PG3 wr base (.slice (some ⟨g, 0, none⟩) r cap) r C A B rv j) (hlt : j < r) (F : Ext wr w2) (u : Value)
    (row : Own2 w2 base 83 u (C j) (A j) (B j)) (hu : ∀ q, u.ownBlock = some q → wr.heap.size ≤ q) :
    PG3 (w2.setCell ⟨g, j, none⟩ u) base (.slice (some ⟨g, 0, none⟩) r cap) r C A B (fun i => if i = j then u else rv i) (j + 1) := by
  obtain ⟨p1, p2, p3⟩ := h
  have hgz := (p1.lt g rfl).2
  have fr1 : Fr (fun q => q = g) w2 (w2.setCell ⟨g, j, none⟩ u) := Fr.setCell (S := fun q => q = g) (Fr.refl _ _) (a := ⟨g, j, none⟩) rfl _
  refine ⟨((p1.ext F).set hlt _).congr (fun i hi => ?_), fun i hi => ?_, fun i i' q hii hi hq => ?_⟩
  · by_cases e : i = j
    · subst e; simp
    · by_cases e2 : i < j
      · rw [if_neg e, if_pos e2, if_pos (by omega)]; simp [e]
      · rw [if_neg e, if_neg e2, if_neg (by omega)]
  · dsimp only
    by_cases e : i = j
    · subst e
      rw [if_pos rfl]
      exact row.fr fr1 (fun q hq e => by have := hu q hq; omega)
    · rw [if_neg e]
      refine ((p2 i (by omega)).ext F).fr fr1 (fun q hq e => ?_)
      obtain ⟨ys, a1, _⟩ := p1
      obtain ⟨zs, a2, _⟩ := p2 i (by omega)
      subst e
      exact owns_apart a2 a1 (by decide) hq rfl
  · dsimp only at hq ⊢
    rw [if_neg (by omega)] at hq
    by_cases e : i' = j
    · subst e
      rw [if_pos rfl]
      intro h9
      have := ((p2 i (by omega)).lt q hq).2
      have := hu q h9
      omega
    · rw [if_neg e]
      exact p3 i i' q hii (by omega) hq
structure CpB (wr : World) (B0 : Nat) (sc : Array Value) (d : SD) (gv hv bv : Value) : Prop where
  s : wr.heap[B0]? = some (.cells sc 26 (0, 0))
  z : wr.heap[B0 + 1]? = some (.cells #[.int .i64 0, .int .i64 0, .slice none 0 0, .int .i64 0, .int .i64 0, .bool false, .slice none 0 0, .slice none 0 0] 26 (0, 0))
  m : wr.heap[B0 + 2]? = some (.cells #[.int .i64 d.cols, .int .i64 d.rows, gv, .int .i64 d.row, .int .i64 d.col, .bool d.late, hv, bv] 26 (0, 0))
theorem CpB.fr {S : Nat → Prop} {wr w' : World} {B0 : Nat} {sc : Array Value} {d : SD} {gv hv bv : Value} (h : CpB wr B0 sc d gv hv bv) (hf : Fr S wr w') (h0 : ¬ S B0) (h1 : ¬ S (B0 + 1)) (h2 : ¬ S (B0 + 2)) : CpB w' B0 sc d gv hv bv := ⟨hf.kept h.s h0, hf.kept h.z h1, hf.kept h.m h2⟩
theorem CpB.ext {wr w' : World} {B0 : Nat} {sc : Array Value} {d : SD} {gv hv bv : Value} (h : CpB wr B0 sc d gv hv bv) (he : Ext wr w') : CpB w' B0 sc d gv hv bv := ⟨he.kept h.s, he.kept h.z, he.kept h.m⟩
theorem CpB.set {wr w' : World} {B0 i : Nat} {sc : Array Value} {d : SD} {gv hv bv gv' hv' bv' u : Value} (h : CpB wr B0 sc d gv hv bv) (hw : w' = wr.setCell ⟨B0 + 2, i, none⟩ u) (e : (#[.int .i64 d.cols, .int .i64 d.rows, gv, .int .i64 d.row, .int .i64 d.col, .bool d.late, hv, bv] : Array Value).setIfInBounds i u = #[.int .i64 d.cols, .int .i64 d.rows, gv', .int .i64 d.row, .int .i64 d.col, .bool d.late, hv', bv']) : CpB w' B0 sc d gv' hv' bv' := by
  subst hw
  exact ⟨set_else h.s (by omega), set_else h.z (by omega), set_blk2 h.m e⟩
theorem infoScrN : (Tryz.prog.info? 26).map (·.size) = some 8 := by kernel_rfl
set_option maxRecDepth 10000 in
set_option maxHeartbeats 4000000 in
theorem copyScreen_any (d : SD) (gv hv bv : Value) (w : World) (h : ScrAt w d gv hv bv) (hF : d.Fits) :
    Calls Tryz.prog 44 #[scrV d gv hv bv] w fun e w' => ∃ gv' rv hv' bv', e = .returned (scrV d gv' hv' bv') ∧ OwnScr w' w.heap.size d gv' rv hv' bv' ∧ Ext w w' := by
  obtain ⟨f1, f2, f3, f4⟩ := hF
  obtain ⟨ir, hir, hr0, hr1, hr2⟩ := info_parts infoRow
  obtain ⟨ic, hic, hc0, hc1, hc2⟩ := info_parts infoCell
  have HH := hide h
  have HF2 := hide f2
  obtain ⟨rw0, ⟨ga, gc, rfl, hgc, hgx⟩, hrows⟩ := h.1
  obtain ⟨ha, hc, rfl, hhc, hhx⟩ := h.2.1
  obtain ⟨ba, bc, rfl, hbc, hbx⟩ := h.2.2
  have HX := hide hgx
  have HRW := hide hrows
  clear h f2 hgx hrows hhx hbx
  obtain ⟨sc, hsc⟩ : ∃ sc : Array Value, sc = #[.int .i64 d.cols, .int .i64 d.rows, .slice ga d.R gc, .int .i64 d.row, .int .i64 d.col, .bool d.late, .slice ha d.hold.length hc, .slice ba d.nb bc] := ⟨_, rfl⟩
  obtain ⟨V, hV⟩ : ∃ V, V = ((w.alloc (.cells #[.int .i64 d.cols, .int .i64 d.rows, .slice ga d.R gc, .int .i64 d.row, .int .i64 d.col, .bool d.late, .slice ha d.hold.length hc, .slice ba d.nb bc] 26)).alloc (.cells #[.int .i64 0, .int .i64 0, .slice none 0 0, .int .i64 0, .int .i64 0, .bool false, .slice none 0 0, .slice none 0 0] 26)).alloc (.cells #[.int .i64 d.cols, .int .i64 d.rows, .slice ga d.R gc, .int .i64 d.row, .int .i64 d.col, .bool d.late, .slice ha d.hold.length hc, .slice ba d.nb bc] 26) := ⟨_, rfl⟩
  have E0 : Ext w V := by rw [hV]; exact (((Ext.refl w).alloc _).alloc _).alloc _
  have szV : V.heap.size = w.heap.size + 3 := by rw [hV]; simp
  have HB0 : Hid (CpB V w.heap.size sc d (.slice ga d.R gc) (.slice ha d.hold.length hc) (.slice ba d.nb bc)) := hide (by
    rw [hV, hsc]
    refine ⟨(((Ext.refl _).alloc _).alloc _).kept (new_block w _), ((Ext.refl _).alloc _).kept ?_, ?_⟩
    · have h9 := new_block (w.alloc (.cells #[.int .i64 d.cols, .int .i64 d.rows, .slice ga d.R gc, .int .i64 d.row, .int .i64 d.col, .bool d.late, .slice ha d.hold.length hc, .slice ba d.nb bc] 26)) (.cells #[.int .i64 0, .int .i64 0, .slice none 0 0, .int .i64 0, .int .i64 0, .bool false, .slice none 0 0, .slice none 0 0] 26)
      rw [show ∀ o, (w.alloc o).heap.size = w.heap.size + 1 from fun o => by simp] at h9
      exact h9
    · have h9 := new_block ((w.alloc (.cells #[.int .i64 d.cols, .int .i64 d.rows, .slice ga d.R gc, .int .i64 d.row, .int .i64 d.col, .bool d.late, .slice ha d.hold.length hc, .slice ba d.nb bc] 26)).alloc (.cells #[.int .i64 0, .int .i64 0, .slice none 0 0, .int .i64 0, .int .i64 0, .bool false, .slice none 0 0, .slice none 0 0] 26)) (.cells #[.int .i64 d.cols, .int .i64 d.rows, .slice ga d.R gc, .int .i64 d.row, .int .i64 d.col, .bool d.late, .slice ha d.hold.length hc, .slice ba d.nb bc] 26)
      rw [show ∀ o o', ((w.alloc o).alloc o').heap.size = w.heap.size + 2 from fun o o' => by simp] at h9
      exact h9)
  have HVV := hide hV
  have HSC := hide hsc
  have HE0 := hide E0
  clear hV hsc E0
  unfold scrV
  go_enter Tryz.func44, Tryz.ntmps44
  go_wp2_with (at_make; refine StopQ.intro ?_)
  show wpList _ _ _ _ _ _
  rw [← unhide HVV]
  clear HVV
  refine wpList_make_full _ rfl _ _ 23 rfl (w.heap.size + 3) 81 ir (.slice none 0 0) 1 Tryz.underlying23 hir hr0 hr1 _ _ _ _ d.R rfl rfl rfl rfl (by rw [hr2]; omega) (by unfold maxLen; omega) (by omega) ?_
  intro w1 hown hgr
  rw [szV] at hown ⊢
  have E1 : Ext V w1 := Ext.grown (Ext.refl V) hgr (fun k hk => by cases hk)
  have hb1 := (unhide HB0).ext E1
  have m2 : w1.cell? ⟨w.heap.size + 1 + 1, 2, none⟩ = some (.slice ga d.R gc) := cells_of hb1.m 2 _ rfl
  have m2f : w1.frozen? ⟨w.heap.size + 1 + 1, 2, none⟩ = false := Lib.frozen_of_heap hb1.m 2
  obtain ⟨U, hU⟩ : ∃ U, U = w1.setCell ⟨w.heap.size + 2, 2, none⟩ (.slice (some ⟨w.heap.size + 3, 0, none⟩) d.R d.R) := ⟨_, rfl⟩
  have fU : Fr (fun q => q = w.heap.size + 2) w1 U := by rw [hU]; exact Fr.setCell (S := fun q => q = w.heap.size + 2) (Fr.refl _ _) (a := ⟨w.heap.size + 2, 2, none⟩) rfl _
  have hbU : CpB U w.heap.size sc d (.slice (some ⟨w.heap.size + 3, 0, none⟩) d.R d.R) (.slice ha d.hold.length hc) (.slice ba d.nb bc) := hb1.set hU rfl
  have HE1 : Hid (Ext w U) := hide (fU.ext ((unhide HE0).trans E1) (fun q hq => by omega))
  have H0 : Hid (PG3 U (w.heap.size + 3) (.slice (some ⟨w.heap.size + 3, 0, none⟩) d.R d.R) d.R d.C (fun i j => .string (d.tx i j)) (fun i j => .bool (d.hf i j)) (fun _ => .slice none 0 0) 0) :=
    hide ⟨⟨_, fU.owns hown (fun g hg e => by have : w.heap.size + 3 = g := (by simpa [Value.ownBlock] using hg); omega), fun j hj => by simp [madeCells, Value.cells, hj, Nat.mod_one]⟩, fun i hi => by omega, fun i i' g _ hi => by omega⟩
  have zU : w.heap.size + 3 < U.heap.size := by have := (hown.lt (w.heap.size + 3) rfl).2; have := fU.size; omega
  have u2 : U.cell? ⟨w.heap.size, 2, none⟩ = some (.slice ga d.R gc) := cells_of hbU.s 2 _ (by rw [unhide HSC]; rfl)
  have HBU := hide hbU
  have HU := hide (show w1.setCell ⟨w.heap.size + 1 + 1, 2, none⟩ (.slice (some ⟨w.heap.size + 1 + 1 + 1, 0, none⟩) d.R d.R) = U from hU.symm)
  have HU2 : Hid ((w1.setCell ⟨w.heap.size + 1 + 1, 2, none⟩ (.slice (some ⟨w.heap.size + 1 + 1 + 1, 0, none⟩) d.R d.R)).cell? ⟨w.heap.size, 2, none⟩ = some (.slice ga d.R gc)) := hide (by rw [unhide HU]; exact u2)
  have u2' := unhide HU2
  clear hown hgr E1 hb1 fU hbU hU HE0 HB0 HU2
  go_wp2_with fail
  rw [unhide HU]
  clear HU u2' m2 m2f
  go_loopw [15] (fun i wr => ∃ (j : Nat) (rv : Nat → Value), j ≤ d.R ∧ i = .int .i64 j ∧ Hid (PG3 wr (w.heap.size + 3) (.slice (some ⟨w.heap.size + 3, 0, none⟩) d.R d.R) d.R d.C (fun i j => .string (d.tx i j)) (fun i j => .bool (d.hf i j)) rv j) ∧ Hid (CpB wr w.heap.size sc d (.slice (some ⟨w.heap.size + 3, 0, none⟩) d.R d.R) (.slice ha d.hold.length hc) (.slice ba d.nb bc)) ∧ Hid (Ext w wr) ∧ w.heap.size + 3 < wr.heap.size) (fun i _ => d.R - (intOf i).toNat)
  case atStart => exact ⟨0, _, Nat.zero_le _, rfl, H0, HBU, HE1, zU⟩
  case round =>
    clear H0 HBU HE1 zU
    obtain ⟨j, rv, hj, rfl, HP, HB, HE, hz⟩ := hrel
    by_cases hlt : j < d.R
    · have bj : (j : Int) < (d.R : Int) := by omega
      obtain ⟨b, off, rfl, hcl⟩ := (unhide HX) (by omega)
      have g1 := (unhide HE).cell (hcl j hlt)
      have m2 : wr.cell? ⟨w.heap.size + 1 + 1, 2, none⟩ = some (.slice (some ⟨w.heap.size + 3, 0, none⟩) d.R d.R) := cells_of (unhide HB).m 2 _ rfl
      have HSR := hide (Src.cells (((unhide HRW) j hlt).ext (unhide HE)))
      have hCj := (unhide HF2) j hlt
      obtain ⟨ca, cn, cc, hsv⟩ : ∃ ca cn cc, rw0 j = .slice ca cn cc := by
        obtain ⟨x, y, e, _⟩ := (unhide HRW) j hlt
        exact ⟨_, _, _, e⟩
      clear hcl
      have hcg := fun W (hW : Ext wr W) => ((unhide HP).1.ext hW).cell hlt
      have HCG := hide hcg
      clear hcg
      go_wp2_with fail
      go_region_law (first
        | (refine step_app (by rfl) _ _ 81 (by rfl) wr.heap.size 83 ic (.agg #[.string noB, .bool false]) 2 24 Tryz.underlying81 hic hc0 hc1 hc2 rfl (by decide) (.slice none 0 0) 0 [] (by rfl) (owns_nil _ _ _ _) (rw0 j) (d.C j) (pairsL (fun q => .string (d.tx j q)) (fun q => .bool (d.hf j q)) (d.C j)) (by first | rfl | exact hsv.symm) ((unhide HSR).ext (by first | exact Ext.refl _ | exact (Ext.refl _).drew)) (by unfold maxLen; omega) (by omega) (by simp) ?_
           intro v5 w5 o5 G5 _
           have E5 : Ext wr w5 := Ext.grown (by first | exact Ext.refl _ | exact (Ext.refl _).drew) G5 (fun k hk => by cases hk)
           rw [Nat.zero_add, List.nil_append] at o5
           obtain ⟨a5, c5, rfl⟩ := owns_ln o5
           obtain ⟨k5, k5f⟩ := (unhide HCG) w5 E5
           obtain ⟨old5, k5⟩ : ∃ x, w5.cell? ⟨w.heap.size + 3, j, none⟩ = some x := ⟨_, k5⟩
           have m5 := E5.cell m2
           have HO5 := hide o5
           have HE5 := hide E5
           clear o5 G5 E5))
      all_goals
        have hrow5 := own2_pairs (unhide HO5)
        have HS := hide ((unhide HP).step hlt (unhide HE5) _ (hrow5.mono (by omega)) (fun q hq => (hrow5.lt q hq).1))
        obtain ⟨Z, hZ⟩ : ∃ Z, Z = w5.setCell ⟨w.heap.size + 3, j, none⟩ (.slice a5 (d.C j) c5) := ⟨_, rfl⟩
        have fZ : Fr (fun q => q = w.heap.size + 3) w5 Z := by rw [hZ]; exact Fr.setCell (S := fun q => q = w.heap.size + 3) (Fr.refl _ _) (a := ⟨w.heap.size + 3, j, none⟩) rfl _
        rw [← hZ] at HS
        have HB5 := hide (((unhide HB).ext (unhide HE5)).fr fZ (by omega) (by omega) (by omega))
        have HE6 := hide (fZ.ext ((unhide HE).trans (unhide HE5)) (fun q hq => by omega))
        have hz6 : w.heap.size + 3 < Z.heap.size := by have := (unhide HE5).size; have := fZ.size; omega
        have HZ := hide (show w5.setCell ⟨w.heap.size + 1 + 1 + 1, j, none⟩ (.slice a5 (d.C j) c5) = Z from hZ.symm)
        clear hrow5 fZ hZ
        first | rw [unhide HZ] | skip
        go_wp2
        go_roundw
        case rel => exact ⟨j + 1, _, by omega, by go_num, by first | exact HS | (rw [unhide HZ]; exact HS), by first | exact HB5 | (rw [unhide HZ]; exact HB5), by first | exact HE6 | (rw [unhide HZ]; exact HE6), by first | exact hz6 | (rw [unhide HZ]; exact hz6)⟩
        case measure => simp [intOf]; omega
    · obtain rfl : j = d.R := by omega
      have HD := hide (unhide HP).done
      have hb9 : ¬ (d.R : Int) < (d.R : Int) := by omega
      have s6 : wr.cell? ⟨w.heap.size, 6, none⟩ = some (.slice ha d.hold.length hc) := cells_of (unhide HB).s 6 _ (by rw [unhide HSC]; rfl)
      have s7 : wr.cell? ⟨w.heap.size, 7, none⟩ = some (.slice ba d.nb bc) := cells_of (unhide HB).s 7 _ (by rw [unhide HSC]; rfl)
      have HSI := hide (Src.ints ((unhide HH).ext (unhide HE)).2.1)
      have HSS := hide (Src.strs ((unhide HH).ext (unhide HE)).2.2)
      obtain ⟨i8, hi8, h80, h81, h82⟩ := info_parts infoByteA
      obtain ⟨i9, hi9, h90, h91, h92⟩ := info_parts infoStrs
      have hszB := hz
      go_wp2_with (first
        | (at_builtin; have _t := unhide HSI; clear _t; go_must (refine wpList_app rfl _ _ 22 rfl (w.heap.size + 3) 5 i8 (.int .u8 0) 1 1 Tryz.underlying22 hi8 h80 h81 h82 rfl (by decide) (.slice none 0 0) 0 [] rfl (owns_nil _ _ _ _) (.slice ha d.hold.length hc) d.hold.length (d.hold.map (Value.int .u8)) rfl (unhide HSI) (by unfold maxLen; omega) (by omega) (by omega) ?_)
           intro v5 w5 o5 G5 _
           have E5 : Ext wr w5 := Ext.grown (Ext.refl _) G5 (fun k hk => by cases hk)
           rw [Nat.zero_add, List.nil_append] at o5
           obtain ⟨a5, c5, rfl⟩ := owns_ln o5
           have hb5 := (unhide HB).ext E5
           have m6 : w5.cell? ⟨w.heap.size + 1 + 1, 6, none⟩ = some (.slice ha d.hold.length hc) := cells_of hb5.m 6 _ rfl
           have m6f : w5.frozen? ⟨w.heap.size + 1 + 1, 6, none⟩ = false := Lib.frozen_of_heap hb5.m 6
           have hbY : CpB (w5.setCell ⟨w.heap.size + 1 + 1, 6, none⟩ (.slice a5 d.hold.length c5)) w.heap.size sc d (.slice (some ⟨w.heap.size + 3, 0, none⟩) d.R d.R) (.slice a5 d.hold.length c5) (.slice ba d.nb bc) := hb5.set rfl rfl
           have y7 : (w5.setCell ⟨w.heap.size + 1 + 1, 6, none⟩ (.slice a5 d.hold.length c5)).cell? ⟨w.heap.size, 7, none⟩ = some (.slice ba d.nb bc) := cells_of hbY.s 7 _ (by rw [unhide HSC]; rfl)
           have EY := ((unhide HE).trans E5).setCell (a := ⟨w.heap.size + 1 + 1, 6, none⟩) (by show w.heap.size ≤ w.heap.size + 1 + 1; omega) (.slice a5 d.hold.length c5)
           have HSY := hide (Src.strs ((unhide HH).ext EY).2.2)
           have HBY := hide hbY
           have HO5 := hide o5
           have HE5 := hide E5
           have HEY := hide EY
           clear o5 G5 E5 hb5 hbY EY HSI)
        | (at_builtin; have _t := unhide HSY; clear _t; go_must (refine wpList_app rfl _ _ 24 rfl (w.heap.size + 3) 9 i9 (.string { data := #[] }) 1 16 Tryz.underlying24 hi9 h90 h91 h92 rfl (by decide) (.slice none 0 0) 0 [] rfl (owns_nil _ _ _ _) (.slice ba d.nb bc) d.nb (strL d.bk d.nb) rfl (unhide HSY) (by unfold maxLen; omega) (by omega) (by have := (unhide HE5).size; simp; omega) ?_)
           intro v6 w6 o6 G6 _
           have E6 : Ext (w5.setCell ⟨w.heap.size + 1 + 1, 6, none⟩ (.slice a5 d.hold.length c5)) w6 := Ext.grown (Ext.refl _) G6 (fun k hk => by cases hk)
           rw [Nat.zero_add, List.nil_append] at o6
           obtain ⟨a6, c6, rfl⟩ := owns_ln o6
           have hb6 := (unhide HBY).ext E6
           have m7 : w6.cell? ⟨w.heap.size + 1 + 1, 7, none⟩ = some (.slice ba d.nb bc) := cells_of hb6.m 7 _ rfl
           have m7f : w6.frozen? ⟨w.heap.size + 1 + 1, 7, none⟩ = false := Lib.frozen_of_heap hb6.m 7
           have HB6 := hide hb6
           have HO6 := hide o6
           have HE6 := hide E6
           clear o6 G6 E6 hb6 y7 m6 m6f
           refine StopQ.intro ?_))
      show wpList _ _ _ _ _ _
      obtain ⟨Z, hZ⟩ : ∃ Z, Z = w6.setCell ⟨w.heap.size + 2, 7, none⟩ (.slice a6 d.nb c6) := ⟨_, rfl⟩
      have HBZ : Hid (CpB Z w.heap.size sc d (.slice (some ⟨w.heap.size + 3, 0, none⟩) d.R d.R) (.slice a5 d.hold.length c5) (.slice a6 d.nb c6)) := hide ((unhide HB6).set hZ rfl)
      have HZ := hide (show w6.setCell ⟨w.heap.size + 1 + 1, 7, none⟩ (.slice a6 d.nb c6) = Z from hZ.symm)
      have fY : Fr (fun q => q = w.heap.size + 2) w5 (w5.setCell ⟨w.heap.size + 1 + 1, 6, none⟩ (.slice a5 d.hold.length c5)) := Fr.setCell (S := fun q => q = w.heap.size + 2) (Fr.refl _ _) (a := ⟨w.heap.size + 1 + 1, 6, none⟩) rfl _
      have fZ : Fr (fun q => q = w.heap.size + 2) w6 Z := by rw [hZ]; exact Fr.setCell (S := fun q => q = w.heap.size + 2) (Fr.refl _ _) (a := ⟨w.heap.size + 2, 7, none⟩) rfl _
      have hall : Fr (fun q => q = w.heap.size + 2) wr Z := Fr.tr (Fr.tr (Fr.tr (Fr.of_ext (unhide HE5)) fY) (Fr.of_ext (unhide HE6))) fZ
      have HFin : Hid (OwnScr Z (w.heap.size + 3) d (.slice (some ⟨w.heap.size + 3, 0, none⟩) d.R d.R) rv (.slice a5 d.hold.length c5) (.slice a6 d.nb c6)) := hide ⟨(unhide HD).fr hall (fun g hg e => by have := ((unhide HD).foot hg).1; omega), fZ.owns ((unhide HE6).owns (fY.owns (unhide HO5) (fun g hg e => by have := ((unhide HO5).lt g hg).1; omega))) (fun g hg e => by have := ((unhide HO5).lt g hg).1; omega), own_strL (fZ.owns (unhide HO6) (fun g hg e => by have := ((unhide HO6).lt g hg).1; omega))⟩
      have HEZ := hide (hall.ext (unhide HE) (fun q hq => by omega))
      clear hZ fY fZ hall
      have HM : Hid ((w6.setCell ⟨w.heap.size + 1 + 1, 7, none⟩ (.slice a6 d.nb c6)).heap[w.heap.size + 1 + 1]? = some (.cells #[.int .i64 d.cols, .int .i64 d.rows, .slice (some ⟨w.heap.size + 3, 0, none⟩) d.R d.R, .int .i64 d.row, .int .i64 d.col, .bool d.late, .slice a5 d.hold.length c5, .slice a6 d.nb c6] 26 (0, 0))) := hide (by rw [unhide HZ]; exact (unhide HBZ).m)
      have HRz : Hid ((w6.setCell ⟨w.heap.size + 1 + 1, 7, none⟩ (.slice a6 d.nb c6)).heap[w.heap.size + 1]? = some (.cells #[.int .i64 0, .int .i64 0, .slice none 0 0, .int .i64 0, .int .i64 0, .bool false, .slice none 0 0, .slice none 0 0] 26 (0, 0))) := hide (by rw [unhide HZ]; exact (unhide HBZ).z)
      go_wp2_with (first
        | (refine wpList_load_blk rfl 26 _ rfl (w.heap.size + 1 + 1) rfl _ _ _ _ (unhide HM) Tryz.underlying26 rfl infoScrN ?_)
        | (refine wpList_store_blk rfl 26 _ _ rfl rfl (w.heap.size + 1) rfl _ _ _ rfl (unhide HRz) infoScrN rfl (by simp [Value.oneCell']) ?_; intro X HX9 hX9; have HXB := hide HX9; have HXF := hide hX9; clear HX9 hX9))
      have v0 := cells_of (unhide HXB) 0 _ rfl
      have v1 := cells_of (unhide HXB) 1 _ rfl
      have v2 := cells_of (unhide HXB) 2 _ rfl
      have v3 := cells_of (unhide HXB) 3 _ rfl
      have v4 := cells_of (unhide HXB) 4 _ rfl
      have v5 := cells_of (unhide HXB) 5 _ rfl
      have v6 := cells_of (unhide HXB) 6 _ rfl
      have v7 := cells_of (unhide HXB) 7 _ rfl
      have hXF := unhide HXF
      rw [unhide HZ] at hXF
      have hO := (unhide HFin).fr hXF (fun g hg e => by have := ((unhide HFin).foot hg).1; omega)
      have hEX := hXF.ext (unhide HEZ) (fun q hq => by omega)
      refine bodyPost_ret (v := .agg #[.int .i64 d.cols, .int .i64 d.rows, .slice (some ⟨w.heap.size + 3, 0, none⟩) d.R d.R, .int .i64 d.row, .int .i64 d.col, .bool d.late, .slice a5 d.hold.length c5, .slice a6 d.nb c6]) (by simp [results, Tryz.results44, go_sem, v0, v1, v2, v3, v4, v5, v6, v7]) rfl ⟨_, rv, _, _, rfl, ⟨hO.1.base_le (by omega), owns_mono hO.2.1 (by omega), hO.2.2.mono (by omega)⟩, hEX⟩
end Go.Proofs.YtinfdhbnljnifaaGreatDoor
