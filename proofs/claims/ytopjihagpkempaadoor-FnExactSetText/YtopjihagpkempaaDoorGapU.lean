import Derived.Deep.RegionHeld3
import Derived.Test.YtopjihagpkempaaDoorGapC
import Derived.Test.YtopjihagpkempaaDoorGap
namespace Go.Proofs.YtopjihagpkempaaDoor
open Go.RowKit

/-- The places of a new editor. -/
def cl0 : List Value := (List.replicate 300 [Value.slice none 0 0, Value.int .i64 0]).flatten
theorem cl0_len : cl0.length = 600 := by kernel_rfl
theorem cl0_one : ∀ v ∈ cl0, v.oneCell' = true := by
  intro v hv
  unfold cl0 at hv
  obtain ⟨l, hl, hv⟩ := List.mem_flatten.1 hv
  rw [List.eq_of_mem_replicate hl] at hv
  simp at hv
  rcases hv with rfl | rfl <;> rfl
theorem edZero (k : ByteArray) : Tryd.zeroCells64.setIfInBounds 602 (.string k) = edC cl0 0 0 k (.slice none 0 0) := by kernel_rfl



set_option maxRecDepth 10000 in
set_option maxHeartbeats 8000000 in
theorem newEditor_any (L R : List Int) (hL : Bytes L) (hR : Bytes R) (zL : L.length ≤ 8000000) (zR : R.length ≤ 8000000) (hfit : (cutC L).length + (cutC R).length ≤ 300) (k : ByteArray) (v : Value) (n : Nat) (tx hf : Nat → ByteArray) (w : World) (hv : Row2At w v n (fun j => .string (tx j)) (fun j => .string (hf j))) (hn : n ≤ 50) (hT : ∀ w', Ext w w' → Laid w') :
    Calls Tryd.prog 20 #[.agg #[.string (toBA L), .string (toBA R), .string k, v]] w fun e w' => ∃ P cl rl rr u qs base, e = .returned (.pointer (some ⟨P, 0, none⟩)) ∧ w'.heap[P]? = some (.cells (edC cl ((cutC L).length : Int) ((300 - (cutC R).length : Nat) : Int) k u) 64 (0, 0)) ∧ GapIn P w' cl rl rr (cutC L) (cutC R) ∧ BackOwn w' base u qs (unL tx hf n) ∧ w.heap.size ≤ P ∧ w.heap.size ≤ base ∧ base ≤ w'.heap.size ∧ Ext w w' := by
  obtain ⟨ao, ca, rfl, hca, hxa⟩ := hv
  have HX := hide hxa
  have HT := hide hT
  clear hxa hT
  go_enter Tryd.func20, Tryd.ntmps20
  go_wp2
  rw [edZero]
  have zl := cl0_len
  have zo := cl0_one
  generalize cl0 = cz at zl zo ⊢
  obtain ⟨W0, hW0⟩ : ∃ U, U = (w.alloc (.cells #[.string (toBA L), .string (toBA R), .string k, .slice ao n ca] 28)).alloc (.cells (edC cz 0 0 k (.slice none 0 0)) 64) := ⟨_, rfl⟩
  rw [← hW0]
  obtain ⟨P, hPd⟩ : ∃ P, P = w.heap.size + 1 := ⟨_, rfl⟩
  have E0 : Ext w W0 := by rw [hW0]; exact ((Ext.refl w).alloc _).alloc _
  have p0 : W0.heap[P]? = some (.cells (edC cz 0 0 k (.slice none 0 0)) 64 (0, 0)) := by
    have h := heap_alloc_new (w.alloc (.cells #[.string (toBA L), .string (toBA R), .string k, .slice ao n ca] 28)) (.cells (edC cz 0 0 k (.slice none 0 0)) 64)
    rw [show (w.alloc (.cells #[.string (toBA L), .string (toBA R), .string k, .slice ao n ca] 28)).heap.size = P by rw [hPd]; simp, ← hW0] at h
    exact h
  have l0 : W0.heap[w.heap.size]? = some (.cells #[.string (toBA L), .string (toBA R), .string k, .slice ao n ca] 28 (0, 0)) := by rw [hW0]; exact ((Ext.refl _).alloc _).kept (heap_alloc_new w _)
  rw [← hPd]
  have c0 := cells_of l0 0 _ rfl
  have c1 := cells_of l0 1 _ rfl
  have HE0 := hide E0
  have ZO := hide zo
  clear zo
  have HL0 := hide l0
  have HLd := hide (fun W (E : Ext W0 W) => gapLoad_any P cz 0 0 k (.slice none 0 0) W (E.kept p0) zl (unhide ZO) L R hL hR zL zR hfit (fun W' f => (unhide HT) W' (f.ext (E0.trans E) (fun q hq => by omega))))
  clear E0 p0 l0 hW0
  have hPw : w.heap.size < P := by omega
  clear HT hL hR zL zR hfit ZO hPd
  go_region_held3 (fun W => W.cell? ⟨w.heap.size, 0, none⟩ = some (.string (toBA L)) ∧ W.cell? ⟨w.heap.size, 1, none⟩ = some (.string (toBA R))) (first | exact ⟨c0, c1⟩ | exact ⟨c0', c1'⟩) (first
    | (go_at_call 31
       refine ((unhide HLd) _ (Ext.refl W0).drew).mono ?_
       rintro e w1 ⟨cl1, rl1, rr1, rfl, p1, G1, F1⟩
       have F1' := (Fr.of_ext (Ext.refl W0).drew).tr F1
       have l1 := F1'.kept (unhide HL0) (by show ¬ w.heap.size = P; omega)
       have c0' := cells_of l1 0 _ rfl
       have c1' := cells_of l1 1 _ rfl
       have c3 : w1.cell? ⟨w.heap.size, 3, none⟩ = some (.slice ao n ca) := cells_of l1 3 _ rfl
       have HP1 := hide p1
       have HG1 := hide G1
       have HE1 := hide (F1'.ext (unhide HE0) (fun q hq => by omega))
       have hsz1 := (F1'.ext (unhide HE0) (fun q hq => by omega)).size
       clear p1 G1 F1 F1' l1))
  clear HLd HL0 HE0
  have hPl : P < w1.heap.size := (Array.getElem?_eq_some_iff.1 (unhide HP1)).1
  have hl1 := (unhide HG1).len
  go_wp2
  go_loopw [22] (fun i wr => ∃ (j : Nat) (u : Value) (qs : List Nat), j ≤ n ∧ i = .int .i64 j ∧ Hid (wr.heap[P]? = some (.cells (edC cl1 ((cutC L).length : Int) ((300 - (cutC R).length : Nat) : Int) k u) 64 (0, 0))) ∧ Hid (BackOwn wr w1.heap.size u qs (unL tx hf j)) ∧ Hid (Fr (fun q => q = P) w1 wr)) (fun i _ => n - (intOf i).toNat)
  case atStart => exact ⟨0, _, [], Nat.zero_le _, rfl, HP1, hide ⟨rfl, owns_nil _ _ _ _, fun j q s h _ => by simp at h⟩, hide (Fr.refl _ _)⟩
  case round =>
    obtain ⟨j, u, qs, hj, rfl, HPj, HBj, HFj⟩ := hrel
    have hE := (unhide HFj).ext (unhide HE1) (fun q hq => by omega)
    have hqs : qs.length = j := by have := (unhide HBj).1; rwa [unL_len] at this
    by_cases hlt : j < n
    · obtain ⟨b, off, hao, hc⟩ := (unhide HX) (by omega)
      subst hao
      have g1 := hE.cell (hc j hlt).1
      have g2 := hE.cell (hc j hlt).2
      have bj : (j : Int) < (n : Int) := by omega
      have HH := hide (fun W (E : Ext wr W) => push_any P cl1 ((cutC L).length : Int) ((300 - (cutC R).length : Nat) : Int) k u qs w1.heap.size (tx j) (hf j) W (E.kept (unhide HPj)) hl1 (E.owns (unhide HBj).2.1) (Nat.le_trans (unhide HFj).size E.size) (by omega))
      have HBE := hide (fun W (E : Ext wr W) => (show BackOwn W w1.heap.size u qs (unL tx hf j) from ⟨(unhide HBj).1, E.owns (unhide HBj).2.1, fun j q s h1 h2 => E.kept ((unhide HBj).2.2 j q s h1 h2)⟩))
      clear hc hE hqs
      go_wp2_with fail
      refine ((unhide HH) _ ((Ext.refl wr).alloc _)).mono ?_
      rintro e w2 ⟨u2, q2, rfl, p2, o2, b2, F2⟩
      have HB2 := hide (((unhide HBE) _ ((Ext.refl wr).alloc _)).push (((Ext.refl wr).alloc _).kept (unhide HPj)) F2 o2 b2)
      rw [← unL_succ] at HB2
      have HP2 := hide p2
      have HF2 := hide (Fr.off ((unhide HFj).tr (Fr.of_ext ((Ext.refl wr).alloc _))) F2 (fun x hx => by
        rcases hx with hx | hx
        · exact .inl hx
        · exact .inr ((unhide HBj).2.1.lt _ hx).1))
      clear p2 o2 b2 F2 HH HBE g1 g2
      go_wp2
      go_roundw
      case rel => exact ⟨j + 1, u2, qs ++ [q2], by omega, by go_num, HP2, HB2, HF2⟩
      case measure => simp [intOf]; omega
    · obtain rfl : j = n := by omega
      have hb9 : ¬ (j : Int) < (j : Int) := by omega
      go_wp2
      exact bodyPost_ret (v := .pointer (some ⟨P, 0, none⟩)) (by simp [results, Tryd.results20, go_sem]) rfl ⟨P, rfl, cl1, rl1, rr1, u, unhide HPj, (unhide HG1).fr (unhide HFj), qs, w1.heap.size, unhide HBj, Nat.le_of_lt hPw, hsz1, (unhide HFj).size, hE⟩
end Go.Proofs.YtopjihagpkempaaDoor

namespace Go.Proofs.YtopjihagpkempaaDoor
open Go.RowKit

theorem set_blk {W : World} {b i : Nat} {cs : Array Value} {T : TypeId} {v : Value} (h : W.heap[b]? = some (.cells cs T (0, 0))) : (W.setCell ⟨b, i, none⟩ v).heap[b]? = some (.cells (cs.setIfInBounds i v) T (0, 0)) := heap_setCell_same W b i _ _ _ h
theorem set_blk2 {W : World} {b i : Nat} {cs cs' : Array Value} {T : TypeId} {v : Value} (h : W.heap[b]? = some (.cells cs T (0, 0))) (e : cs.setIfInBounds i v = cs') : (W.setCell ⟨b, i, none⟩ v).heap[b]? = some (.cells cs' T (0, 0)) := by
  rw [set_blk h, e]
theorem set_else {W : World} {b c i : Nat} {v : Value} {o : Obj} (h : W.heap[b]? = some o) (hne : b ≠ c) : (W.setCell ⟨c, i, none⟩ v).heap[b]? = some o := (Below.heap_setCell W ⟨c, i, none⟩ v b hne).trans h
/-- Where a walk shall stand. -/
def StopQ (p : Prop) : Prop := p
theorem StopQ.intro {p : Prop} (h : StopQ p) : p := h
theorem Src.snaps {w : World} {v : Value} {n : Nat} {tx hf : Nat → ByteArray} (h : Row2At w v n (fun j => .string (tx j)) (fun j => .string (hf j))) : Src w 2 v n (pairsL (fun j => .string (tx j)) (fun j => .string (hf j)) n) := by
  refine ⟨pairsL_len _ _ _, pairsL_one, ?_⟩
  obtain ⟨ao, c, rfl, hc, hx⟩ := h
  by_cases h0 : n = 0
  · subst h0
    cases ao with
    | none => exact .inl ⟨c, rfl, rfl⟩
    | some ad => exact .inr ⟨ad, c, rfl, fun j u hu => by simp [pairsL] at hu⟩
  · obtain ⟨bb, off, e, hcc⟩ := hx (by omega)
    subst e
    exact .inr ⟨_, c, rfl, pairsL_news hcc⟩
theorem own2_pairs {w : World} {base : Nat} {T : TypeId} {v : Value} {n : Nat} {A B : Nat → Value} (h : w.ownsRow base T 2 v n (pairsL A B n)) : Own2 w base T v n A B := ⟨_, h, fun j hj => pairsL_at A B n j hj⟩
theorem owns_ln {w : World} {b : Nat} {T : TypeId} {sz : Nat} {v : Value} {n : Nat} {xs : List Value} (h : w.ownsRow b T sz v n xs) : ∃ a c, v = .slice a n c := by
  rcases h.2 with ⟨rfl, h0⟩ | ⟨g, c, _, rfl, _⟩
  · exact ⟨none, 0, by rw [h0]⟩
  · exact ⟨_, c, rfl⟩
set_option maxRecDepth 10000 in
set_option maxHeartbeats 2000000 in
theorem l4Copy_any (a b c : ByteArray) (v : Value) (n : Nat) (tx hf : Nat → ByteArray) (w : World) (hv : Row2At w v n (fun j => .string (tx j)) (fun j => .string (hf j))) (hn : n ≤ 1048576) :
    Calls Tryd.prog 14 #[.agg #[.string a, .string b, .string c, v]] w fun e w' => ∃ ua uc, e = .returned (.agg #[.string a, .string b, .string c, .slice ua n uc]) ∧ Hid (Own2 w' w.heap.size 51 (.slice ua n uc) n (fun j => .string (tx j)) (fun j => .string (hf j))) ∧ Ext w w' := by
  obtain ⟨ic, hic, hc0, hc1, hc2⟩ := info_parts infoSnap
  have HV := hide hv
  obtain ⟨ao, ca, rfl, _, _⟩ := hv
  obtain ⟨V, hV⟩ : ∃ V, V = (w.alloc (.cells #[.string a, .string b, .string c, .slice ao n ca] 28)).alloc (.cells #[.string { data := #[] }, .string { data := #[] }, .string { data := #[] }, .slice none 0 0] 28) := ⟨_, rfl⟩
  have E0 : Ext w V := by rw [hV]; exact ((Ext.refl w).alloc _).alloc _
  have sz0 : V.heap.size = w.heap.size + 1 + 1 := by rw [hV]; simp
  have HB0 : Hid (V.heap[w.heap.size]? = some (.cells #[.string a, .string b, .string c, .slice ao n ca] 28 (0, 0))) := hide (by rw [hV]; exact ((Ext.refl _).alloc _).kept (new_block w _))
  have HB1 : Hid (V.heap[w.heap.size + 1]? = some (.cells #[.string { data := #[] }, .string { data := #[] }, .string { data := #[] }, .slice none 0 0] 28 (0, 0))) := hide (by rw [hV]; have h := new_block (w.alloc (.cells #[.string a, .string b, .string c, .slice ao n ca] 28)) (.cells #[.string { data := #[] }, .string { data := #[] }, .string { data := #[] }, .slice none 0 0] 28); rw [show (w.alloc (.cells #[.string a, .string b, .string c, .slice ao n ca] 28)).heap.size = w.heap.size + 1 by simp] at h; exact h)
  have HO := hide (owns_empty V 51 2)
  have HSR := hide (Src.snaps ((unhide HV).ext (E0.alloc (.cells #[] 51))))
  obtain ⟨V2, hV2⟩ : ∃ V2, V2 = V.alloc (.cells #[] 51) := ⟨_, rfl⟩
  have EV : Ext V V2 := by rw [hV2]; exact (Ext.refl V).alloc _
  have sz2 : V2.heap.size = w.heap.size + 1 + 1 + 1 := by rw [hV2]; simp [sz0]
  rw [← hV2] at HO HSR
  have HVV : Hid (V2 = ((w.alloc (.cells #[.string a, .string b, .string c, .slice ao n ca] 28)).alloc (.cells #[.string { data := #[] }, .string { data := #[] }, .string { data := #[] }, .slice none 0 0] 28)).alloc (.cells #[] 51)) := hide (by rw [hV2, hV])
  rw [sz0] at HO
  clear hV hV2
  go_enter Tryd.func14, Tryd.ntmps14
  go_wp2_with (at_builtin; refine StopQ.intro ?_)
  show wpList _ _ _ _ _ _
  rw [← unhide HVV]
  clear HVV
  refine wpList_app rfl _ _ 26 rfl (w.heap.size + 1 + 1) 51 ic (.agg #[.string noT, .string noT]) 2 32 Tryd.underlying26 hic hc0 hc1 hc2 rfl (by decide) _ 0 [] rfl (unhide HO) _ n (pairsL (fun j => .string (tx j)) (fun j => .string (hf j)) n) rfl (unhide HSR) (by unfold maxLen; omega) (by omega) (by omega) ?_
  intro v2 w2 o2 G2 _
  have X2 := Fr.grown (S := fun q => q = w.heap.size + 1 + 1) (Fr.of_ext EV) G2 (fun q hq => by cases hq; rfl)
  have E2 : Ext w w2 := X2.ext E0 (fun q hq => by omega)
  rw [Nat.zero_add, List.nil_append] at o2
  obtain ⟨a2, c2, rfl⟩ := owns_ln o2
  replace HB0 := hide (X2.kept (unhide HB0) (by omega))
  replace HB1 := hide (X2.kept (unhide HB1) (by omega))
  have HO2 := hide (own2_pairs o2)
  have x3 : w2.cell? ⟨w.heap.size, 3, none⟩ = some (.slice ao n ca) := cells_of (unhide HB0) 3 _ rfl
  have f0 : ∀ i, w2.frozen? ⟨w.heap.size, i, none⟩ = false := fun i => Lib.frozen_of_heap (unhide HB0) i
  have infoL : (Tryd.prog.info? 28).map (·.size) = some 4 := by kernel_rfl
  have HB0s : Hid ((w2.setCell ⟨w.heap.size, 3, none⟩ (.slice a2 n c2)).heap[w.heap.size]? = some (.cells #[.string a, .string b, .string c, .slice a2 n c2] 28 (0, 0))) := hide (set_blk2 (unhide HB0) rfl)
  have HB1s : Hid ((w2.setCell ⟨w.heap.size, 3, none⟩ (.slice a2 n c2)).heap[w.heap.size + 1]? = some (.cells #[.string { data := #[] }, .string { data := #[] }, .string { data := #[] }, .slice none 0 0] 28 (0, 0))) := hide (set_else (unhide HB1) (by omega))
  clear o2 G2 X2
  go_wp2_with (first
    | (refine wpList_load_blk rfl 28 _ rfl (w.heap.size) rfl _ _ _ _ (unhide HB0s) Tryd.underlying28 rfl infoL ?_)
    | (refine wpList_store_blk rfl 28 _ _ rfl rfl (w.heap.size + 1) rfl _ _ _ rfl (unhide HB1s) infoL rfl (by simp [Value.oneCell']) ?_; intro U HB9 hU9; have HU9 := hide hU9; have HB9' := hide HB9; clear hU9 HB9))
  have HB9 := unhide HB9'
  have hU : Fr (fun q => q = w.heap.size ∨ q = w.heap.size + 1) w2 U := (Fr.setCell (S := fun q => q = w.heap.size ∨ q = w.heap.size + 1) (Fr.refl _ _) (a := ⟨w.heap.size, 3, none⟩) (.inl rfl) _).tr ((unhide HU9).mono (fun q hq => .inr hq))
  clear HU9 HB9' x3 f0
  have v0 : U.cell? ⟨w.heap.size + 1, 0, none⟩ = some (.string a) := cells_of HB9 0 _ rfl
  have v1 : U.cell? ⟨w.heap.size + 1, 1, none⟩ = some (.string b) := cells_of HB9 1 _ rfl
  have v2 : U.cell? ⟨w.heap.size + 1, 2, none⟩ = some (.string c) := cells_of HB9 2 _ rfl
  have v3 : U.cell? ⟨w.heap.size + 1, 3, none⟩ = some (.slice a2 n c2) := cells_of HB9 3 _ rfl
  exact bodyPost_ret (v := .agg #[.string a, .string b, .string c, .slice a2 n c2]) (by simp [results, Tryd.results14, go_sem, v0, v1, v2, v3]) rfl ⟨a2, c2, rfl, hide (((unhide HO2).fr hU (fun g hg e9 => by have := ((unhide HO2).lt g hg).1; omega)).mono (by omega)), hU.ext E2 (fun q hq => by omega)⟩
set_option maxRecDepth 10000 in
set_option maxHeartbeats 2000000 in
theorem copyLine_any (a b c : ByteArray) (v : Value) (n : Nat) (tx hf : Nat → ByteArray) (w : World) (hv : Row2At w v n (fun j => .string (tx j)) (fun j => .string (hf j))) (hn : n ≤ 1048576) :
    Calls Tryd.prog 19 #[.agg #[.string a, .string b, .string c, v]] w fun e w' => ∃ ua uc, e = .returned (.agg #[.string a, .string b, .string c, .slice ua n uc]) ∧ Hid (Own2 w' w.heap.size 51 (.slice ua n uc) n (fun j => .string (tx j)) (fun j => .string (hf j))) ∧ Ext w w' := by
  obtain ⟨ic, hic, hc0, hc1, hc2⟩ := info_parts infoSnap
  have HSR := hide (fun W (hW : Ext w W) => Src.snaps (hv.ext hW))
  obtain ⟨ao, ca, rfl, _, _⟩ := hv
  have infoL : (Tryd.prog.info? 28).map (·.size) = some 4 := by kernel_rfl
  have HA0 : Hid (((w.alloc (.cells #[.string a, .string b, .string c, .slice ao n ca] 28)).alloc (.cells #[.string { data := #[] }, .string { data := #[] }, .string { data := #[] }, .slice none 0 0] 28)).heap[w.heap.size]? = some (.cells #[.string a, .string b, .string c, .slice ao n ca] 28 (0, 0))) := hide (((Ext.refl _).alloc _).kept (new_block w _))
  have HA2 : Hid ((((w.alloc (.cells #[.string a, .string b, .string c, .slice ao n ca] 28)).alloc (.cells #[.string { data := #[] }, .string { data := #[] }, .string { data := #[] }, .slice none 0 0] 28)).alloc (.cells #[.string { data := #[] }, .string { data := #[] }, .string { data := #[] }, .slice none 0 0] 28)).heap[w.heap.size + 1 + 1]? = some (.cells #[.string { data := #[] }, .string { data := #[] }, .string { data := #[] }, .slice none 0 0] 28 (0, 0))) := hide (by have h := new_block ((w.alloc (.cells #[.string a, .string b, .string c, .slice ao n ca] 28)).alloc (.cells #[.string { data := #[] }, .string { data := #[] }, .string { data := #[] }, .slice none 0 0] 28)) (.cells #[.string { data := #[] }, .string { data := #[] }, .string { data := #[] }, .slice none 0 0] 28); rw [show ((w.alloc (.cells #[.string a, .string b, .string c, .slice ao n ca] 28)).alloc (.cells #[.string { data := #[] }, .string { data := #[] }, .string { data := #[] }, .slice none 0 0] 28)).heap.size = w.heap.size + 1 + 1 by simp] at h; exact h)
  have HA1 : Hid ((((w.alloc (.cells #[.string a, .string b, .string c, .slice ao n ca] 28)).alloc (.cells #[.string { data := #[] }, .string { data := #[] }, .string { data := #[] }, .slice none 0 0] 28)).alloc (.cells #[.string { data := #[] }, .string { data := #[] }, .string { data := #[] }, .slice none 0 0] 28)).heap[w.heap.size + 1]? = some (.cells #[.string { data := #[] }, .string { data := #[] }, .string { data := #[] }, .slice none 0 0] 28 (0, 0))) := hide (by refine ((Ext.refl _).alloc _).kept ?_; have h := new_block (w.alloc (.cells #[.string a, .string b, .string c, .slice ao n ca] 28)) (.cells #[.string { data := #[] }, .string { data := #[] }, .string { data := #[] }, .slice none 0 0] 28); rw [show (w.alloc (.cells #[.string a, .string b, .string c, .slice ao n ca] 28)).heap.size = w.heap.size + 1 by simp] at h; exact h)
  have HAE : Hid (Ext w (((w.alloc (.cells #[.string a, .string b, .string c, .slice ao n ca] 28)).alloc (.cells #[.string { data := #[] }, .string { data := #[] }, .string { data := #[] }, .slice none 0 0] 28)).alloc (.cells #[.string { data := #[] }, .string { data := #[] }, .string { data := #[] }, .slice none 0 0] 28))) := hide ((((Ext.refl w).alloc _).alloc _).alloc _)
  have HAs : Hid ((((w.alloc (.cells #[.string a, .string b, .string c, .slice ao n ca] 28)).alloc (.cells #[.string { data := #[] }, .string { data := #[] }, .string { data := #[] }, .slice none 0 0] 28)).alloc (.cells #[.string { data := #[] }, .string { data := #[] }, .string { data := #[] }, .slice none 0 0] 28)).heap.size = w.heap.size + 1 + 1 + 1) := hide (by simp)
  go_enter Tryd.func19, Tryd.ntmps19
  go_wp2_with (first
    | (refine wpList_load_blk rfl 28 _ rfl (w.heap.size) rfl _ _ _ _ (unhide HA0) Tryd.underlying28 rfl infoL ?_)
    | (refine wpList_store_blk rfl 28 _ _ rfl rfl (w.heap.size + 1 + 1) rfl _ _ _ rfl (unhide HA2) infoL rfl (by simp [Value.oneCell']) ?_; intro U HB9 hU9; have k3 : U.cell? ⟨w.heap.size, 3, none⟩ = some (.slice ao n ca) := cells_of (hU9.kept (((Ext.refl _).alloc _).kept (unhide HA0)) (by omega)) 3 _ rfl; have HU9 := hide hU9; have HB2 := hide HB9; clear hU9 HB9)
    | (at_builtin; refine StopQ.intro ?_))
  show wpList _ _ _ _ _ _
  have E0 : Ext w U := (unhide HU9).ext (unhide HAE) (fun q hq => by omega)
  have zU : w.heap.size + 1 + 1 + 1 ≤ U.heap.size := by have h1 := (unhide HU9).size; have h2 := unhide HAs; omega
  have HB0 := hide ((unhide HU9).kept (((Ext.refl _).alloc _).kept (unhide HA0)) (by omega))
  have HB1 := hide ((unhide HU9).kept (unhide HA1) (by omega))
  clear HU9 HA0 HA1 HA2 HAE HAs k3 HB0
  refine wpList_app rfl _ _ 26 rfl U.heap.size 51 ic (.agg #[.string noT, .string noT]) 2 32 Tryd.underlying26 hic hc0 hc1 hc2 rfl (by decide) _ 0 [] rfl (owns_nil _ _ _ _) _ n (pairsL (fun j => .string (tx j)) (fun j => .string (hf j)) n) rfl ((unhide HSR) _ E0) (by unfold maxLen; omega) (by omega) (Nat.le_refl _) ?_
  intro v2 w2 o2 G2 _
  have X2 : Ext U w2 := (Ext.refl U).grown G2 (fun q hq => by cases hq)
  have E2 := E0.trans X2
  rw [Nat.zero_add, List.nil_append] at o2
  obtain ⟨a2, c2, rfl⟩ := owns_ln o2
  replace HB1 := hide (X2.kept (unhide HB1))
  replace HB2 := hide (X2.kept (unhide HB2))
  have HO2 := hide (own2_pairs o2)
  have y3 : w2.cell? ⟨w.heap.size + 1 + 1, 3, none⟩ = some (.slice ao n ca) := cells_of (unhide HB2) 3 _ rfl
  have f2 : ∀ i, w2.frozen? ⟨w.heap.size + 1 + 1, i, none⟩ = false := fun i => Lib.frozen_of_heap (unhide HB2) i
  have HB2s : Hid ((w2.setCell ⟨w.heap.size + 1 + 1, 3, none⟩ (.slice a2 n c2)).heap[w.heap.size + 1 + 1]? = some (.cells #[.string a, .string b, .string c, .slice a2 n c2] 28 (0, 0))) := hide (set_blk2 (unhide HB2) rfl)
  have HB1s : Hid ((w2.setCell ⟨w.heap.size + 1 + 1, 3, none⟩ (.slice a2 n c2)).heap[w.heap.size + 1]? = some (.cells #[.string { data := #[] }, .string { data := #[] }, .string { data := #[] }, .slice none 0 0] 28 (0, 0))) := hide (set_else (unhide HB1) (by omega))
  clear o2 G2 HSR
  go_wp2_with (first
    | (refine wpList_load_blk rfl 28 _ rfl (w.heap.size + 1 + 1) rfl _ _ _ _ (unhide HB2s) Tryd.underlying28 rfl infoL ?_)
    | (refine wpList_store_blk rfl 28 _ _ rfl rfl (w.heap.size + 1) rfl _ _ _ rfl (unhide HB1s) infoL rfl (by simp [Value.oneCell']) ?_; intro Y HB9 hU9; have HU9 := hide hU9; have HB9' := hide HB9; clear hU9 HB9))
  have HB9 := unhide HB9'
  have hU : Fr (fun q => q = w.heap.size + 1 + 1 ∨ q = w.heap.size + 1) w2 Y := (Fr.setCell (S := fun q => q = w.heap.size + 1 + 1 ∨ q = w.heap.size + 1) (Fr.refl _ _) (a := ⟨w.heap.size + 1 + 1, 3, none⟩) (.inl rfl) _).tr ((unhide HU9).mono (fun q hq => .inr hq))
  clear HU9 HB9' y3 f2
  have v0 : Y.cell? ⟨w.heap.size + 1, 0, none⟩ = some (.string a) := cells_of HB9 0 _ rfl
  have v1 : Y.cell? ⟨w.heap.size + 1, 1, none⟩ = some (.string b) := cells_of HB9 1 _ rfl
  have v2 : Y.cell? ⟨w.heap.size + 1, 2, none⟩ = some (.string c) := cells_of HB9 2 _ rfl
  have v3 : Y.cell? ⟨w.heap.size + 1, 3, none⟩ = some (.slice a2 n c2) := cells_of HB9 3 _ rfl
  exact bodyPost_ret (v := .agg #[.string a, .string b, .string c, .slice a2 n c2]) (by simp [results, Tryd.results19, go_sem, v0, v1, v2, v3]) rfl ⟨a2, c2, rfl, hide (((unhide HO2).fr hU (fun g hg e9 => by have := ((unhide HO2).lt g hg).1; omega)).mono (by omega)), hU.ext E2 (fun q hq => by omega)⟩
end Go.Proofs.YtopjihagpkempaaDoor

namespace Go.Proofs.YtopjihagpkempaaDoor
open Go.RowKit

/-- The clusters of a settled text. -/
theorem cut_len (L : List Int) : (cutC L).length ≤ (cleanL L).length := clF_len _ _
theorem cut_fit (L : List Int) (h : L.length ≤ 8000000) : (cutC L).length + sumR (cutC L) (cutC L).length ≤ 16777216 := clusC_fit _ (by have := cleanL_len L; omega)
theorem cut_i32 (L : List Int) : ∀ j, j < (cutC L).length → I32s (cR (cutC L) j) := fun j _ => clF_i32 _ _ j
end Go.Proofs.YtopjihagpkempaaDoor
