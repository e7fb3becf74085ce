import Derived.Test.YtokjpnlmkecleaaGreatDoorEdSy
import Derived.Test.YtokjpnlmkecleaaGreatDoorEdG
import Derived.Test.YtokjpnlmkecleaaGreatDoorKys
namespace Go.Proofs.YtokjpnlmkecleaaGreatDoor
open Go.RowKit
section
variable {P base : Nat} {W : World} {k : ByteArray} {u : Value} {qs : List Nat} {un : List (ByteArray × ByteArray)} {cl rl rr : List Value}
set_option maxRecDepth 10000 in
set_option maxHeartbeats 4000000 in
theorem edSwap_end {A1 : List (List Int × Int)} {x y : List Int × Int} (kd : Int) (rv : Value) (h : Ed0 P base W k u qs un (A1 ++ [x, y]) [] cl rl rr) :
    Calls Tryz.prog 100 #[.pointer (some ⟨P, 0, none⟩), .agg #[.int .i64 kd, rv]] W fun e w' => EdR P base W w' k (undoN un (toBA (textC (A1 ++ [x, y])), toBA (textC []))) (A1 ++ [y, x]) [] 1 e := by
  replace h := h.ext ((Ext.refl W).alloc (.cells #[.int .i64 kd, rv] 28))
  have H1 := hide (fun w (E : Ext _ w) => edLeftOf (h.ext E).two)
  have H2 := hide (fun w (E : Ext _ w) => edRightOf (h.ext E).two)
  have H3 := hide (fun w (E : Ext _ w) => edChangeE h E)
  have H5 : Hid (∀ W9 w u' un', Ed2 P base W9 w k u' un' (A1 ++ [x, y]) [] cl rl rr → Calls Tryz.prog 85 #[.pointer (some ⟨P, 0, none⟩), .int .i64 1] w fun e w' => ∃ cl' rl' rr', e = .returned (.tuple #[]) ∧ Ed2 P base W9 w' k u' un' (A1 ++ [x]) ([y] ++ []) cl' rl' rr') := hide (fun W9 w u' un' g => by
    have e : A1 ++ [x, y] = (A1 ++ [x]) ++ [y] := by simp
    rw [e] at g
    exact edGoL g)
  have H4 : Hid (∀ W9 w u' un' cl rl rr, Ed2 P base W9 w k u' un' (A1 ++ [x]) ([y] ++ []) cl rl rr → Calls Tryz.prog 128 #[.pointer (some ⟨P, 0, none⟩), .int .i64 1] w fun e w' => ∃ cl' rl' rr', e = .returned (.tuple #[]) ∧ Ed2 P base W9 w' k u' un' (A1 ++ [x, y]) [] cl' rl' rr') := hide (fun W9 w u' un' cl rl rr g => by
    have := edGoR (B1 := [y]) (by simp) g
    rw [List.append_assoc] at this
    exact this)
  have hfit := h.fit
  clear h
  obtain ⟨q, hq1⟩ : ∃ q, A1.length = q := ⟨_, rfl⟩
  obtain ⟨n, hn1⟩ : ∃ n, (A1 ++ [x, y]).length = n := ⟨_, rfl⟩
  have hnq : n = q + 2 := by rw [← hn1, ← hq1]; simp
  rw [hn1, List.length_nil] at hfit
  rw [hn1] at H1
  rw [List.length_nil] at H2
  have HQ := hide hq1
  clear hn1 hq1
  have hw : IntKind.i64.wrap ((n : Int)) = (n : Int) := by rw [IntKind.wrap_i64]; omega
  have hnI : ¬ (n : Int) = 0 := by omega
  have hnN : ¬ n = 0 := by omega
  have hlt : ¬ (n : Int) < 2 := by omega
  have hnB : ((n : Int) == 0) = false := by simp; omega
  have HNQ := hide hnq
  clear hnq
  go_enter Tryz.func100, Tryz.ntmps100
  go_wp2_with fail
  go_region_law (first
    | (go_simp; go_at_call 104
       refine ((unhide H1) _ (by first | exact Ext.refl _ | exact (Ext.refl _).drew)).mono ?_
       rintro e w1 ⟨rfl, -, E1⟩
       have E2 : Ext (W.alloc (.cells #[.int .i64 kd, rv] 28)) w1 := (by first | exact E1 | exact (Ext.refl _).drew.trans E1)
       clear E1)
    | (go_simp; go_at_call 105
       refine ((unhide H2) _ (by first | exact E2 | exact E2.drew)).mono ?_
       rintro e w2 ⟨ao, cap, rfl, -, E3⟩
       have E4 : Ext (W.alloc (.cells #[.int .i64 kd, rv] 28)) w2 := (by first | exact E2.trans E3 | exact E2.drew.trans E3)
       clear E3))
  all_goals
    have H3' := hide ((unhide H3) _ E4)
    clear H1 H2 H3 E2 E4
    go_wp2_with fail
    refine (unhide H3').mono ?_
    rintro e w3 ⟨u3, rfl, g3, -⟩
    have H5' := hide ((unhide H5) _ w3 u3 _ g3)
    clear H3' H5 g3
    go_wp2_with fail
    refine (unhide H5').mono ?_
    rintro e w9 ⟨cl9, rl9, rr9, rfl, g9⟩
    have H4' := hide ((unhide H4) _ w9 u3 _ _ _ _ g9)
    clear H5' H4 g9
    go_wp2_with fail
    refine (unhide H4').mono ?_
    rintro e w4 ⟨cl4, rl4, rr4, rfl, g4⟩
    have HL := hide (fun w (E : Ext w4 w) => edLeftOf (g4.ext E))
    have HS := hide (fun w (E : Ext w4 w) => (g4.ext E).swap)
    have HG4 := hide (fun w (E : Ext w4 w) => (g4.ext E).blk)
    rw [show (A1 ++ [x, y]).length = q + 2 by rw [List.length_append, unhide HQ]; rfl] at HL
    rw [unhide HQ] at HS
    have hnq := unhide HNQ
    obtain ⟨N, hN⟩ : ∃ N, q + 2 = N := ⟨_, rfl⟩
    rw [hN] at HL
    have hw2 : IntKind.i64.wrap ((N : Int) - 2) = (q : Int) := by rw [IntKind.wrap_i64]; omega
    have b1 : (q : Int) ≤ (N : Int) := by omega
    have b2 : (N : Int) ≤ 300 := by omega
    have b3 : ¬ 300 = q := by omega
    have hd : N - q = 2 := by omega
    clear H4' g4 hN hnq
    go_wp2_with fail
    go_region_law (first
      | (go_simp; go_at_call 104
         first
         | (refine ((unhide HL) _ (by first | exact E6 | exact E6.drew)).mono ?_
            rintro e w7 ⟨rfl, -, E7⟩
            have E8 : Ext w4 w7 := (by first | exact E6.trans E7 | exact E6.drew.trans E7)
            clear E7)
         | (refine ((unhide HL) _ (by first | exact Ext.refl _ | exact (Ext.refl _).drew)).mono ?_
            rintro e w6 ⟨rfl, -, E5⟩
            have E6 : Ext w4 w6 := (by first | exact E5 | exact (Ext.refl _).drew.trans E5)
            clear E5)))
    all_goals
      have hsw := (unhide HS) w7 E8
      have HF7 : Hid (∀ i, w7.frozen? ⟨P, i, none⟩ = false) := hide (fun i => Lib.frozen_of_heap (unhide HG4 w7 E8) i)
      obtain ⟨vx, vy, ⟨ax, nx, cx, rfl⟩, ⟨ay, ny, cy, rfl⟩, c0, c1, c2, c3, o1, o2, cl8, rl8, g8⟩ := hsw
      have f7 := unhide HF7
      have HG8 := hide g8
      clear g8 HS HL E8 E6 HG4 HF7
      go_wp2_with fail
      go_region_law (first | fail)
      all_goals
        go_wp2
        exact bodyPost_ret (v := .int .i64 1) (by simp [results, Tryz.results100, go_sem]) rfl ((((unhide HG8).ext (Ext.refl _).drew).end 1).pre ((Ext.refl W).alloc (.cells #[.int .i64 kd, rv] 28)))
end
end Go.Proofs.YtokjpnlmkecleaaGreatDoor

namespace Go.Proofs.YtokjpnlmkecleaaGreatDoor
open Go.RowKit
theorem BackOwn.most {W : World} {base g cap : Nat} {qs : List Nat} {un : List (ByteArray × ByteArray)} (h : BackOwn W base (.slice (some ⟨g, 0, none⟩) qs.length cap) qs un) (hc : qs.length ≤ cap) : BackAt W (.slice (some ⟨g, 0, none⟩) (qs.length - 1) cap) (un.take (un.length - 1)) := by
  obtain ⟨h1, h2, h3⟩ := h
  refine ⟨qs.take (qs.length - 1), by simp [h1], ⟨_, cap, by rw [List.length_take, h1]; congr 1; omega, by rw [List.length_take]; omega, fun _ => ⟨g, 0, rfl, fun j hj => ?_⟩⟩, fun j q s hq hs => ?_⟩
  · rw [List.length_take] at hj
    have := h2.cellAt j (by omega)
    rw [Nat.zero_add, this]
    simp [List.getElem?_eq_getElem (show j < qs.length by omega), show j < qs.length - 1 by omega]
  · rw [List.getElem?_take] at hq hs
    split at hq
    · split at hs
      · exact h3 j q s hq hs
      · simp at hs
    · simp at hq
section
variable {P base : Nat} {W : World} {k : ByteArray} {u : Value} {qs : List Nat} {cl rl rr : List Value}
set_option maxRecDepth 10000 in
set_option maxHeartbeats 4000000 in
theorem edUndo_no {A B : List (List Int × Int)} (kd : Int) (rv : Value) (h : Ed0 P base W k u qs [] A B cl rl rr) :
    Calls Tryz.prog 101 #[.pointer (some ⟨P, 0, none⟩), .agg #[.int .i64 kd, rv]] W fun e w' => EdR P base W w' k [] A B 2 e := by
  replace h := h.ext ((Ext.refl W).alloc (.cells #[.int .i64 kd, rv] 28))
  have H0 := hide ((h.same (Ext.refl _) 2).pre ((Ext.refl W).alloc (.cells #[.int .i64 kd, rv] 28)))
  have c603 := (edG_cells h.blk h.len).2.2.2.1
  obtain ⟨a, c, e⟩ := owns_sl h.bk.2.1
  have hq : qs.length = 0 := h.bk.1
  rw [hq] at e
  rw [e] at c603
  clear h e hq
  go_enter Tryz.func101, Tryz.ntmps101
  go_wp2
  exact bodyPost_ret (v := .int .i64 2) (by simp [results, Tryz.results101, go_sem]) rfl (unhide H0)
set_option maxRecDepth 10000 in
set_option maxHeartbeats 4000000 in
theorem edUndo_yes {A B : List (List Int × Int)} {un : List (ByteArray × ByteArray)} (s : ByteArray × ByteArray) (hs : un[un.length - 1]? = some s) (z1 : s.1.size ≤ 8000000) (z2 : s.2.size ≤ 8000000) (hfit : (cutC (baL s.1)).length + (cutC (baL s.2)).length ≤ 300) (hT : ∀ W', Fr (fun x => x = P ∨ base ≤ x) W W' → Laid W') (kd : Int) (rv : Value) (h : Ed0 P base W k u qs un A B cl rl rr) :
    Calls Tryz.prog 101 #[.pointer (some ⟨P, 0, none⟩), .agg #[.int .i64 kd, rv]] W fun e w' => EdR P base W w' k (un.take (un.length - 1)) (cutC (baL s.1)) (cutC (baL s.2)) 1 e := by
  have hT' : ∀ V, V = W.alloc (.cells #[.int .i64 kd, rv] 28) → ∀ W', Fr (fun x => x = P ∨ base ≤ x) V W' → Laid W' := fun V hV W' f => hT W' ((Fr.of_ext (by rw [hV]; exact (Ext.refl W).alloc _)).tr f)
  replace hT' := hT' _ rfl
  replace h := h.ext ((Ext.refl W).alloc (.cells #[.int .i64 kd, rv] 28))
  have hl := h.len
  have hun : 0 < un.length := by
    have := (List.getElem?_eq_some_iff.1 hs).1
    omega
  have hqs := h.bk.1
  have h50 := h.hn
  have hpos : 0 < qs.length := by omega
  rcases h.bk.2.1.2 with ⟨-, e0⟩ | ⟨g, cap, cur, rfl, hgb, hgh, hcap, -⟩
  · omega
  obtain ⟨q, hqj⟩ : ∃ q, qs[un.length - 1]? = some q := ⟨qs[un.length - 1]'(by omega), by simp [show un.length - 1 < qs.length by omega]⟩
  have hbox := h.bk.2.2 _ q s hqj hs
  have hcell := h.bk.2.1.cellAt (un.length - 1) (by omega)
  have hcell2 : (W.alloc (.cells #[.int .i64 kd, rv] 28)).cell? ⟨g, un.length - 1, none⟩ = some (.func (.func 86) #[] #[.pointer (some ⟨q, 0, none⟩)]) := by
    rw [hcell, List.getElem?_map, hqj]
    rfl
  have HB := hide (fun w (E : Ext _ w) => back_any q s w (E.kept hbox))
  have HLd := hide (fun w (E : Ext (W.alloc (.cells #[.int .i64 kd, rv] 28)) w) => gapLoad_any P cl _ _ k _ w (E.kept h.blk) hl h.now.one (baL s.1) (baL s.2) (baL_bytes s.1) (baL_bytes s.2) (by rw [baL_len]; exact z1) (by rw [baL_len]; exact z2) hfit (fun W' f => hT' W' ((Fr.of_ext E).tr (f.mono (fun x hx => .inl hx)))))
  rw [toBA_baL, toBA_baL] at HLd
  have HM := hide (fun w (f : Fr (fun x => x = P) (W.alloc (.cells #[.int .i64 kd, rv] 28)) w) => (h.bk.ed h.blk f).most hcap)
  have c603 := (edG_cells h.blk hl).2.2.2.1
  rw [hqs] at c603 HLd HM hcap
  obtain ⟨n, hn⟩ : ∃ n, un.length = n := ⟨_, rfl⟩
  rw [hn] at c603 HLd HM hcap hcell2 hun h50 ⊢
  have hw : IntKind.i64.wrap ((n : Int) - 1) = ((n - 1 : Nat) : Int) := by rw [IntKind.wrap_i64]; omega
  obtain ⟨m, hm⟩ : ∃ m, n - 1 = m := ⟨_, rfl⟩
  rw [hm] at hw hcell2 HM ⊢
  have b1 : (m : Int) < (n : Int) := by omega
  have b2 : ¬ (m : Int) < 0 := by omega
  have b3 : (m : Int) ≤ (cap : Int) := by omega
  have b4 : (0 : Int) ≤ (m : Int) := by omega
  clear h hT hT' hs hm hn h50 hqs hqj hbox hcell hgh hpos hun z1 z2 hfit
  go_enter Tryz.func101, Tryz.ntmps101
  go_wp2_with fail
  go_region_law (first
    | (go_simp; go_at_call 86
       refine ((unhide HB) _ (by first | exact Ext.refl _ | exact (Ext.refl _).drew)).mono ?_
       rintro e w1 ⟨rfl, E1⟩
       have E2 : Ext (W.alloc (.cells #[.int .i64 kd, rv] 28)) w1 := (by first | exact E1 | exact (Ext.refl _).drew.trans E1)
       clear E1)
    | (go_simp; go_at_call 60
       refine ((unhide HLd) _ (by first | exact E2 | exact E2.drew)).mono ?_
       rintro e w2 ⟨cl2, rl2, rr2, rfl, p2, G2, F2⟩
       have F4 : Fr (fun x => x = P) (W.alloc (.cells #[.int .i64 kd, rv] 28)) w2 := (by first | exact (Fr.of_ext E2).tr F2 | exact (Fr.of_ext E2.drew).tr F2)
       have HP2 := hide p2
       have HG2 := hide G2
       clear p2 G2 F2))
  all_goals
    have hl2 := (unhide HG2).len
    have k603 := (edG_cells (unhide HP2) hl2).2.2.2.1
    have f603 := (edG_cells (unhide HP2) hl2).2.2.2.2.2.2
    have p3 := heap_setCell_same w2 P 603 _ _ (.slice (some ⟨g, 0, none⟩) m cap) (unhide HP2)
    rw [edC_undo hl2] at p3
    have F3 : Fr (fun x => x = P) w2 (w2.setCell ⟨P, 603, none⟩ (.slice (some ⟨g, 0, none⟩) m cap)) := Fr.setCell (S := fun q => q = P) (Fr.refl _ w2) (a := ⟨P, 603, none⟩) rfl _
    have H5 := hide ((unhide HM) _ (F4.tr F3))
    have H6 := hide ((unhide HG2).fr F3)
    have H7 : Hid (Fr (fun x => x = P ∨ base ≤ x) W (w2.setCell ⟨P, 603, none⟩ (.slice (some ⟨g, 0, none⟩) m cap))) := hide ((Fr.of_ext ((Ext.refl W).alloc (.cells #[.int .i64 kd, rv] 28))).tr ((F4.tr F3).mono (fun x hx => .inl hx)))
    have HP3 := hide p3
    clear p3 F3 F4 HM HLd HB E2
    go_wp2
    exact bodyPost_ret (v := .int .i64 1) (by simp [results, Tryz.results101, go_sem]) rfl ⟨rfl, ⟨cl2, rl2, rr2, _, unhide HP3, unhide H6, unhide H5⟩, unhide H7⟩
end
end Go.Proofs.YtokjpnlmkecleaaGreatDoor

namespace Go.Proofs.YtokjpnlmkecleaaGreatDoor
open Go.RowKit
section
variable {P base : Nat} {W : World} {k : ByteArray} {u : Value} {un : List (ByteArray × ByteArray)} {cl rl rr : List Value}
theorem edTakeF {W0 : World} {A1 A2 B : List (List Int × Int)} (h : Ed2 P base W0 W k u un (A1 ++ A2) B cl rl rr) :
    Calls Tryz.prog 120 #[.pointer (some ⟨P, 0, none⟩), .int .i64 (A2.length : Int)] W fun e w' => ∃ v rl', e = .returned v ∧ Ed2 P base W0 w' k u un A1 B cl rl' rr ∧ Fr (fun q => q = P) W w' := by
  obtain ⟨hb, hg, hk, hf⟩ := id h
  obtain ⟨r1, r2, rfl, h1, h2⟩ := split_at (by rw [hg.na, List.length_append] : rl.length = A1.length + A2.length)
  rw [List.length_append] at hb
  refine (takeLeft_any P cl r1 r2 rr A1 A2 B _ k u W hb hg h1).mono ?_
  rintro e w' ⟨v, rfl, b', g', c', f'⟩
  exact ⟨v, r1, rfl, h.step b' g' f', f'⟩
end
end Go.Proofs.YtokjpnlmkecleaaGreatDoor
