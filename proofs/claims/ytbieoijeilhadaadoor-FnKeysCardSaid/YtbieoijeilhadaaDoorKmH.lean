import Derived.Test.YtbieoijeilhadaaDoorKmV
import Derived.Lib.SlBytesConst
import Derived.Test.YtbieoijeilhadaaDoorKmB
import Derived.Test.YtbieoijeilhadaaDoorKmR
namespace Go.Proofs.YtbieoijeilhadaaDoor
open Go.RowKit Go.Maps
def pEnd (s : List Int) : Bool := PE.isSuffixOf s
theorem bytes_inj_suffix (s : List Int) (hb : Bytes s) : Lib.hasSuffix (Lib.bytesOf s) (Lib.bytesOf PE) = pEnd s := by
  unfold Lib.hasSuffix Lib.bytesOf pEnd
  rw [Bool.eq_iff_iff, List.isSuffixOf_iff_suffix, List.isSuffixOf_iff_suffix]
  constructor
  · rintro ⟨t, ht⟩
    have hl := congrArg List.length ht
    simp [PE] at hl
    refine ⟨s.take (s.length - 6), ?_⟩
    have h1 : s = s.take (s.length - 6) ++ s.drop (s.length - 6) := (List.take_append_drop _ _).symm
    have h2 : (s.drop (s.length - 6)).map (fun n => UInt8.ofNat n.toNat) = PE.map (fun n => UInt8.ofNat n.toNat) := by
      rw [List.map_drop, ← ht, List.drop_append_of_le_length (by omega)]
      have : s.length - 6 = t.length := by omega
      rw [this]
      simp
    have h3 : s.drop (s.length - 6) = PE := by
      have hb2 : Bytes (s.drop (s.length - 6)) := fun n hn => hb n (List.mem_of_mem_drop hn)
      generalize s.drop (s.length - 6) = d at h2 hb2
      have hl2 := congrArg List.length h2
      simp [PE] at hl2
      match d, hl2, hb2, h2 with
      | [a, b, c, e, f, g], _, hb2, h2 =>
        have k : ∀ x, x ∈ [a, b, c, e, f, g] → 0 ≤ x ∧ x ≤ 255 := hb2
        have ka := k a (by simp); have kb := k b (by simp); have kc := k c (by simp); have ke := k e (by simp); have kf := k f (by simp); have kg := k g (by simp)
        simp [PE] at h2
        obtain ⟨q1, q2, q3, q4, q5, q6⟩ := h2
        have z : ∀ (x : Int) (y : Nat), 0 ≤ x → x ≤ 255 → y ≤ 255 → UInt8.ofNat x.toNat = UInt8.ofNat y → x = (y : Int) := fun x y h0 h1 hy hx => by
          have := congrArg UInt8.toNat hx
          simp at this
          omega
        rw [z a 27 ka.1 ka.2 (by decide) q1, z b 91 kb.1 kb.2 (by decide) q2, z c 50 kc.1 kc.2 (by decide) q3, z e 48 ke.1 ke.2 (by decide) q4, z f 49 kf.1 kf.2 (by decide) q5, z g 126 kg.1 kg.2 (by decide) q6]
        rfl
    rw [← h3, ← h1]
  · rintro ⟨t, rfl⟩
    exact ⟨t.map (fun n => UInt8.ofNat n.toNat), by rw [List.map_append]⟩
theorem hasSuffix_any (s : List Int) (hb : Bytes s) (v v2 : Value) (w : World) (hv : IntsAt w .u8 v s) (hv2 : IntsAt w .u8 v2 PE) (hl : s.length ≤ 8388608) :
    Calls Tryd.prog 102 #[v, v2] w fun e w' => e = .returned (.bool (pEnd s)) ∧ w' = w := by
  obtain ⟨a1, c1, rfl, hc1, h1⟩ := hv
  obtain ⟨a2, c2, rfl, hc2, h2⟩ := hv2
  have g : ∀ (xs : List Int) (i : Nat), i < xs.length → xs.getD i 0 = at0 xs i := fun xs i hi => by simp [at0, List.getD]
  have k := Any.bytes_HasSuffix_all Tryd.laysb117 a1 a2 s.length c1 PE.length c2 s PE w rfl rfl hc1 (by omega)
    (fun h0 => by obtain ⟨b, o, e, hc⟩ := h1 h0; exact ⟨b, o, e, fun i hi => by rw [hc i hi, g s i hi]⟩)
    (fun h0 => by obtain ⟨b, o, e, hc⟩ := h2 h0; exact ⟨b, o, e, fun i hi => by rw [hc i hi, g PE i hi]⟩)
  rw [bytes_inj_suffix s hb] at k
  exact k
set_option maxRecDepth 10000 in
set_option maxHeartbeats 4000000 in
theorem pasted_more (c : Kc) (b : Int) (h : List Int) (ks : List (List Int × Int)) (w : World) (k : KW w c h true ks) (hl : h.length ≤ 4194304) (hb : Bytes (h ++ [b])) (hn : pEnd (h ++ [b]) = false) :
    Calls Tryd.prog 101 #[.int .u8 b, ptr c.s, ptr (c.s + 2), ptr (c.s + 1)] w fun e w' => Stp c (h ++ [b]) true ks w (pastedF c.s) e w' := by
  have d0 := k.sts.2.2.2.2.2.1.1.cell
  have HH := hide (hold_dk c.D c.base c.keep h true ks _ _ _ b w k.dk hl)
  have HK := hide k
  clear k
  go_enter Tryd.func101, Tryd.ntmps101
  go_wp2_with fail
  refine (unhide HH).mono ?_
  rintro e w1 ⟨rfl, hd, hf⟩
  have k1 := (unhide HK).go hf hd
  have e0 := k1.sts.2.2.2.2.2.1.1.cell
  obtain ⟨hv, kv, rs, hB, hO, _⟩ := id k1.dk
  have e1 := cells_of hB 0 _ rfl
  have HK1 := hide k1
  have HF := hide hf
  have HO := hide hO
  clear hd hf k1 HH hB hO
  have hcv := fun C n cc => Lib.run_convert_bytes_const (P := Tryd.prog) w1 22 5 C n cc Tryd.underlying22 Tryd.underlying5
  have E2 := (Ext.refl w1).alloc (.cells #[.int .u8 27, .int .u8 91, .int .u8 50, .int .u8 48, .int .u8 49, .int .u8 126] 5 (6, 7))
  have n2 := new_block w1 (.cells #[.int .u8 27, .int .u8 91, .int .u8 50, .int .u8 48, .int .u8 49, .int .u8 126] 5 (6, 7))
  obtain ⟨w2, hw2⟩ : ∃ w2, w2 = w1.alloc (.cells #[.int .u8 27, .int .u8 91, .int .u8 50, .int .u8 48, .int .u8 49, .int .u8 126] 5 (6, 7)) := ⟨_, rfl⟩
  rw [← hw2] at E2 n2
  have hPE : IntsAt w2 .u8 (.slice (some ⟨w1.heap.size, 0, none⟩) 6 6) PE := ⟨_, _, rfl, by decide, fun _ => ⟨_, _, rfl, fun j hj => cells_of n2 (0 + j) _ (by
    have hj6 : j < 6 := hj
    match j, hj6 with
    | 0, _ => rfl
    | 1, _ => rfl
    | 2, _ => rfl
    | 3, _ => rfl
    | 4, _ => rfl
    | 5, _ => rfl)⟩⟩
  have k2 := (unhide HK1).ext E2
  have HS := hide (hasSuffix_any (h ++ [b]) hb hv _ w2 (ints_of_owns (E2.owns (unhide HO))) hPE (by simp; omega))
  rw [hn] at HS
  have e3 := k2.sts.2.2.2.2.2.1.2.2.cell
  have HK2 := hide k2
  have HF2 := hide (Fr.tr (unhide HF) (Fr.of_ext E2))
  have HW2 := hide hw2
  clear E2 n2 hPE k2 hw2 HF HO HK1
  go_wp2_with fail
  rw [← unhide HW2]
  refine (unhide HS).mono ?_
  rintro e w3 ⟨rfl, rfl⟩
  clear HS HW2 hcv
  go_wp2
  exact bodyPost_ret (v := pastedF c.s) (by simp [results, Tryd.results101, go_sem]) rfl ⟨rfl, unhide HK2, unhide HF2⟩
end Go.Proofs.YtbieoijeilhadaaDoor

namespace Go.Proofs.YtbieoijeilhadaaDoor
open Go.RowKit Go.Maps
theorem pEnd_iff (s : List Int) : pEnd s = true ↔ PE <:+ s := by unfold pEnd; exact List.isSuffixOf_iff_suffix
theorem pEnd_cons (x : Int) (s : List Int) (h : ¬ (x :: s).take 6 = PE) : pEnd (x :: s) = pEnd s := by
  rw [Bool.eq_iff_iff, pEnd_iff, pEnd_iff, List.suffix_cons_iff]
  constructor
  · rintro (h1 | h1)
    · exfalso; apply h; rw [← h1]; rfl
    · exact h1
  · exact fun h1 => .inr h1
theorem endF_snoc (b : Int) : ∀ (h : List Int), endF h = none → endF (h ++ [b]) = if pEnd (h ++ [b]) = true then some (h.length - 5) else none
  | [], _ => by
    have hp : ¬ pEnd ([] ++ [b]) = true := by
      rw [pEnd_iff]
      intro h
      have := h.length_le
      simp [PE] at this
    rw [if_neg hp]
    simp [endF, PE]
  | x :: xs, hn => by
    rw [endF] at hn
    split at hn
    · simp at hn
    · rename_i h6
      have hx : endF xs = none := by
        cases he : endF xs with
        | none => rfl
        | some m => rw [he] at hn; simp at hn
      have ih := endF_snoc b xs hx
      rw [List.cons_append, endF]
      by_cases h7 : (x :: (xs ++ [b])).take 6 = PE
      · rw [if_pos h7]
        have hl : (x :: xs).length = 5 := by
          have h8 := congrArg List.length h7
          simp [PE] at h8
          by_cases h9 : 6 ≤ (x :: xs).length
          · exfalso
            apply h6
            rw [← h7, ← List.cons_append, List.take_append_of_le_length h9]
          · simp at h9 ⊢
            omega
        have h10 : x :: (xs ++ [b]) = PE := by
          rw [← h7, List.take_of_length_le (by simp at hl ⊢; omega)]
        rw [if_pos (by rw [h10, pEnd_iff]; exact List.suffix_refl _), hl]
      · rw [if_neg h7, pEnd_cons x (xs ++ [b]) h7, ih]
        by_cases hp : pEnd (xs ++ [b]) = true
        · have := ((pEnd_iff _).1 hp).length_le
          simp [PE] at this
          rw [if_pos hp, if_pos hp]
          simp
          omega
        · rw [if_neg hp, if_neg hp]
          rfl
theorem rk_pasted (h : List Int) (b : Int) (hs : rkStep h true = none) : rk (h ++ [b]) true = if pEnd (h ++ [b]) = true then ([(cleanL ((h ++ [b]).take (h.length - 5)), 2)], h.length + 1, false) else ([], 0, true) := by
  have hn : endF h = none := by
    unfold rkStep at hs
    by_cases h0 : h.length = 0
    · have : h = [] := List.eq_nil_of_length_eq_zero h0
      subst this; rfl
    · rw [if_neg h0] at hs
      simp only [if_true] at hs
      cases he : endF h with
      | none => rfl
      | some k => rw [he] at hs; simp at hs
  have he := endF_snoc b h hn
  have hst : rkStep (h ++ [b]) true = if pEnd (h ++ [b]) = true then some ([(cleanL ((h ++ [b]).take (h.length - 5)), 2)], h.length + 1, false) else none := by
    unfold rkStep
    rw [if_neg (by simp)]
    simp only [if_true]
    rw [he]
    by_cases hp : pEnd (h ++ [b]) = true
    · have := ((pEnd_iff _).1 hp).length_le
      simp [PE] at this
      rw [if_pos hp, if_pos hp]
      simp
      omega
    · rw [if_neg hp, if_neg hp]
  by_cases hp : pEnd (h ++ [b]) = true
  · rw [if_pos hp] at hst ⊢
    rw [rk_some hst, List.drop_eq_nil_of_le (by simp), rk_none (s := []) (p := false) (by unfold rkStep; simp)]
    simp
  · rw [if_neg hp] at hst ⊢
    rw [rk_none hst]
end Go.Proofs.YtbieoijeilhadaaDoor

namespace Go.Proofs.YtbieoijeilhadaaDoor
open Go.RowKit Go.Maps
theorem rk_nil (p : Bool) : rk [] p = ([], 0, p) := rk_none (by unfold rkStep; simp)
theorem rk_whole {s : List Int} {ks : List (List Int × Int)} {q : Bool} (h : rkStep s false = some (ks, s.length, q)) : rk s false = (ks, s.length, q) := by
  rw [rk_some h, List.drop_eq_nil_of_le (Nat.le_refl _), rk_nil]
  simp
theorem rkStep_one {s : List Int} (h0 : 0 < s.length) (t : Tk) (ht : oneF s = t) (hn : t.n ≠ 0) : rkStep s false = some (keyT t, t.n, t.p) := by
  unfold rkStep
  rw [if_neg (by omega), ht]
  simp [hn]
theorem rkStep_wait {s : List Int} (ht : oneF s = tk0) : rkStep s false = none := by
  unfold rkStep
  rw [ht]
  simp [tk0]
set_option maxRecDepth 100000 in
theorem ctrl_kind : ∀ n : Fin 256, (n.val < 32 ∨ n.val = 127) → n.val ≠ 9 → n.val ≠ 27 → ctrlF (n.val : Int) = kindOf loneL (n.val : Int) ∧ 0 < kindOf loneL (n.val : Int) ∧ kindOf loneL (n.val : Int) ≠ 1 := by decide
set_option maxRecDepth 100000 in
theorem ctrl_none : ∀ n : Fin 256, ¬ n.val < 32 → n.val ≠ 127 → ctrlF (n.val : Int) = 0 := by decide
set_option maxRecDepth 100000 in
theorem meta_kind : ∀ n : Fin 256, (if (n.val : Int) = 98 then (18 : Int) else if (n.val : Int) = 102 then 19 else 23) = kindOf metaL (n.val : Int) := by decide
theorem fin_of {b : Int} (h0 : 0 ≤ b) (h1 : b ≤ 255) : ∃ n : Fin 256, b = (n.val : Int) := ⟨⟨b.toNat, by omega⟩, by simp; omega⟩
theorem rk_ground_27 : rk [27] false = ([], 0, false) := rk_none (rkStep_wait rfl)
theorem rk_ground_9 : rk [9] false = ([([32], 1)], 1, false) := rk_whole (s := [9]) (rkStep_one (by simp) ⟨1, 1, 32, false⟩ rfl (by simp))
theorem rk_ground_ctl {b : Int} (h0 : 0 ≤ b) (h1 : b ≤ 255) (hc : b < 32 ∨ b = 127) (h9 : b ≠ 9) (h27 : b ≠ 27) : rk [b] false = ([([], kindOf loneL b)], 1, false) := by
  obtain ⟨n, rfl⟩ := fin_of h0 h1
  obtain ⟨e1, e2, e3⟩ := ctrl_kind n (by omega) (by omega) (by omega)
  have ho : oneF [(n.val : Int)] = ⟨1, kindOf loneL (n.val : Int), 0, false⟩ := by
    unfold oneF
    have e0 : at0 [(n.val : Int)] 0 = (n.val : Int) := rfl
    rw [e0, if_neg h27, if_neg h9, e1, if_pos e2]
  refine rk_whole (s := [(n.val : Int)]) ?_
  rw [rkStep_one (by simp) _ ho (by simp)]
  unfold keyT
  simp [e2, e3]
theorem rk_rune {s : List Int} (h0 : 0 < s.length) (hb : Bytes s) (hc : ¬ at0 s 0 < 32) (h127 : at0 s 0 ≠ 127) (hf : fullB s = true) : rk s false = (([shownI (decL s).1], 1) :: (rk (s.drop (decL s).2) false).1, (decL s).2 + (rk (s.drop (decL s).2) false).2.1, (rk (s.drop (decL s).2) false).2.2) := by
  have hb0 := hb.at0 0
  obtain ⟨n, hn⟩ := fin_of hb0.1 hb0.2
  have hB : begB s = false := by rw [beg_full s h0, hf]; rfl
  have hd : (decL s).2 ≠ 0 := by
    rw [decL_form]
    (repeat' split) <;> simp
  have ho : oneF s = ⟨(decL s).2, 1, shownI (decL s).1, false⟩ := by
    unfold oneF
    rw [if_neg (by omega), if_neg (by omega), hn, ctrl_none n (by omega) (by omega), hB]
    rfl
  rw [rk_some (rkStep_one h0 _ ho hd)]
  rfl
theorem rk_escaped_wait {b : Int} (h : b = 91 ∨ b = 79) : rk [27, b] false = ([], 0, false) := by
  rcases h with rfl | rfl
  · exact rk_none (rkStep_wait rfl)
  · exact rk_none (rkStep_wait rfl)
theorem rk_escaped_27 : rk [27, 27] false = ([([], 22)], 1, false) := by
  rw [rk_some (rkStep_one (by simp) ⟨1, 22, 0, false⟩ rfl (by simp))]
  show (_ ++ (rk [27] false).1, 1 + (rk [27] false).2.1, (rk [27] false).2.2) = _
  rw [rk_ground_27]
  rfl
theorem rk_escaped_else {b : Int} (h0 : 0 ≤ b) (h1 : b ≤ 255) (h2 : b ≠ 91) (h3 : b ≠ 79) (h4 : b ≠ 27) : rk [27, b] false = ([([], kindOf metaL b)], 2, false) := by
  obtain ⟨n, rfl⟩ := fin_of h0 h1
  have hk := meta_kind n
  have ho : oneF [27, (n.val : Int)] = ⟨2, kindOf metaL (n.val : Int), 0, false⟩ := by
    show escF [27, (n.val : Int)] = _
    unfold escF
    have e1 : at0 [27, (n.val : Int)] 1 = (n.val : Int) := rfl
    rw [e1, ← hk, if_neg (by simp), if_neg h4, if_neg h2, if_neg h3]
    by_cases a : (n.val : Int) = 98
    · rw [if_pos a, if_pos a]
    · rw [if_neg a, if_neg a]
      by_cases a2 : (n.val : Int) = 102
      · rw [if_pos a2, if_pos a2]
      · rw [if_neg a2, if_neg a2]
  refine rk_whole (s := [27, (n.val : Int)]) ?_
  rw [rkStep_one (by simp) _ ho (by simp)]
  have hp : kindOf metaL (n.val : Int) ≠ 1 ∧ 0 < kindOf metaL (n.val : Int) := by
    rw [← hk]
    (repeat' split) <;> decide
  unfold keyT
  simp [hp.1, hp.2]
end Go.Proofs.YtbieoijeilhadaaDoor

namespace Go.Proofs.YtbieoijeilhadaaDoor
open Go.RowKit Go.Maps
theorem kindOf_cons {α : Type} [DecidableEq α] (k : α) (v : Int) (l : List (α × Int)) (c : α) : kindOf ((k, v) :: l) c = if k = c then v else kindOf l c := by
  unfold kindOf
  rw [List.find?_cons]
  by_cases h : k = c
  · simp [h]
  · simp [h]
def endsI : List (List Int × Int) := [([65], 10), ([66], 11), ([67], 7), ([68], 6), ([72], 8), ([70], 9), ([51, 126], 5), ([49, 126], 8), ([55, 126], 8), ([52, 126], 9), ([56, 126], 9)]
theorem ends_map : endsL = endsI.map (fun x => (toBA x.1, x.2)) := rfl
theorem endsI_bytes : ∀ x ∈ endsI, Bytes x.1 := by unfold endsI Bytes; decide
theorem kindOf_toBA (xs : List Int) (hx : Bytes xs) : ∀ l : List (List Int × Int), (∀ x ∈ l, Bytes x.1) → kindOf (l.map (fun x => (toBA x.1, x.2))) (toBA xs) = kindOf l xs
  | [], _ => rfl
  | (k, v) :: l, h => by
    rw [List.map_cons, kindOf_cons, kindOf_cons, kindOf_toBA xs hx l (fun x hx => h x (by simp [hx]))]
    by_cases e : k = xs
    · rw [if_pos e, if_pos (by rw [e])]
    · rw [if_neg e, if_neg (fun e2 => e (toBA_inj (h (k, v) (by simp)) hx e2))]
theorem ends_kind (xs : List Int) (hx : Bytes xs) : kindOf endsL (toBA xs) = kindOf endsI xs := by
  rw [ends_map]
  exact kindOf_toBA xs hx endsI endsI_bytes
theorem snoc1 (ds : List Int) (b a : Int) : [a] = ds ++ [b] ↔ ds = [] ∧ b = a := by
  constructor
  · intro h
    have := List.append_inj' (s₁ := []) (t₁ := [a]) (s₂ := ds) (t₂ := [b]) h rfl
    simp at this
    exact ⟨this.1, this.2.symm⟩
  · rintro ⟨rfl, rfl⟩; rfl
theorem snoc2 (ds : List Int) (b a c : Int) : [a, c] = ds ++ [b] ↔ ds = [a] ∧ b = c := by
  constructor
  · intro h
    have := List.append_inj' (s₁ := [a]) (t₁ := [c]) (s₂ := ds) (t₂ := [b]) h rfl
    simp at this
    exact ⟨this.1.symm, this.2.symm⟩
  · rintro ⟨rfl, rfl⟩; rfl
theorem ends_seq (ds : List Int) (b : Int) (hp : ¬ (ds = [50, 48, 48] ∧ b = 126)) : kindOf endsI (ds ++ [b]) = if b = 126 then tilF ds else if ds = [] then letF b else 23 := by
  unfold endsI
  simp only [kindOf_cons, snoc1, snoc2]
  have h0 : kindOf ([] : List (List Int × Int)) (ds ++ [b]) = 23 := rfl
  rw [h0]
  by_cases hb : b = 126
  · subst hb
    unfold tilF
    have hq : ¬ ds = [50, 48, 48] := fun h => hp ⟨h, rfl⟩
    by_cases a1 : ds = [51]
    · subst a1; simp
    · by_cases a2 : ds = [49]
      · subst a2; simp
      · by_cases a3 : ds = [55]
        · subst a3; simp
        · by_cases a4 : ds = [52]
          · subst a4; simp
          · by_cases a5 : ds = [56]
            · subst a5; simp
            · simp [a1, a2, a3, a4, a5, hq]
  · by_cases hd : ds = []
    · subst hd
      unfold letF letB letKs
      simp only [lookT, true_and, hb, and_false, if_false]
      simp only [eq_comm]
      simp
    · simp [hb, hd]
end Go.Proofs.YtbieoijeilhadaaDoor

namespace Go.Proofs.YtbieoijeilhadaaDoor
open Go.RowKit Go.Maps
theorem letF_pos (b : Int) : 0 < letF b ∧ letF b ≠ 1 := by
  unfold letF letB letKs
  simp only [lookT]
  (repeat' split) <;> decide
theorem tilF_pos (ds : List Int) (h : ds ≠ [50, 48, 48]) : 0 < tilF ds ∧ tilF ds ≠ 1 := by
  unfold tilF
  rw [if_neg (c := ds = [50, 48, 48]) h]
  (repeat' split) <;> decide
theorem numR_all : ∀ (ds t : List Int), (∀ d ∈ ds, 48 ≤ d ∧ d ≤ 63) → numR (ds ++ t) = ds.length + numR t
  | [], t, _ => by simp
  | d :: ds, t, h => by
    rw [List.cons_append, numR, if_pos (h d (by simp)), numR_all ds t (fun x hx => h x (by simp [hx]))]
    simp
    omega
theorem rk_single {b : Int} (hb : Bytes [b]) : rk [27, 79, b] false = ([([], kindOf endsL (toBA [b]))], 3, false) := by
  have hk : kindOf endsL (toBA [b]) = letF b := by
    rw [ends_kind _ hb]
    have h := ends_seq [] b (by simp)
    rw [List.nil_append] at h
    rw [h]
    by_cases e : b = 126
    · subst e; rfl
    · rw [if_neg e, if_pos rfl]
  have hp := letF_pos b
  refine rk_whole (s := [27, 79, b]) ?_
  rw [rkStep_one (by simp) ⟨3, letF b, 0, false⟩ rfl (by simp), hk]
  unfold keyT
  simp [hp.1, hp.2]
section
variable {ds : List Int} {b : Int}
theorem brk_at (ds : List Int) (b : Int) : at0 (27 :: 91 :: (ds ++ [b])) (2 + ds.length) = b := by
  have : at0 (27 :: 91 :: (ds ++ [b])) (2 + ds.length) = at0 (ds ++ [b]) ds.length := by
    unfold at0
    rw [show 2 + ds.length = ds.length + 1 + 1 by omega]
    rfl
  rw [this]
  unfold at0
  rw [List.getElem?_append_right (Nat.le_refl _)]
  simp
theorem one_brk (ds : List Int) (b : Int) : oneF (27 :: 91 :: (ds ++ [b])) = brkF (27 :: 91 :: (ds ++ [b])) := by
  show escF (27 :: 91 :: (ds ++ [b])) = _
  unfold escF
  have e1 : at0 (27 :: 91 :: (ds ++ [b])) 1 = 91 := rfl
  rw [e1, if_neg (by simp), if_neg (by decide), if_pos rfl]
theorem rk_between_more (h : ∀ d ∈ ds, 48 ≤ d ∧ d ≤ 63) (h1 : 48 ≤ b ∧ b ≤ 63) : rk (27 :: 91 :: (ds ++ [b])) false = ([], 0, false) := by
  refine rk_none (rkStep_wait ?_)
  rw [one_brk]
  unfold brkF
  have hn : numR ((27 :: 91 :: (ds ++ [b])).drop 2) = ds.length + 1 := by
    show numR (ds ++ [b]) = _
    rw [numR_all ds [b] h, numR, if_pos h1]
    rfl
  rw [hn, if_pos (by simp; omega)]
theorem brk_num (h : ∀ d ∈ ds, 48 ≤ d ∧ d ≤ 63) (h1 : ¬ (48 ≤ b ∧ b ≤ 63)) : numR ((27 :: 91 :: (ds ++ [b])).drop 2) = ds.length := by
  show numR (ds ++ [b]) = _
  rw [numR_all ds [b] h, numR, if_neg h1]
  rfl
theorem rk_between_bad (h : ∀ d ∈ ds, 48 ≤ d ∧ d ≤ 63) (h1 : ¬ (48 ≤ b ∧ b ≤ 63)) (h2 : ¬ (64 ≤ b ∧ b ≤ 126)) : rk (27 :: 91 :: (ds ++ [b])) false = (([], 23) :: (rk [b] false).1, ds.length + 2 + (rk [b] false).2.1, (rk [b] false).2.2) := by
  have ho : oneF (27 :: 91 :: (ds ++ [b])) = ⟨ds.length + 2, 23, 0, false⟩ := by
    rw [one_brk]
    unfold brkF
    rw [brk_num h h1, brk_at, if_neg (by simp; omega), if_pos (by omega)]
  have hd : (27 :: 91 :: (ds ++ [b])).drop (ds.length + 2) = [b] := by
    show (ds ++ [b]).drop ds.length = [b]
    simp
  rw [rk_some (rkStep_one (by simp) _ ho (by simp))]
  simp only [hd]
  rfl
theorem rk_between_key (h : ∀ d ∈ ds, 48 ≤ d ∧ d ≤ 63) (h2 : 64 ≤ b ∧ b ≤ 126) (hp : ¬ (ds = [50, 48, 48] ∧ b = 126)) (hb : Bytes (ds ++ [b])) : rk (27 :: 91 :: (ds ++ [b])) false = ([([], kindOf endsL (toBA (ds ++ [b])))], ds.length + 3, false) := by
  have hk := ends_seq ds b hp
  rw [← ends_kind _ hb] at hk
  have e0 : (if b = 126 then tilF ds else if ds = [] then letF b else 23) = (if b = 126 then tilF ds else if ds.length = 0 then letF b else 23) := by
    by_cases e : ds = []
    · subst e; rfl
    · have : ds.length ≠ 0 := fun x => e (List.eq_nil_of_length_eq_zero x)
      rw [if_neg e, if_neg this]
  have hpos : 0 < kindOf endsL (toBA (ds ++ [b])) ∧ kindOf endsL (toBA (ds ++ [b])) ≠ 1 := by
    rw [hk]
    by_cases e : b = 126
    · rw [if_pos e]; exact tilF_pos ds (fun x => hp ⟨x, e⟩)
    · rw [if_neg e]
      by_cases e2 : ds = []
      · rw [if_pos e2]; exact letF_pos b
      · rw [if_neg e2]; decide
  have ht : ((27 :: 91 :: (ds ++ [b])).drop 2).take ds.length = ds := by
    show (ds ++ [b]).take ds.length = ds
    simp
  have ho : oneF (27 :: 91 :: (ds ++ [b])) = ⟨ds.length + 3, kindOf endsL (toBA (ds ++ [b])), 0, false⟩ := by
    rw [one_brk]
    unfold brkF
    rw [brk_num h (by omega), brk_at, ht, if_neg (by simp; omega), if_neg (by omega), ← e0, ← hk, if_neg (by omega)]
  have hw := rk_whole (s := 27 :: 91 :: (ds ++ [b])) (ks := [([], kindOf endsL (toBA (ds ++ [b])))]) (q := false) (by
    rw [rkStep_one (by simp) _ ho (by simp)]
    unfold keyT
    simp [hpos.1, hpos.2])
  rw [hw]
  simp
theorem rk_between_paste : rk [27, 91, 50, 48, 48, 126] false = ([], 6, true) := by
  rw [rk_some (rkStep_one (by simp) ⟨6, 0, 0, true⟩ rfl (by simp))]
  show (_ ++ (rk [] true).1, 6 + (rk [] true).2.1, (rk [] true).2.2) = _
  rw [rk_nil]
  rfl
end
end Go.Proofs.YtbieoijeilhadaaDoor

namespace Go.Proofs.YtbieoijeilhadaaDoor
open Go.RowKit Go.Maps
def rkH (s : List Int) (p : Bool) : List Int := s.drop (rk s p).2.1
theorem rk_len : ∀ (f : Nat) (s : List Int) (p : Bool), s.length ≤ f → (rk s p).1.length ≤ (rk s p).2.1 ∧ (rk s p).2.1 ≤ s.length := by
  intro f
  induction f with
  | zero =>
    intro s p hf
    have e : s = [] := List.eq_nil_of_length_eq_zero (by omega)
    subst e
    rw [rk_nil]
    simp
  | succ f ih =>
    intro s p hf
    cases hst : rkStep s p with
    | none => rw [rk_none hst]; simp
    | some x =>
      obtain ⟨ks, m, q⟩ := x
      have hm := rkStep_n hst
      have ho := (rkStep_ok hst).1
      rw [rk_some hst]
      have hd : (s.drop m).length = s.length - m := by simp
      have := ih (s.drop m) q (by omega)
      simp only [List.length_append]
      omega
theorem rk_snoc (t : List Int) (x : Int) (p : Bool) : (rk (t ++ [x]) p).1 = (rk t p).1 ++ (rk (rkH t p ++ [x]) (rk t p).2.2).1 ∧ rkH (t ++ [x]) p = rkH (rkH t p ++ [x]) (rk t p).2.2 ∧ (rk (t ++ [x]) p).2.2 = (rk (rkH t p ++ [x]) (rk t p).2.2).2.2 := by
  have e := rk_append [x] t.length t p (Nat.le_refl _)
  have hn := (rk_len t.length t p (Nat.le_refl _)).2
  refine ⟨by rw [e]; rfl, ?_, by rw [e]; rfl⟩
  unfold rkH
  rw [e]
  show (t ++ [x]).drop ((rk t p).2.1 + _) = _
  rw [← List.drop_drop, List.drop_append_of_le_length hn]
theorem rkH_len (s : List Int) (p : Bool) : (rkH s p).length + (rk s p).1.length ≤ s.length := by
  have := rk_len s.length s p (Nat.le_refl _)
  unfold rkH
  rw [List.length_drop]
  omega
theorem rkH_bytes {s : List Int} {p : Bool} (h : Bytes s) : Bytes (rkH s p) := fun n hn => h n (List.mem_of_mem_drop hn)
theorem KW.keepY {w : World} {c : Kc} {h : List Int} {p : Bool} {ks : List (List Int × Int)} {Y : Nat → Prop} (k : KW w c h p ks) (hd : DkAt w c.D c.base Y h p ks (.map (some c.b1)) (.map (some c.b2)) (.map (some c.b3))) : KW w { c with keep := Y } h p ks :=
  ⟨⟨k.ok.d, k.ok.m1, k.ok.m2, k.ok.m3, k.ok.q, k.ok.r, k.ok.s, k.ok.t, k.ok.y, k.ok.z, k.ok.top, k.ok.g1, k.ok.g2⟩, hd, k.maps, k.sts, k.tabs⟩
theorem KW.unkeep {w : World} {c : Kc} {h : List Int} {p : Bool} {ks : List (List Int × Int)} {Y : Nat → Prop} (k : KW w { c with keep := Y } h p ks) (hY : ∀ k, c.keep k → Y k) : KW w c h p ks :=
  ⟨⟨k.ok.d, k.ok.m1, k.ok.m2, k.ok.m3, k.ok.q, k.ok.r, k.ok.s, k.ok.t, k.ok.y, k.ok.z, k.ok.top, k.ok.g1, k.ok.g2⟩, k.dk.mono hY, k.maps, k.sts, k.tabs⟩
def StF (v : Value) (b : Int) (w : World) (Q : Ending → World → Prop) : Prop :=
  ∃ (F : FuncId) (caps : List Value), v = .func (.func F) #[] caps.toArray ∧ (∀ (args : Array Value) (w : World), (callFunc F args).run Tryd.prog w = .ok (.enter F args) w) ∧ Calls Tryd.prog F (Value.int .u8 b :: caps).toArray w Q
def StepAt (c : Kc) (h : List Int) (p : Bool) : Prop := ∀ (b : Int) (ks : List (List Int × Int)) (w : World), KW w c h p ks → Bytes (h ++ [b]) → ks.length + h.length ≤ 4194303 →
  StF (c.mode h p) b w (Stp c (rkH (h ++ [b]) p) (rk (h ++ [b]) p).2.2 (ks ++ (rk (h ++ [b]) p).1) w (c.mode (rkH (h ++ [b]) p) (rk (h ++ [b]) p).2.2))
def Rd (c : Kc) (p : Bool) (s : List Int) (ks0 : List (List Int × Int)) (w0 wr : World) (v : Value) : Prop :=
  v = c.mode (rkH s p) (rk s p).2.2 ∧ KW wr c (rkH s p) (rk s p).2.2 (ks0 ++ (rk s p).1) ∧ FrD c.D c.base c.keep w0 wr
theorem StF.mono {v : Value} {b : Int} {w : World} {Q Q' : Ending → World → Prop} (h : StF v b w Q) (hQ : ∀ e w', Q e w' → Q' e w') : StF v b w Q' := by
  obtain ⟨F, caps, h1, h2, h3⟩ := h
  exact ⟨F, caps, h1, h2, h3.mono hQ⟩
theorem rd_start {c : Kc} {p : Bool} {ks0 : List (List Int × Int)} {w : World} (k : KW w c [] p ks0) : Rd c p [] ks0 w w (c.mode [] p) := by
  unfold Rd rkH
  rw [rk_nil]
  exact ⟨rfl, by simpa using k, Fr.refl _ _⟩
theorem take_at0 (t : List Int) (k : Nat) (h : k < t.length) : t.take (k + 1) = t.take k ++ [at0 t k] := by
  rw [List.take_succ_eq_append_getElem h]
  simp [at0, h]
theorem rd_step {c : Kc} {p : Bool} {s : List Int} {ks0 : List (List Int × Int)} {w0 wr : World} {v : Value} (h : Rd c p s ks0 w0 wr v) (x : Int) (hb : Bytes (s ++ [x])) (hl : ks0.length + s.length ≤ 4194303)
    (ih : ∀ (h' : List Int) (p' : Bool), h'.length ≤ s.length → rkStep h' p' = none → StepAt c h' p') : StF v x wr (fun e w' => ∃ v', e = .returned v' ∧ Rd c p (s ++ [x]) ks0 w0 w' v') := by
  obtain ⟨rfl, k, f⟩ := h
  have hn := rk_len s.length s p (Nat.le_refl _)
  have hh := rkH_len s p
  have hbs : Bytes s := fun n hn => hb n (List.mem_append_left _ hn)
  have hb2 : Bytes (rkH s p ++ [x]) := fun n hn => by
    rcases List.mem_append.1 hn with h | h
    · exact rkH_bytes hbs n h
    · exact hb n (List.mem_append_right _ h)
  have st := ih (rkH s p) (rk s p).2.2 (by omega) (rk_rest s.length s p (Nat.le_refl _)) x (ks0 ++ (rk s p).1) wr k hb2 (by rw [List.length_append]; omega)
  obtain ⟨e1, e2, e3⟩ := rk_snoc s x p
  refine st.mono ?_
  rintro e w' ⟨rfl, k', f'⟩
  refine ⟨_, rfl, ?_, ?_, Fr.tr f f'⟩
  · rw [e2, e3]
  · rw [e1, e2, e3, ← List.append_assoc]
    exact k'
end Go.Proofs.YtbieoijeilhadaaDoor

namespace Go.Proofs.YtbieoijeilhadaaDoor
open Go.RowKit Go.Maps
set_option maxRecDepth 10000 in
set_option maxHeartbeats 4000000 in
theorem begun_full (c : Kc) (b : Int) (h : List Int) (ks : List (List Int × Int)) (w : World) (k : KW w c h false ks) (hl : h.length ≤ 3) (hb : Bytes (h ++ [b])) (hn : fullB (h ++ [b]) = true) (hkl : ks.length + h.length ≤ 4194303)
    (IH : ∀ (c' : Kc) (h' : List Int) (p' : Bool), h'.length < h.length → rkStep h' p' = none → StepAt c' h' p') (t : List Int) (ht : t = (h ++ [b]).drop (decL (h ++ [b])).2) :
    Calls Tryd.prog 97 #[.int .u8 b, ptr c.r, ptr (c.r + 3), ptr (c.r + 2), ptr (c.r + 1)] w fun e w' => Stp c (rkH t false) (rk t false).2.2 (ks ++ ([shownI (decL (h ++ [b])).1], 1) :: (rk t false).1) w (c.mode (rkH t false) (rk t false).2.2) e w' := by
  have d0 := k.sts.2.2.2.2.1.1.cell
  have HH := hide (hold_dk c.D c.base c.keep h false ks _ _ _ b w k.dk (by omega))
  have HK := hide k
  have HIH := hide IH
  clear k IH
  obtain ⟨s, hs⟩ : ∃ s, s = h ++ [b] := ⟨_, rfl⟩
  have hsl : s.length = h.length + 1 := by rw [hs]; simp
  rw [← hs] at HH hb hn ht ⊢
  have hd1 := decL_len s (by omega)
  have hd2 := decL_pos s
  obtain ⟨r, hr⟩ : ∃ r, r = (decL s).1 := ⟨_, rfl⟩
  obtain ⟨m, hm⟩ : ∃ m, m = (decL s).2 := ⟨_, rfl⟩
  rw [← hr]
  rw [← hm] at ht hd1 hd2
  have htl : t.length = s.length - m := by rw [ht]; simp
  have hs1 : s.length ≤ h.length + 1 := by omega
  have hs2 : h.length + 1 ≤ s.length := by omega
  have HTL := hide htl
  clear hsl htl
  have HB := hide hb
  have HT := hide ht
  have HN := hide hn
  have HR := hide hr
  have HM := hide hm
  clear hs ht hb hn hr hm
  go_enter Tryd.func97, Tryd.ntmps97
  go_wp2_with fail
  refine (unhide HH).mono ?_
  rintro e w1 ⟨rfl, hd, hf⟩
  have k1 := (unhide HK).go hf hd
  have e0 := k1.sts.2.2.2.2.1.1.cell
  obtain ⟨hv, kv, rs, hB, hO, _⟩ := id k1.dk
  have e1 := cells_of hB 0 _ rfl
  have HFu := hide (fullRune_any s (unhide HB) hv w1 (ints_of_owns hO) (by omega) k1.tabs)
  rw [unhide HN] at HFu
  have HK1 := hide k1
  have HF := hide hf
  clear hd hf k1 HH hB hO HK HN
  go_wp2_with fail
  refine (unhide HFu).mono ?_
  rintro e w2 ⟨rfl, E2⟩
  have k2 : KW w2 c s false ks := (unhide HK1).ext E2
  have e3 := k2.sts.2.2.2.2.1.1.cell
  have HRe := hide (release_dk2 c.D c.base c.keep s false ks _ _ _ w2 k2.dk)
  have HK2 := hide k2
  have HF2 : Hid (FrD c.D c.base c.keep w w2) := hide (Fr.tr (unhide HF) (Fr.of_ext E2))
  clear k2 E2 HFu HF HK1
  go_wp2_with fail
  refine (unhide HRe).mono ?_
  rintro e w3 ⟨⟨hv3, rfl, ho3, hd3, hx3⟩, hf3⟩
  clear HRe
  obtain ⟨g, cap, rfl⟩ : ∃ g cap, hv3 = .slice (some ⟨g, 0, none⟩) s.length cap := by
    rcases ho3.2 with ⟨_, e0⟩ | ⟨g, cap, cur, e0, _⟩
    · omega
    · exact ⟨g, cap, e0⟩
  have hcap : s.length ≤ cap := by
    rcases ho3.2 with ⟨e0, _⟩ | ⟨g, cap, cur, e0, _, _, hnc, _⟩
    · simp at e0
    · simp only [Value.slice.injEq] at e0
      omega
  have k3 := ((unhide HK2).go hf3 (hd3.mono (fun k hk => .inl hk))).keepY hd3
  have HF3 := hide (Fr.tr (unhide HF2) hf3)
  have hgb := (ho3.lt g rfl).1
  have HDr := hide (decodeRune_any s (unhide HB) _ w3 (ints_of_owns ho3) (by omega) k3.tabs)
  rw [← unhide HR, ← unhide HM] at HDr
  have HK3 := hide k3
  have HO3 := hide ho3
  clear hd3 hx3 hf3 k3 HK2 HF2 ho3
  go_wp2_with fail
  refine (unhide HDr).mono ?_
  rintro e w4 ⟨rfl, E4⟩
  have k4 := (unhide HK3).ext E4
  have f2 : w4.cell? ⟨c.r + 2, 0, none⟩ = some (.func (.func 40) #[ptr c.D] #[]) := k4.sts.2.2.2.2.1.2.2.1.cell
  have HPr := hide (pressRune_dk c.D c.base (fun k => c.keep k ∨ Value.ownBlock (.slice (some ⟨g, 0, none⟩) s.length cap) = some k) [] false ks _ _ _ r w4 k4.dk (by omega))
  have HK4 := hide k4
  have HO4 := hide (E4.owns (unhide HO3))
  have HF4 := hide (Fr.tr (unhide HF3) (Fr.of_ext E4))
  clear k4 E4 HDr HK3 HO3 HF3 e3
  go_wp2_with fail
  refine (unhide HPr).mono ?_
  rintro e w5 ⟨rfl, hd5, hf5⟩
  have k5 := (unhide HK4).go hf5 hd5
  have g5 : w5.cell? ⟨c.r + 1, 0, none⟩ = some c.ground := k5.sts.2.2.2.2.1.2.1.cell
  have HO5 := hide (hf5.owns (unhide HO4) (fun x hx e => by
    have e2 : g = x := by simpa [Value.ownBlock] using hx
    subst e2
    rcases e with e | ⟨_, e⟩
    · have := k5.ok.d
      have d2 : c.D < c.base := this
      omega
    · exact e (.inr rfl)))
  have HK5 := hide k5
  have HF5 := hide hf5
  clear hd5 hf5 k5 HPr HK4 HO4 f2
  have HRd := hide (rd_start (unhide HK5))
  have hmd : Kc.mode { c with keep := fun k => c.keep k ∨ Value.ownBlock (.slice (some ⟨g, 0, none⟩) s.length cap) = some k } [] false = c.ground := by simp [Kc.mode, Kc.ground]
  rw [hmd] at HRd
  have hdb : c.D < c.base := (unhide HK5).ok.d
  clear hmd HK5
  obtain ⟨X, hX⟩ : ∃ X : Nat → Prop, X = fun k => c.keep k ∨ Value.ownBlock (.slice (some ⟨g, 0, none⟩) s.length cap) = some k := ⟨_, rfl⟩
  rw [← hX] at HRd HF5
  have hXg : X g := by rw [hX]; exact .inr rfl
  have hXk : ∀ k, c.keep k → X k := fun k hk => by rw [hX]; exact .inl hk
  clear hX
  have hrow : ∀ (wr : World) (k : Nat), FrD c.D c.base X w5 wr → k < t.length → wr.cell? ⟨g, m + k, none⟩ = some (.int .u8 (at0 t k)) := fun wr k hf hk => by
    have ho := hf.owns (unhide HO5) (fun x hx e => by
      have e2 : g = x := by simpa [Value.ownBlock] using hx
      subst e2
      rcases e with e | ⟨_, e⟩
      · omega
      · exact e hXg)
    obtain ⟨ao, cp, e, _, hrr⟩ := ints_of_owns ho
    obtain ⟨b', off, e2, hc⟩ := hrr (by omega)
    simp only [e2, Value.slice.injEq, Option.some.injEq, Addr.mk.injEq] at e
    obtain ⟨⟨e3, e4, _⟩, _, _⟩ := e
    subst e3
    subst e4
    have htl := unhide HTL
    have := hc (m + k) (by omega)
    rw [Nat.zero_add] at this
    rw [this, unhide HT, at0_drop]
  have HROW := hide hrow
  clear hrow HO5
  have hmt : t.length = 0 ∨ m < cap := by have := unhide HTL; omega
  have HMT := hide hmt
  clear hmt
  go_wp2_with fail
  all_goals
    go_loopw [10, 38] (fun v i wr => ∃ k : Nat, k ≤ t.length ∧ i = .int .i64 k ∧ Hid (Rd { c with keep := X } false (t.take k) (ks ++ [([shownI r], 1)]) w5 wr v)) (fun _ i _ => t.length - (intOf i).toNat)
    case atStart => exact ⟨0, Nat.zero_le _, rfl, by rw [List.take_zero]; exact HRd⟩
    case round =>
      obtain ⟨k, hk, rfl, HRk⟩ := hrel
      by_cases hlt : k < t.length
      · have hmt := unhide HMT
        have hmc : m < cap := by omega
        clear hmt
        first
        | (exfalso; omega)
        | (have bkn : k < s.length - m := by have := unhide HTL; omega
           have bk : (k : Int) < ((s.length - m : Nat) : Int) := by omega
           have hcl := (unhide HROW) wr k (unhide HRk).2.2 hlt
           have hbt : Bytes (t.take k ++ [at0 t k]) := by
             rw [← take_at0 t k hlt, unhide HT]
             exact fun n hn => (unhide HB) n (List.mem_of_mem_drop (List.mem_of_mem_take hn))
           obtain ⟨F, caps, rfl, hcf, hcall⟩ := rd_step (unhide HRk) (at0 t k) hbt (by simp; have := unhide HTL; omega) (fun h' p' hh hs => (unhide HIH) _ h' p' (by have := unhide HTL; simp at hh; omega) hs)
           rw [← take_at0 t k hlt] at hcall
           have HCall := hide hcall
           clear hcall hbt
           go_wp2_with fail
           refine (unhide HCall).mono ?_
           rintro e w' ⟨v', rfl, hR'⟩
           have HR' := hide hR'
           clear hR' HCall hcf
           go_wp2
           go_roundw
           case rel => exact ⟨k + 1, by omega, by go_num, HR'⟩
           case measure => simp [intOf]; omega)
      · obtain rfl : k = t.length := by omega
        have bk : ¬ ((t.length : Nat) : Int) < ((s.length - m : Nat) : Int) := by have := unhide HTL; omega
        have bkn : ¬ t.length < s.length - m := by have := unhide HTL; omega
        rw [List.take_length] at HRk
        go_wp2
        obtain ⟨hv, hk, hf⟩ := unhide HRk
        refine bodyPost_ret (v := c.mode (rkH t false) (rk t false).2.2) (by rw [hv]; simp [results, Tryd.results97, go_sem]; rfl) rfl ⟨rfl, ?_, Fr.tr (Fr.tr (unhide HF4) (Fr.mono (unhide HF5) (fun k hk => hk.imp id (fun h => ⟨h.1, fun e => h.2 (hXk k e)⟩)))) (Fr.mono hf (fun k hk => hk.imp id (fun h => ⟨h.1, fun e => h.2 (hXk k e)⟩)))⟩
        have := hk.unkeep hXk
        simpa using this
end Go.Proofs.YtbieoijeilhadaaDoor
