import Derived.Test.YtbieoijeilhadaaDoorRkH
import Derived.Test.YtbieoijeilhadaaDoorKys
import Derived.Test.YtbieoijeilhadaaDoorKmU
import Derived.Test.YtbieoijeilhadaaDoorSpecClean
import Derived.Test.YtbieoijeilhadaaDoorRound
namespace Go.Proofs.YtbieoijeilhadaaDoor
open Go.RowKit
def PE : List Int := [27, 91, 50, 48, 49, 126]
def endF : List Int → Option Nat
  | [] => none
  | x :: xs => if (x :: xs).take 6 = PE then some 0 else (endF xs).map (· + 1)
def endI (i : Nat) (s : List Int) : Int := match endF s with | some k => (i : Int) + (k : Int) | none => -1
theorem endI_step {bs : List Int} {i : Nat} (hi : i < bs.length) (h : ¬ (bs.drop i).take 6 = PE) : endI i (bs.drop i) = endI (i + 1) (bs.drop (i + 1)) := by
  rw [List.drop_eq_getElem_cons hi] at h ⊢
  unfold endI
  rw [endF, if_neg h]
  cases endF (bs.drop (i + 1)) with
  | none => rfl
  | some k => simp; omega
theorem endI_hit {bs : List Int} {i : Nat} (hi : i < bs.length) (h : (bs.drop i).take 6 = PE) : endI i (bs.drop i) = (i : Int) := by
  rw [List.drop_eq_getElem_cons hi] at h ⊢
  unfold endI
  rw [endF, if_pos h]
  simp
set_option maxRecDepth 10000 in
set_option maxHeartbeats 4000000 in
theorem l3Is_any (bs : List Int) (hb : Bytes bs) (v : Value) (i : Nat) (w : World) (hv : IntsAt w .u8 v bs) (hi : i < bs.length) (hl : bs.length ≤ 4398046511104) :
    Calls Tryd.prog 66 #[v, .int .i64 i, .string { data := #[27, 91, 50, 48, 49, 126] }] w fun e w' => e = .returned (.bool (decide ((bs.drop i).take 6 = PE))) ∧ Ext w w' := by
  obtain ⟨ao, cap, rfl, hcap, hr⟩ := hv
  obtain ⟨b, off, rfl, hc⟩ := hr (by omega)
  have HC := hide hc
  clear hr hc
  have hw1 : IntKind.i64.wrap ((i : Int) + 6) = (i : Int) + 6 := by rw [IntKind.wrap_i64]; omega
  by_cases h6 : i + 6 ≤ bs.length
  · have h6I : (i : Int) + 6 ≤ (bs.length : Int) := by omega
    have hcm : ¬ cap = i := by omega
    have hcJ : (i : Int) + 6 ≤ (cap : Int) := by omega
    have hcK : (i : Int) ≤ (i : Int) + 6 := by omega
    have HCUT : Hid (∀ (W : World), Ext w W → (convert 22 9 (.slice (some ⟨b, off + i, none⟩) 6 (cap - i))).run Tryd.prog W = .ok (.string (toBA ((bs.drop i).take 6))) W) := hide (fun W he => run_b2s (P := Tryd.prog) W _ _ _ Tryd.underlying22 Tryd.underlying5 Tryd.underlying9 _ _ (ints_cut (cap := cap - i) i 6 (fun j hj => he.cell ((unhide HC) j hj)) (by omega) (by omega)))
    have hcw := (unhide HCUT) _ (Ext.refl w)
    have key : ((toBA ((bs.drop i).take 6)).toList == [27, 91, 50, 48, 49, 126]) = decide ((bs.drop i).take 6 = PE) := by
      by_cases h : (bs.drop i).take 6 = PE
      · rw [h, toBA_toList]; rfl
      · have h9 := toBA_ne (xs := (bs.drop i).take 6) (ys := PE) (fun n hn => hb n (List.mem_of_mem_drop (List.mem_of_mem_take hn))) (by intro n hn; simp [PE] at hn; omega) h
        rw [toBA_toList PE] at h9
        rw [show ([27, 91, 50, 48, 49, 126] : List UInt8) = PE.map (fun n => UInt8.ofNat n.toNat) from rfl, h9]
        simp [h]
    have HK := hide key
    obtain ⟨S, hS⟩ : ∃ S, S = toBA ((bs.drop i).take 6) := ⟨_, rfl⟩
    rw [← hS] at hcw HK
    clear hS HCUT key
    go_enter Tryd.func66, Tryd.ntmps66
    go_wp2
    exact bodyPost_ret (v := .bool (S.toList == [27, 91, 50, 48, 49, 126])) (by simp [results, Tryd.results66, go_sem]) rfl ⟨by rw [unhide HK], Ext.refl _⟩
  · have h6I : ¬ (i : Int) + 6 ≤ (bs.length : Int) := by omega
    have HF := hide (show decide ((bs.drop i).take 6 = PE) = false by
      simp only [decide_eq_false_iff_not]
      intro e
      have := congrArg List.length e
      simp [PE] at this
      omega)
    go_enter Tryd.func66, Tryd.ntmps66
    go_wp2
    exact bodyPost_ret (v := .bool false) (by simp [results, Tryd.results66, go_sem]) rfl ⟨by rw [unhide HF], Ext.refl _⟩
set_option maxRecDepth 10000 in
set_option maxHeartbeats 4000000 in
theorem l3End_any (bs : List Int) (hb : Bytes bs) (v : Value) (i : Nat) (w : World) (hv : IntsAt w .u8 v bs) (hi : i < bs.length) (hl : bs.length ≤ 4398046511104) :
    Calls Tryd.prog 34 #[v, .int .i64 i] w fun e w' => e = .returned (.int .i64 (endI i (bs.drop i))) ∧ Ext w w' := by
  have HI := hide (fun (j : Nat) W (hW : Ext w W) (hj : j < bs.length) => l3Is_any bs hb v j W (hv.ext hW) hj hl)
  obtain ⟨ao, cap, rfl, hcap, hr⟩ := hv
  obtain ⟨b, off, rfl, hc⟩ := hr (by omega)
  have HC := hide hc
  clear hr hc
  go_enter Tryd.func34, Tryd.ntmps34
  go_wp2
  go_loopw [1] (fun i9 wr => ∃ m : Nat, m ≤ bs.length ∧ i9 = .int .i64 m ∧ Hid (endI i (bs.drop i) = endI m (bs.drop m)) ∧ Ext w wr) (fun i9 _ => bs.length - (intOf i9).toNat)
  case atStart => exact ⟨i, by omega, rfl, hide rfl, Ext.refl _⟩
  case round =>
    obtain ⟨m, hm, rfl, HQ, hext⟩ := hrel
    by_cases hlt : m < bs.length
    · have hltI : (m : Int) < (bs.length : Int) := by omega
      have g1 := hext.cell ((unhide HC) m hlt)
      have hI := hide ((unhide HI) m wr hext hlt)
      obtain ⟨q, hq⟩ : ∃ q, q = decide ((bs.drop m).take 6 = PE) := ⟨_, rfl⟩
      rw [← hq] at hI
      by_cases h27 : at0 bs m = 27
      · have h27b : (at0 bs m == 27) = true := by simpa using h27
        cases q
        · have HQ2 : Hid (endI i (bs.drop i) = endI (m + 1) (bs.drop (m + 1))) := hide (by rw [unhide HQ, endI_step hlt (of_decide_eq_false hq.symm)])
          clear HQ hq
          go_wp2_with fail
          refine (unhide hI).mono ?_
          rintro e w2 ⟨rfl, E2⟩
          go_wp2
          go_roundw
          case rel => exact ⟨m + 1, by omega, by go_num, HQ2, hext.trans E2⟩
          case measure => simp [intOf]; omega
        · have HQ2 : Hid (endI i (bs.drop i) = (m : Int)) := hide (by rw [unhide HQ, endI_hit hlt (of_decide_eq_true hq.symm)])
          clear HQ hq
          go_wp2_with fail
          refine (unhide hI).mono ?_
          rintro e w2 ⟨rfl, E2⟩
          go_wp2
          exact bodyPost_ret (v := .int .i64 (m : Int)) (by simp [results, Tryd.results34, go_sem]) rfl ⟨by rw [unhide HQ2], hext.trans E2⟩
      · have h27b : (at0 bs m == 27) = false := by simpa using h27
        have hno : ¬ (bs.drop m).take 6 = PE := by
          intro e
          have h0 : at0 (bs.drop m) 0 = 27 := by
            cases hd : bs.drop m with
            | nil => rw [hd] at e; simp [PE] at e
            | cons x xs => rw [hd] at e; simp [PE] at e; simp [at0, e.1]
          rw [at0_drop] at h0
          exact h27 (by simpa using h0)
        have HQ2 : Hid (endI i (bs.drop i) = endI (m + 1) (bs.drop (m + 1))) := hide (by rw [unhide HQ, endI_step hlt hno])
        clear HQ hq hno hI
        go_wp2
        go_roundw
        case rel => exact ⟨m + 1, by omega, by go_num, HQ2, hext⟩
        case measure => simp [intOf]; omega
    · obtain rfl : m = bs.length := by omega
      have HQ2 : Hid (endI i (bs.drop i) = -1) := hide (by rw [unhide HQ, List.drop_length]; rfl)
      clear HQ
      go_wp2
      exact bodyPost_ret (v := .int .i64 (-1)) (by simp [results, Tryd.results34, go_sem]) rfl ⟨by rw [unhide HQ2], hext⟩
end Go.Proofs.YtbieoijeilhadaaDoor

namespace Go.Proofs.YtbieoijeilhadaaDoor
open Go.RowKit
theorem brkF_n (s : List Int) : (brkF s).n ≤ s.length := by
  unfold brkF
  split
  · simp [tk0]
  · split
    · show numR (s.drop 2) + 2 ≤ s.length; omega
    · rename_i h0 _
      have h3 : numR (s.drop 2) + 3 ≤ s.length := by omega
      generalize (if at0 s (2 + numR (s.drop 2)) = 126 then tilF ((s.drop 2).take (numR (s.drop 2))) else if numR (s.drop 2) = 0 then letF (at0 s (2 + numR (s.drop 2))) else 23) = K
      by_cases h9 : K < 0
      · rw [if_pos h9]; exact h3
      · rw [if_neg h9]; exact h3
theorem escF_n (s : List Int) : (escF s).n ≤ s.length := by
  unfold escF
  split
  · simp [tk0]
  · have hb := brkF_n s
    repeat' split
    all_goals first | exact hb | (simp [tk0]; done) | (simp only []; omega)
theorem oneF_n (s : List Int) (h : 0 < s.length) : (oneF s).n ≤ s.length := by
  unfold oneF
  have he := escF_n s
  have hd := decL_len s h
  repeat' split
  all_goals first | exact he | exact hd | (simp [tk0]; done) | (simp only []; omega)
theorem brkF_r (s : List Int) : (brkF s).r = 0 := by
  unfold brkF
  repeat' split
  all_goals rfl
theorem escF_r (s : List Int) : (escF s).r = 0 := by
  unfold escF
  have hb := brkF_r s
  repeat' split
  all_goals first | rfl | exact hb
theorem oneF_r (s : List Int) : 0 ≤ (oneF s).r ∧ (oneF s).r ≤ 1114111 := by
  unfold oneF
  have he := escF_r s
  have hd := shownI_bd (decL s).1
  repeat' split
  · rw [he]; omega
  · simp
  · simp
  · simp [tk0]
  · exact hd
theorem endF_le : ∀ (s : List Int) (k : Nat), endF s = some k → k + 6 ≤ s.length
  | [], k, h => by simp [endF] at h
  | x :: xs, k, h => by
    rw [endF] at h
    split at h
    · rename_i h6
      have := congrArg List.length h6
      simp [PE] at this
      simp at h
      simp
      omega
    · cases he : endF xs with
      | none => rw [he] at h; simp at h
      | some m =>
        rw [he] at h
        simp at h
        have := endF_le xs m he
        simp
        omega
def keyT (t : Tk) : List (List Int × Int) := if t.kind = 1 then [([t.r], 1)] else if 0 < t.kind then [([], t.kind)] else []
def rkStep (s : List Int) (p : Bool) : Option (List (List Int × Int) × Nat × Bool) :=
  if s.length = 0 then none
  else if p = true then (match endF s with | none => none | some k => some ([(cleanL (s.take k), 2)], k + 6, false))
  else if (oneF s).n = 0 then none else some (keyT (oneF s), (oneF s).n, (oneF s).p)
theorem rkStep_n {s : List Int} {p : Bool} {ks : List (List Int × Int)} {m : Nat} {q : Bool} (h : rkStep s p = some (ks, m, q)) : 0 < m ∧ m ≤ s.length := by
  unfold rkStep at h
  split at h
  · simp at h
  · rename_i h0
    split at h
    · cases he : endF s with
      | none => rw [he] at h; simp at h
      | some k =>
        rw [he] at h
        simp at h
        have := endF_le s k he
        omega
    · split at h
      · simp at h
      · simp at h
        have := oneF_n s (by omega)
        omega
def rkF : Nat → List Int → Bool → List (List Int × Int) × Nat × Bool
  | 0, _, p => ([], 0, p)
  | f + 1, s, p => match rkStep s p with
    | none => ([], 0, p)
    | some (ks, m, q) => (ks ++ (rkF f (s.drop m) q).1, m + (rkF f (s.drop m) q).2.1, (rkF f (s.drop m) q).2.2)
theorem rkF_fuel : ∀ (f g : Nat) (s : List Int) (p : Bool), s.length ≤ f → s.length ≤ g → rkF f s p = rkF g s p := by
  intro f
  induction f with
  | zero =>
    intro g s p hf _
    have hs : rkStep s p = none := by unfold rkStep; rw [if_pos (by omega)]
    cases g with
    | zero => rfl
    | succ g => rw [rkF, rkF, hs]
  | succ f ih =>
    intro g s p hf hg
    cases hst : rkStep s p with
    | none =>
      cases g with
      | zero => rw [rkF, rkF, hst]
      | succ g => rw [rkF, rkF, hst]
    | some x =>
      obtain ⟨ks, m, q⟩ := x
      have hm := rkStep_n hst
      cases g with
      | zero => omega
      | succ g =>
        rw [rkF, rkF, hst]
        have hl : (s.drop m).length = s.length - m := by simp
        show (ks ++ (rkF f (s.drop m) q).1, m + (rkF f (s.drop m) q).2.1, (rkF f (s.drop m) q).2.2) = (ks ++ (rkF g (s.drop m) q).1, m + (rkF g (s.drop m) q).2.1, (rkF g (s.drop m) q).2.2)
        rw [ih g (s.drop m) q (by omega) (by omega)]
def rk (s : List Int) (p : Bool) : List (List Int × Int) × Nat × Bool := rkF s.length s p
theorem rk_none {s : List Int} {p : Bool} (h : rkStep s p = none) : rk s p = ([], 0, p) := by
  unfold rk
  cases hl : s.length with
  | zero => rfl
  | succ n => rw [rkF, h]
theorem rk_some {s : List Int} {p : Bool} {ks : List (List Int × Int)} {m : Nat} {q : Bool} (h : rkStep s p = some (ks, m, q)) : rk s p = (ks ++ (rk (s.drop m) q).1, m + (rk (s.drop m) q).2.1, (rk (s.drop m) q).2.2) := by
  have hm := rkStep_n h
  unfold rk
  cases hl : s.length with
  | zero => omega
  | succ n =>
    rw [rkF, h]
    have hd : (s.drop m).length = s.length - m := by simp
    show (ks ++ (rkF n (s.drop m) q).1, m + (rkF n (s.drop m) q).2.1, (rkF n (s.drop m) q).2.2) = _
    rw [rkF_fuel n (s.drop m).length (s.drop m) q (by omega) (Nat.le_refl _)]
end Go.Proofs.YtbieoijeilhadaaDoor

namespace Go.Proofs.YtbieoijeilhadaaDoor
open Go.RowKit
def RkOut (base : Nat) (w : World) (A : List Int) (R : List (List Int × Int) × Nat × Bool) (e : Ending) : Prop :=
  ∃ (hv kv : Value) (rs : List Value), e = .returned (.tuple #[.agg #[hv, .bool R.2.2], kv]) ∧ w.ownsRow base 5 1 hv (A.drop R.2.1).length ((A.drop R.2.1).map (Value.int .u8)) ∧ OwnKys w base kv rs R.1
theorem OwnKys.down {w : World} {base base' : Nat} {v : Value} {rs : List Value} {cs : List (List Int × Int)} (h : OwnKys w base v rs cs) (hb : base' ≤ base) : OwnKys w base' v rs cs := by
  obtain ⟨h0, ⟨ys, h1, h2⟩, h3, h4⟩ := h
  exact ⟨h0, ⟨ys, owns_mono h1 hb, h2⟩, fun j hj => owns_mono (h3 j hj) hb, h4⟩
theorem infoKeyR : (Tryd.prog.info? 67).map (fun i => (i.zero, i.size, i.bytes)) = some (some (.agg #[.int .i64 0, .slice none 0 0]), 2, 32) := by kernel_rfl
theorem kys_empty {w : World} {base : Nat} {v : Value} (h : w.ownsRow base 67 2 v 0 []) : OwnKys w base v [] [] :=
  ⟨rfl, ⟨[], h, fun j hj => by simp at hj⟩, fun j hj => by simp at hj, fun i j g _ hj _ => by simp at hj⟩
theorem OwnKys.slice {w : World} {base : Nat} {v : Value} {rs : List Value} {cs : List (List Int × Int)} (h : OwnKys w base v rs cs) : ∃ a c, v = .slice a cs.length c := by
  obtain ⟨_, ⟨ys, h1, _⟩, _⟩ := h
  rcases h1.2 with ⟨e, h0⟩ | ⟨g, cap9, cur, e, _⟩
  · exact ⟨none, 0, by rw [h0]; exact e⟩
  · exact ⟨_, _, e⟩
theorem src_zero (w : World) (size : Nat) (a : Option Addr) (c : Nat) : Src w size (.slice a 0 c) 0 [] := by
  refine ⟨by simp, fun u hu => by simp at hu, ?_⟩
  cases a with
  | none => exact .inl ⟨c, rfl, rfl⟩
  | some ad => exact .inr ⟨ad, c, rfl, fun j u hj => by simp at hj⟩
theorem owns_lit1 (w : World) (x : Int) : (w.alloc (.cells #[.int .i32 x] 21)).ownsRow w.heap.size 21 1 (.slice (some ⟨w.heap.size, 0, none⟩) 1 1) [x].length ([x].map (Value.int .i32)) :=
  ⟨by simp, .inr ⟨w.heap.size, 1, #[.int .i32 x], rfl, Nat.le_refl _, new_block w _, Nat.le_refl _, by unfold maxLen; simp, by simp, by simp⟩⟩
theorem at0_take (l : List Int) (n j : Nat) (h : j < n) : at0 (l.take n) j = at0 l j := by simp [at0, h]
theorem bytes_keep {W W' : World} {base : Nat} {v u : Value} {n m : Nat} {xs ys : List Value} (h : W.ownsRow base 5 1 u m xs) (hy : W.ownsRow base 67 2 v n ys) (hg : W.grownBy W' v.ownBlock) : W'.ownsRow base 5 1 u m xs :=
  owns_same h (fun g hgu => hg.block g (h.lt g hgu).2 (fun e => owns_apart h hy (by decide) hgu e.symm))
theorem ints_from {w : World} {base : Nat} {a : Option Addr} {c : Nat} {A : List Int} (h : w.ownsRow base 5 1 (.slice a A.length c) A.length (A.map (Value.int .u8))) (i : Nat) (hi : i < A.length) : ∃ g, a = some ⟨g, 0, none⟩ ∧ A.length ≤ c ∧ IntsAt w .u8 (.slice (some ⟨g, i, none⟩) (A.length - i) (c - i)) (A.drop i) := by
  rcases h.2 with ⟨_, e0⟩ | ⟨g, cc, cur, e0, hg, hb, hcc, _, _, ht⟩
  · omega
  · obtain ⟨e1, _, e2⟩ := Value.slice.inj e0
    subst e1
    subst e2
    refine ⟨g, rfl, hcc, ⟨some ⟨g, i, none⟩, c - i, by rw [List.length_drop], by rw [List.length_drop]; omega, fun _ => ⟨g, i, rfl, fun j hj => ?_⟩⟩⟩
    obtain ⟨_, cap9, h9, _, h8⟩ := ints_of_owns h
    obtain ⟨b9, o9, e9, hc9⟩ := h8 (by omega)
    obtain ⟨rfl, rfl⟩ : b9 = g ∧ o9 = 0 := by
      have := (Value.slice.inj h9).1
      rw [e9] at this
      simpa using (Option.some.inj this).symm
    have := hc9 (i + j) (by simp at hj; omega)
    rw [at0_drop]
    simpa using this
set_option maxRecDepth 10000 in
set_option maxHeartbeats 4000000 in
theorem specReadKeys_any (ha : Option Addr) (hc : Nat) (hs bs : List Int) (p : Bool) (v : Value) (w : World) (hh : IntsAt w .u8 (.slice ha hs.length hc) hs) (hv : IntsAt w .u8 v bs) (hB : Bytes hs) (hB2 : Bytes bs) (hl : hs.length + bs.length ≤ 8000000) :
    Calls Tryd.prog 7 #[.agg #[.slice ha hs.length hc, .bool p], v] w fun e w' => RkOut w.heap.size w' (hs ++ bs) (rk (hs ++ bs) p) e ∧ Ext w w' := by
  obtain ⟨va, vc, rfl, _⟩ := id hv
  obtain ⟨A, hA⟩ : ∃ A, A = hs ++ bs := ⟨_, rfl⟩
  rw [← hA]
  obtain ⟨R, hR⟩ : ∃ R, R = rk A p := ⟨_, rfl⟩
  rw [← hR]
  have HR := hide hR
  clear hR
  obtain ⟨ic, hic, hc0, hc1, hc2⟩ := info_parts infoKeyR
  have infoT : (Tryd.prog.info? 69).map (·.size) = some 4 := by kernel_rfl
  have infoKR : (Tryd.prog.info? 24).map (·.size) = some 2 := by kernel_rfl
  obtain ⟨i0, hi0, hz0, hz1, hz2⟩ := info_parts infoByteA
  obtain ⟨V, hV⟩ : ∃ V, V = (w.alloc (.cells #[.slice ha hs.length hc, .bool p] 24)).alloc (.cells #[.slice none 0 0, .bool false] 24) := ⟨_, rfl⟩
  have E0 : Ext w V := by rw [hV]; exact ((Ext.refl w).alloc _).alloc _
  have zV : V.heap.size = w.heap.size + 1 + 1 := by rw [hV]; simp
  have HB0 : Hid (V.heap[w.heap.size]? = some (.cells #[.slice ha hs.length hc, .bool p] 24 (0, 0))) := hide (by rw [hV]; exact ((Ext.refl _).alloc _).kept (new_block w _))
  have HB1 : Hid (V.heap[w.heap.size + 1]? = some (.cells #[.slice none 0 0, .bool false] 24 (0, 0))) := hide (by rw [hV]; have h := new_block (w.alloc (.cells #[.slice ha hs.length hc, .bool p] 24)) (.cells #[.slice none 0 0, .bool false] 24); rw [show (w.alloc (.cells #[.slice ha hs.length hc, .bool p] 24)).heap.size = w.heap.size + 1 by simp] at h; exact h)
  obtain ⟨V2, hV2⟩ : ∃ V2, V2 = V.alloc (.cells #[] 5) := ⟨_, rfl⟩
  have EV : Ext V V2 := by rw [hV2]; exact (Ext.refl V).alloc _
  have zV2 : V2.heap.size = w.heap.size + 1 + 1 + 1 := by rw [hV2]; simp [zV]
  have HOe : Hid (V2.ownsRow (w.heap.size + 1 + 1) 5 1 (.slice (some ⟨w.heap.size + 1 + 1, 0, none⟩) 0 0) 0 []) := hide (by have h := owns_empty V 5 1; rw [← hV2, zV] at h; exact h)
  have HVV : Hid (V2 = ((w.alloc (.cells #[.slice ha hs.length hc, .bool p] 24)).alloc (.cells #[.slice none 0 0, .bool false] 24)).alloc (.cells #[] 5)) := hide (by rw [hV2, hV])
  have HSh := hide (Src.ints (hh.ext (E0.trans EV)))
  replace HB0 := hide (EV.kept (unhide HB0))
  replace HB1 := hide (EV.kept (unhide HB1))
  have HE2 := hide (E0.trans EV)
  have HV := hide hv
  clear hh hv hV hV2 E0 EV zV
  go_enter Tryd.func7, Tryd.ntmps7
  go_wp2_with (at_builtin; refine StopQ.intro ?_)
  show wpList _ _ _ _ _ _
  rw [← unhide HVV]
  clear HVV
  refine wpList_app rfl _ _ 22 rfl (w.heap.size + 1 + 1) 5 i0 (.int .u8 0) 1 1 Tryd.underlying22 hi0 hz0 hz1 hz2 rfl (by decide) _ 0 [] rfl (unhide HOe) _ hs.length (hs.map (Value.int .u8)) rfl (unhide HSh) (by unfold maxLen; omega) (by omega) (by omega) ?_
  intro v2 w2 o2 G2 _
  rw [Nat.zero_add, List.nil_append] at o2
  obtain ⟨a2, c2, rfl⟩ : ∃ a c, v2 = .slice a hs.length c := by
    rcases o2.2 with ⟨e, h0⟩ | ⟨g, cap9, cur, e, _⟩
    · exact ⟨none, 0, by rw [h0]; exact e⟩
    · exact ⟨_, _, e⟩
  have X2 := Fr.grown (S := fun q => q = w.heap.size + 1 + 1) (Fr.refl _ V2) G2 (fun q hq => by cases hq; rfl)
  replace HB0 := hide (X2.kept (unhide HB0) (by omega))
  replace HB1 := hide (X2.kept (unhide HB1) (by omega))
  replace HE2 := hide (X2.ext (unhide HE2) (fun q hq => by omega))
  have HO2 := hide o2
  have HSb := hide (Src.ints ((unhide HV).ext (unhide HE2)))
  have z2 := X2.size
  clear G2 X2 o2 HOe HSh
  go_wp2_with (at_builtin; refine StopQ.intro ?_)
  show wpList _ _ _ _ _ _
  refine wpList_app rfl _ _ 22 rfl (w.heap.size + 1 + 1) 5 i0 (.int .u8 0) 1 1 Tryd.underlying22 hi0 hz0 hz1 hz2 rfl (by decide) _ hs.length _ rfl (unhide HO2) _ bs.length (bs.map (Value.int .u8)) rfl (unhide HSb) (by unfold maxLen; omega) (by omega) (by omega) ?_
  intro v3 w3 o3 G3 _
  have hAl : A.length = hs.length + bs.length := by rw [hA]; simp
  have hAB : Bytes A := by
    rw [hA]
    intro n hn
    rcases List.mem_append.1 hn with h | h
    · exact hB n h
    · exact hB2 n h
  rw [← List.map_append, ← hA, ← hAl] at o3
  obtain ⟨a3, c3, rfl⟩ : ∃ a c, v3 = .slice a A.length c := by
    rcases o3.2 with ⟨e, h0⟩ | ⟨g, cap9, cur, e, _⟩
    · exact ⟨none, 0, by rw [h0]; exact e⟩
    · exact ⟨_, _, e⟩
  have X3 := Fr.grown (S := fun q => w.heap.size + 1 + 1 ≤ q) (Fr.refl _ w2) G3 (fun q hq => ((unhide HO2).lt q hq).1)
  replace HB0 := hide (X3.kept (unhide HB0) (by omega))
  replace HB1 := hide (X3.kept (unhide HB1) (by omega))
  replace HE2 := hide (X3.ext (unhide HE2) (fun q hq => by omega))
  have HO3 := hide o3
  have z3 := X3.size
  have HAL := hide hAl
  have HAB := hide hAB
  have q1 : w3.cell? ⟨w.heap.size, 1, none⟩ = some (.bool p) := cells_of (unhide HB0) 1 _ rfl
  have q1a : ∀ o, (w3.alloc o).cell? ⟨w.heap.size, 1, none⟩ = some (.bool p) := fun o => ((Ext.refl w3).alloc o).cell q1
  have hA8 : A.length ≤ 8000000 := by omega
  clear G3 X3 o3 HO2 HSb hAl hAB hA q1
  have HKe := hide (owns_empty w3 67 2)
  have HE3 := hide ((unhide HE2).alloc (.cells #[] 67))
  have HA3 := hide (((Ext.refl w3).alloc (.cells #[] 67)).owns (unhide HO3))
  have HB13 := hide (((Ext.refl w3).alloc (.cells #[] 67)).kept (unhide HB1))
  have hz3 : w.heap.size + 1 + 1 ≤ w3.heap.size := by omega
  clear HE2 HO3 HB0 HB1
  go_wp2_with fail
  go_loopw [7, 8, 9] (fun kv pv iv wr => ∃ (i : Nat) (q : Bool) (ks : List (List Int × Int)) (rs : List Value), i ≤ A.length ∧ pv = .bool q ∧ iv = .int .i64 i ∧ Hid (OwnKys wr (w.heap.size + 1 + 1) kv rs ks) ∧ Hid (ks.length ≤ i) ∧ Hid (wr.ownsRow (w.heap.size + 1 + 1) 5 1 (.slice a3 A.length c3) A.length (A.map (Value.int .u8))) ∧ Hid (R = (ks ++ (rk (A.drop i) q).1, i + (rk (A.drop i) q).2.1, (rk (A.drop i) q).2.2)) ∧ Hid (wr.heap[w.heap.size + 1]? = some (.cells #[.slice none 0 0, .bool false] 24 (0, 0))) ∧ Hid (Ext w wr) ∧ (w.heap.size + 1 + 1) ≤ wr.heap.size) (fun _ _ iv _ => A.length - (intOf iv).toNat)
  case atStart => exact ⟨0, p, [], [], Nat.zero_le _, rfl, rfl, hide (kys_empty (owns_mono (unhide HKe) hz3)), hide (Nat.le_refl _), HA3, hide (by rw [unhide HR]; simp), HB13, HE3, by simp; omega⟩
  case round =>
    obtain ⟨i, q, ks, rs, hi, rfl, rfl, HK, HKL, HA, HQ, HB, HE, hz⟩ := hrel
    obtain ⟨ka, kc, hkv⟩ := (unhide HK).slice
    subst hkv
    have hc3 : A.length ≤ c3 := by
      rcases (unhide HA).2 with ⟨e9, e0⟩ | ⟨g, cc, cur, e0, _, _, h9, _⟩
      · omega
      · have := (Value.slice.inj e0).2.2; omega
    by_cases hlt : i < A.length
    · have hltI : (i : Int) < (A.length : Int) := by omega
      obtain ⟨g3, hg3⟩ : ∃ g, a3 = some ⟨g, 0, none⟩ := by
        obtain ⟨g, e, _⟩ := ints_from (unhide HA) i hlt
        exact ⟨g, e⟩
      subst hg3
      have hci : (i : Int) ≤ (A.length : Int) := by omega
      have hcA : (A.length : Int) ≤ (c3 : Int) := by omega
      have hcm : ¬ c3 = i := by omega
      have HDr := hide (List.length_drop (i := i) (l := A))
      cases q
      · have hOn := hide (fun W (hW : Ext wr W) => l3One_any A (unhide HAB) _ i W ((ints_of_owns (unhide HA)).ext hW) hlt (by omega))
        obtain ⟨t, ht⟩ : ∃ t, t = oneF (A.drop i) := ⟨_, rfl⟩
        have htn := oneF_n (A.drop i) (by rw [unhide HDr]; omega)
        have htr := oneF_r (A.drop i)
        rw [← ht] at hOn htn htr
        rw [unhide HDr] at htn
        have HTT := hide ht
        clear ht
        obtain ⟨tn, tk, tr, tp⟩ := t
        simp only [] at htn htr
        go_wp2_with fail
        refine ((unhide hOn) wr (Ext.refl _)).mono ?_
        rintro e w4 ⟨he, E4⟩
        simp only [tkV] at he
        subst he
        have HKf : Hid (∀ g, (Value.slice ka ks.length kc).ownBlock = some g → g < wr.heap.size) := hide (fun g hg => ((unhide HK).foot (.inl hg)).2)
        have HOld := hide (fun g (hg : Foot (.slice ka ks.length kc) rs ks.length g) => ((unhide HK).foot hg).2)
        have z4 := E4.size
        replace HK := hide ((unhide HK).ext E4)
        replace HA := hide ((E4).owns (unhide HA))
        replace HB := hide ((E4).kept (unhide HB))
        replace HE := hide ((unhide HE).trans E4)
        clear E4 hOn
        have HN4 := hide (heap_alloc_new w4 (.cells #[.int .i64 0, .int .i64 0, .int .i64 0, .bool false] 69))
        go_wp2_with (first | (refine wpList_store_blk rfl 69 _ _ rfl rfl (w4.heap.size) rfl _ _ #[.int .i64 (tn : Int), .int .i64 tk, .int .i64 tr, .bool tp] rfl (unhide HN4) infoT rfl (by simp [Value.oneCell']) ?_; intro U hb9 hf9; have HTb := hide hb9; have HEU := hide (hf9.ext ((Ext.refl w4).alloc _) (fun q hq => by omega)); clear hb9 hf9; refine StopQ.intro ?_))
        show wpList _ _ _ _ _ _
        have EU := unhide HEU
        have zU := EU.size
        replace HK := hide ((unhide HK).ext EU)
        replace HA := hide ((EU).owns (unhide HA))
        replace HB := hide ((EU).kept (unhide HB))
        replace HE := hide ((unhide HE).trans EU)
        clear EU HEU HN4
        have hzU : (w.heap.size + 1 + 1) ≤ U.heap.size := by omega
        have t0 : U.cell? ⟨w4.heap.size, 0, none⟩ = some (.int .i64 (tn : Int)) := cells_of (unhide HTb) 0 _ rfl
        have t1 : U.cell? ⟨w4.heap.size, 1, none⟩ = some (.int .i64 tk) := cells_of (unhide HTb) 1 _ rfl
        by_cases hn0 : tn = 0
        · subst hn0
          have HF : Hid (R = (ks, i, false)) := hide (by rw [unhide HQ, rk_none (by unfold rkStep; rw [if_neg (by rw [unhide HDr]; omega), if_neg (by simp), ← unhide HTT, if_pos rfl])]; simp)
          clear HQ HTT
          replace hz : (w.heap.size + 1 + 1) ≤ U.heap.size := hzU
          have HSrc : Hid (Src (U.alloc (.cells #[] 5)) 1 (.slice (some ⟨g3, i, none⟩) (A.length - i) (c3 - i)) (A.length - i) ((A.drop i).map (Value.int .u8))) := hide (by
            obtain ⟨g, e, _, h9⟩ := ints_from (unhide HA) i hlt
            obtain rfl : g3 = g := by simpa using congrArg (fun o : Option Addr => o.map (·.block)) e
            have h8 := Src.ints (h9.ext ((Ext.refl U).alloc (.cells #[] 5)))
            rwa [List.length_drop] at h8)
          have HOn := hide (owns_empty U 5 1)
          go_wp2_with (at_builtin; refine StopQ.intro ?_)
          show wpList _ _ _ _ _ _
          refine wpList_app rfl _ _ 22 rfl U.heap.size 5 i0 (.int .u8 0) 1 1 Tryd.underlying22 hi0 hz0 hz1 hz2 rfl (by decide) _ 0 [] rfl (unhide HOn) _ (A.length - i) ((A.drop i).map (Value.int .u8)) rfl (unhide HSrc) (by unfold maxLen; omega) (by omega) (by simp) ?_
          intro v9 w9 o9 G9 _
          rw [Nat.zero_add, List.nil_append] at o9
          obtain ⟨a9, c9, rfl⟩ : ∃ a c, v9 = .slice a ((A.length - i)) c := by
            rcases o9.2 with ⟨e, h0⟩ | ⟨g, cap9, cur, e, _⟩
            · exact ⟨none, 0, by rw [h0]; exact e⟩
            · exact ⟨_, _, e⟩
          have X9 := Fr.grown (S := fun q => q = U.heap.size) (Fr.refl _ (U.alloc (.cells #[] 5))) G9 (fun q hq => by cases hq; rfl)
          have HK9 := hide (((unhide HK).ext ((Ext.refl U).alloc (.cells #[] 5))).fr X9 (fun g hg e9 => by have := ((unhide HK).foot hg).2; omega))
          have HB9 := hide (X9.kept (((Ext.refl U).alloc (.cells #[] 5)).kept (unhide HB)) (by omega))
          have HE9 := hide (X9.ext ((unhide HE).alloc (.cells #[] 5)) (fun q hq => by omega))
          have HO9 : Hid (w9.ownsRow U.heap.size 5 1 (.slice a9 ((A.length - i)) c9) (A.drop (i)).length ((A.drop (i)).map (Value.int .u8))) := hide (by rw [List.length_drop]; exact o9)
          have z9 := X9.size
          clear o9 G9 X9 HOn
          go_wp2_with (refine wpList_store_blk rfl 24 _ _ rfl rfl (w.heap.size + 1) rfl _ _ #[.slice a9 ((A.length - i)) c9, .bool false] rfl (unhide HB9) infoKR rfl (by simp [Value.oneCell']) ?_; intro Z hy hf9; have HY := hide hy; have FY := hide hf9; clear hy hf9)
          have v0 : Z.cell? ⟨w.heap.size + 1, 0, none⟩ = some (.slice a9 ((A.length - i)) c9) := cells_of (unhide HY) 0 _ rfl
          have v1 : Z.cell? ⟨w.heap.size + 1, 1, none⟩ = some (.bool false) := cells_of (unhide HY) 1 _ rfl
          exact bodyPost_ret (v := .tuple #[.agg #[.slice a9 ((A.length - i)) c9, .bool false], .slice ka ks.length kc]) (by simp [results, Tryd.results7, go_sem, v0, v1]) rfl (by rw [unhide HF]; exact ⟨⟨_, _, rs, rfl, owns_mono ((unhide FY).owns (unhide HO9) (fun g hg e9 => by have := ((unhide HO9).lt g hg).1; omega)) (by omega), OwnKys.down (OwnKys.fr (unhide HK9) (unhide FY) (fun g hg e9 => by have := ((unhide HK9).foot hg).1; omega)) (by omega)⟩, (unhide FY).ext (unhide HE9) (fun q hq => by omega)⟩)
        have hnb : ((tn : Int) == 0) = false := by simp; omega
        have hwn : IntKind.i64.wrap ((i : Int) + (tn : Int)) = ((i + tn : Nat) : Int) := by rw [IntKind.wrap_i64]; omega
        have t2 : U.cell? ⟨w4.heap.size, 2, none⟩ = some (.int .i64 tr) := cells_of (unhide HTb) 2 _ rfl
        have HQ1 : Hid (∀ kk, keyT ⟨tn, tk, tr, tp⟩ = kk → R = (ks ++ kk ++ (rk (A.drop (i + tn)) tp).1, i + tn + (rk (A.drop (i + tn)) tp).2.1, (rk (A.drop (i + tn)) tp).2.2)) := hide (fun kk hkk => by
          rw [unhide HQ, rk_some (ks := kk) (m := tn) (q := tp) (by unfold rkStep; rw [if_neg (by rw [unhide HDr]; omega), if_neg (by simp), ← unhide HTT, if_neg hn0, hkk])]
          rw [List.drop_drop]
          exact Prod.ext (by simp) (Prod.ext (by simp; omega) rfl))
        clear HQ HTT
        by_cases hk1 : tk = 1
        · subst hk1
          have HQ2 := hide ((unhide HQ1) [([tr], 1)] rfl)
          clear HQ1
          have hwr : IntKind.i32.wrap tr = tr := by rw [IntKind.wrap_i32]; omega
          obtain ⟨X1, hX1⟩ : ∃ X, X = U.alloc (.cells #[.int .i32 tr] 21) := ⟨_, rfl⟩
          have EX1 : Ext U X1 := by rw [hX1]; exact (Ext.refl U).alloc _
          have zX1 : X1.heap.size = U.heap.size + 1 := by rw [hX1]; simp
          obtain ⟨X, hX⟩ : ∃ X, X = X1.alloc (.cells #[.int .i64 1, .slice (some ⟨U.heap.size, 0, none⟩) 1 1] 67) := ⟨_, rfl⟩
          have EX : Ext X1 X := by rw [hX]; exact (Ext.refl X1).alloc _
          have HrX : Hid (X.ownsRow (w.heap.size + 1 + 1) 21 1 (.slice (some ⟨U.heap.size, 0, none⟩) 1 1) [tr].length ([tr].map (Value.int .i32))) := hide (EX.owns (by rw [hX1]; exact owns_mono (base' := (w.heap.size + 1 + 1)) (owns_lit1 U tr) (by omega)))
          have HfX : Hid (∀ j g, j < ks.length → (rV rs j).ownBlock = some g → (Value.slice (some ⟨U.heap.size, 0, none⟩) 1 1).ownBlock ≠ some g) := hide (fun j g hj hg h9 => by
            have h1 := (unhide HOld) g (.inr ⟨j, hj, hg⟩)
            have h2 : U.heap.size = g := Option.some.inj h9
            omega)
          have HSrc : Hid (Src X 2 (.slice (some ⟨U.heap.size + 1, 0, none⟩) 1 1) 1 [.int .i64 1, .slice (some ⟨U.heap.size, 0, none⟩) 1 1]) := hide (by rw [hX, ← zX1]; exact Src.made _ _ _ rfl (by simp [Value.oneCell']))
          replace EX := EX1.trans EX
          replace HK := hide ((unhide HK).ext EX)
          replace HA := hide ((EX).owns (unhide HA))
          replace HB := hide ((EX).kept (unhide HB))
          replace HE := hide ((unhide HE).trans EX)
          replace HTb := hide (EX.kept (unhide HTb))
          have HzX : Hid ((w.heap.size + 1 + 1) ≤ X.heap.size) := hide (by have := EX.size; omega)
          have HXX : Hid (X = (U.alloc (.cells #[.int .i32 tr] 21)).alloc (.cells #[.int .i64 1, .slice (some ⟨U.heap.size, 0, none⟩) 1 1] 67)) := hide (by rw [hX, hX1])
          clear EX EX1 hX hX1 zX1 HOld hz hzU zU
          go_wp2_with (at_builtin; refine StopQ.intro ?_)
          show wpList _ _ _ _ _ _
          rw [← unhide HXX]
          clear HXX t0 t1 t2
          obtain ⟨ys, hy, hyy⟩ := (unhide HK).2.1
          have HY := hide hy
          have HYY := hide hyy
          clear hy hyy
          refine wpList_app rfl _ _ 27 rfl (w.heap.size + 1 + 1) 67 ic (.agg #[.int .i64 0, .slice none 0 0]) 2 32 Tryd.underlying27 hic hc0 hc1 hc2 rfl (by decide) _ _ _ rfl (unhide HY) _ 1 [.int .i64 1, (.slice (some ⟨U.heap.size, 0, none⟩) 1 1)] rfl (unhide HSrc) (by have := unhide HKL; unfold maxLen; omega) (by have := unhide HKL; omega) (unhide HzX) ?_
          intro v9 w9 o9 G9 _
          have HK9 := hide (OwnKys.push (d := 1) (xs := [tr]) (unhide HK) (unhide HY) (unhide HYY) (unhide HrX) (unhide HfX) o9 G9)
          have HA9 := hide (bytes_keep (unhide HA) (unhide HY) G9)
          have X9 := Fr.grown (S := fun q => (w.heap.size + 1 + 1) ≤ q) (Fr.refl _ X) G9 (fun q hq => ((unhide HY).lt q hq).1)
          have HB9 := hide (X9.kept (unhide HB) (by omega))
          have HE9 := hide (X9.ext (unhide HE) (fun q hq => by omega))
          have hz9 : (w.heap.size + 1 + 1) ≤ w9.heap.size := Nat.le_trans (unhide HzX) X9.size
          have HT9 := hide ((G9.block _ (lt_of_block (unhide HTb)) (fun e9 => by have h1 := ((unhide HKf) _ e9.symm); omega)).trans (unhide HTb))
          have t0 : w9.cell? ⟨w4.heap.size, 0, none⟩ = some (.int .i64 (tn : Int)) := cells_of (unhide HT9) 0 _ rfl
          have t3 : w9.cell? ⟨w4.heap.size, 3, none⟩ = some (.bool tp) := cells_of (unhide HT9) 3 _ rfl
          clear o9 G9 X9 HSrc HrX HfX HY HYY HK HA HB HE HzX
          go_wp2
          go_roundw
          case rel => exact ⟨i + tn, tp, _, _, by omega, rfl, by go_num, HK9, hide (by have := unhide HKL; simp; omega), HA9, HQ2, HB9, HE9, hz9⟩
          case measure => simp [intOf]; omega
        have hkb : (tk == 1) = false := by simpa using hk1
        by_cases hk0 : 0 < tk
        · have HQ2 := hide ((unhide HQ1) [([], tk)] (by unfold keyT; rw [if_neg hk1, if_pos hk0]))
          clear HQ1
          obtain ⟨X1, hX1⟩ : ∃ X, X = U.alloc (.cells #[] 21) := ⟨_, rfl⟩
          have EX1 : Ext U X1 := by rw [hX1]; exact (Ext.refl U).alloc _
          have zX1 : X1.heap.size = U.heap.size + 1 := by rw [hX1]; simp
          obtain ⟨X, hX⟩ : ∃ X, X = X1.alloc (.cells #[.int .i64 tk, .slice (some ⟨U.heap.size, 0, none⟩) 0 0] 67) := ⟨_, rfl⟩
          have EX : Ext X1 X := by rw [hX]; exact (Ext.refl X1).alloc _
          have HrX : Hid (X.ownsRow (w.heap.size + 1 + 1) 21 1 (.slice (some ⟨U.heap.size, 0, none⟩) 0 0) ([] : List Int).length (([] : List Int).map (Value.int .i32))) := hide (EX.owns (by rw [hX1]; exact owns_mono (base' := (w.heap.size + 1 + 1)) (by have h9 := owns_empty U 21 1; exact h9) (by omega)))
          have HfX : Hid (∀ j g, j < ks.length → (rV rs j).ownBlock = some g → (Value.slice (some ⟨U.heap.size, 0, none⟩) 0 0).ownBlock ≠ some g) := hide (fun j g hj hg h9 => by
            have h1 := (unhide HOld) g (.inr ⟨j, hj, hg⟩)
            have h2 : U.heap.size = g := Option.some.inj h9
            omega)
          have HSrc : Hid (Src X 2 (.slice (some ⟨U.heap.size + 1, 0, none⟩) 1 1) 1 [.int .i64 tk, .slice (some ⟨U.heap.size, 0, none⟩) 0 0]) := hide (by rw [hX, ← zX1]; exact Src.made _ _ _ rfl (by simp [Value.oneCell']))
          replace EX := EX1.trans EX
          replace HK := hide ((unhide HK).ext EX)
          replace HA := hide ((EX).owns (unhide HA))
          replace HB := hide ((EX).kept (unhide HB))
          replace HE := hide ((unhide HE).trans EX)
          replace HTb := hide (EX.kept (unhide HTb))
          have HzX : Hid ((w.heap.size + 1 + 1) ≤ X.heap.size) := hide (by have := EX.size; omega)
          have HXX : Hid (X = (U.alloc (.cells #[] 21)).alloc (.cells #[.int .i64 tk, .slice (some ⟨U.heap.size, 0, none⟩) 0 0] 67)) := hide (by rw [hX, hX1])
          clear EX EX1 hX hX1 zX1 HOld hz hzU zU
          go_wp2_with (at_builtin; refine StopQ.intro ?_)
          show wpList _ _ _ _ _ _
          rw [← unhide HXX]
          clear HXX t0 t1 t2
          obtain ⟨ys, hy, hyy⟩ := (unhide HK).2.1
          have HY := hide hy
          have HYY := hide hyy
          clear hy hyy
          refine wpList_app rfl _ _ 27 rfl (w.heap.size + 1 + 1) 67 ic (.agg #[.int .i64 0, .slice none 0 0]) 2 32 Tryd.underlying27 hic hc0 hc1 hc2 rfl (by decide) _ _ _ rfl (unhide HY) _ 1 [.int .i64 tk, (.slice (some ⟨U.heap.size, 0, none⟩) 0 0)] rfl (unhide HSrc) (by have := unhide HKL; unfold maxLen; omega) (by have := unhide HKL; omega) (unhide HzX) ?_
          intro v9 w9 o9 G9 _
          have HK9 := hide (OwnKys.push (d := tk) (xs := ([] : List Int)) (unhide HK) (unhide HY) (unhide HYY) (unhide HrX) (unhide HfX) o9 G9)
          have HA9 := hide (bytes_keep (unhide HA) (unhide HY) G9)
          have X9 := Fr.grown (S := fun q => (w.heap.size + 1 + 1) ≤ q) (Fr.refl _ X) G9 (fun q hq => ((unhide HY).lt q hq).1)
          have HB9 := hide (X9.kept (unhide HB) (by omega))
          have HE9 := hide (X9.ext (unhide HE) (fun q hq => by omega))
          have hz9 : (w.heap.size + 1 + 1) ≤ w9.heap.size := Nat.le_trans (unhide HzX) X9.size
          have HT9 := hide ((G9.block _ (lt_of_block (unhide HTb)) (fun e9 => by have h1 := ((unhide HKf) _ e9.symm); omega)).trans (unhide HTb))
          have t0 : w9.cell? ⟨w4.heap.size, 0, none⟩ = some (.int .i64 (tn : Int)) := cells_of (unhide HT9) 0 _ rfl
          have t3 : w9.cell? ⟨w4.heap.size, 3, none⟩ = some (.bool tp) := cells_of (unhide HT9) 3 _ rfl
          clear o9 G9 X9 HSrc HrX HfX HY HYY HK HA HB HE HzX
          go_wp2
          go_roundw
          case rel => exact ⟨i + tn, tp, _, _, by omega, rfl, by go_num, HK9, hide (by have := unhide HKL; simp; omega), HA9, HQ2, HB9, HE9, hz9⟩
          case measure => simp [intOf]; omega
        · have HQ2 := hide ((unhide HQ1) [] (by unfold keyT; rw [if_neg hk1, if_neg hk0]))
          rw [List.append_nil] at HQ2
          clear HQ1
          have t3 : U.cell? ⟨w4.heap.size, 3, none⟩ = some (.bool tp) := cells_of (unhide HTb) 3 _ rfl
          go_wp2
          go_roundw
          case rel => exact ⟨i + tn, tp, ks, rs, by omega, rfl, by go_num, HK, hide (by have := unhide HKL; omega), HA, HQ2, HB, HE, hzU⟩
          case measure => simp [intOf]; omega
      · have hEn := hide (l3End_any A (unhide HAB) _ i wr (ints_of_owns (unhide HA)) hlt (by omega))
        cases he : endF (A.drop i) with
        | none =>
          have hI : endI i (A.drop i) = -1 := by unfold endI; rw [he]
          rw [hI] at hEn
          have HF : Hid (R = (ks, i, true)) := hide (by rw [unhide HQ, rk_none (by unfold rkStep; rw [if_neg (by rw [unhide HDr]; omega), if_pos rfl, he])]; simp)
          clear HQ he hI
          go_wp2_with fail
          refine (unhide hEn).mono ?_
          rintro e w4 ⟨rfl, E4⟩
          replace HK := hide ((unhide HK).ext E4)
          replace HA := hide ((E4).owns (unhide HA))
          replace HB := hide ((E4).kept (unhide HB))
          replace HE := hide ((unhide HE).trans E4)
          have z4 := E4.size
          replace hz : (w.heap.size + 1 + 1) ≤ w4.heap.size := by omega
          clear hEn E4
          have HSrc : Hid (Src (w4.alloc (.cells #[] 5)) 1 (.slice (some ⟨g3, i, none⟩) (A.length - i) (c3 - i)) (A.length - i) ((A.drop i).map (Value.int .u8))) := hide (by
            obtain ⟨g, e, _, h9⟩ := ints_from (unhide HA) i hlt
            obtain rfl : g3 = g := by simpa using congrArg (fun o : Option Addr => o.map (·.block)) e
            have h8 := Src.ints (h9.ext ((Ext.refl w4).alloc (.cells #[] 5)))
            rwa [List.length_drop] at h8)
          have HOn := hide (owns_empty w4 5 1)
          go_wp2_with (at_builtin; refine StopQ.intro ?_)
          show wpList _ _ _ _ _ _
          refine wpList_app rfl _ _ 22 rfl w4.heap.size 5 i0 (.int .u8 0) 1 1 Tryd.underlying22 hi0 hz0 hz1 hz2 rfl (by decide) _ 0 [] rfl (unhide HOn) _ (A.length - i) ((A.drop i).map (Value.int .u8)) rfl (unhide HSrc) (by unfold maxLen; omega) (by omega) (by simp) ?_
          intro v9 w9 o9 G9 _
          rw [Nat.zero_add, List.nil_append] at o9
          obtain ⟨a9, c9, rfl⟩ : ∃ a c, v9 = .slice a ((A.length - i)) c := by
            rcases o9.2 with ⟨e, h0⟩ | ⟨g, cap9, cur, e, _⟩
            · exact ⟨none, 0, by rw [h0]; exact e⟩
            · exact ⟨_, _, e⟩
          have X9 := Fr.grown (S := fun q => q = w4.heap.size) (Fr.refl _ (w4.alloc (.cells #[] 5))) G9 (fun q hq => by cases hq; rfl)
          have HK9 := hide (((unhide HK).ext ((Ext.refl w4).alloc (.cells #[] 5))).fr X9 (fun g hg e9 => by have := ((unhide HK).foot hg).2; omega))
          have HB9 := hide (X9.kept (((Ext.refl w4).alloc (.cells #[] 5)).kept (unhide HB)) (by omega))
          have HE9 := hide (X9.ext ((unhide HE).alloc (.cells #[] 5)) (fun q hq => by omega))
          have HO9 : Hid (w9.ownsRow w4.heap.size 5 1 (.slice a9 ((A.length - i)) c9) (A.drop (i)).length ((A.drop (i)).map (Value.int .u8))) := hide (by rw [List.length_drop]; exact o9)
          have z9 := X9.size
          clear o9 G9 X9 HOn
          go_wp2_with (refine wpList_store_blk rfl 24 _ _ rfl rfl (w.heap.size + 1) rfl _ _ #[.slice a9 ((A.length - i)) c9, .bool true] rfl (unhide HB9) infoKR rfl (by simp [Value.oneCell']) ?_; intro Z hy hf9; have HY := hide hy; have FY := hide hf9; clear hy hf9)
          have v0 : Z.cell? ⟨w.heap.size + 1, 0, none⟩ = some (.slice a9 ((A.length - i)) c9) := cells_of (unhide HY) 0 _ rfl
          have v1 : Z.cell? ⟨w.heap.size + 1, 1, none⟩ = some (.bool true) := cells_of (unhide HY) 1 _ rfl
          exact bodyPost_ret (v := .tuple #[.agg #[.slice a9 ((A.length - i)) c9, .bool true], .slice ka ks.length kc]) (by simp [results, Tryd.results7, go_sem, v0, v1]) rfl (by rw [unhide HF]; exact ⟨⟨_, _, rs, rfl, owns_mono ((unhide FY).owns (unhide HO9) (fun g hg e9 => by have := ((unhide HO9).lt g hg).1; omega)) (by omega), OwnKys.down (OwnKys.fr (unhide HK9) (unhide FY) (fun g hg e9 => by have := ((unhide HK9).foot hg).1; omega)) (by omega)⟩, (unhide FY).ext (unhide HE9) (fun q hq => by omega)⟩)
        | some k =>
          have hI : endI i (A.drop i) = (i : Int) + (k : Int) := by unfold endI; rw [he]
          rw [hI] at hEn
          have hk6 := endF_le _ _ he
          rw [unhide HDr] at hk6
          have hneg : ¬ (i : Int) + (k : Int) < 0 := by omega
          have hkc : (i : Int) + (k : Int) ≤ (c3 : Int) := by omega
          have hki : (i : Int) ≤ (i : Int) + (k : Int) := by omega
          have hkw : IntKind.i64.wrap ((i : Int) + (k : Int) + 6) = ((i + (k + 6) : Nat) : Int) := by rw [IntKind.wrap_i64]; omega
          have HQ2 : Hid (R = (ks ++ [(cleanL ((A.drop i).take k), 2)] ++ (rk (A.drop (i + (k + 6))) false).1, i + (k + 6) + (rk (A.drop (i + (k + 6))) false).2.1, (rk (A.drop (i + (k + 6))) false).2.2)) := hide (by
            rw [unhide HQ, rk_some (ks := [(cleanL ((A.drop i).take k), 2)]) (m := k + 6) (q := false) (by unfold rkStep; rw [if_neg (by rw [unhide HDr]; omega), if_pos rfl, he])]
            rw [List.drop_drop]
            exact Prod.ext (by simp) (Prod.ext (by simp; omega) rfl))
          clear HQ he hI
          go_wp2_with fail
          refine (unhide hEn).mono ?_
          rintro e w4 ⟨rfl, E4⟩
          replace HK := hide ((unhide HK).ext E4)
          replace HA := hide ((E4).owns (unhide HA))
          replace HB := hide ((E4).kept (unhide HB))
          replace HE := hide ((unhide HE).trans E4)
          have z4 := E4.size
          clear hEn E4
          have hCl := hide (specClean_any ((A.drop i).take k) (fun n hn => (unhide HAB) n (List.mem_of_mem_drop (List.mem_of_mem_take hn))) (.slice (some ⟨g3, i, none⟩) k (c3 - i)) w4 (by
            obtain ⟨g, e, _, _, cap9, e9, _, h8⟩ := ints_from (unhide HA) i hlt
            obtain rfl : g3 = g := by simpa using congrArg (fun o : Option Addr => o.map (·.block)) e
            refine ⟨_, _, by rw [List.length_take, unhide HDr, Nat.min_eq_left (by omega)], by rw [List.length_take, unhide HDr]; omega, fun hp => ?_⟩
            obtain ⟨b9, o9, e8, h7⟩ := h8 (by rw [unhide HDr]; omega)
            have e10 := (Value.slice.inj e9).1
            rw [e8] at e10
            obtain ⟨rfl, rfl⟩ : g3 = b9 ∧ i = o9 := by simpa using e10
            refine ⟨g3, i, rfl, fun j hj => ?_⟩
            rw [List.length_take, unhide HDr] at hj
            rw [h7 j (by rw [unhide HDr]; omega)]
            rw [at0_take _ _ _ (by omega)]) (by rw [List.length_take, unhide HDr]; omega))
          obtain ⟨C, hC⟩ : ∃ C, C = cleanL ((A.drop i).take k) := ⟨_, rfl⟩
          rw [← hC] at hCl HQ2
          clear hC
          go_wp2_with fail
          refine (unhide hCl).mono ?_
          rintro e w5 ⟨r5, rfl, o5, E5⟩
          obtain ⟨ra, rc, rfl⟩ : ∃ a c, r5 = .slice a C.length c := by
            rcases o5.2 with ⟨e, h0⟩ | ⟨g, cap9, cur, e, _⟩
            · exact ⟨none, 0, by rw [h0]; exact e⟩
            · exact ⟨_, _, e⟩
          have HOld := hide (fun g (hg : Foot (.slice ka ks.length kc) rs ks.length g) => ((unhide HK).foot hg).2)
          replace HK := hide ((unhide HK).ext E5)
          replace HA := hide ((E5).owns (unhide HA))
          replace HB := hide ((E5).kept (unhide HB))
          replace HE := hide ((unhide HE).trans E5)
          obtain ⟨X, hX⟩ : ∃ X, X = w5.alloc (.cells #[.int .i64 2, .slice ra C.length rc] 67) := ⟨_, rfl⟩
          have EX : Ext w5 X := by rw [hX]; exact (Ext.refl w5).alloc _
          have HrX := hide (owns_mono (base' := (w.heap.size + 1 + 1)) (EX.owns o5) (by omega))
          have HfX : Hid (∀ j g, j < ks.length → (rV rs j).ownBlock = some g → (Value.slice ra C.length rc).ownBlock ≠ some g) := hide (fun j g hj hg h9 => by
            have h1 := (unhide HOld) g (.inr ⟨j, hj, hg⟩)
            have h2 := (o5.lt g h9).1
            omega)
          have HSrc : Hid (Src X 2 (.slice (some ⟨w5.heap.size, 0, none⟩) 1 1) 1 [.int .i64 2, .slice ra C.length rc]) := hide (by rw [hX]; exact Src.made _ _ _ rfl (by simp [Value.oneCell']))
          replace HK := hide ((unhide HK).ext EX)
          replace HA := hide ((EX).owns (unhide HA))
          replace HB := hide ((EX).kept (unhide HB))
          replace HE := hide ((unhide HE).trans EX)
          have HzX : Hid ((w.heap.size + 1 + 1) ≤ X.heap.size) := hide (by have := E5.size; have := EX.size; omega)
          have HXX := hide hX
          clear hCl o5 E5 EX hX HOld
          go_wp2_with (at_builtin; refine StopQ.intro ?_)
          show wpList _ _ _ _ _ _
          rw [← unhide HXX]
          clear HXX
          obtain ⟨ys, hy, hyy⟩ := (unhide HK).2.1
          have HY := hide hy
          have HYY := hide hyy
          clear hy hyy
          refine wpList_app rfl _ _ 27 rfl (w.heap.size + 1 + 1) 67 ic (.agg #[.int .i64 0, .slice none 0 0]) 2 32 Tryd.underlying27 hic hc0 hc1 hc2 rfl (by decide) _ _ _ rfl (unhide HY) _ 1 [.int .i64 2, (.slice ra C.length rc)] rfl (unhide HSrc) (by have := unhide HKL; unfold maxLen; omega) (by have := unhide HKL; omega) (unhide HzX) ?_
          intro v9 w9 o9 G9 _
          have HK9 := hide (OwnKys.push (d := 2) (xs := C) (unhide HK) (unhide HY) (unhide HYY) (unhide HrX) (unhide HfX) o9 G9)
          have HA9 := hide (bytes_keep (unhide HA) (unhide HY) G9)
          have X9 := Fr.grown (S := fun q => (w.heap.size + 1 + 1) ≤ q) (Fr.refl _ X) G9 (fun q hq => ((unhide HY).lt q hq).1)
          have HB9 := hide (X9.kept (unhide HB) (by omega))
          have HE9 := hide (X9.ext (unhide HE) (fun q hq => by omega))
          have hz9 : (w.heap.size + 1 + 1) ≤ w9.heap.size := Nat.le_trans (unhide HzX) X9.size
          clear o9 G9 X9 HSrc HrX HfX HY HYY HK HA HB HE HzX
          go_wp2
          go_roundw
          case rel => exact ⟨i + (k + 6), false, _, _, by omega, rfl, by go_num, HK9, hide (by have := unhide HKL; simp; omega), HA9, HQ2, HB9, HE9, hz9⟩
          case measure => simp [intOf]; omega
    · obtain rfl : i = A.length := by omega
      have hni : ¬ ((A.length : Nat) : Int) < (A.length : Int) := by omega
      have HF : Hid (R = (ks, A.length, q)) := hide (by rw [unhide HQ, List.drop_length, rk_none (by simp [rkStep])]; simp)
      clear HQ
      have hci : (A.length : Int) ≤ (c3 : Int) := by omega
      by_cases hcc : c3 = A.length
      · subst hcc
        have HOn := hide (owns_empty wr 5 1)
        go_wp2_with (at_builtin; refine StopQ.intro ?_)
        show wpList _ _ _ _ _ _
        refine wpList_app rfl _ _ 22 rfl wr.heap.size 5 i0 (.int .u8 0) 1 1 Tryd.underlying22 hi0 hz0 hz1 hz2 rfl (by decide) _ 0 [] rfl (unhide HOn) _ 0 [] rfl (src_zero _ _ _ _) (by unfold maxLen; omega) (by omega) (by simp) ?_
        intro v9 w9 o9 G9 _
        rw [Nat.zero_add, List.nil_append] at o9
        obtain ⟨a9, c9, rfl⟩ : ∃ a c, v9 = .slice a (0) c := by
          rcases o9.2 with ⟨e, h0⟩ | ⟨g, cap9, cur, e, _⟩
          · exact ⟨none, 0, by rw [h0]; exact e⟩
          · exact ⟨_, _, e⟩
        have X9 := Fr.grown (S := fun q => q = wr.heap.size) (Fr.refl _ (wr.alloc (.cells #[] 5))) G9 (fun q hq => by cases hq; rfl)
        have HK9 := hide (((unhide HK).ext ((Ext.refl wr).alloc (.cells #[] 5))).fr X9 (fun g hg e9 => by have := ((unhide HK).foot hg).2; omega))
        have HB9 := hide (X9.kept (((Ext.refl wr).alloc (.cells #[] 5)).kept (unhide HB)) (by omega))
        have HE9 := hide (X9.ext ((unhide HE).alloc (.cells #[] 5)) (fun q hq => by omega))
        have HO9 : Hid (w9.ownsRow wr.heap.size 5 1 (.slice a9 (0) c9) (A.drop (A.length)).length ((A.drop (A.length)).map (Value.int .u8))) := hide (by rw [List.drop_length]; exact o9)
        have z9 := X9.size
        clear o9 G9 X9 HOn
        go_wp2_with (refine wpList_store_blk rfl 24 _ _ rfl rfl (w.heap.size + 1) rfl _ _ #[.slice a9 (0) c9, .bool q] rfl (unhide HB9) infoKR rfl (by simp [Value.oneCell']) ?_; intro Z hy hf9; have HY := hide hy; have FY := hide hf9; clear hy hf9)
        have v0 : Z.cell? ⟨w.heap.size + 1, 0, none⟩ = some (.slice a9 (0) c9) := cells_of (unhide HY) 0 _ rfl
        have v1 : Z.cell? ⟨w.heap.size + 1, 1, none⟩ = some (.bool q) := cells_of (unhide HY) 1 _ rfl
        exact bodyPost_ret (v := .tuple #[.agg #[.slice a9 (0) c9, .bool q], .slice ka ks.length kc]) (by simp [results, Tryd.results7, go_sem, v0, v1]) rfl (by rw [unhide HF]; exact ⟨⟨_, _, rs, rfl, owns_mono ((unhide FY).owns (unhide HO9) (fun g hg e9 => by have := ((unhide HO9).lt g hg).1; omega)) (by omega), OwnKys.down (OwnKys.fr (unhide HK9) (unhide FY) (fun g hg e9 => by have := ((unhide HK9).foot hg).1; omega)) (by omega)⟩, (unhide FY).ext (unhide HE9) (fun q hq => by omega)⟩)
      · have hcd : ¬ A.length = c3 := fun e => hcc e.symm
        have HOn := hide (owns_empty wr 5 1)
        go_wp2_with (at_builtin; refine StopQ.intro ?_)
        show wpList _ _ _ _ _ _
        refine wpList_app rfl _ _ 22 rfl wr.heap.size 5 i0 (.int .u8 0) 1 1 Tryd.underlying22 hi0 hz0 hz1 hz2 rfl (by decide) _ 0 [] rfl (unhide HOn) _ 0 [] rfl (src_zero _ _ _ _) (by unfold maxLen; omega) (by omega) (by simp) ?_
        intro v9 w9 o9 G9 _
        rw [Nat.zero_add, List.nil_append] at o9
        obtain ⟨a9, c9, rfl⟩ : ∃ a c, v9 = .slice a (0) c := by
          rcases o9.2 with ⟨e, h0⟩ | ⟨g, cap9, cur, e, _⟩
          · exact ⟨none, 0, by rw [h0]; exact e⟩
          · exact ⟨_, _, e⟩
        have X9 := Fr.grown (S := fun q => q = wr.heap.size) (Fr.refl _ (wr.alloc (.cells #[] 5))) G9 (fun q hq => by cases hq; rfl)
        have HK9 := hide (((unhide HK).ext ((Ext.refl wr).alloc (.cells #[] 5))).fr X9 (fun g hg e9 => by have := ((unhide HK).foot hg).2; omega))
        have HB9 := hide (X9.kept (((Ext.refl wr).alloc (.cells #[] 5)).kept (unhide HB)) (by omega))
        have HE9 := hide (X9.ext ((unhide HE).alloc (.cells #[] 5)) (fun q hq => by omega))
        have HO9 : Hid (w9.ownsRow wr.heap.size 5 1 (.slice a9 (0) c9) (A.drop (A.length)).length ((A.drop (A.length)).map (Value.int .u8))) := hide (by rw [List.drop_length]; exact o9)
        have z9 := X9.size
        clear o9 G9 X9 HOn
        go_wp2_with (refine wpList_store_blk rfl 24 _ _ rfl rfl (w.heap.size + 1) rfl _ _ #[.slice a9 (0) c9, .bool q] rfl (unhide HB9) infoKR rfl (by simp [Value.oneCell']) ?_; intro Z hy hf9; have HY := hide hy; have FY := hide hf9; clear hy hf9)
        have v0 : Z.cell? ⟨w.heap.size + 1, 0, none⟩ = some (.slice a9 (0) c9) := cells_of (unhide HY) 0 _ rfl
        have v1 : Z.cell? ⟨w.heap.size + 1, 1, none⟩ = some (.bool q) := cells_of (unhide HY) 1 _ rfl
        exact bodyPost_ret (v := .tuple #[.agg #[.slice a9 (0) c9, .bool q], .slice ka ks.length kc]) (by simp [results, Tryd.results7, go_sem, v0, v1]) rfl (by rw [unhide HF]; exact ⟨⟨_, _, rs, rfl, owns_mono ((unhide FY).owns (unhide HO9) (fun g hg e9 => by have := ((unhide HO9).lt g hg).1; omega)) (by omega), OwnKys.down (OwnKys.fr (unhide HK9) (unhide FY) (fun g hg e9 => by have := ((unhide HK9).foot hg).1; omega)) (by omega)⟩, (unhide FY).ext (unhide HE9) (fun q hq => by omega)⟩)
end Go.Proofs.YtbieoijeilhadaaDoor

namespace Go.Proofs.YtbieoijeilhadaaDoor
open Go.RowKit
theorem cleanR_i32 {x : Int} (h : CleanR x) : -2147483648 ≤ x ∧ x ≤ 2147483647 := by
  have := valid_bd h.1
  omega
theorem rkStep_ok {s : List Int} {p : Bool} {ks : List (List Int × Int)} {m : Nat} {q : Bool} (h : rkStep s p = some (ks, m, q)) : ks.length ≤ m ∧ ∀ k ∈ ks, I32s k.1 ∧ k.1.length ≤ m := by
  have hm := rkStep_n h
  unfold rkStep at h
  split at h
  · simp at h
  · split at h
    · cases he : endF s with
      | none => rw [he] at h; simp at h
      | some k =>
        rw [he] at h
        simp at h
        obtain ⟨rfl, rfl, rfl⟩ := h
        refine ⟨by simp, fun x hx => ?_⟩
        simp at hx
        subst hx
        refine ⟨fun y hy => cleanR_i32 (cleanL_mem _ y hy), ?_⟩
        have h1 := cleanL_len (s.take k)
        rw [List.length_take] at h1
        show (cleanL (s.take k)).length ≤ k + 6
        omega
    · split at h
      · simp at h
      · simp at h
        obtain ⟨rfl, rfl, rfl⟩ := h
        have hr := oneF_r s
        unfold keyT
        split
        · refine ⟨by simp; omega, fun x hx => ?_⟩
          simp at hx
          subst hx
          refine ⟨fun y hy => ?_, by simp; omega⟩
          simp at hy
          subst hy
          omega
        · split
          · refine ⟨by simp; omega, fun x hx => ?_⟩
            simp at hx
            subst hx
            exact ⟨fun y hy => by simp at hy, by simp⟩
          · exact ⟨by simp, fun x hx => by simp at hx⟩
end Go.Proofs.YtbieoijeilhadaaDoor

namespace Go.Proofs.YtbieoijeilhadaaDoor
open Go.RowKit
theorem at0_appL {s t : List Int} {i : Nat} (h : i < s.length) : at0 (s ++ t) i = at0 s i := by unfold at0; rw [List.getElem?_append_left h]
theorem endF_more : ∀ (s t : List Int) (k : Nat), endF s = some k → endF (s ++ t) = some k
  | [], t, k, h => by simp [endF] at h
  | x :: xs, t, k, h => by
    have hk := endF_le _ _ h
    rw [endF] at h
    rw [List.cons_append, endF]
    have h6 : ((x :: xs) ++ t).take 6 = (x :: xs).take 6 := by rw [List.take_append_of_le_length (by simp at hk ⊢; omega)]
    rw [List.cons_append] at h6
    rw [h6]
    split at h
    · rename_i h1; rw [if_pos h1]; exact h
    · rename_i h1
      rw [if_neg h1]
      cases he : endF xs with
      | none => rw [he] at h; simp at h
      | some m => rw [he] at h; rw [endF_more xs t m he]; exact h
theorem numR_more : ∀ (s t : List Int), numR s < s.length → numR (s ++ t) = numR s
  | [], t, h => by simp at h
  | x :: xs, t, h => by
    rw [List.cons_append, numR, numR]
    rw [numR] at h
    split
    · rename_i h1
      rw [if_pos h1] at h
      rw [numR_more xs t (by simpa using h)]
    · rfl
theorem brkF_more (s t : List Int) (h2 : 2 ≤ s.length) (h : (brkF s).n ≠ 0) : brkF (s ++ t) = brkF s := by
  by_cases hl : s.length ≤ 2 + numR (s.drop 2)
  · exfalso; apply h; unfold brkF; rw [if_pos hl]; rfl
  · have hd : (s ++ t).drop 2 = s.drop 2 ++ t := by rw [List.drop_append_of_le_length h2]
    have hn : numR ((s ++ t).drop 2) = numR (s.drop 2) := by rw [hd, numR_more _ _ (by rw [List.length_drop]; omega)]
    have ht : ((s ++ t).drop 2).take (numR (s.drop 2)) = (s.drop 2).take (numR (s.drop 2)) := by rw [hd, List.take_append_of_le_length (by rw [List.length_drop]; omega)]
    unfold brkF
    rw [hn, ht, at0_appL (by omega), if_neg hl, if_neg (by rw [List.length_append]; omega)]
theorem escF_more (s t : List Int) (h : (escF s).n ≠ 0) : escF (s ++ t) = escF s := by
  by_cases hl : s.length ≤ 1
  · exfalso; apply h; unfold escF; rw [if_pos hl]; rfl
  · unfold escF at h ⊢
    rw [if_neg hl] at h
    rw [if_neg hl, if_neg (by rw [List.length_append]; omega), at0_appL (by omega)]
    by_cases h1 : at0 s 1 = 27
    · rw [if_pos h1, if_pos h1]
    · rw [if_neg h1] at h
      rw [if_neg h1, if_neg h1]
      by_cases h2 : at0 s 1 = 91
      · rw [if_pos h2] at h
        rw [if_pos h2, if_pos h2]
        exact brkF_more s t (by omega) h
      · rw [if_neg h2] at h
        rw [if_neg h2, if_neg h2]
        by_cases h3 : at0 s 1 = 79
        · rw [if_pos h3] at h
          rw [if_pos h3, if_pos h3]
          by_cases h4 : s.length ≤ 2
          · exfalso; apply h; rw [if_pos h4]; rfl
          · rw [if_neg h4, if_neg (by rw [List.length_append]; omega), at0_appL (by omega)]
        · rw [if_neg h3, if_neg h3]
theorem decL_form (l : List Int) : decL l = if at0 l 0 < 128 then (at0 l 0, 1)
    else if nB (at0 l 0) = 2 ∧ cont l 1 = true then (v2 l, 2)
    else if nB (at0 l 0) = 3 ∧ cont l 1 = true ∧ cont l 2 = true ∧ loB (at0 l 0) ≤ at0 l 1 ∧ at0 l 1 ≤ hiB (at0 l 0) then (v3 l, 3)
    else if nB (at0 l 0) = 4 ∧ cont l 1 = true ∧ cont l 2 = true ∧ cont l 3 = true ∧ loB (at0 l 0) ≤ at0 l 1 ∧ at0 l 1 ≤ hiB (at0 l 0) then (v4 l, 4)
    else (65533, 1) := by
  have k : ∀ j, cont l j = true → 128 ≤ at0 l j ∧ at0 l j ≤ 191 := fun j hj => by
    unfold cont at hj
    simp at hj
    exact ⟨hj.1.2, hj.2⟩
  have k1 := k 1
  have k2 := k 2
  have k3 := k 3
  clear k
  unfold decL v2 v3 v4
  simp only [valid_iff]
  generalize at0 l 0 = a at *
  generalize at0 l 1 = b at *
  generalize at0 l 2 = c at *
  generalize at0 l 3 = d at *
  generalize cont l 1 = C1 at *
  generalize cont l 2 = C2 at *
  generalize cont l 3 = C3 at *
  by_cases h0 : a < 128
  · rw [if_pos h0, if_pos h0]
  rw [if_neg h0, if_neg h0]
  have hn := nB_class a
  cases C1 with
  | false => simp
  | true =>
    have b1 := k1 rfl
    by_cases h2 : 192 ≤ a ∧ a < 224
    · rw [if_pos ⟨h2, rfl⟩]
      by_cases h3 : a < 194
      · rw [if_neg (by omega), if_neg (by omega), if_neg (by omega), if_neg (by omega)]
      · rw [if_pos (by omega), if_pos ⟨by omega, rfl⟩]
    · rw [if_neg (by omega), if_neg (show ¬ (nB a = 2 ∧ true = true) by omega)]
      cases C2 with
      | false => simp
      | true =>
        have c1 := k2 rfl
        by_cases h3 : 224 ≤ a ∧ a < 240
        · rw [if_pos ⟨h3, rfl, rfl⟩]
          by_cases h4 : loB a ≤ b ∧ b ≤ hiB a
          · rw [if_pos (by unfold loB hiB at h4; (repeat' split at h4) <;> omega), if_pos ⟨by omega, rfl, rfl, h4⟩]
          · rw [if_neg (by unfold loB hiB at h4; (repeat' split at h4) <;> omega), if_neg (fun x => h4 ⟨x.2.2.2.1, x.2.2.2.2⟩), if_neg (by omega)]
        · rw [if_neg (by omega), if_neg (show ¬ (nB a = 3 ∧ true = true ∧ true = true ∧ loB a ≤ b ∧ b ≤ hiB a) by omega)]
          cases C3 with
          | false => simp
          | true =>
            have d1 := k3 rfl
            by_cases h5 : 240 ≤ a ∧ a < 248
            · rw [if_pos ⟨h5, rfl, rfl, rfl⟩]
              by_cases h4 : a < 245 ∧ loB a ≤ b ∧ b ≤ hiB a
              · rw [if_pos (by unfold loB hiB at h4; (repeat' split at h4) <;> omega), if_pos ⟨by omega, rfl, rfl, rfl, h4.2⟩]
              · rw [if_neg (by unfold loB hiB at h4; (repeat' split at h4) <;> omega), if_neg (fun x => h4 ⟨by omega, x.2.2.2.2.1, x.2.2.2.2.2⟩)]
            · rw [if_neg (by omega), if_neg (by omega)]
theorem cont_iff (l : List Int) (j : Nat) : cont l j = true ↔ j < l.length ∧ 128 ≤ at0 l j ∧ at0 l j ≤ 191 := by
  unfold cont
  simp
  omega
theorem full_tt (s : List Int) : fullB s = true ↔ nB (at0 s 0) ≤ s.length ∨ (1 < s.length ∧ (at0 s 1 < loB (at0 s 0) ∨ hiB (at0 s 0) < at0 s 1)) ∨ (2 < s.length ∧ (at0 s 2 < 128 ∨ 191 < at0 s 2)) := by
  unfold fullB
  simp only [Bool.or_eq_true, Bool.and_eq_true, decide_eq_true_eq]
  omega
theorem full_more (s t : List Int) (h0 : 0 < s.length) (h : fullB s = true) : fullB (s ++ t) = true := by
  rw [full_tt] at h ⊢
  rw [at0_appL h0, List.length_append]
  rcases h with h | ⟨h1, h⟩ | ⟨h1, h⟩
  · left; omega
  · right; left; rw [at0_appL h1]; exact ⟨by omega, h⟩
  · right; right; rw [at0_appL h1]; exact ⟨by omega, h⟩
theorem decL_more (s t : List Int) (h0 : 0 < s.length) (h : fullB s = true) : decL (s ++ t) = decL s := by
  rw [full_tt] at h
  have hn := nB_class (at0 s 0)
  have e0 := at0_appL (t := t) h0
  rw [decL_form, decL_form]
  simp only [cont_iff, e0]
  by_cases hA : at0 s 0 < 128
  · rw [if_pos hA, if_pos hA]
  rw [if_neg hA, if_neg hA]
  by_cases l1 : 1 < s.length
  · have e1 := at0_appL (t := t) l1
    by_cases l2 : 2 < s.length
    · have e2 := at0_appL (t := t) l2
      by_cases l3 : 3 < s.length
      · have e3 := at0_appL (t := t) l3
        have m1 : (1 < (s ++ t).length) = (1 < s.length) := by rw [List.length_append]; simp; omega
        have m2 : (2 < (s ++ t).length) = (2 < s.length) := by rw [List.length_append]; simp; omega
        have m3 : (3 < (s ++ t).length) = (3 < s.length) := by rw [List.length_append]; simp; omega
        unfold v2 v3 v4
        simp only [e0, e1, e2, e3, m1, m2, m3]
      · unfold v2 v3
        simp only [e0, e1, e2]
        have m1 : (1 < (s ++ t).length) = (1 < s.length) := by rw [List.length_append]; simp; omega
        have m2 : (2 < (s ++ t).length) = (2 < s.length) := by rw [List.length_append]; simp; omega
        simp only [m1, m2]
        rw [if_neg (c := nB (at0 s 0) = 4 ∧ _) (by rintro ⟨q1, q2, q3, q4, q5, q6⟩; omega), if_neg (c := nB (at0 s 0) = 4 ∧ _) (by rintro ⟨q1, q2, q3, q4, q5, q6⟩; omega)]
    · unfold v2
      simp only [e0, e1]
      have m1 : (1 < (s ++ t).length) = (1 < s.length) := by rw [List.length_append]; simp; omega
      simp only [m1]
      rw [if_neg (c := nB (at0 s 0) = 4 ∧ _) (by rintro ⟨q1, q2, q3, q4, q5, q6⟩; omega), if_neg (c := nB (at0 s 0) = 4 ∧ _) (by rintro ⟨q1, q2, q3, q4, q5, q6⟩; omega), if_neg (c := nB (at0 s 0) = 3 ∧ _) (by rintro ⟨q1, q2, q3, q4, q5⟩; omega), if_neg (c := nB (at0 s 0) = 3 ∧ _) (by rintro ⟨q1, q2, q3, q4, q5⟩; omega)]
  · rw [if_neg (c := nB (at0 s 0) = 4 ∧ _) (by rintro ⟨q1, q2, q3, q4, q5, q6⟩; omega), if_neg (c := nB (at0 s 0) = 4 ∧ _) (by rintro ⟨q1, q2, q3, q4, q5, q6⟩; omega), if_neg (c := nB (at0 s 0) = 3 ∧ _) (by rintro ⟨q1, q2, q3, q4, q5⟩; omega), if_neg (c := nB (at0 s 0) = 3 ∧ _) (by rintro ⟨q1, q2, q3, q4, q5⟩; omega), if_neg (c := nB (at0 s 0) = 2 ∧ _) (by rintro ⟨q1, q2⟩; omega), if_neg (c := nB (at0 s 0) = 2 ∧ _) (by rintro ⟨q1, q2⟩; omega)]
theorem oneF_more (s t : List Int) (h0 : 0 < s.length) (h : (oneF s).n ≠ 0) : oneF (s ++ t) = oneF s := by
  unfold oneF at h ⊢
  rw [at0_appL h0]
  by_cases h1 : at0 s 0 = 27
  · rw [if_pos h1] at h
    rw [if_pos h1, if_pos h1]
    exact escF_more s t h
  · rw [if_neg h1] at h
    rw [if_neg h1, if_neg h1]
    by_cases h2 : at0 s 0 = 9
    · rw [if_pos h2, if_pos h2]
    · rw [if_neg h2] at h
      rw [if_neg h2, if_neg h2]
      by_cases h3 : 0 < ctrlF (at0 s 0)
      · rw [if_pos h3, if_pos h3]
      · rw [if_neg h3] at h
        rw [if_neg h3, if_neg h3]
        have hb : begB s = false := by
          cases hb : begB s with
          | false => rfl
          | true => exfalso; apply h; rw [if_pos hb]; rfl
        have hf : fullB s = true := by rw [beg_full s h0] at hb; simpa using hb
        have hb2 : begB (s ++ t) = false := by rw [beg_full _ (by rw [List.length_append]; omega), full_more s t h0 hf]; rfl
        rw [hb, hb2, decL_more s t h0 hf]
theorem rkStep_more (s t : List Int) (p : Bool) (x : List (List Int × Int) × Nat × Bool) (h : rkStep s p = some x) : rkStep (s ++ t) p = some x := by
  unfold rkStep at h ⊢
  by_cases h0 : s.length = 0
  · rw [if_pos h0] at h; simp at h
  · rw [if_neg h0] at h
    rw [if_neg (by rw [List.length_append]; omega)]
    cases p with
    | true =>
      simp only [if_true] at h ⊢
      cases he : endF s with
      | none => rw [he] at h; simp at h
      | some k =>
        have hk := endF_le s k he
        rw [he] at h
        rw [endF_more s t k he]
        simp only at h ⊢
        rw [List.take_append_of_le_length (by omega)]
        exact h
    | false =>
      simp only [Bool.false_eq_true, if_false] at h ⊢
      by_cases h1 : (oneF s).n = 0
      · rw [if_pos h1] at h; simp at h
      · rw [if_neg h1] at h
        rw [oneF_more s t (by omega) h1, if_neg h1]
        exact h
theorem rk_append (t : List Int) : ∀ (f : Nat) (s : List Int) (p : Bool), s.length ≤ f → rk (s ++ t) p = ((rk s p).1 ++ (rk (s.drop (rk s p).2.1 ++ t) (rk s p).2.2).1, (rk s p).2.1 + (rk (s.drop (rk s p).2.1 ++ t) (rk s p).2.2).2.1, (rk (s.drop (rk s p).2.1 ++ t) (rk s p).2.2).2.2) := by
  intro f
  induction f with
  | zero =>
    intro s p hs
    have : s = [] := List.eq_nil_of_length_eq_zero (by omega)
    subst this
    rw [rk_none (s := []) (p := p) (by unfold rkStep; simp)]
    simp
  | succ f ih =>
    intro s p hs
    cases hst : rkStep s p with
    | none => rw [rk_none hst]; simp
    | some x =>
      obtain ⟨ks, m, q⟩ := x
      have hm := rkStep_n hst
      rw [rk_some hst, rk_some (rkStep_more s t p _ hst), List.drop_append_of_le_length hm.2, ih (s.drop m) q (by rw [List.length_drop]; omega)]
      simp only [List.drop_drop]
      refine Prod.ext ?_ (Prod.ext ?_ ?_)
      · simp [List.append_assoc]
      · simp; omega
      · rfl
theorem rk_rest : ∀ (f : Nat) (s : List Int) (p : Bool), s.length ≤ f → rkStep (s.drop (rk s p).2.1) (rk s p).2.2 = none := by
  intro f
  induction f with
  | zero =>
    intro s p hs
    have : s = [] := List.eq_nil_of_length_eq_zero (by omega)
    subst this
    unfold rkStep; simp
  | succ f ih =>
    intro s p hs
    cases hst : rkStep s p with
    | none => rw [rk_none hst]; simpa using hst
    | some x =>
      obtain ⟨ks, m, q⟩ := x
      have hm := rkStep_n hst
      rw [rk_some hst]
      have := ih (s.drop m) q (by rw [List.length_drop]; omega)
      simpa [List.drop_drop] using this
end Go.Proofs.YtbieoijeilhadaaDoor
