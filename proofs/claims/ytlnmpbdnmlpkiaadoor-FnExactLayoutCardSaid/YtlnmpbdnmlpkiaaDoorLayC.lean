import Derived.Test.YtlnmpbdnmlpkiaaDoorLayM
import Derived.Test.YtlnmpbdnmlpkiaaDoorSettle
import Derived.Test.YtlnmpbdnmlpkiaaDoorApp
import Derived.Test.YtlnmpbdnmlpkiaaDoorCss
namespace Go.Proofs.YtlnmpbdnmlpkiaaDoor
open Go.RowKit

theorem cutC_len (bs : List Int) : (cutC bs).length ≤ bs.length := Nat.le_trans (clF_len _ _) (cleanL_len bs)
theorem cutC_fit (bs : List Int) : (cutC bs).length + sumR (cutC bs) (cutC bs).length ≤ 2 * bs.length + 1 := by
  have h1 := clF_sum (cleanL bs) (cleanL bs).length
  have h2 := cleanL_len bs
  have h3 := cutC_len bs
  have h4 : sumR (cutC bs) (cutC bs).length ≤ (cleanL bs).length + 1 := h1
  omega
theorem cutC_runes (bs : List Int) (j : Nat) : (cR (cutC bs) j).length ≤ bs.length + 1 := by
  have h1 := clF_runes (cleanL bs) (cleanL bs).length j
  have h2 := cleanL_len bs
  have h3 : (cR (cutC bs) j).length ≤ (cleanL bs).length + 1 := h1
  omega
theorem cutC_i32 (bs : List Int) (j : Nat) : I32s (cR (cutC bs) j) := clF_i32 _ _ j
theorem sumR_left (xs ys : List (List Int × Int)) : ∀ k, k ≤ xs.length → sumR (xs ++ ys) k = sumR xs k
  | 0, _ => rfl
  | k + 1, h => by rw [sumR, sumR, sumR_left xs ys k (by omega), cR_app, if_pos (by omega)]
theorem sumR_right (xs ys : List (List Int × Int)) : ∀ k, k ≤ ys.length → sumR (xs ++ ys) (xs.length + k) = sumR xs xs.length + sumR ys k
  | 0, _ => by rw [Nat.add_zero, sumR_left xs ys _ (Nat.le_refl _)]; rfl
  | k + 1, h => by
    rw [← Nat.add_assoc, sumR, sumR_right xs ys k (by omega), cR_app, if_neg (by omega), show xs.length + k - xs.length = k by omega, sumR]
    omega
/-- What holds of the clusters of texts. -/
structure Cuts (cs : List (List Int × Int)) (N : Nat) : Prop where
  wide : Wides cs
  len : cs.length ≤ N
  sum : cs.length + sumR cs cs.length ≤ 2 * N + N
  runes : ∀ j, (cR cs j).length ≤ N + 1
  i32 : ∀ j, I32s (cR cs j)
theorem cuts_one (bs : List Int) : Cuts (cutC bs) (bs.length + 1) :=
  ⟨cutC_wides bs, by have := cutC_len bs; omega, by have := cutC_fit bs; omega, fun j => by have := cutC_runes bs j; omega, cutC_i32 bs⟩
theorem Cuts.app {xs ys : List (List Int × Int)} {N M : Nat} (hx : Cuts xs N) (hy : Cuts ys M) : Cuts (xs ++ ys) (N + M) := by
  have h1 := hx.len
  have h2 := hy.len
  have h3 := hx.sum
  have h4 := hy.sum
  refine ⟨hx.wide.app hy.wide, by rw [List.length_append]; omega, ?_, fun j => ?_, fun j => ?_⟩
  · rw [List.length_append, sumR_right xs ys _ (Nat.le_refl _)]
    omega
  · rw [cR_app]
    split
    · have := hx.runes j; omega
    · have := hy.runes (j - xs.length); omega
  · rw [cR_app]
    split
    · exact hx.i32 j
    · exact hy.i32 _
theorem sumR_up (cs : List (List Int × Int)) (k : Nat) : ∀ n, k ≤ n → sumR cs k ≤ sumR cs n := by
  intro n
  induction n with
  | zero => intro h; rw [show k = 0 by omega]; exact Nat.le_refl _
  | succ n ih =>
    intro h
    by_cases e : k = n + 1
    · subst e; exact Nat.le_refl _
    · have := ih (by omega); rw [sumR]; omega
theorem Cuts.part {cs : List (List Int × Int)} {N : Nat} (h : Cuts cs N) (s e : Nat) : ((cs.take e).drop s).length + sumR ((cs.take e).drop s) ((cs.take e).drop s).length ≤ 3 * N ∧ ∀ j, I32s (cR ((cs.take e).drop s) j) := by
  have h1 := h.sum
  have hl : ((cs.take e).drop s).length = min e cs.length - s := by simp
  refine ⟨?_, fun j => ?_⟩
  · by_cases hse : s ≤ min e cs.length
    · have e1 := sumR_sub cs s e (min e cs.length - s) (by omega)
      have e2 := sumR_up cs (s + (min e cs.length - s)) cs.length (by omega)
      rw [hl]
      omega
    · have h0 : (cs.take e).drop s = [] := List.eq_nil_of_length_eq_zero (by omega)
      rw [h0]
      simp [sumR]
  · unfold cR
    cases hj : ((cs.take e).drop s)[j]? with
    | none => intro x hx; cases hx
    | some u =>
      obtain ⟨q, hq⟩ := List.mem_iff_getElem?.1 (List.mem_of_mem_take (List.mem_of_mem_drop (List.mem_of_getElem? hj)))
      have := h.i32 q
      unfold cR at this
      rw [hq] at this
      exact this
set_option maxRecDepth 10000 in
set_option maxHeartbeats 1000000 in
theorem l4Cut_any (bs : List Int) (hb : Bytes bs) (w : World) (hl : bs.length ≤ 8000000) :
    Calls Tryd.prog 92 #[.string (toBA bs)] w fun e w' => ∃ v rs, e = .returned v ∧ OwnCls w' w.heap.size v rs (cutC bs) ∧ Ext w w' := by
  obtain ⟨v0, w0, hrun, h0, E0⟩ := run_s2i (P := Tryd.prog) w _ _ _ Tryd.underlying9 Tryd.underlying23 Tryd.underlying5 bs hb
  have hcl := cleanL_len bs
  have H0 := hide h0
  go_enter Tryd.func92, Tryd.ntmps92
  go_wp2_with fail
  refine (specClean_any bs hb v0 w0 (unhide H0) (by omega)).mono ?_
  rintro e w1 ⟨v1, rfl, o1, E1⟩
  go_wp2_with fail
  refine (specClusters_any v1 (cleanL bs) w1 (ints_of_owns o1) (cleanL_i32 bs) (by omega)).mono ?_
  rintro e w2 ⟨v2, rs2, rfl, o2, E2⟩
  have O2 := hide o2
  clear o1 o2
  go_wp2
  go_ret
  exact ⟨_, _, rfl, OwnCls.mono (unhide O2) (E0.trans E1).size, (E0.trans E1).trans E2⟩
set_option maxRecDepth 10000 in
set_option maxHeartbeats 1000000 in
theorem clustersOf_any (bs : List Int) (hb : Bytes bs) (w : World) (hl : bs.length ≤ 8000000) (hT : Laid w) :
    Calls Tryd.prog 98 #[.string (toBA bs)] w fun e w' => ∃ v rs, e = .returned v ∧ OwnCls w' w.heap.size v rs (cutC bs) ∧ Ext w w' := by
  obtain ⟨v0, w0, hrun, h0, E0⟩ := run_s2i (P := Tryd.prog) w _ _ _ Tryd.underlying9 Tryd.underlying23 Tryd.underlying5 bs hb
  have hcl := cleanL_len bs
  have H0 := hide h0
  have HT := hide hT
  go_enter Tryd.func98, Tryd.ntmps98
  go_wp2_with fail
  refine (implClean_any bs hb v0 w0 (unhide H0) (by omega)).mono ?_
  rintro e w1 ⟨v1, rfl, o1, E1⟩
  have T1 := hide ((unhide HT).below (E0.trans E1).below)
  go_wp2_with fail
  refine (implClusters_any v1 (cleanL bs) w1 (ints_of_owns o1) (cleanL_i32 bs) (by omega) (unhide T1)).mono ?_
  rintro e w2 ⟨v2, rs2, rfl, o2, E2⟩
  have O2 := hide o2
  clear o1 o2
  go_wp2
  go_ret
  exact ⟨_, _, rfl, OwnCls.mono (unhide O2) (E0.trans E1).size, (E0.trans E1).trans E2⟩
/-- The cells of clusters. -/
theorem OwnCls.ys {w : World} {b : Nat} {v : Value} {rs : List Value} {cs : List (List Int × Int)} (h : OwnCls w b v rs cs) : ∃ ys, w.ownsRow b 173 2 v cs.length ys ∧ (∀ j, j < cs.length → ys[j * 2]? = some (rV rs j) ∧ ys[j * 2 + 1]? = some (.int .i64 (cW cs j))) ∧ Src w 2 v cs.length ys := by
  obtain ⟨h0, ⟨ys, h1, h2⟩, h3, h4⟩ := h
  refine ⟨ys, h1, h2, h1.1, fun u hu => ?_, ?_⟩
  · obtain ⟨i, hi⟩ := List.mem_iff_getElem?.1 hu
    have hil : i < cs.length * 2 := by rw [← h1.1]; exact (List.getElem?_eq_some_iff.1 hi).1
    have hj := h2 (i / 2) (by omega)
    rcases Nat.mod_two_eq_zero_or_one i with e | e
    · rw [show i / 2 * 2 = i by omega, hi] at hj
      obtain rfl := Option.some.inj hj.1
      rcases (h3 (i / 2) (by omega)).2 with ⟨e2, _⟩ | ⟨g, cap, cur, e2, _⟩ <;> rw [e2] <;> rfl
    · rw [show i / 2 * 2 + 1 = i by omega, hi] at hj
      obtain rfl := Option.some.inj hj.2
      rfl
  · rcases h1.2 with ⟨rfl, e0⟩ | ⟨g, cap, cur, rfl, _⟩
    · exact .inl ⟨0, rfl, e0⟩
    · exact .inr ⟨_, cap, rfl, h1.cells rfl⟩
/-- Clusters appended to clusters. -/
theorem OwnCls.append {w w' : World} {b b2 : Nat} {v1 v2 v' : Value} {rs1 rs2 : List Value} {cs1 cs2 : List (List Int × Int)} {ys1 ys2 : List Value} (h1 : OwnCls w b v1 rs1 cs1) (h2 : OwnCls w b2 v2 rs2 cs2) (hb : b ≤ b2) (hlt : ∀ g, Foot v1 rs1 cs1.length g → g < b2)
    (o1 : w.ownsRow b 173 2 v1 cs1.length ys1) (k1 : ∀ j, j < cs1.length → ys1[j * 2]? = some (rV rs1 j) ∧ ys1[j * 2 + 1]? = some (.int .i64 (cW cs1 j))) (k2 : ∀ j, j < cs2.length → ys2[j * 2]? = some (rV rs2 j) ∧ ys2[j * 2 + 1]? = some (.int .i64 (cW cs2 j)))
    (o' : w'.ownsRow b 173 2 v' (cs1.length + cs2.length) (ys1 ++ ys2)) (hg : w.grownBy w' v1.ownBlock) : OwnCls w' b v' (rs1 ++ rs2) (cs1 ++ cs2) := by
  have l1 : rs1.length = cs1.length := h1.1
  have l2 : rs2.length = cs2.length := h2.1
  have ly : ys1.length = cs1.length * 2 := o1.1
  have fr : Fr (fun g => v1.ownBlock = some g) w w' := (Fr.refl _ w).grown hg (fun k hk => hk)
  have rv : ∀ j, rV (rs1 ++ rs2) j = if j < cs1.length then rV rs1 j else rV rs2 (j - cs1.length) := by
    intro j
    unfold rV
    split
    · rename_i h; rw [List.getElem?_append_left (by omega)]
    · rename_i h; rw [List.getElem?_append_right (by omega), l1]
  have lt1 : ∀ j g, j < cs1.length → (rV rs1 j).ownBlock = some g → g < b2 := fun j g hj hgg => hlt g (.inr ⟨j, hj, hgg⟩)
  have ge2 : ∀ j g, j < cs2.length → (rV rs2 j).ownBlock = some g → b2 ≤ g := fun j g hj hgg => ((h2.2.2.1 j hj).lt g hgg).1
  refine ⟨by simp [l1, l2], ⟨_, by rw [List.length_append]; exact o', fun j hj => ?_⟩, fun j hj => ?_, fun i j g hij hj => ?_⟩
  · rw [rv, cW_app]
    split
    · rename_i h
      have := k1 j h
      rw [List.getElem?_append_left (by omega), List.getElem?_append_left (by omega)]
      exact this
    · rename_i h
      simp at hj
      have := k2 (j - cs1.length) (by omega)
      rw [List.getElem?_append_right (by omega), List.getElem?_append_right (by omega), ly, show j * 2 - cs1.length * 2 = (j - cs1.length) * 2 by omega, show j * 2 + 1 - cs1.length * 2 = (j - cs1.length) * 2 + 1 by omega]
      exact this
  · rw [rv, cR_app]
    split
    · rename_i h
      exact fr.owns (h1.2.2.1 j h) (fun g hgg e => owns_apart o1 (h1.2.2.1 j h) (by decide) e hgg)
    · rename_i h
      simp at hj
      refine owns_mono (fr.owns (h2.2.2.1 _ (by omega)) (fun g hgg e => ?_)) hb
      have a := ge2 _ g (by omega) hgg
      have c := hlt g (.inl e)
      omega
  · rw [rv, rv]
    simp at hj
    intro hi
    by_cases hi1 : i < cs1.length
    · rw [if_pos hi1] at hi
      by_cases hj1 : j < cs1.length
      · rw [if_pos hj1]
        exact h1.2.2.2 i j g hij hj1 hi
      · rw [if_neg hj1]
        intro e
        have a := lt1 i g hi1 hi
        have c := ge2 _ g (by omega) e
        omega
    · rw [if_neg hi1] at hi
      rw [if_neg (by omega)]
      exact h2.2.2.2 _ _ g (by omega) (by omega) hi
/-- Where clusters lie. -/
theorem OwnCls.lt {w : World} {b : Nat} {v : Value} {rs : List Value} {cs : List (List Int × Int)} (h : OwnCls w b v rs cs) {g : Nat} (hg : Foot v rs cs.length g) : b ≤ g ∧ g < w.heap.size := by
  rcases hg with hg | ⟨j, hj, hg⟩
  · obtain ⟨ys, o, _⟩ := h.2.1
    exact o.lt g hg
  · exact (h.2.2.1 j hj).lt g hg
end Go.Proofs.YtlnmpbdnmlpkiaaDoor
