import Derived.Test.YtbieoijeilhadaaDoorEdO
namespace Go.Proofs.YtbieoijeilhadaaDoor
open Go.RowKit
theorem good_head {c : List Int × Int} (h : GoodC c) : ∃ x r, c.1 = x :: r ∧ 0 < wid x ∧ shownI x = x := by
  obtain ⟨h1, h2⟩ := good_fl h
  cases hc : c.1 with
  | nil =>
    unfold GoodC at h
    rw [hc] at h
    simp at h
  | cons x r =>
    refine ⟨x, r, rfl, ?_, (h2 x (by rw [hc]; simp)).shown⟩
    rw [hc] at h1
    unfold fl at h1
    rw [if_neg (by simp)] at h1
    split at h1
    · rename_i h3; simpa [at0] using h3
    · have := congrArg List.length h1
      simp at this
theorem clG_push (A : List (List Int × Int)) (x : Int) (h : 0 < wid x) (hs : shownI x = x) : clG A x = A ++ clG [] x := by
  unfold clG clStep
  rw [hs, if_pos h, if_pos h]
  rfl
theorem clG_len (x : Int) : 0 < (clG [] x).length := clStep_pos [] (shownI x)
theorem goods_fold : ∀ (X A : List (List Int × Int)), (∀ c ∈ X, GoodC c) → (flat X).foldl clG A = A ++ X
  | [], A, _ => by simp [flat]
  | c :: cs, A, h => by
    obtain ⟨x, r, hc, hx, hs⟩ := good_head (h c (by simp))
    have hg := h c (by simp)
    unfold GoodC at hg
    rw [flat, List.foldl_append]
    have h1 : c.1.foldl clG A = A ++ [c] := by
      rw [hc] at hg ⊢
      rw [List.foldl_cons] at hg ⊢
      rw [clG_push A x hx hs, fold_app A r _ (clG_len x), hg]
    rw [h1, goods_fold cs _ (fun d hd => h d (by simp [hd])), List.append_assoc]
    rfl
theorem goods_cut {X : List (List Int × Int)} (h : ∀ c ∈ X, GoodC c) : cutC (textC X) = X := by
  unfold cutC
  rw [(goods_text h).2, clus_fold, goods_fold X [] h]
  rfl
theorem cutC_good (bs : List Int) : ∀ c ∈ cutC bs, GoodC c := clus_good _
theorem goods_sub {X : List (List Int × Int)} (h : ∀ c ∈ X, GoodC c) (s e : Nat) : ∀ c ∈ (X.take e).drop s, GoodC c := fun c hc => h c (List.mem_of_mem_take (List.mem_of_mem_drop hc))
section
variable {cs : List (List Int × Int)} {cols p rows : Nat}
theorem layE_at (i : Nat) (hi : i < (layS cs cols p).length) : at0 (layS cs cols p ++ [(cs.length : Int)]) i = at0 (layS cs cols p) i := by
  unfold at0
  rw [List.getElem?_append_left hi]
theorem layE_end : at0 (layS cs cols p ++ [(cs.length : Int)]) (layS cs cols p).length = cs.length := by
  unfold at0
  rw [List.getElem?_append_right (Nat.le_refl _)]
  simp
theorem layE_le (hp : p ≤ cs.length) (i : Nat) (hi : i ≤ (layS cs cols p).length) : 0 ≤ at0 (layS cs cols p ++ [(cs.length : Int)]) i ∧ at0 (layS cs cols p ++ [(cs.length : Int)]) i ≤ cs.length := by
  by_cases e : i = (layS cs cols p).length
  · subst e; rw [layE_end]; omega
  · rw [layE_at i (by omega)]
    unfold layS at hi e ⊢
    by_cases hf : LayFull cs cols p
    · rw [if_pos hf] at hi e ⊢
      simp at hi e
      by_cases e2 : i = (stS cs cols).length
      · subst e2
        unfold at0
        rw [List.getElem?_append_right (Nat.le_refl _)]
        simp
        omega
      · have h1 : at0 (stS cs cols ++ [(p : Int)]) i = at0 (stS cs cols) i := by unfold at0; rw [List.getElem?_append_left (by omega)]
        rw [h1]
        exact stS_nonneg (by omega)
    · rw [if_neg hf] at hi e ⊢
      exact stS_nonneg (by omega)
theorem lay_wid (hw : Wides cs) (hc : 2 ≤ cols) (hp : p ≤ cs.length) (i : Nat) (hi : i < (layS cs cols p).length) :
    (at0 (layS cs cols p ++ [(cs.length : Int)]) i).toNat ≤ (at0 (layS cs cols p ++ [(cs.length : Int)]) (i + 1)).toNat ∧ wsum (layC cs cols p i) ≤ cols := by
  have ok := stS_row hw hc (cs := cs) (cols := cols)
  have h1 := ok.le
  have h2 := ok.eq
  have h2s : (stF cs cols cs.length).2 = pw cs cs.length - pw cs (at0 (stS cs cols) ((stS cs cols).length - 1)).toNat := h2
  have hone := (stF_ok cs cols cs.length).one
  have hlen : 0 < (stS cs cols).length := hone
  have b0 := layE_le (cs := cs) (cols := cols) (p := p) hp i (by omega)
  have b1 := layE_le (cs := cs) (cols := cols) (p := p) hp (i + 1) (by omega)
  have key : at0 (layS cs cols p ++ [(cs.length : Int)]) i ≤ at0 (layS cs cols p ++ [(cs.length : Int)]) (i + 1) ∧ pw cs (at0 (layS cs cols p ++ [(cs.length : Int)]) (i + 1)).toNat - pw cs (at0 (layS cs cols p ++ [(cs.length : Int)]) i).toNat ≤ cols := by
    have last : at0 (stS cs cols) ((stS cs cols).length - 1) ≤ cs.length ∧ pw cs cs.length - pw cs (at0 (stS cs cols) ((stS cs cols).length - 1)).toNat ≤ cols := ⟨(stS_nonneg (by omega)).2, by omega⟩
    have mid : ∀ k, k + 1 < (stS cs cols).length → at0 (stS cs cols) k ≤ at0 (stS cs cols) (k + 1) ∧ pw cs (at0 (stS cs cols) (k + 1)).toNat - pw cs (at0 (stS cs cols) k).toNat ≤ cols := fun k hk => ⟨Int.le_of_lt (ok.rows k hk).2.2, (ok.rows k hk).1⟩
    by_cases hf : LayFull cs cols p
    · have hL : layS cs cols p = stS cs cols ++ [(p : Int)] := by unfold layS; rw [if_pos hf]
      rw [hL] at hi ⊢
      have hpe := hf.1
      simp at hi
      have g : ∀ k, k < (stS cs cols).length → at0 (stS cs cols ++ [(p : Int)] ++ [(cs.length : Int)]) k = at0 (stS cs cols) k := fun k hk => by
        unfold at0; rw [List.append_assoc, List.getElem?_append_left hk]
      have g1 : at0 (stS cs cols ++ [(p : Int)] ++ [(cs.length : Int)]) (stS cs cols).length = cs.length := by
        unfold at0; rw [List.append_assoc, List.getElem?_append_right (Nat.le_refl _)]; simp [hpe]
      have g2 : at0 (stS cs cols ++ [(p : Int)] ++ [(cs.length : Int)]) ((stS cs cols).length + 1) = cs.length := by
        unfold at0; rw [List.append_assoc, List.getElem?_append_right (by omega)]; simp
      by_cases e1 : i = (stS cs cols).length
      · subst e1; rw [g1, g2]; constructor <;> omega
      · by_cases e2 : i + 1 = (stS cs cols).length
        · rw [e2, g1, g i (by omega), show i = (stS cs cols).length - 1 by omega]
          exact ⟨last.1, by simpa using last.2⟩
        · rw [g i (by omega), g (i + 1) (by omega)]
          exact mid i (by omega)
    · have hL : layS cs cols p = stS cs cols := by unfold layS; rw [if_neg hf]
      rw [hL] at hi ⊢
      have g : ∀ k, k < (stS cs cols).length → at0 (stS cs cols ++ [(cs.length : Int)]) k = at0 (stS cs cols) k := fun k hk => by
        unfold at0; rw [List.getElem?_append_left hk]
      have g1 : at0 (stS cs cols ++ [(cs.length : Int)]) (stS cs cols).length = cs.length := by
        unfold at0; rw [List.getElem?_append_right (Nat.le_refl _)]; simp
      by_cases e2 : i + 1 = (stS cs cols).length
      · rw [e2, g1, g i (by omega), show i = (stS cs cols).length - 1 by omega]
        exact ⟨last.1, by simpa using last.2⟩
      · rw [g i (by omega), g (i + 1) (by omega)]
        exact mid i (by omega)
  refine ⟨by omega, ?_⟩
  unfold layC
  rw [wsum_sub cs _ _ (by omega) (by omega)]
  exact key.2
theorem layCol_bd (hw : Wides cs) (hc : 2 ≤ cols) (hp : p ≤ cs.length) : 0 ≤ layCol cs cols p ∧ layCol cs cols p < cols := by
  have h := layCol0_bd hw hc hp
  unfold layCol
  split
  · omega
  · rename_i hf
    rw [full_iff hw hc hp] at hf
    omega
theorem layCnt_pos (hr : 1 ≤ rows) : 0 < layCnt cs cols p rows ∧ layCnt cs cols p rows ≤ rows ∧ layFr cs cols p rows ≤ layRow cs cols p ∧ layRow cs cols p - layFr cs cols p rows < layCnt cs cols p rows ∧ layFr cs cols p rows + layCnt cs cols p rows ≤ (layS cs cols p).length := by
  have h := layRow_lt (cs := cs) (cols := cols) (p := p)
  unfold layCnt layFr
  omega
theorem layCnt_all (hr : 1 ≤ rows) (h : layCnt cs cols p rows < rows) : layFr cs cols p rows = 0 ∧ layCnt cs cols p rows = (layS cs cols p).length := by
  have h1 := layRow_lt (cs := cs) (cols := cols) (p := p)
  unfold layCnt layFr at *
  omega
def layX (cs : List (List Int × Int)) (cols p rows i : Nat) : List Int := textC ((cs.take (at0 (layS cs cols p ++ [(cs.length : Int)]) (layFr cs cols p rows + i)).toNat).drop (at0 (layS cs cols p ++ [(cs.length : Int)]) (layFr cs cols p rows)).toNat)
theorem layX_zero : layX cs cols p rows 0 = [] := by
  unfold layX
  rw [Nat.add_zero, List.drop_eq_nil_of_le (by rw [List.length_take]; omega)]
  rfl
theorem lay_up (hw : Wides cs) (hc : 2 ≤ cols) (hp : p ≤ cs.length) (s : Nat) : ∀ k, s + k ≤ (layS cs cols p).length → (at0 (layS cs cols p ++ [(cs.length : Int)]) s).toNat ≤ (at0 (layS cs cols p ++ [(cs.length : Int)]) (s + k)).toNat
  | 0, _ => Nat.le_refl _
  | k + 1, h => Nat.le_trans (lay_up hw hc hp s k (by omega)) (lay_wid hw hc hp (s + k) (by omega)).1
theorem layX_step (hw : Wides cs) (hc : 2 ≤ cols) (hp : p ≤ cs.length) (i : Nat) (hi : layFr cs cols p rows + i < (layS cs cols p).length) :
    layX cs cols p rows (i + 1) = layX cs cols p rows i ++ textC (layC cs cols p (layFr cs cols p rows + i)) := by
  have h1 := lay_up hw hc hp (layFr cs cols p rows) i (by omega)
  have h2 := (lay_wid hw hc hp (layFr cs cols p rows + i) hi).1
  unfold layX layC
  rw [← Nat.add_assoc, ← textC_app]
  congr 1
  generalize (at0 (layS cs cols p ++ [(cs.length : Int)]) (layFr cs cols p rows + i + 1)).toNat = d at h2 ⊢
  generalize (at0 (layS cs cols p ++ [(cs.length : Int)]) (layFr cs cols p rows + i)).toNat = b at h1 h2 ⊢
  generalize (at0 (layS cs cols p ++ [(cs.length : Int)]) (layFr cs cols p rows)).toNat = a at h1 ⊢
  have e : cs.take b = (cs.take d).take b := by rw [List.take_take, Nat.min_eq_left h2]
  rw [e]
  generalize cs.take d = L
  have h3 : L.drop b = (L.drop a).drop (b - a) := by rw [List.drop_drop, show a + (b - a) = b by omega]
  rw [h3, List.drop_take, List.take_append_drop]
theorem layX_le (i : Nat) : (layX cs cols p rows i).length ≤ (textC cs).length := by
  unfold layX
  obtain ⟨e, he⟩ : ∃ e, e = (at0 (layS cs cols p ++ [(cs.length : Int)]) (layFr cs cols p rows + i)).toNat := ⟨_, rfl⟩
  obtain ⟨s, hs⟩ : ∃ s, s = (at0 (layS cs cols p ++ [(cs.length : Int)]) (layFr cs cols p rows)).toNat := ⟨_, rfl⟩
  rw [← he, ← hs]
  have h1 := textC_app (cs.take e) (cs.drop e)
  have h2 := textC_app ((cs.take e).take s) ((cs.take e).drop s)
  rw [List.take_append_drop] at h1 h2
  rw [h1, h2]
  simp
  omega
theorem layX_all (hr : 1 ≤ rows) (h : layCnt cs cols p rows < rows) : layX cs cols p rows (layCnt cs cols p rows) = textC cs := by
  obtain ⟨h1, h2⟩ := layCnt_all hr h
  unfold layX
  rw [h1, h2, Nat.zero_add, layE_end]
  have h0 : at0 (layS cs cols p ++ [(cs.length : Int)]) 0 = 0 := by
    rw [layE_at 0 (by have := layRow_lt (cs := cs) (cols := cols) (p := p); omega)]
    have hone : 0 < (stS cs cols).length := (stF_ok cs cols cs.length).one
    unfold layS
    split
    · have : at0 (stS cs cols ++ [(p : Int)]) 0 = at0 (stS cs cols) 0 := by unfold at0; rw [List.getElem?_append_left hone]
      rw [this]; exact stS_zero
    · exact stS_zero
  rw [h0]
  simp
end
end Go.Proofs.YtbieoijeilhadaaDoor
