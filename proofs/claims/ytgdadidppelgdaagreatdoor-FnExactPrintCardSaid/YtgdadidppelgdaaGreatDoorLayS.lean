import Derived.Test.YtgdadidppelgdaaGreatDoorLayI
namespace Go.Proofs.YtgdadidppelgdaaGreatDoor
open Go.RowKit

/-- A piece of clusters, cut as slices are. -/
theorem ClsAt.cut {w : World} {a : Option Addr} {n c : Nat} {cs : List (List Int × Int)} (h : ClsAt w (.slice a n c) cs) (s e Z : Nat) (hse : s ≤ e) (he : e ≤ cs.length) (hZ : e - s ≤ Z) (a' : Option Addr) (ha : a' = a.map (fun x => x.add (s * 2)) ∨ e - s = 0) : ClsAt w (.slice a' (e - s) Z) ((cs.take e).drop s) := by
  have hlen : ((cs.take e).drop s).length = e - s := by simp; omega
  by_cases h0 : e - s = 0
  · exact ⟨[], a', Z, by rw [hlen], by omega, fun j hj => by omega, fun hp => by omega⟩
  obtain ⟨rs, ao, ca, e1, hca, hr, hx⟩ := h
  simp only [Value.slice.injEq] at e1
  obtain ⟨rfl, rfl, rfl⟩ := e1
  obtain ⟨b, off, rfl, hc⟩ := hx (by omega)
  have ha' : a' = some ⟨b, off + s * 2, none⟩ := by
    rcases ha with rfl | ha
    · simp [Addr.add]
    · omega
  subst ha'
  refine ⟨(List.range (e - s)).map (fun j => rV rs (s + j)), _, Z, by rw [hlen], by omega, fun j hj => ?_, fun _ => ⟨b, off + s * 2, rfl, fun j hj => ?_⟩⟩
  · rw [hlen] at hj
    rw [(sub_R cs s e j (by omega)).1]
    have e2 : rV ((List.range (e - s)).map (fun j => rV rs (s + j))) j = rV rs (s + j) := by
      conv => lhs; unfold rV
      rw [List.getElem?_map, List.getElem?_range hj]
      rfl
    rw [e2]
    exact hr (s + j) (by omega)
  · rw [hlen] at hj
    have e2 : rV ((List.range (e - s)).map (fun j => rV rs (s + j))) j = rV rs (s + j) := by
      conv => lhs; unfold rV
      rw [List.getElem?_map, List.getElem?_range hj]
      rfl
    rw [e2, (sub_R cs s e j (by omega)).2, show off + s * 2 + j * 2 = off + (s + j) * 2 by omega]
    exact hc (s + j) (by omega)
theorem cut_wide {cs : List (List Int × Int)} (h : Wides cs) (s e j : Nat) : 0 ≤ cW ((cs.take e).drop s) j ∧ cW ((cs.take e).drop s) j ≤ 2 := by
  unfold cW
  cases hj : ((cs.take e).drop s)[j]? with
  | none => simp
  | some u =>
    obtain ⟨q, hq⟩ := List.mem_iff_getElem?.1 (List.mem_of_mem_take (List.mem_of_mem_drop (List.mem_of_getElem? hj)))
    have := h.all q
    unfold cW at this
    rw [hq] at this
    exact this
theorem lay_step {cs : List (List Int × Int)} {cols p i : Nat} (hi : i < (layS cs cols p).length) : 0 ≤ at0 (layS cs cols p) i ∧ at0 (layS cs cols p) i ≤ at0 (layS cs cols p ++ [(cs.length : Int)]) (i + 1) ∧ at0 (layS cs cols p ++ [(cs.length : Int)]) (i + 1) ≤ (cs.length : Int) := by
  have ok := stF_ok cs cols cs.length
  have hS : ∀ j, j < (stS cs cols).length → 0 ≤ at0 (stS cs cols) j ∧ at0 (stS cs cols) j ≤ (cs.length : Int) := ok.le
  have hM : ∀ j, j + 1 < (stS cs cols).length → at0 (stS cs cols) j ≤ at0 (stS cs cols) (j + 1) := ok.mono
  unfold layS at hi ⊢
  split
  · rename_i hL
    rw [if_pos hL] at hi
    simp at hi
    have hpn : p = cs.length := hL.1
    by_cases e1 : i + 1 < (stS cs cols).length
    · rw [at0_app, if_neg (by omega), at0_app, if_neg (by simp; omega), at0_app, if_neg (by omega)]
      have a := hS i (by omega)
      have b := hS (i + 1) e1
      exact ⟨a.1, hM i e1, b.2⟩
    · by_cases e2 : i + 1 = (stS cs cols).length
      · have e3 : at0 (stS cs cols ++ [(p : Int)] ++ [(cs.length : Int)]) (i + 1) = (p : Int) := by rw [at0_app, if_neg (by simp; omega), at0_app, if_pos e2]
        rw [e3, at0_app, if_neg (by omega)]
        have a := hS i (by omega)
        omega
      · have e4 : i = (stS cs cols).length := by omega
        have e3 : at0 (stS cs cols ++ [(p : Int)] ++ [(cs.length : Int)]) (i + 1) = (cs.length : Int) := by rw [at0_app, if_pos (by simp; omega)]
        rw [e3, at0_app, if_pos e4]
        omega
  · rename_i hL
    rw [if_neg hL] at hi
    have a := hS i hi
    rw [at0_app]
    split
    · omega
    · rename_i e
      have b := hS (i + 1) (by omega)
      have c := hM i (by omega)
      omega
set_option maxRecDepth 10000 in
set_option maxHeartbeats 1000000 in
theorem l6Width_any (v : Value) (cs : List (List Int × Int)) (w : World) (hv : ClsAt w v cs) (hl : cs.length ≤ 16777216) (hW : ∀ j, 0 ≤ cW cs j ∧ cW cs j ≤ 2) :
    Calls Tryz.prog 92 #[v] w fun e w' => e = .returned (.int .i64 (wsum cs)) ∧ Ext w w' := by
  obtain ⟨ra, ao, ca, rfl, hca, hra, hxa⟩ := hv
  have HF : Hid (wsum cs = pw cs cs.length) := rfl
  obtain ⟨n, hn⟩ : ∃ n, n = cs.length := ⟨_, rfl⟩
  rw [← hn] at hca hra hxa hl HF ⊢
  have HX := hide hxa
  have HB := hide (pw_bd cs hW)
  have HW := hide hW
  clear hn hxa hra hW
  go_enter Tryz.func92, Tryz.ntmps92
  go_wp2
  go_loopw [3, 4] (fun s i wr => ∃ k : Nat, k ≤ n ∧ i = .int .i64 k ∧ s = .int .i64 (pw cs k) ∧ Ext w wr) (fun _ i _ => n - (intOf i).toNat)
  case atStart => exact ⟨0, Nat.zero_le _, rfl, rfl, Ext.refl _⟩
  case round =>
    obtain ⟨k, hk, rfl, rfl, hext⟩ := hrel
    by_cases hlt : k < n
    · obtain ⟨b, off, hao, hc⟩ := (unhide HX) (by omega)
      subst hao
      have g2 := hext.cell (hc k hlt).2
      clear hc
      have bk : (k : Int) < (n : Int) := by omega
      have b1 := (unhide HB) k
      have b2 := (unhide HW) k
      have hst : Hid (pw cs (k + 1) = pw cs k + cW cs k) := rfl
      go_wp2
      go_roundw
      case rel => exact ⟨k + 1, by omega, by go_num, by rw [unhide hst], hext⟩
      case measure => simp [intOf]; omega
    · obtain rfl : k = n := by omega
      have hb9 : ¬ (k : Int) < (k : Int) := by omega
      go_wp2
      go_ret
      exact ⟨ret_int (unhide HF).symm, hext⟩
set_option maxRecDepth 10000 in
set_option maxHeartbeats 1000000 in
theorem l6Row_any (v : Value) (S : List Int) (p : Nat) (w : World) (hv : IntsAt w .i64 v S) (hl : S.length ≤ 16777216) :
    Calls Tryz.prog 91 #[v, .int .i64 p] w fun e w' => e = .returned (.int .i64 (rwF S p S.length)) ∧ w' = w := by
  obtain ⟨ao, ca, rfl, hca, hxa⟩ := hv
  obtain ⟨n, hn⟩ : ∃ n, n = S.length := ⟨_, rfl⟩
  rw [← hn] at hca hxa hl ⊢
  have HX := hide hxa
  clear hn hxa
  go_enter Tryz.func91, Tryz.ntmps91
  go_wp2
  go_loop [5, 6] (fun r i => ∃ k : Nat, k ≤ n ∧ i = .int .i64 k ∧ r = .int .i64 (rwF S p k : Nat)) (fun _ i => n - (intOf i).toNat)
  case atStart => exact ⟨0, Nat.zero_le _, rfl, rfl⟩
  case round =>
    obtain ⟨k, hk, rfl, rfl⟩ := hrel
    by_cases hlt : k < n
    · obtain ⟨b, off, hao, hc⟩ := (unhide HX) (by omega)
      subst hao
      have g1 := hc k hlt
      clear hc
      have bk : (k : Int) < (n : Int) := by omega
      by_cases hle : at0 S k ≤ (p : Int)
      · have hst : Hid (rwF S p (k + 1) = k) := hide (by rw [rwF, if_pos hle])
        go_wp2
        go_round
        case rel => exact ⟨k + 1, by omega, by go_num, by rw [unhide hst]⟩
        case measure => simp [intOf]; omega
      · have hst : Hid (rwF S p (k + 1) = rwF S p k) := hide (by rw [rwF, if_neg hle])
        go_wp2
        go_round
        case rel => exact ⟨k + 1, by omega, by go_num, by rw [unhide hst]⟩
        case measure => simp [intOf]; omega
    · obtain rfl : k = n := by omega
      have hb9 : ¬ (k : Int) < (k : Int) := by omega
      go_wp2
      go_ret
      exact ⟨rfl, rfl⟩
/-- The block while its rows are appended: m of them. -/
structure LayB (wr w0 : World) (z ge L : Nat) (S : List Int) (N : Nat) (rv : Value) (m : Nat) (T : Nat → ByteArray) (a b : Int) : Prop where
  box : wr.heap[z + 1]? = some (.cells #[rv, .int .i64 a, .int .i64 b] 61 (0, 0))
  own : wr.ownsRow z 9 1 rv m (strL T m)
  ne1 : rv.ownBlock ≠ some (z + 1)
  ne2 : rv.ownBlock ≠ some ge
  gel : ge < wr.heap.size
  gez : ge ≠ z + 1
  ends : ∀ j, j < L → wr.cell? ⟨ge, j, none⟩ = some (.int .i64 (at0 (S ++ [(N : Int)]) (j + 1)))
  ext : Ext w0 wr
theorem LayB.more {wr w0 w' w2 w3 : World} {z ge L : Nat} {S : List Int} {N : Nat} {rv : Value} {m : Nat} {T : Nat → ByteArray} {a b : Int} {g cap H : Nat} (h : LayB wr w0 z ge L S N rv m T a b) (hz : w0.heap.size = z) (E : Ext wr w') (E2 : Ext w' w2) (hg : w2.grownBy w3 rv.ownBlock)
    (ho : w3.ownsRow z 9 1 (.slice (some ⟨g, 0, none⟩) (m + 1) cap) (m + 1) (strL T m ++ [.string (T m)])) (hat : rv.ownBlock = some g ∨ g = H) (hH : wr.heap.size ≤ H) :
    LayB (w3.setCell ⟨z + 1, 0, none⟩ (.slice (some ⟨g, 0, none⟩) (m + 1) cap)) w0 z ge L S N (.slice (some ⟨g, 0, none⟩) (m + 1) cap) (m + 1) T a b ∧ w3.heap[z + 1]? = some (.cells #[rv, .int .i64 a, .int .i64 b] 61 (0, 0)) := by
  have hb1 : z + 1 < wr.heap.size := (Array.getElem?_eq_some_iff.1 h.box).1
  have s1 := E.size
  have s2 := E2.size
  have s3 := hg.size
  have hgl := h.gel
  have hgz := h.gez
  have hgne : g ≠ z + 1 := by
    rcases hat with e | e
    · intro e2; subst e2; exact h.ne1 e
    · omega
  have hgne2 : g ≠ ge := by
    rcases hat with e | e
    · intro e2; subst e2; exact h.ne2 e
    · omega
  have blk : ∀ k, k < wr.heap.size → rv.ownBlock ≠ some k → w3.heap[k]? = wr.heap[k]? := fun k hk hn => (hg.block k (by omega) (fun e => hn e.symm)).trans ((E2.heap (by omega)).trans (E.heap hk))
  have hbox : w3.heap[z + 1]? = some (.cells #[rv, .int .i64 a, .int .i64 b] 61 (0, 0)) := (blk _ hb1 h.ne1).trans h.box
  have fr : Fr (fun k => k = z + 1) w3 (w3.setCell ⟨z + 1, 0, none⟩ (.slice (some ⟨g, 0, none⟩) (m + 1) cap)) := Fr.setCell (S := fun k => k = z + 1) (Fr.refl _ _) (a := ⟨z + 1, 0, none⟩) rfl _
  refine ⟨⟨?_, ?_, by simp [Value.ownBlock]; exact hgne, by simp [Value.ownBlock]; exact hgne2, by simp; omega, hgz, fun j hj => ?_, ?_⟩, hbox⟩
  · rw [heap_setCell_same w3 (z + 1) 0 _ _ _ hbox]
    rfl
  · rw [strL_succ]
    exact fr.owns ho (fun k hk e => by simp [Value.ownBlock] at hk; omega)
  · have h1 := h.ends j hj
    have e1 : (w3.setCell ⟨z + 1, 0, none⟩ (.slice (some ⟨g, 0, none⟩) (m + 1) cap)).heap[ge]? = w3.heap[ge]? := fr.block ge (by omega) (by omega)
    rw [World.cell?_of_block (a := ⟨ge, j, none⟩) (e1.trans (blk ge h.gel h.ne2))]
    exact h1
  · refine Fr.ext (S := fun k => k = z + 1) fr ?_ (fun k hk => by omega)
    exact ((h.ext.trans E).trans E2).grown hg (fun k hk => by have := (h.own.lt k hk).1; omega)
end Go.Proofs.YtgdadidppelgdaaGreatDoor
