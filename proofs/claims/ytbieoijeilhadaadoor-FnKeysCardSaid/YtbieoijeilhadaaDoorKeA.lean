import Derived.Test.YtbieoijeilhadaaDoorDrQ
import Derived.Test.YtbieoijeilhadaaDoorRkZ
import Derived.Test.YtbieoijeilhadaaDoorSmK
import Derived.Test.YtbieoijeilhadaaDoorTickI
import Derived.Test.YtbieoijeilhadaaDoorKdKr
import Derived.Maps.AppendAt
import Derived.Test.YtbieoijeilhadaaDoorTickN
namespace Go.Proofs.YtbieoijeilhadaaDoor
open Go.RowKit
theorem rkStep_few2 {s : List Int} {p : Bool} {ks : List (List Int × Int)} {m : Nat} {q : Bool} (h : rkStep s p = some (ks, m, q)) : ks.length ≤ 1 := by
  unfold rkStep at h
  split at h
  · simp at h
  · split at h
    · cases he : endF s with
      | none => rw [he] at h; simp at h
      | some k =>
        rw [he] at h
        simp at h
        rw [← h.1]
        simp
    · split at h
      · simp at h
      · simp at h
        rw [← h.1]
        unfold keyT
        (repeat' split) <;> simp
theorem sumK_app2 (a b : List (List Int × Int)) : sumK (a ++ b) = sumK a + sumK b := by unfold sumK; rw [List.map_append, List.sum_append]
theorem rk_sum2 : ∀ (f : Nat) (s : List Int) (p : Bool), s.length ≤ f → sumK (rk s p).1 ≤ (rk s p).2.1 := by
  intro f
  induction f with
  | zero =>
    intro s p hf
    have e : s = [] := List.eq_nil_of_length_eq_zero (by omega)
    subst e
    rw [rk_nil]
    simp [sumK]
  | succ f ih =>
    intro s p hf
    cases hst : rkStep s p with
    | none => rw [rk_none hst]; simp [sumK]
    | some x =>
      obtain ⟨ks, m, q⟩ := x
      have hm := rkStep_n hst
      have ho := (rkStep_ok hst).2
      have hf1 := rkStep_few2 hst
      rw [rk_some hst]
      have hd : (s.drop m).length = s.length - m := by simp
      have := ih (s.drop m) q (by omega)
      show sumK (ks ++ _) ≤ m + _
      rw [sumK_app2]
      have hk : sumK ks ≤ m := by
        match ks, hf1, ho with
        | [], _, _ => simp [sumK]
        | [k], _, ho => have := (ho k (by simp)).2; simpa [sumK] using this
      omega
theorem rk_sz2 (s : List Int) (p : Bool) : (rk s p).1.length ≤ s.length ∧ sumK (rk s p).1 ≤ s.length ∧ (rkH s p).length ≤ s.length := by
  have h1 := rk_len s.length s p (Nat.le_refl _)
  have h2 := rk_sum2 s.length s p (Nat.le_refl _)
  have h3 := rkH_len s p
  omega
def PcI (hs F : List Int) (p : Bool) (h : List Int) (q : Bool) (K : List (List Int × Int)) : Prop :=
  ∃ N, ∀ t, rk (hs ++ F ++ t) p = (K ++ (rk (h ++ t) q).1, N + (rk (h ++ t) q).2.1, (rk (h ++ t) q).2.2) ∧ (hs ++ F ++ t).drop N = h ++ t
theorem PcI.zero (hs : List Int) (p : Bool) : PcI hs [] p hs p [] := ⟨0, fun t => by simp⟩
theorem PcI.step {hs F h : List Int} {p q : Bool} {K : List (List Int × Int)} (H : PcI hs F p h q K) (z : List Int) : PcI hs (F ++ z) p (rkH (h ++ z) q) (rk (h ++ z) q).2.2 (K ++ (rk (h ++ z) q).1) := by
  obtain ⟨N, hN⟩ := H
  refine ⟨N + (rk (h ++ z) q).2.1, fun t => ?_⟩
  have e1 := hN (z ++ t)
  have e2 := rk_append t (h ++ z).length (h ++ z) q (Nat.le_refl _)
  have hn := (rk_len (h ++ z).length (h ++ z) q (Nat.le_refl _)).2
  have eA : hs ++ (F ++ z) ++ t = hs ++ F ++ (z ++ t) := by simp
  rw [eA]
  refine ⟨?_, ?_⟩
  · rw [e1.1, ← List.append_assoc h z t, e2]
    simp only [rkH, List.append_assoc, Nat.add_assoc]
  · rw [← List.drop_drop, e1.2, ← List.append_assoc, List.drop_append_of_le_length hn]
    rfl
theorem PcI.whole {hs F h : List Int} {p q : Bool} {K : List (List Int × Int)} (H : PcI hs F p h q K) (hr : rkStep h q = none) : K = (rk (hs ++ F) p).1 ∧ h = rkH (hs ++ F) p ∧ q = (rk (hs ++ F) p).2.2 := by
  obtain ⟨N, hN⟩ := H
  obtain ⟨e1, e2⟩ := hN []
  rw [List.append_nil, List.append_nil, rk_none hr] at e1
  rw [List.append_nil, List.append_nil] at e2
  refine ⟨by rw [e1]; simp, ?_, by rw [e1]⟩
  unfold rkH
  rw [e1]
  simpa using e2.symm
def GotK (w : World) (gB base : Nat) (v : Value) (cs : List (List Int × Int)) : Prop :=
  ∃ (rs : List Value) (ys : List Value), rs.length = cs.length ∧ w.ownsRow gB 67 2 v cs.length ys ∧ (∀ j, j < cs.length → ys[j * 2 + 1]? = some (rV rs j) ∧ ys[j * 2]? = some (.int .i64 (cW cs j))) ∧ (∀ j, j < cs.length → w.ownsRow base 21 1 (rV rs j) (cR cs j).length ((cR cs j).map (Value.int .i32))) ∧ ∀ q, v.ownBlock = some q → q = gB ∨ base ≤ q
theorem GotK.reads {w : World} {gB base : Nat} {v : Value} {cs : List (List Int × Int)} (h : GotK w gB base v cs) : KysAt w v cs := by
  obtain ⟨rs, ys, h0, h1, h2, h3, _⟩ := h
  rcases h1.2 with ⟨rfl, e0⟩ | ⟨g, cap, cur, rfl, hb, hg, hn, hm, hs, ht⟩
  · exact ⟨rs, none, 0, by rw [e0], by omega, fun j hj => ints_of_owns (h3 j hj), fun hp => by omega⟩
  · refine ⟨rs, _, cap, rfl, hn, fun j hj => ints_of_owns (h3 j hj), fun _ => ⟨g, 0, rfl, fun j hj => ?_⟩⟩
    have hl := h1.1
    refine ⟨?_, ?_⟩
    · have := h1.cellAt (j * 2 + 1) (by omega)
      rw [Nat.zero_add, this]
      exact (h2 j hj).1
    · have := h1.cellAt (j * 2) (by omega)
      rw [Nat.zero_add, this]
      exact (h2 j hj).2
theorem GotK.fr {S : Nat → Prop} {w w' : World} {gB base : Nat} {v : Value} {cs : List (List Int × Int)} (h : GotK w gB base v cs) (hf : Fr S w w') (hS : ∀ g, (g = gB ∨ base ≤ g) → g < w.heap.size → ¬ S g) : GotK w' gB base v cs := by
  obtain ⟨rs, ys, h0, h1, h2, h3, h4⟩ := h
  exact ⟨rs, ys, h0, hf.owns h1 (fun g hg => hS g (h4 g hg) (h1.lt g hg).2), h2, fun j hj => hf.owns (h3 j hj) (fun g hg => hS g (.inr ((h3 j hj).lt g hg).1) ((h3 j hj).lt g hg).2), h4⟩
theorem cW_app (a b : List (List Int × Int)) (j : Nat) : cW (a ++ b) j = if j < a.length then cW a j else cW b (j - a.length) := by
  unfold cW
  split
  · rw [List.getElem?_append_left (by omega)]
  · rw [List.getElem?_append_right (by omega)]
theorem cR_app (a b : List (List Int × Int)) (j : Nat) : cR (a ++ b) j = if j < a.length then cR a j else cR b (j - a.length) := by
  unfold cR
  split
  · rw [List.getElem?_append_left (by omega)]
  · rw [List.getElem?_append_right (by omega)]
theorem rV_app (a b : List Value) (j : Nat) : rV (a ++ b) j = if j < a.length then rV a j else rV b (j - a.length) := by
  unfold rV
  split
  · rw [List.getElem?_append_left (by omega)]
  · rw [List.getElem?_append_right (by omega)]
theorem tickK_len (bs : List Int) (p : Bool) : (tickK bs p).length ≤ bs.length + 1 ∧ ∀ j, (cR (tickK bs p) j).length ≤ 1 := by
  unfold tickK
  split
  · exact ⟨by simp, fun j => by simp [cR]⟩
  · split
    · split
      · exact ⟨by simp, fun j => by cases j <;> simp [cR]⟩
      · exact ⟨by simp, fun j => by cases j <;> simp [cR]⟩
    · refine ⟨by simp, fun j => ?_⟩
      unfold cR
      rw [List.getElem?_replicate]
      split <;> simp
section
variable {P : Program} {w : World}
theorem wpList_app_at {ops : Array Oper} {rest : List Oper} {o : Oper} {a : Act} {Q : Exit → Act → World → Prop} (hgd : o.guard = none) (s x : Operand) (t : TypeId)
    (ho : o.op = .call { callee := .builtin .append, args := #[s, x], argTypes := #[t, t] })
    (base : Nat) (e : TypeId) (i : TypeInfo) (z : Value) (size bytes : Nat) (ht : P.underlying t = some (.slice e)) (hi : P.info? e = some i) (hz : i.zero = some z)
    (hsize : i.size = size) (hby : i.bytes = bytes) (hzs : z.cells.size = size) (hsz : 0 < size)
    (v : Value) (n : Nat) (xs : List Value) (hs : a.eval s = v) (hown : w.ownsRow base e size v n xs)
    (y : Value) (m : Nat) (news : List Value) (hx : a.eval x = y) (hsrc : Src w size y m news)
    (h63 : n + m ≤ maxLen) (hbytes : (n + m) * bytes ≤ 140737488355328) (hbase : base ≤ w.heap.size)
    (h : ∀ v' w', w'.ownsRow base e size v' (n + m) (xs ++ news) → w.grownBy w' v.ownBlock → (v'.ownBlock = v.ownBlock ∨ v'.ownBlock = some w.heap.size) → wpList P ops Q rest (a.put o.dst v') w') : wpList P ops Q (o :: rest) a w := by
  obtain ⟨h1, h2, h3⟩ := hsrc
  rcases h3 with ⟨c, rfl, rfl⟩ | ⟨ad, c, rfl, h3⟩
  · have hn : news = [] := List.eq_nil_of_length_eq_zero (by omega)
    subst hn
    have hr := run_app_none (P := P) (w := w) base t o.type e i size ht hi v n c xs hown
    refine wpList_plain hgd fun K hK => ?_
    unfold Oper.wp execOp
    simp only [ho, resolve, invoke, builtin, Sem.run_bind, Sem.run_pure, Result.andThen_ok, List.map_toArray, List.map_cons, List.map_nil, hs, hx, hr]
    exact hK _ _ (h v w (by simpa using hown) (World.grownBy.refl w _) (.inl rfl))
  · exact wpList_append_own_at w hgd s x t ho base e i z size bytes ht hi hz hsize hby hzs hsz v n xs hs hown ad m c news hx h1 h3 h2 h63 hbytes hbase (fun v' w' a1 a2 _ a4 => h v' w' a1 a2 a4)
end
theorem own_src {w : World} {base : Nat} {e : TypeId} {size : Nat} {v : Value} {n : Nat} {xs : List Value} (h : w.ownsRow base e size v n xs) (h1 : ∀ u ∈ xs, u.oneCell' = true) : Src w size v n xs := by
  have hl := h.1
  refine ⟨hl, h1, ?_⟩
  rcases h.2 with ⟨rfl, rfl⟩ | ⟨g, cap, cur, rfl, _⟩
  · exact .inl ⟨0, rfl, rfl⟩
  · refine .inr ⟨_, _, rfl, fun j u hj => ?_⟩
    have hjl : j < xs.length := (List.getElem?_eq_some_iff.1 hj).1
    rw [Addr.add_lit, Nat.zero_add, h.cellAt j (by omega)]
    exact hj
theorem kys_cell1 {w : World} {base : Nat} {v : Value} {rs : List Value} {cs : List (List Int × Int)} {ys : List Value} (h : OwnKys w base v rs cs) (hy : w.ownsRow base 67 2 v cs.length ys) (hyy : ∀ j, j < cs.length → ys[j * 2 + 1]? = some (rV rs j) ∧ ys[j * 2]? = some (.int .i64 (cW cs j))) : ∀ u ∈ ys, u.oneCell' = true := by
  intro u hu
  obtain ⟨k, hk⟩ := List.mem_iff_getElem?.1 hu
  have hkl : k < ys.length := (List.getElem?_eq_some_iff.1 hk).1
  have hl := hy.1
  rcases (show k = k / 2 * 2 ∨ k = k / 2 * 2 + 1 by omega) with e | e
  · have := (hyy (k / 2) (by omega)).2
    rw [← e, hk] at this
    rw [Option.some.inj this]
    rfl
  · have := (hyy (k / 2) (by omega)).1
    rw [← e, hk] at this
    rw [Option.some.inj this]
    rcases (h.2.2.1 (k / 2) (by omega)).2 with ⟨e2, _⟩ | ⟨g, c, _, e2, _⟩
    · rw [e2]; rfl
    · rw [e2]; rfl
theorem GotK.app {w w1 w' : World} {gB base : Nat} {v v' : Value} {cs ds : List (List Int × Int)} {rs2 : List Value} {ys ys2 rs : List Value} (h0 : rs.length = cs.length) (h1 : w.ownsRow gB 67 2 v cs.length ys) (h2 : ∀ j, j < cs.length → ys[j * 2 + 1]? = some (rV rs j) ∧ ys[j * 2]? = some (.int .i64 (cW cs j)))
    (h3 : ∀ j, j < cs.length → w.ownsRow base 21 1 (rV rs j) (cR cs j).length ((cR cs j).map (Value.int .i32))) (k0 : rs2.length = ds.length) (k2 : ∀ j, j < ds.length → ys2[j * 2 + 1]? = some (rV rs2 j) ∧ ys2[j * 2]? = some (.int .i64 (cW ds j))) (k3 : ∀ j, j < ds.length → w.ownsRow w1.heap.size 21 1 (rV rs2 j) (cR ds j).length ((cR ds j).map (Value.int .i32)))
    (hb : base ≤ w1.heap.size) (ho : w'.ownsRow gB 67 2 v' (cs.length + ds.length) (ys ++ ys2)) (hg : Fr (fun q => v.ownBlock = some q) w w') (h4 : ∀ q, v'.ownBlock = some q → q = gB ∨ base ≤ q) : GotK w' gB base v' (cs ++ ds) := by
  have hyl := h1.1
  refine ⟨rs ++ rs2, ys ++ ys2, by simp [h0, k0], by rw [List.length_append]; exact ho, fun j hj => ?_, fun j hj => ?_, h4⟩
  · rw [List.length_append] at hj
    rw [cW_app, rV_app, h0]
    by_cases e : j < cs.length
    · rw [if_pos e, if_pos e, List.getElem?_append_left (by omega), List.getElem?_append_left (by omega)]
      exact h2 j e
    · rw [if_neg e, if_neg e, List.getElem?_append_right (by omega), List.getElem?_append_right (by omega), show j * 2 + 1 - ys.length = (j - cs.length) * 2 + 1 by omega, show j * 2 - ys.length = (j - cs.length) * 2 by omega]
      exact k2 _ (by omega)
  · rw [List.length_append] at hj
    rw [cR_app, rV_app, h0]
    by_cases e : j < cs.length
    · rw [if_pos e, if_pos e]
      exact hg.owns (h3 j e) (fun g hg e2 => owns_apart (h3 j e) h1 (by decide) hg e2)
    · rw [if_neg e, if_neg e]
      exact owns_mono (hg.owns (k3 _ (by omega)) (fun g hg e2 => owns_apart (k3 _ (by omega)) h1 (by decide) hg e2)) hb
end Go.Proofs.YtbieoijeilhadaaDoor

namespace Go.Proofs.YtbieoijeilhadaaDoor
open Go.RowKit
set_option linter.unusedSimpArgs false in
set_option maxRecDepth 20000 in
set_option maxHeartbeats 8000000 in
theorem fnKeys_walk (cv mv : Value) (xs ms : List Int) (w : World) (hc : IntsAt w .u8 cv xs) (hm : IntsAt w .u8 mv ms) (hX : Bytes xs) (hM : Bytes ms) (hT : Tabs2 w) :
    Calls Tryd.prog 3 #[cv, mv] w fun e w' => e = .returned (.bool true) ∧ Below w.heap.size w w' := by
  obtain ⟨ca, cc, rfl, _, _⟩ := id hc
  obtain ⟨ma, mc, rfl, _, _⟩ := id hm
  by_cases hl1 : xs.length ≤ 1048576
  · have b1 : ¬ (1048576 : Int) < (xs.length : Int) := by omega
    by_cases hl2 : ms.length ≤ 1048576
    · have b2 : ¬ (1048576 : Int) < (ms.length : Int) := by omega
      obtain ⟨ic, hic, hc0, hc1, hc2⟩ := info_parts infoKey
      have hDr := hide (drawReadKeys_any _ xs w hc hX (by omega))
      have HMs := hide hm
      have HT := hide hT
      clear hc hm hT hX
      go_enter Tryd.func3, Tryd.ntmps3
      go_wp2_with fail
      refine (unhide hDr).mono ?_
      rintro e w1 ⟨⟨hv, hs, p, bv, zs, rfl, oh, hhb, hhl, oz, hzb, hzl⟩, E1⟩
      clear hDr
      obtain ⟨ha, hc, rfl, _, _⟩ := ints_of_owns oh
      obtain ⟨za, zc, rfl, _, _⟩ := ints_of_owns oz
      have F1 := (Ext.refl w1).alloc (.cells #[.slice ha hs.length hc, .bool p] 24)
      have n1 := new_block w1 (.cells #[.slice ha hs.length hc, .bool p] 24)
      have hz1 : (w1.alloc (.cells #[.slice ha hs.length hc, .bool p] 24)).heap.size = w1.heap.size + 1 := by simp
      obtain ⟨V1, hV1⟩ : ∃ V, V = w1.alloc (.cells #[.slice ha hs.length hc, .bool p] 24) := ⟨_, rfl⟩
      rw [← hV1] at F1 n1 hz1
      have HS := hide (specReadKeys_any ha hc hs zs p (.slice za zs.length zc) V1 ((ints_of_owns oh).ext F1) ((ints_of_owns oz).ext F1) hhb hzb (by omega))
      obtain ⟨R, hR⟩ : ∃ R, R = rk (hs ++ zs) p := ⟨_, rfl⟩
      obtain ⟨Q, hQ⟩ : ∃ Q, Q = rkH (hs ++ zs) p := ⟨_, rfl⟩
      have hQ2 : (hs ++ zs).drop R.2.1 = Q := by rw [hQ, hR]; rfl
      have hsz := rk_sz2 (hs ++ zs) p
      rw [← hR, ← hQ, List.length_append] at hsz
      have HR := hide hR
      have HQ := hide hQ
      have HQ2 := hide hQ2
      rw [← hR] at HS
      have HN1 := hide n1
      have HOh := hide (F1.owns oh)
      have HOz := hide (F1.owns oz)
      have HE1 := hide (E1.trans F1)
      have z1 := E1.size
      have c0 := cells_of n1 0 _ rfl
      have c1 := cells_of n1 1 _ rfl
      have HV1 := hide hV1
      clear oh oz E1 F1 n1 hR hQ hQ2 hV1
      go_wp2_with fail
      rw [← unhide HV1]
      refine (unhide HS).mono ?_
      rintro e w2 ⟨⟨ev, kv, rs, rfl, oe, ok⟩, F2⟩
      rw [unhide HQ2] at oe
      obtain ⟨ea, ec, rfl, _, _⟩ := ints_of_owns oe
      obtain ⟨ka, kc, rfl⟩ := ok.slice
      have F3 := (Ext.refl w2).alloc (.cells #[.slice ea Q.length ec, .bool R.2.2] 24)
      have n2 := new_block w2 (.cells #[.slice ea Q.length ec, .bool R.2.2] 24)
      have hz2 : (w2.alloc (.cells #[.slice ea Q.length ec, .bool R.2.2] 24)).heap.size = w2.heap.size + 1 := by simp
      obtain ⟨V2, hV2⟩ : ∃ V, V = w2.alloc (.cells #[.slice ea Q.length ec, .bool R.2.2] 24) := ⟨_, rfl⟩
      rw [← hV2] at F3 n2 hz2
      have F12 := F2.trans F3
      have HI := hide (implReadKeys_any ha hc hs zs p (.slice za zs.length zc) V2 ((ints_of_owns (unhide HOh)).ext F12) ((ints_of_owns (unhide HOz)).ext F12) hhb hzb (by omega) (((unhide HT).ext (unhide HE1)).ext F12))
      rw [← unhide HR] at HI
      have HN2 := hide n2
      have HNd := hide (F12.kept (unhide HN1))
      have HOe := hide (F3.owns oe)
      have HOk := hide (ok.ext F3)
      have HE2 := hide ((unhide HE1).trans F12)
      have HOh2 := hide (F12.owns (unhide HOh))
      have HOz2 := hide (F12.owns (unhide HOz))
      have z2 := F2.size
      have d0 := fun o => (F2.trans ((Ext.refl w2).alloc o)).cell c0
      have d1 := fun o => (F2.trans ((Ext.refl w2).alloc o)).cell c1
      have HV2 := hide hV2
      clear oe ok F2 F3 n2 F12 HS hV2 c0 c1 HV1 HN1 HE1 HOh HOz
      go_wp2_with fail
      rw [← unhide HV2]
      refine (unhide HI).mono ?_
      rintro e w3 ⟨⟨wv, jv, js, rfl, ow, oj⟩, F4⟩
      rw [unhide HQ2] at ow
      obtain ⟨wa, wc, rfl, _, _⟩ := ints_of_owns ow
      obtain ⟨ja, jc, rfl⟩ := oj.slice
      have g1 := (Ext.refl w3).alloc (.cells #[.slice wa Q.length wc, .bool R.2.2] 24)
      have g2 := g1.alloc (.cells #[.slice ha hs.length hc, .bool p] 24)
      have g3 := g2.alloc (.cells #[] 67)
      obtain ⟨U1, hU1⟩ : ∃ V, V = w3.alloc (.cells #[.slice wa Q.length wc, .bool R.2.2] 24) := ⟨_, rfl⟩
      obtain ⟨U2, hU2⟩ : ∃ V, V = U1.alloc (.cells #[.slice ha hs.length hc, .bool p] 24) := ⟨_, rfl⟩
      obtain ⟨U3, hU3⟩ : ∃ V, V = U2.alloc (.cells #[] 67) := ⟨_, rfl⟩
      have y1 : U1.heap.size = w3.heap.size + 1 := by rw [hU1]; simp
      have y2 : U2.heap.size = w3.heap.size + 2 := by rw [hU2]; simp [y1]
      have y3 : U3.heap.size = w3.heap.size + 3 := by rw [hU3]; simp [y2]
      have m1 : U1.heap[w3.heap.size]? = some (.cells #[.slice wa Q.length wc, .bool R.2.2] 24 (0, 0)) := by rw [hU1]; exact new_block w3 _
      have m2 : U2.heap[w3.heap.size + 1]? = some (.cells #[.slice ha hs.length hc, .bool p] 24 (0, 0)) := by rw [hU2, ← y1]; exact new_block U1 _
      have m3 : U3.ownsRow (w3.heap.size + 2) 67 2 (.slice (some ⟨w3.heap.size + 2, 0, none⟩) 0 0) 0 [] := by rw [hU3, ← y2]; exact owns_empty U2 67 2
      have X1 : Ext w3 U1 := by rw [hU1]; exact (Ext.refl _).alloc _
      have X2 : Ext U1 U2 := by rw [hU2]; exact (Ext.refl _).alloc _
      have X3 : Ext U2 U3 := by rw [hU3]; exact (Ext.refl _).alloc _
      have X := (X1.trans X2).trans X3
      have HU : Hid (((w3.alloc (.cells #[.slice wa Q.length wc, .bool R.2.2] 24)).alloc (.cells #[.slice ha hs.length hc, .bool p] 24)).alloc (.cells #[] 67) = U3) := hide (by rw [hU3, hU2, hU1])
      have HPc := hide (pieces_any (.slice za zs.length zc) (.slice ma ms.length mc) zs ms U3 ((ints_of_owns (unhide HOz2)).ext (F4.trans X)) ((unhide HMs).ext ((unhide HE2).trans (F4.trans X))) hM (by omega) (by omega))
      have HNw := hide ((X2.trans X3).kept m1)
      have HNa := hide (X3.kept m2)
      have HM3 := hide m3
      have HNd3 := hide ((F4.trans X).kept (unhide HNd))
      have HNe3 := hide ((F4.trans X).kept (unhide HN2))
      have HOe3 := hide ((F4.trans X).owns (unhide HOe))
      have HOk3 := hide ((unhide HOk).ext (F4.trans X))
      have HOh3 := hide ((F4.trans X).owns (unhide HOh2))
      have HOz3 := hide ((F4.trans X).owns (unhide HOz2))
      have HOw3 := hide (X.owns ow)
      have HOj3 := hide (oj.ext X)
      have HE3 := hide ((unhide HE2).trans (F4.trans X))
      have z3 := F4.size
      have HLw : Hid (∀ g, Value.ownBlock (.slice wa Q.length wc) = some g → g < w3.heap.size) := hide (fun g hg => (ow.lt g hg).2)
      have HLj : Hid (∀ g, Foot (.slice ja R.1.length jc) js R.1.length g → g < w3.heap.size) := hide (fun g hg => (oj.foot hg).2)
      have HLe : Hid (∀ g, Value.ownBlock (.slice ea Q.length ec) = some g → g < w3.heap.size) := hide (fun g hg => by have := ((unhide HOe).lt g hg).2; omega)
      have HLk : Hid (∀ g, Foot (.slice ka R.1.length kc) rs R.1.length g → g < w3.heap.size) := hide (fun g hg => by have := ((unhide HOk).foot hg).2; omega)
      have HLh : Hid (∀ g, Value.ownBlock (.slice ha hs.length hc) = some g → g < w3.heap.size) := hide (fun g hg => by have := ((unhide HOh2).lt g hg).2; omega)
      have HLz : Hid (∀ g, Value.ownBlock (.slice za zs.length zc) = some g → g < w3.heap.size) := hide (fun g hg => by have := ((unhide HOz2).lt g hg).2; omega)
      have f0 := fun o => (F4.trans ((Ext.refl w3).alloc o)).cell (cells_of (unhide HNd) 0 _ rfl)
      have f1 := fun o => (F4.trans ((Ext.refl w3).alloc o)).cell (cells_of (unhide HNd) 1 _ rfl)
      clear ow oj F4 g1 g2 g3 hU1 hU2 hU3 m1 m2 m3 X1 X2 X3 X HI d0 d1 HV2 HN2 HNd HOe HOk HE2 HOh2 HOz2
      go_wp2_with fail
      rw [unhide HU]
      refine (unhide HPc).mono ?_
      rintro e w6 ⟨⟨pv, vs, pss, rfl, hP6, hfl⟩, F6⟩
      obtain ⟨pa, pcap, rfl⟩ : ∃ a c, pv = .slice a pss.length c := by
        obtain ⟨_, ao, c, e, _, _⟩ := hP6.reads
        exact ⟨ao, c, e⟩
      have z6 := F6.size
      rw [y3] at hP6
      have hpm : pss.length ≤ maxLen := by
        have h0 := hP6.1
        rcases hP6.2.1.2 with ⟨_, e0⟩ | ⟨g, cap, cur, e0, _, _, h1, h2, _⟩
        · omega
        · omega
      unfold maxLen at hpm
      have HP6 := hide hP6
      have HFL := hide hfl
      have HNa6 := hide (F6.kept (unhide HNa))
      have HNw6 := hide (F6.kept (unhide HNw))
      have HNd6 := hide (F6.kept (unhide HNd3))
      have HNe6 := hide (F6.kept (unhide HNe3))
      have HOe6 := hide (F6.owns (unhide HOe3))
      have HOk6 := hide ((unhide HOk3).ext F6)
      have HOh6 := hide (F6.owns (unhide HOh3))
      have HOz6 := hide (F6.owns (unhide HOz3))
      have HOw6 := hide (F6.owns (unhide HOw3))
      have HOj6 := hide ((unhide HOj3).ext F6)
      have HE6 := hide ((unhide HE3).trans F6)
      have hG6 : GotK w6 (w3.heap.size + 2) w6.heap.size (.slice (some ⟨w3.heap.size + 2, 0, none⟩) 0 0) [] := ⟨[], [], rfl, F6.owns (unhide HM3), fun j hj => by simp at hj, fun j hj => by simp at hj, fun q hq => .inl (by simpa [Value.ownBlock, eq_comm] using hq)⟩
      have HG6 := hide hG6
      clear hP6 hfl F6 HPc HNa HNw HNd3 HNe3 HOe3 HOk3 HOh3 HOz3 HOw3 HOj3 HE3 hG6 f0 f1 HU
      go_wp2_with fail
      go_loopw [12, 14] (fun v i wr => ∃ (j : Nat) (h : List Int) (q : Bool) (K : List (List Int × Int)) (av : Value), j ≤ pss.length ∧ i = .int .i64 j ∧ Hid (PcI hs (pss.take j).flatten p h q K) ∧ Hid (wr.heap[w3.heap.size + 1]? = some (.cells #[av, .bool q] 24 (0, 0))) ∧ Hid (wr.ownsRow 0 5 1 av h.length (h.map (Value.int .u8))) ∧ Hid (Bytes h) ∧ h.length + K.length ≤ 100 + (pss.take j).flatten.length ∧ Hid (0 < j → rkStep h q = none) ∧ Hid (GotK wr (w3.heap.size + 2) w6.heap.size v K) ∧ Hid (Fr (fun g => g = w3.heap.size + 1 ∨ g = w3.heap.size + 2 ∨ w6.heap.size ≤ g) w6 wr)) (fun _ i _ => pss.length - (intOf i).toNat)
      case atStart => exact ⟨0, hs, p, [], _, Nat.zero_le _, rfl, hide (by rw [List.take_zero]; exact PcI.zero hs p), HNa6, hide (owns_mono (unhide HOh6) (Nat.zero_le _)), hide hhb, by simp; omega, hide (fun h => by omega), HG6, hide (Fr.refl _ _)⟩
      case round =>
        obtain ⟨j, h, q, K, av, hj, rfl, HPI, HBx, HAv, HBh, hlen, HRest, HGK, HFr⟩ := hrel
        have zr := (unhide HFr).size
        by_cases hlt : j < pss.length
        · have bj : (j : Int) < (pss.length : Int) := by omega
          obtain ⟨pb, po, ra, rc, rfl, hpc, hpi⟩ := ((unhide HP6).fr (unhide HFr) (fun g h1 h2 e => by omega)).at j hlt
          obtain ⟨Z, hZ⟩ : ∃ Z, Z = pss.getD j [] := ⟨_, rfl⟩
          rw [← hZ] at hpc hpi
          have hfj : (pss.take (j + 1)).flatten = (pss.take j).flatten ++ Z := by rw [List.take_succ_eq_append_getElem hlt, List.flatten_append, hZ]; simp [List.getD, hlt]
          have hflen : (pss.take (j + 1)).flatten.length ≤ zs.length := by
            have h1 : pss.flatten = (pss.take (j + 1)).flatten ++ (pss.drop (j + 1)).flatten := by rw [← List.flatten_append, List.take_append_drop]
            have h2 := unhide HFL
            rw [h2] at h1
            rw [h1, List.length_append]
            omega
          have hZb : Bytes Z := by
            have h1 : pss.flatten = (pss.take (j + 1)).flatten ++ (pss.drop (j + 1)).flatten := by rw [← List.flatten_append, List.take_append_drop]
            rw [unhide HFL, hfj] at h1
            exact fun n hn => hzb n (by rw [h1]; exact List.mem_append_left _ (List.mem_append_right _ hn))
          rw [hfj, List.length_append] at hflen
          obtain ⟨aa, ac, rfl, _, _⟩ := ints_of_owns (unhide HAv)
          have a0 := cells_of (unhide HBx) 0 _ rfl
          have a1 := cells_of (unhide HBx) 1 _ rfl
          have HPi := hide hpi
          have HFJ := hide hfj
          have hsz2 := rk_sz2 (h ++ Z) q
          have hsz3 := rk_len (h ++ Z).length (h ++ Z) q (Nat.le_refl _)
          have hsz4 := rkH_len (h ++ Z) q
          rw [List.length_append] at hsz2 hsz4
          have HCon := hide (fun W (E : Ext wr W) => implReadKeys_any aa ac h Z q (.slice ra Z.length rc) W ((ints_of_owns (unhide HAv)).ext E) ((unhide HPi).ext E) (unhide HBh) hZb (by omega) ((((unhide HT).ext (unhide HE6)).fr (unhide HFr) (by have := lt_of_cell ((unhide HT).1 0 (by omega)); have := (unhide HE6).size; omega) (by have := lt_of_cell ((unhide HT).2 0 (by omega)).1; have := (unhide HE6).size; omega)).ext E))
          clear hpi hZ hfj
          go_wp2
          refine wp_region_held_drew (S := fun W => W.cell? ⟨w3.heap.size + 1, 0, none⟩ = some (.slice aa h.length ac) ∧ W.cell? ⟨w3.heap.size + 1, 1, none⟩ = some (.bool q) ∧ W.cell? ⟨pb, po + j, none⟩ = some (.slice ra Z.length rc)) (by kernel_rfl) ⟨a0, a1, hpc⟩ (fun hHeld => ?_)
          have HX0 := hide ((Ext.refl wr).drew)
          have z0 := (unhide HX0).size
          have z0b : wr.drew.heap.size ≤ wr.heap.size := Nat.le_refl _
          generalize wr.drew = W0 at *
          refine wpAnyH_take (i := 0) (v := ?_) rfl (by kernel_rfl) (by kernel_rfl) (by kernel_rfl) (fun _ _ _ h => h) (Or.inl ⟨by rfl, ?_⟩) (by assumption) ?_
          rotate_left
          · intro w' hSw; obtain ⟨q0, q1, q2⟩ := hSw; go_simp <;> with_reducible rfl
          simp only [Act.put, qA, qB, qC, qD, qE, qF]
          refine wpAnyH_take (i := 1) (v := ?_) rfl (by kernel_rfl) (by kernel_rfl) (by kernel_rfl) (fun _ _ _ h => h) (Or.inl ⟨by rfl, ?_⟩) (by assumption) ?_
          rotate_left
          · intro w' hSw; obtain ⟨q0, q1, q2⟩ := hSw; go_simp <;> with_reducible rfl
          simp only [Act.put, qA, qB, qC, qD, qE, qF]
          refine wpAnyH_take (i := 2) (v := ?_) rfl (by kernel_rfl) (by kernel_rfl) (by kernel_rfl) (fun _ _ _ h => h) (Or.inl ⟨by rfl, ?_⟩) (by assumption) ?_
          rotate_left
          · intro w' hSw; obtain ⟨q0, q1, q2⟩ := hSw; go_simp <;> with_reducible rfl
          simp only [Act.put, qA, qB, qC, qD, qE, qF]
          refine wpAnyH_take (i := 3) (v := ?_) rfl (by kernel_rfl) (by kernel_rfl) (by kernel_rfl) (fun _ _ _ h => h) (Or.inl ⟨by rfl, ?_⟩) (by assumption) ?_
          rotate_left
          · intro w' hSw; obtain ⟨q0, q1, q2⟩ := hSw; go_simp <;> with_reducible rfl
          simp only [Act.put, qA, qB, qC, qD, qE, qF]
          refine wpAnyH_take (i := 4) (v := ?_) rfl (by kernel_rfl) (by kernel_rfl) (by kernel_rfl) (fun _ _ _ h => h) (Or.inl ⟨by rfl, ?_⟩) (by assumption) ?_
          rotate_left
          · intro w' hSw; obtain ⟨q0, q1, q2⟩ := hSw; go_simp <;> with_reducible rfl
          simp only [Act.put, qA, qB, qC, qD, qE, qF]
          refine wpAnyH_ready (rs := [5, 9]) (by kernel_rfl) (by simp) ?_
          refine AllReadyH.cons rfl (fun K hK => ?_) (AllReadyH.cons rfl (fun K hK => ?_) AllReadyH.nil)
          · go_simp
            refine ((unhide HCon) _ (unhide HX0)).mono ?_
            rintro e w7 ⟨⟨nv, nk, nrs, rfl, on, onk⟩, F7⟩
            rw [show (h ++ Z).drop (rk (h ++ Z) q).2.1 = rkH (h ++ Z) q from rfl] at on
            obtain ⟨na, nc, rfl, _, _⟩ := ints_of_owns on
            obtain ⟨nka, nkc, rfl⟩ := onk.slice
            have HON := hide on
            have HOK := hide onk
            have HF7 := hide F7
            have z7 := F7.size
            clear on onk F7
            refine hK.out _ _ ⟨((unhide HX0).trans (unhide HF7)).cell a0, ((unhide HX0).trans (unhide HF7)).cell a1, ((unhide HX0).trans (unhide HF7)).cell hpc⟩ (fun hHeld => ?_)
            clear hK K
            refine wpAnyH_take (i := 6) (v := ?_) rfl (by kernel_rfl) (by kernel_rfl) (by kernel_rfl) (fun _ _ _ h => h) (Or.inl ⟨by rfl, ?_⟩) (by assumption) ?_
            rotate_left
            · intro w' hSw; obtain ⟨q0, q1, q2⟩ := hSw; go_simp <;> with_reducible rfl
            simp only [Act.put, qA, qB, qC, qD, qE, qF]
            refine wpAnyH_take (i := 7) (v := ?_) rfl (by kernel_rfl) (by kernel_rfl) (by kernel_rfl) (fun _ _ _ h => h) (Or.inl ⟨by rfl, ?_⟩) (by assumption) ?_
            rotate_left
            · intro w' hSw; obtain ⟨q0, q1, q2⟩ := hSw; go_simp <;> with_reducible rfl
            simp only [Act.put, qA, qB, qC, qD, qE, qF]
            refine wpAnyH_take (i := 8) (v := ?_) rfl (by kernel_rfl) (by kernel_rfl) (by kernel_rfl) (fun _ _ _ h => h) (Or.inl ⟨by rfl, ?_⟩) (by assumption) ?_
            rotate_left
            · intro w' hSw; obtain ⟨q0, q1, q2⟩ := hSw; go_simp <;> with_reducible rfl
            simp only [Act.put, qA, qB, qC, qD, qE, qF]
            refine wpAnyH_ready (rs := [9]) (by kernel_rfl) (by simp) ?_
            refine AllReadyH.cons rfl (fun K hK => ?_) AllReadyH.nil
            obtain ⟨V8, hV8⟩ : ∃ V, V = w7.alloc (.cells #[.slice none 0 0, .bool false] 24) := ⟨_, rfl⟩
            have F8 : Ext w7 V8 := by rw [hV8]; exact (Ext.refl _).alloc _
            have n8 : V8.heap[w7.heap.size]? = some (.cells #[.slice none 0 0, .bool false] 24 (0, 0)) := by rw [hV8]; exact new_block w7 _
            have z8 : V8.heap.size = w7.heap.size + 1 := by rw [hV8]; simp
            have HX8 := hide (((unhide HX0).trans (unhide HF7)).trans F8)
            have HON8 := hide (owns_mono (F8.owns (unhide HON)) (show wr.heap.size ≤ W0.heap.size from z0))
            have HOK8 := hide (((unhide HOK).ext F8).down (show wr.heap.size ≤ W0.heap.size from z0))
            have HNb : Hid (∀ g, Value.ownBlock (.slice na (rkH (h ++ Z) q).length nc) = some g → g < w7.heap.size) := hide (fun g hg => ((unhide HON).lt g hg).2)
            have HNk : Hid (∀ g, Foot (.slice nka (rk (h ++ Z) q).1.length nkc) nrs (rk (h ++ Z) q).1.length g → g < w7.heap.size) := hide (fun g hg => ((unhide HOK).foot hg).2)
            go_simp
            rw [← hV8]
            clear hV8 F8
            have hnbw : wr.heap.size ≤ w7.heap.size := by omega
            have hnbV : w7.heap.size < V8.heap.size := by omega
            have HNbn : Hid (∀ g, Value.ownBlock (.slice na (rkH (h ++ Z) q).length nc) = some g → g ≠ w7.heap.size) := hide (fun g hg e => by have := (unhide HNb) g hg; omega)
            have HNkn : Hid (∀ g, Foot (.slice nka (rk (h ++ Z) q).1.length nkc) nrs (rk (h ++ Z) q).1.length g → g ≠ w7.heap.size) := hide (fun g hg e => by have := (unhide HNk) g hg; omega)
            clear HNb HNk
            refine hK.out _ _ ⟨(unhide HX8).cell a0, (unhide HX8).cell a1, (unhide HX8).cell hpc⟩ (fun hHeld => ?_)
            clear hK K
            have k0 := cells_of n8 0 _ rfl
            have k1 := cells_of n8 1 _ rfl
            have l0 : V8.frozen? ⟨w7.heap.size, 0, none⟩ = false := Lib.frozen_of_heap n8 0
            have l1 : V8.frozen? ⟨w7.heap.size, 1, none⟩ = false := Lib.frozen_of_heap n8 1
            obtain ⟨Y, hY⟩ : ∃ Y, Y = (V8.setCell ⟨w7.heap.size, 0, none⟩ (.slice na (rkH (h ++ Z) q).length nc)).setCell ⟨w7.heap.size, 1, none⟩ (.bool (rk (h ++ Z) q).2.2) := ⟨_, rfl⟩
            have fY : Fr (fun g => g = w7.heap.size) V8 Y := by rw [hY]; exact Fr.setCell (S := fun g => g = w7.heap.size) (Fr.setCell (S := fun g => g = w7.heap.size) (Fr.refl _ V8) (a := ⟨w7.heap.size, 0, none⟩) rfl _) (a := ⟨w7.heap.size, 1, none⟩) rfl _
            have nY : Y.heap[w7.heap.size]? = some (.cells #[.slice na (rkH (h ++ Z) q).length nc, .bool (rk (h ++ Z) q).2.2] 24 (0, 0)) := by rw [hY]; exact set_blk2 (set_blk2 n8 rfl) rfl
            have HXY := hide (fY.ext (unhide HX8) (fun g hg => by omega))
            have HYY := hide hY
            refine wpAnyH_ready (rs := [10]) (by kernel_rfl) (by simp) ?_
            refine AllReadyH.cons rfl (fun K hK => ?_) AllReadyH.nil
            go_simp
            rw [← unhide HYY]
            refine hK.out _ _ ⟨(unhide HXY).cell a0, (unhide HXY).cell a1, (unhide HXY).cell hpc⟩ (fun hHeld => ?_)
            clear hK K
            refine wpAnyH_take (i := 11) (v := ?_) rfl (by kernel_rfl) (by kernel_rfl) (by kernel_rfl) (fun _ _ _ h => h) (Or.inl ⟨by rfl, ?_⟩) (by assumption) ?_
            rotate_left
            · intro w' hSw; obtain ⟨q0, q1, q2⟩ := hSw; go_simp <;> with_reducible rfl
            simp only [Act.put, qA, qB, qC, qD, qE, qF]
            refine wpAnyH_done (by kernel_rfl) ?_ _
            have bx := (unhide HXY).kept (unhide HBx)
            have HONY := hide (fY.owns (unhide HON8) (unhide HNbn))
            have HOKY := hide ((unhide HOK8).fr fY (unhide HNkn))
            have zY := fY.size
            have zX := (unhide HX8).size
            clear k0 k1 l0 l1 hY fY n8 HON8 HOK8 HNbn HNkn HYY HX8 HCon HON HOK HF7
            have y0 := cells_of nY 0 _ rfl
            have y1 := cells_of nY 1 _ rfl
            have x0 := cells_of bx 0 _ rfl
            have x1 := cells_of bx 1 _ rfl
            have v0 : Y.frozen? ⟨w3.heap.size + 1, 0, none⟩ = false := Lib.frozen_of_heap bx 0
            have v1 : Y.frozen? ⟨w3.heap.size + 1, 1, none⟩ = false := Lib.frozen_of_heap bx 1
            obtain ⟨Y2, hY2⟩ : ∃ Y2, Y2 = (Y.setCell ⟨w3.heap.size + 1, 0, none⟩ (.slice na (rkH (h ++ Z) q).length nc)).setCell ⟨w3.heap.size + 1, 1, none⟩ (.bool (rk (h ++ Z) q).2.2) := ⟨_, rfl⟩
            have f2 : Fr (fun g => g = w3.heap.size + 1) Y Y2 := by rw [hY2]; exact Fr.setCell (S := fun g => g = w3.heap.size + 1) (Fr.setCell (S := fun g => g = w3.heap.size + 1) (Fr.refl _ Y) (a := ⟨w3.heap.size + 1, 0, none⟩) rfl _) (a := ⟨w3.heap.size + 1, 1, none⟩) rfl _
            have b2' : Y2.heap[w3.heap.size + 1]? = some (.cells #[.slice na (rkH (h ++ Z) q).length nc, .bool (rk (h ++ Z) q).2.2] 24 (0, 0)) := by rw [hY2]; exact set_blk2 (set_blk2 bx rfl) rfl
            have hG2 := (unhide HGK).fr (Fr.tr (Fr.of_ext (unhide HXY)) f2) (fun g hg _ e => by omega)
            obtain ⟨rs0, ys0, g0, g1, g2, g3, g4⟩ := hG2
            have hu := (unhide HGK).choose_spec.choose_spec.2.1
            have hub : ∀ g, u12.ownBlock = some g → (g = w3.heap.size + 2 ∨ w6.heap.size ≤ g) ∧ g < wr.heap.size := fun g hg => ⟨g4 g hg, (hu.lt g hg).2⟩
            have oK2 := (unhide HOKY).fr f2 (fun g hg e => by have := ((unhide HOKY).foot hg).1; omega)
            obtain ⟨k0, ⟨ys2, k1, k2⟩, k3, _⟩ := id oK2
            have HSrc := hide (own_src k1 (kys_cell1 oK2 k1 k2))
            have HG1 := hide g1
            have HYy := hide hY2
            have z2' := f2.size
            have hON2 := f2.owns (unhide HONY) (fun g hg e => by have := ((unhide HONY).lt g hg).1; omega)
            have HON2 := hide hON2
            have HF2 := hide f2
            have HB2 := hide b2'
            have HG2' := hide g2
            have HG3 := hide g3
            have HK2 := hide k2
            have HK3 := hide k3
            have HUB := hide hub
            clear bx nY f2 b2' hu oK2 k1 hON2 g1 g2 g3 k2 k3 hY2 hub g4
            go_wp2_with (at_builtin; rw [← unhide HYy]; go_must (refine wpList_app_at rfl _ _ 27 rfl (w3.heap.size + 2) 67 ic (.agg #[.int .i64 0, .slice none 0 0]) 2 32 Tryd.underlying27 hic hc0 hc1 hc2 rfl (by decide) _ K.length ys0 rfl (unhide HG1) _ (rk (h ++ Z) q).1.length ys2 rfl (unhide HSrc) ?_ ?_ ?_ ?_))
            · unfold maxLen; omega
            · omega
            · omega
            intro v9 w9 hown9 hgrow9 hat9
            have f9 : Fr (fun g => u12.ownBlock = some g) Y2 w9 := Fr.grown (Fr.refl _ _) hgrow9 (fun g hg => hg)
            have HG9 := hide (GotK.app (w := Y2) (w1 := wr) g0 (unhide HG1) (unhide HG2') (unhide HG3) k0 (unhide HK2) (unhide HK3) (show w6.heap.size ≤ wr.heap.size from zr) hown9 f9 (fun g hg => by
              rcases hat9 with e | e
              · rw [e] at hg
                exact ((unhide HUB) g hg).1
              · rw [e] at hg
                have e2 := Option.some.inj hg
                omega))
            have HB9 := hide (f9.kept (unhide HB2) (fun e => by have := (unhide HUB) _ e; omega))
            have HA9 := hide (owns_mono (f9.owns (unhide HON2) (fun g hg e => by have h1 := ((unhide HON2).lt g hg).1; have h2 := (unhide HUB) g e; omega)) (Nat.zero_le _))
            have HF9 := hide (Fr.tr (Fr.tr (Fr.tr (unhide HFr) (Fr.of_ext (unhide HXY))) (Fr.mono (unhide HF2) (fun g hg => .inl hg))) (Fr.mono f9 (fun g hg => .inr ((unhide HUB) g hg).1)))
            obtain ⟨va9, vc9, rfl⟩ : ∃ a c, v9 = .slice a (K.length + (rk (h ++ Z) q).1.length) c := by
              rcases hown9.2 with ⟨e, e0⟩ | ⟨g, c, _, e, _⟩
              · exact ⟨none, 0, by rw [e, e0]⟩
              · exact ⟨_, _, e⟩
            have HPI9 := hide ((unhide HPI).step Z)
            rw [← unhide HFJ] at HPI9
            clear hown9 hgrow9 hat9 f9
            go_wp2
            go_roundw
            case rel => exact ⟨j + 1, rkH (h ++ Z) q, (rk (h ++ Z) q).2.2, K ++ (rk (h ++ Z) q).1, _, by omega, by go_num, HPI9, HB9, HA9, hide (rkH_bytes (fun n hn => (List.mem_append.1 hn).elim ((unhide HBh) n) (hZb n))), by rw [unhide HFJ, List.length_append, List.length_append]; omega, hide (fun _ => rk_rest _ _ _ (Nat.le_refl _)), HG9, HF9⟩
            case measure => simp [intOf]; omega
          · obtain ⟨V5, hV5⟩ : ∃ V, V = W0.alloc (.cells #[.slice none 0 0, .bool false] 24) := ⟨_, rfl⟩
            have F5 : Ext W0 V5 := by rw [hV5]; exact (Ext.refl _).alloc _
            have n5 : V5.heap[W0.heap.size]? = some (.cells #[.slice none 0 0, .bool false] 24 (0, 0)) := by rw [hV5]; exact new_block W0 _
            have z5 : V5.heap.size = W0.heap.size + 1 := by rw [hV5]; simp
            have HX5 := hide ((unhide HX0).trans F5)
            go_simp
            rw [← hV5]
            clear hV5 F5
            refine hK.out _ _ ⟨(unhide HX5).cell a0, (unhide HX5).cell a1, (unhide HX5).cell hpc⟩ (fun hHeld => ?_)
            clear hK K
            refine wpAnyH_ready (rs := [5]) (by kernel_rfl) (by simp) ?_
            refine AllReadyH.cons rfl (fun K hK => ?_) AllReadyH.nil
            go_simp
            refine ((unhide HCon) _ (unhide HX5)).mono ?_
            rintro e w7 ⟨⟨nv, nk, nrs, rfl, on, onk⟩, F7⟩
            rw [show (h ++ Z).drop (rk (h ++ Z) q).2.1 = rkH (h ++ Z) q from rfl] at on
            obtain ⟨na, nc, rfl, _, _⟩ := ints_of_owns on
            obtain ⟨nka, nkc, rfl⟩ := onk.slice
            have HON := hide on
            have HOK := hide onk
            have HF7 := hide F7
            have z7 := F7.size
            clear on onk F7
            obtain ⟨V8, hV8⟩ : ∃ V, V = w7 := ⟨_, rfl⟩
            have n8 : V8.heap[W0.heap.size]? = some (.cells #[.slice none 0 0, .bool false] 24 (0, 0)) := by rw [hV8]; exact (unhide HF7).kept n5
            have HX8 : Hid (Ext wr V8) := hide (by rw [hV8]; exact (unhide HX5).trans (unhide HF7))
            have HON8 : Hid (V8.ownsRow wr.heap.size 5 1 (.slice na (rkH (h ++ Z) q).length nc) (rkH (h ++ Z) q).length ((rkH (h ++ Z) q).map (Value.int .u8))) := hide (by rw [hV8]; exact owns_mono (unhide HON) (by omega))
            have HOK8 : Hid (OwnKys V8 wr.heap.size (.slice nka (rk (h ++ Z) q).1.length nkc) nrs (rk (h ++ Z) q).1) := hide (by rw [hV8]; exact (unhide HOK).down (by omega))
            have HNbn : Hid (∀ g, Value.ownBlock (.slice na (rkH (h ++ Z) q).length nc) = some g → g ≠ W0.heap.size) := hide (fun g hg e => by have := ((unhide HON).lt g hg).1; omega)
            have HNkn : Hid (∀ g, Foot (.slice nka (rk (h ++ Z) q).1.length nkc) nrs (rk (h ++ Z) q).1.length g → g ≠ W0.heap.size) := hide (fun g hg e => by have := ((unhide HOK).foot hg).1; omega)
            rw [← hV8]
            have z8 : W0.heap.size < V8.heap.size := by rw [hV8]; omega
            clear hV8
            have hnbw : wr.heap.size ≤ W0.heap.size := by omega
            have hnbV : W0.heap.size < V8.heap.size := by omega
            refine hK.out _ _ ⟨(unhide HX8).cell a0, (unhide HX8).cell a1, (unhide HX8).cell hpc⟩ (fun hHeld => ?_)
            clear hK K
            refine wpAnyH_take (i := 6) (v := ?_) rfl (by kernel_rfl) (by kernel_rfl) (by kernel_rfl) (fun _ _ _ h => h) (Or.inl ⟨by rfl, ?_⟩) (by assumption) ?_
            rotate_left
            · intro w' hSw; obtain ⟨q0, q1, q2⟩ := hSw; go_simp <;> with_reducible rfl
            simp only [Act.put, qA, qB, qC, qD, qE, qF]
            refine wpAnyH_take (i := 7) (v := ?_) rfl (by kernel_rfl) (by kernel_rfl) (by kernel_rfl) (fun _ _ _ h => h) (Or.inl ⟨by rfl, ?_⟩) (by assumption) ?_
            rotate_left
            · intro w' hSw; obtain ⟨q0, q1, q2⟩ := hSw; go_simp <;> with_reducible rfl
            simp only [Act.put, qA, qB, qC, qD, qE, qF]
            refine wpAnyH_take (i := 8) (v := ?_) rfl (by kernel_rfl) (by kernel_rfl) (by kernel_rfl) (fun _ _ _ h => h) (Or.inl ⟨by rfl, ?_⟩) (by assumption) ?_
            rotate_left
            · intro w' hSw; obtain ⟨q0, q1, q2⟩ := hSw; go_simp <;> with_reducible rfl
            simp only [Act.put, qA, qB, qC, qD, qE, qF]
            have k0 := cells_of n8 0 _ rfl
            have k1 := cells_of n8 1 _ rfl
            have l0 : V8.frozen? ⟨W0.heap.size, 0, none⟩ = false := Lib.frozen_of_heap n8 0
            have l1 : V8.frozen? ⟨W0.heap.size, 1, none⟩ = false := Lib.frozen_of_heap n8 1
            obtain ⟨Y, hY⟩ : ∃ Y, Y = (V8.setCell ⟨W0.heap.size, 0, none⟩ (.slice na (rkH (h ++ Z) q).length nc)).setCell ⟨W0.heap.size, 1, none⟩ (.bool (rk (h ++ Z) q).2.2) := ⟨_, rfl⟩
            have fY : Fr (fun g => g = W0.heap.size) V8 Y := by rw [hY]; exact Fr.setCell (S := fun g => g = W0.heap.size) (Fr.setCell (S := fun g => g = W0.heap.size) (Fr.refl _ V8) (a := ⟨W0.heap.size, 0, none⟩) rfl _) (a := ⟨W0.heap.size, 1, none⟩) rfl _
            have nY : Y.heap[W0.heap.size]? = some (.cells #[.slice na (rkH (h ++ Z) q).length nc, .bool (rk (h ++ Z) q).2.2] 24 (0, 0)) := by rw [hY]; exact set_blk2 (set_blk2 n8 rfl) rfl
            have HXY := hide (fY.ext (unhide HX8) (fun g hg => by omega))
            have HYY := hide hY
            refine wpAnyH_ready (rs := [10]) (by kernel_rfl) (by simp) ?_
            refine AllReadyH.cons rfl (fun K hK => ?_) AllReadyH.nil
            go_simp
            rw [← unhide HYY]
            refine hK.out _ _ ⟨(unhide HXY).cell a0, (unhide HXY).cell a1, (unhide HXY).cell hpc⟩ (fun hHeld => ?_)
            clear hK K
            refine wpAnyH_take (i := 11) (v := ?_) rfl (by kernel_rfl) (by kernel_rfl) (by kernel_rfl) (fun _ _ _ h => h) (Or.inl ⟨by rfl, ?_⟩) (by assumption) ?_
            rotate_left
            · intro w' hSw; obtain ⟨q0, q1, q2⟩ := hSw; go_simp <;> with_reducible rfl
            simp only [Act.put, qA, qB, qC, qD, qE, qF]
            refine wpAnyH_done (by kernel_rfl) ?_ _
            have bx := (unhide HXY).kept (unhide HBx)
            have HONY := hide (fY.owns (unhide HON8) (unhide HNbn))
            have HOKY := hide ((unhide HOK8).fr fY (unhide HNkn))
            have zY := fY.size
            have zX := (unhide HX8).size
            clear k0 k1 l0 l1 hY fY n8 HON8 HOK8 HNbn HNkn HYY HX8 HCon HON HOK HF7
            have y0 := cells_of nY 0 _ rfl
            have y1 := cells_of nY 1 _ rfl
            have x0 := cells_of bx 0 _ rfl
            have x1 := cells_of bx 1 _ rfl
            have v0 : Y.frozen? ⟨w3.heap.size + 1, 0, none⟩ = false := Lib.frozen_of_heap bx 0
            have v1 : Y.frozen? ⟨w3.heap.size + 1, 1, none⟩ = false := Lib.frozen_of_heap bx 1
            obtain ⟨Y2, hY2⟩ : ∃ Y2, Y2 = (Y.setCell ⟨w3.heap.size + 1, 0, none⟩ (.slice na (rkH (h ++ Z) q).length nc)).setCell ⟨w3.heap.size + 1, 1, none⟩ (.bool (rk (h ++ Z) q).2.2) := ⟨_, rfl⟩
            have f2 : Fr (fun g => g = w3.heap.size + 1) Y Y2 := by rw [hY2]; exact Fr.setCell (S := fun g => g = w3.heap.size + 1) (Fr.setCell (S := fun g => g = w3.heap.size + 1) (Fr.refl _ Y) (a := ⟨w3.heap.size + 1, 0, none⟩) rfl _) (a := ⟨w3.heap.size + 1, 1, none⟩) rfl _
            have b2' : Y2.heap[w3.heap.size + 1]? = some (.cells #[.slice na (rkH (h ++ Z) q).length nc, .bool (rk (h ++ Z) q).2.2] 24 (0, 0)) := by rw [hY2]; exact set_blk2 (set_blk2 bx rfl) rfl
            have hG2 := (unhide HGK).fr (Fr.tr (Fr.of_ext (unhide HXY)) f2) (fun g hg _ e => by omega)
            obtain ⟨rs0, ys0, g0, g1, g2, g3, g4⟩ := hG2
            have hu := (unhide HGK).choose_spec.choose_spec.2.1
            have hub : ∀ g, u12.ownBlock = some g → (g = w3.heap.size + 2 ∨ w6.heap.size ≤ g) ∧ g < wr.heap.size := fun g hg => ⟨g4 g hg, (hu.lt g hg).2⟩
            have oK2 := (unhide HOKY).fr f2 (fun g hg e => by have := ((unhide HOKY).foot hg).1; omega)
            obtain ⟨k0, ⟨ys2, k1, k2⟩, k3, _⟩ := id oK2
            have HSrc := hide (own_src k1 (kys_cell1 oK2 k1 k2))
            have HG1 := hide g1
            have HYy := hide hY2
            have z2' := f2.size
            have hON2 := f2.owns (unhide HONY) (fun g hg e => by have := ((unhide HONY).lt g hg).1; omega)
            have HON2 := hide hON2
            have HF2 := hide f2
            have HB2 := hide b2'
            have HG2' := hide g2
            have HG3 := hide g3
            have HK2 := hide k2
            have HK3 := hide k3
            have HUB := hide hub
            clear bx nY f2 b2' hu oK2 k1 hON2 g1 g2 g3 k2 k3 hY2 hub g4
            go_wp2_with (at_builtin; rw [← unhide HYy]; go_must (refine wpList_app_at rfl _ _ 27 rfl (w3.heap.size + 2) 67 ic (.agg #[.int .i64 0, .slice none 0 0]) 2 32 Tryd.underlying27 hic hc0 hc1 hc2 rfl (by decide) _ K.length ys0 rfl (unhide HG1) _ (rk (h ++ Z) q).1.length ys2 rfl (unhide HSrc) ?_ ?_ ?_ ?_))
            · unfold maxLen; omega
            · omega
            · omega
            intro v9 w9 hown9 hgrow9 hat9
            have f9 : Fr (fun g => u12.ownBlock = some g) Y2 w9 := Fr.grown (Fr.refl _ _) hgrow9 (fun g hg => hg)
            have HG9 := hide (GotK.app (w := Y2) (w1 := wr) g0 (unhide HG1) (unhide HG2') (unhide HG3) k0 (unhide HK2) (unhide HK3) (show w6.heap.size ≤ wr.heap.size from zr) hown9 f9 (fun g hg => by
              rcases hat9 with e | e
              · rw [e] at hg
                exact ((unhide HUB) g hg).1
              · rw [e] at hg
                have e2 := Option.some.inj hg
                omega))
            have HB9 := hide (f9.kept (unhide HB2) (fun e => by have := (unhide HUB) _ e; omega))
            have HA9 := hide (owns_mono (f9.owns (unhide HON2) (fun g hg e => by have h1 := ((unhide HON2).lt g hg).1; have h2 := (unhide HUB) g e; omega)) (Nat.zero_le _))
            have HF9 := hide (Fr.tr (Fr.tr (Fr.tr (unhide HFr) (Fr.of_ext (unhide HXY))) (Fr.mono (unhide HF2) (fun g hg => .inl hg))) (Fr.mono f9 (fun g hg => .inr ((unhide HUB) g hg).1)))
            obtain ⟨va9, vc9, rfl⟩ : ∃ a c, v9 = .slice a (K.length + (rk (h ++ Z) q).1.length) c := by
              rcases hown9.2 with ⟨e, e0⟩ | ⟨g, c, _, e, _⟩
              · exact ⟨none, 0, by rw [e, e0]⟩
              · exact ⟨_, _, e⟩
            have HPI9 := hide ((unhide HPI).step Z)
            rw [← unhide HFJ] at HPI9
            clear hown9 hgrow9 hat9 f9
            go_wp2
            go_roundw
            case rel => exact ⟨j + 1, rkH (h ++ Z) q, (rk (h ++ Z) q).2.2, K ++ (rk (h ++ Z) q).1, _, by omega, by go_num, HPI9, HB9, HA9, hide (rkH_bytes (fun n hn => (List.mem_append.1 hn).elim ((unhide HBh) n) (hZb n))), by rw [unhide HFJ, List.length_append, List.length_append]; omega, hide (fun _ => rk_rest _ _ _ (Nat.le_refl _)), HG9, HF9⟩
            case measure => simp [intOf]; omega
        · obtain rfl : j = pss.length := by omega
          rw [List.take_length, unhide HFL] at HPI
          have bj : ¬ ((pss.length : Nat) : Int) < (pss.length : Int) := by omega
          by_cases hz0 : zs.length = 0
          · have ez : zs = [] := List.eq_nil_of_length_eq_zero hz0
            subst ez
            obtain ⟨a9, c9, rfl, _, _⟩ := ints_of_owns (unhide HAv)
            have hIh := (unhide HFr).owns (unhide HOh6) (fun g hg => by have := (unhide HLh) g hg; omega)
            have hIz := (unhide HFr).owns (unhide HOz6) (fun g hg => by have := (unhide HLz) g hg; omega)
            have HI8 := hide (implReadKeys_any ha hc hs [] p (.slice za 0 zc) wr (ints_of_owns hIh) (ints_of_owns hIz) hhb hzb (by simp; omega) (((unhide HT).ext (unhide HE6)).fr (unhide HFr) (by have := lt_of_cell ((unhide HT).1 0 (by omega)); have := (unhide HE6).size; omega) (by have := lt_of_cell ((unhide HT).2 0 (by omega)).1; have := (unhide HE6).size; omega)))
            rw [← unhide HR] at HI8
            have s0 := cells_of ((unhide HFr).kept (unhide HNd6) (by omega)) 0 _ rfl
            have s1 := cells_of ((unhide HFr).kept (unhide HNd6) (by omega)) 1 _ rfl
            clear hIh hIz
            go_wp2_with fail
            refine (unhide HI8).mono ?_
            rintro e w8 ⟨⟨nv, nk, nrs, rfl, on, onk⟩, F8⟩
            rw [unhide HQ2] at on
            obtain ⟨aa, ac, rfl, _, _⟩ := ints_of_owns on
            obtain ⟨ga, gc, rfl⟩ := onk.slice
            have b8 := F8.kept (unhide HBx)
            have x0 := cells_of b8 0 _ rfl
            have x1 := cells_of b8 1 _ rfl
            have v0 : w8.frozen? ⟨w3.heap.size + 1, 0, none⟩ = false := Lib.frozen_of_heap b8 0
            have v1 : w8.frozen? ⟨w3.heap.size + 1, 1, none⟩ = false := Lib.frozen_of_heap b8 1
            obtain ⟨W8, hW8⟩ : ∃ W8, W8 = (w8.setCell ⟨w3.heap.size + 1, 0, none⟩ (.slice aa Q.length ac)).setCell ⟨w3.heap.size + 1, 1, none⟩ (.bool R.2.2) := ⟨_, rfl⟩
            have f8 : Fr (fun g => g = w3.heap.size + 1) w8 W8 := by rw [hW8]; exact Fr.setCell (S := fun g => g = w3.heap.size + 1) (Fr.setCell (S := fun g => g = w3.heap.size + 1) (Fr.refl _ w8) (a := ⟨w3.heap.size + 1, 0, none⟩) rfl _) (a := ⟨w3.heap.size + 1, 1, none⟩) rfl _
            have HBa : Hid (W8.heap[w3.heap.size + 1]? = some (.cells #[.slice aa Q.length ac, .bool R.2.2] 24 (0, 0))) := hide (by rw [hW8]; exact set_blk2 (set_blk2 b8 rfl) rfl)
            have HRa := hide (owns_mono (f8.owns on (fun g hg e => by have := (on.lt g hg).1; omega)) (Nat.zero_le _))
            have HKg := hide (onk.fr f8 (fun g hg e => by have := (onk.foot hg).1; omega)).cls
            have HFr8 := hide (Fr.tr (Fr.tr (unhide HFr) (Fr.of_ext F8)) (Fr.mono f8 (fun g hg => .inl hg)))
            have HW8 := hide hW8
            clear on onk F8 b8 f8 HI8 hW8
            have HBw := hide ((unhide HFr8).kept (unhide HNw6) (by omega))
            have HBe := hide ((unhide HFr8).kept (unhide HNe6) (by omega))
            have HRw := hide (owns_mono ((unhide HFr8).owns (unhide HOw6) (fun g hg => by have := (unhide HLw) g hg; omega)) (Nat.zero_le _))
            have HRe := hide (owns_mono ((unhide HFr8).owns (unhide HOe6) (fun g hg => by have := (unhide HLe) g hg; omega)) (Nat.zero_le _))
            have HKj := hide ((unhide HOj6).fr (unhide HFr8) (fun g hg => by have := (unhide HLj) g hg; omega)).cls
            have HKk := hide ((unhide HOk6).fr (unhide HFr8) (fun g hg => by have := (unhide HLk) g hg; omega)).cls
            have HEW := hide ((unhide HFr8).ext (unhide HE6) (fun g hg => by have := (unhide HE6).size; omega))
            have HQb : Hid (Bytes Q) := hide (by rw [unhide HQ]; exact rkH_bytes (fun n hn => (List.mem_append.1 hn).elim (hhb n) (hzb n)))
            clear s0 s1 HR HQ HQ2 HGK HPI HRest HFr HNw6 HNe6 HOw6 HOe6 HOj6 HOk6 HE6 HLw HLj HLe HLk HP6 HFL HNa6 HNd6 HOh6 HOz6 HG6 HBx HAv HBh HT HMs HFr8
            go_upto_region 17 with fail
            rw [← unhide HW8]
            clear HW8 x0 x1 v0 v1
            obtain ⟨R1, R2, pp⟩ := R
            dsimp only at *
            have w0 := cells_of (unhide HBw) 0 _ rfl
            have w1c := cells_of (unhide HBw) 1 _ rfl
            have e0 := cells_of (unhide HBe) 0 _ rfl
            have e1 := cells_of (unhide HBe) 1 _ rfl
            have t0 := cells_of (unhide HBa) 0 _ rfl
            have t1 := cells_of (unhide HBa) 1 _ rfl
            have HLn := hide (show ∀ j, (cR R1 j).length ≤ 4398046511104 from fun j => by have := len_sumK R1 j; omega)
            go_wp2_with fail
            refine (sameKeys_any _ _ R1 W8 (unhide HKj) (unhide HKk) (by omega) (unhide HLn)).mono ?_
            rintro e S1 ⟨rfl, G1⟩
            have HG1' := hide G1
            clear G1
            go_wp2_with fail
            refine (sameKeys_any _ _ R1 S1 ((unhide HKg).ext (unhide HG1')) ((unhide HKk).ext (unhide HG1')) (by omega) (unhide HLn)).mono ?_
            rintro e S2 ⟨rfl, G2⟩
            have HX2 := hide ((unhide HG1').trans G2)
            have p0 := (unhide HX2).cell w0
            have p1 := (unhide HX2).cell w1c
            have p2 := (unhide HX2).cell e0
            have p3 := (unhide HX2).cell e1
            have p4 := (unhide HX2).cell t0
            have p5 := (unhide HX2).cell t1
            have cvw := run_b2s (P := Tryd.prog) S2 _ _ _ Tryd.underlying22 Tryd.underlying5 Tryd.underlying9 _ _ ((ints_of_owns (unhide HRw)).ext (unhide HX2))
            have cve := run_b2s (P := Tryd.prog) S2 _ _ _ Tryd.underlying22 Tryd.underlying5 Tryd.underlying9 _ _ ((ints_of_owns (unhide HRe)).ext (unhide HX2))
            have cva := run_b2s (P := Tryd.prog) S2 _ _ _ Tryd.underlying22 Tryd.underlying5 Tryd.underlying9 _ _ ((ints_of_owns (unhide HRa)).ext (unhide HX2))
            have HTi := hide (implTick_all (.slice wa Q.length wc) 0 Q pp S2 ((unhide HX2).owns (unhide HRw)) (unhide HQb) (by omega))
            have HBe2 := hide ((unhide HX2).kept (unhide HBe))
            have HRe2 := hide ((unhide HX2).owns (unhide HRe))
            have HEx2 := hide ((unhide HEW).trans (unhide HX2))
            clear G2 HG1' w0 w1c e0 e1 t0 t1
            go_wp2_with fail
            refine (unhide HTi).mono ?_
            rintro e S3 ⟨lv, lk, lrs, rfl, ol, olk, G3⟩
            obtain ⟨la, lc, rfl, _, _⟩ := ints_of_owns ol
            obtain ⟨lka, lkc, rfl⟩ := olk.slice
            have n3 := new_block S3 (.cells #[.slice la (tickH Q pp).length lc, .bool pp] 24)
            have E3 := (Ext.refl S3).alloc (.cells #[.slice la (tickH Q pp).length lc, .bool pp] 24)
            obtain ⟨S4, hS4⟩ : ∃ S4, S4 = S3.alloc (.cells #[.slice la (tickH Q pp).length lc, .bool pp] 24) := ⟨_, rfl⟩
            rw [← hS4] at n3 E3
            have HTs := hide (specTick_all (.slice ea Q.length ec) 0 Q pp S4 (E3.owns (G3.owns (unhide HRe2))) (unhide HQb) (by omega))
            have p2 := fun o => (G3.trans ((Ext.refl S3).alloc o)).cell p2
            have p3 := fun o => (G3.trans ((Ext.refl S3).alloc o)).cell p3
            have HOl := hide (E3.owns ol)
            have HOlk := hide (olk.ext E3)
            have HN3 := hide n3
            have HBe4 := hide (E3.kept (G3.kept (unhide HBe2)))
            have HRe4 := hide (E3.owns (G3.owns (unhide HRe2)))
            have HEx4 := hide (((unhide HEx2).trans G3).trans E3)
            have HS4 := hide hS4
            have hq1 := tickK_len Q pp
            clear ol olk G3 n3 E3 hS4 HTi cvw cve cva p0 p1 p4 p5
            go_wp2_with fail
            rw [← unhide HS4]
            refine (unhide HTs).mono ?_
            rintro e S5 ⟨mv5, mk5, mrs, rfl, om, omk, G5⟩
            obtain ⟨m5a, m5c, rfl⟩ := omk.slice
            obtain ⟨m6a, m6c, rfl, _, _⟩ := ints_of_owns om
            have E5 := (Ext.refl S5).alloc (.cells #[.slice m6a (tickH Q pp).length m6c, .bool pp] 24)
            replace omk := omk.ext E5
            replace G5 := G5.trans E5
            clear E5
            have HSk := hide (sameKeys_any (.slice lka (tickK Q pp).length lkc) (.slice m5a (tickK Q pp).length m5c) (tickK Q pp) _ ((unhide HOlk).ext G5).cls omk.cls (by omega) (fun j => by have := hq1.2 j; omega))
            have HN5 := hide (G5.kept (unhide HN3))
            have HB5 := hide (G5.kept (unhide HBe4))
            have HOl5 := hide (G5.owns (unhide HOl))
            have HRe5 := hide (G5.owns (unhide HRe4))
            have HEx5 := hide ((unhide HEx4).trans G5)
            clear om omk G5 p2 p3 HS4 HTs
            go_wp2_with fail
            refine (unhide HSk).mono ?_
            rintro e S6 ⟨rfl, G6⟩
            have q0 := cells_of (G6.kept (unhide HN5)) 0 _ rfl
            have q1 := cells_of (G6.kept (unhide HN5)) 1 _ rfl
            have q2 := cells_of (G6.kept (unhide HB5)) 0 _ rfl
            have q3 := cells_of (G6.kept (unhide HB5)) 1 _ rfl
            have HEx6 := hide ((unhide HEx5).trans G6)
            have cve := run_b2s (P := Tryd.prog) S6 _ _ _ Tryd.underlying22 Tryd.underlying5 Tryd.underlying9 _ _ ((ints_of_owns (unhide HRe5)).ext G6)
            have cvl := run_b2s (P := Tryd.prog) S6 _ _ _ Tryd.underlying22 Tryd.underlying5 Tryd.underlying9 _ _ ((ints_of_owns (unhide HOl5)).ext G6)
            clear G6 HSk HN5 HB5
            cases pp with
            | true =>
              rw [show tickH Q true = Q from rfl] at q0 cvl
              rw [show tickK Q true = [] from by simp [tickK]]
              go_wp2
              exact bodyPost_ret (v := .bool true) (by simp [results, Tryd.results3, go_sem]) rfl ⟨rfl, (unhide HEx6).below⟩
            | false =>
              rw [show tickH Q false = [] from rfl] at q0 cvl
              go_wp2
              exact bodyPost_ret (v := .bool true) (by simp [results, Tryd.results3, go_sem]) rfl ⟨rfl, (unhide HEx6).below⟩
          · have hzI : ¬ (zs.length : Int) = 0 := by omega
            have hps : 0 < pss.length := by
              rcases Nat.eq_zero_or_pos pss.length with e | e
              · have e2 : pss = [] := List.eq_nil_of_length_eq_zero e
                have := unhide HFL
                rw [e2] at this
                exact absurd (by rw [← this]; rfl) hz0
              · exact e
            obtain ⟨eK, eh, eq⟩ := (unhide HPI).whole ((unhide HRest) hps)
            rw [← unhide HR] at eK eq
            rw [← unhide HQ] at eh
            have eh2 := eh.symm
            clear eh
            subst eK
            subst eh2
            subst eq
            obtain ⟨aa, ac, rfl, _, _⟩ := ints_of_owns (unhide HAv)
            have hg := (unhide HGK).reads
            obtain ⟨ga, gc, rfl⟩ : ∃ a c, u12 = .slice a R.1.length c := by
              obtain ⟨_, ao, c, e, _⟩ := id hg
              exact ⟨ao, c, e⟩
            have HKg := hide hg
            have HBa := hide (unhide HBx)
            have HRa := hide (unhide HAv)
            have HBw := hide ((unhide HFr).kept (unhide HNw6) (by omega))
            have HBe := hide ((unhide HFr).kept (unhide HNe6) (by omega))
            have far : ∀ g, g < w3.heap.size → ¬ (g = w3.heap.size + 1 ∨ g = w3.heap.size + 2 ∨ w6.heap.size ≤ g) := fun g hg => by omega
            have HRw := hide (owns_mono ((unhide HFr).owns (unhide HOw6) (fun g hg => by have := (unhide HLw) g hg; omega)) (Nat.zero_le _))
            have HRe := hide (owns_mono ((unhide HFr).owns (unhide HOe6) (fun g hg => by have := (unhide HLe) g hg; omega)) (Nat.zero_le _))
            have HKj := hide ((unhide HOj6).fr (unhide HFr) (fun g hg => by have := (unhide HLj) g hg; omega)).cls
            have HKk := hide ((unhide HOk6).fr (unhide HFr) (fun g hg => by have := (unhide HLk) g hg; omega)).cls
            have HEW := hide ((unhide HFr).ext (unhide HE6) (fun g hg => by have := (unhide HE6).size; omega))
            have HQb : Hid (Bytes Q) := hide (by rw [unhide HQ]; exact rkH_bytes (fun n hn => (List.mem_append.1 hn).elim (hhb n) (hzb n)))
            clear hg far HR HQ HQ2 HGK HPI HRest HFr HNw6 HNe6 HOw6 HOe6 HOj6 HOk6 HE6 HLw HLj HLe HLk HP6 HFL HNa6 HNd6 HOh6 HOz6 HG6 HBx HAv HBh HT HMs
            obtain ⟨R1, R2, pp⟩ := R
            dsimp only at *
            have w0 := cells_of (unhide HBw) 0 _ rfl
            have w1c := cells_of (unhide HBw) 1 _ rfl
            have e0 := cells_of (unhide HBe) 0 _ rfl
            have e1 := cells_of (unhide HBe) 1 _ rfl
            have t0 := cells_of (unhide HBa) 0 _ rfl
            have t1 := cells_of (unhide HBa) 1 _ rfl
            have HLn := hide (show ∀ j, (cR R1 j).length ≤ 4398046511104 from fun j => by have := len_sumK R1 j; omega)
            go_wp2_with fail
            refine (sameKeys_any _ _ R1 wr (unhide HKj) (unhide HKk) (by omega) (unhide HLn)).mono ?_
            rintro e S1 ⟨rfl, G1⟩
            have HG1' := hide G1
            clear G1
            go_wp2_with fail
            refine (sameKeys_any _ _ R1 S1 ((unhide HKg).ext (unhide HG1')) ((unhide HKk).ext (unhide HG1')) (by omega) (unhide HLn)).mono ?_
            rintro e S2 ⟨rfl, G2⟩
            have HX2 := hide ((unhide HG1').trans G2)
            have p0 := (unhide HX2).cell w0
            have p1 := (unhide HX2).cell w1c
            have p2 := (unhide HX2).cell e0
            have p3 := (unhide HX2).cell e1
            have p4 := (unhide HX2).cell t0
            have p5 := (unhide HX2).cell t1
            have cvw := run_b2s (P := Tryd.prog) S2 _ _ _ Tryd.underlying22 Tryd.underlying5 Tryd.underlying9 _ _ ((ints_of_owns (unhide HRw)).ext (unhide HX2))
            have cve := run_b2s (P := Tryd.prog) S2 _ _ _ Tryd.underlying22 Tryd.underlying5 Tryd.underlying9 _ _ ((ints_of_owns (unhide HRe)).ext (unhide HX2))
            have cva := run_b2s (P := Tryd.prog) S2 _ _ _ Tryd.underlying22 Tryd.underlying5 Tryd.underlying9 _ _ ((ints_of_owns (unhide HRa)).ext (unhide HX2))
            have HTi := hide (implTick_all (.slice wa Q.length wc) 0 Q pp S2 ((unhide HX2).owns (unhide HRw)) (unhide HQb) (by omega))
            have HBe2 := hide ((unhide HX2).kept (unhide HBe))
            have HRe2 := hide ((unhide HX2).owns (unhide HRe))
            have HEx2 := hide ((unhide HEW).trans (unhide HX2))
            clear G2 HG1' w0 w1c e0 e1 t0 t1
            go_wp2_with fail
            refine (unhide HTi).mono ?_
            rintro e S3 ⟨lv, lk, lrs, rfl, ol, olk, G3⟩
            obtain ⟨la, lc, rfl, _, _⟩ := ints_of_owns ol
            obtain ⟨lka, lkc, rfl⟩ := olk.slice
            have n3 := new_block S3 (.cells #[.slice la (tickH Q pp).length lc, .bool pp] 24)
            have E3 := (Ext.refl S3).alloc (.cells #[.slice la (tickH Q pp).length lc, .bool pp] 24)
            obtain ⟨S4, hS4⟩ : ∃ S4, S4 = S3.alloc (.cells #[.slice la (tickH Q pp).length lc, .bool pp] 24) := ⟨_, rfl⟩
            rw [← hS4] at n3 E3
            have HTs := hide (specTick_all (.slice ea Q.length ec) 0 Q pp S4 (E3.owns (G3.owns (unhide HRe2))) (unhide HQb) (by omega))
            have p2 := fun o => (G3.trans ((Ext.refl S3).alloc o)).cell p2
            have p3 := fun o => (G3.trans ((Ext.refl S3).alloc o)).cell p3
            have HOl := hide (E3.owns ol)
            have HOlk := hide (olk.ext E3)
            have HN3 := hide n3
            have HBe4 := hide (E3.kept (G3.kept (unhide HBe2)))
            have HRe4 := hide (E3.owns (G3.owns (unhide HRe2)))
            have HEx4 := hide (((unhide HEx2).trans G3).trans E3)
            have HS4 := hide hS4
            have hq1 := tickK_len Q pp
            clear ol olk G3 n3 E3 hS4 HTi cvw cve cva p0 p1 p4 p5
            go_wp2_with fail
            rw [← unhide HS4]
            refine (unhide HTs).mono ?_
            rintro e S5 ⟨mv5, mk5, mrs, rfl, om, omk, G5⟩
            obtain ⟨m5a, m5c, rfl⟩ := omk.slice
            obtain ⟨m6a, m6c, rfl, _, _⟩ := ints_of_owns om
            have E5 := (Ext.refl S5).alloc (.cells #[.slice m6a (tickH Q pp).length m6c, .bool pp] 24)
            replace omk := omk.ext E5
            replace G5 := G5.trans E5
            clear E5
            have HSk := hide (sameKeys_any (.slice lka (tickK Q pp).length lkc) (.slice m5a (tickK Q pp).length m5c) (tickK Q pp) _ ((unhide HOlk).ext G5).cls omk.cls (by omega) (fun j => by have := hq1.2 j; omega))
            have HN5 := hide (G5.kept (unhide HN3))
            have HB5 := hide (G5.kept (unhide HBe4))
            have HOl5 := hide (G5.owns (unhide HOl))
            have HRe5 := hide (G5.owns (unhide HRe4))
            have HEx5 := hide ((unhide HEx4).trans G5)
            clear om omk G5 p2 p3 HS4 HTs
            go_wp2_with fail
            refine (unhide HSk).mono ?_
            rintro e S6 ⟨rfl, G6⟩
            have q0 := cells_of (G6.kept (unhide HN5)) 0 _ rfl
            have q1 := cells_of (G6.kept (unhide HN5)) 1 _ rfl
            have q2 := cells_of (G6.kept (unhide HB5)) 0 _ rfl
            have q3 := cells_of (G6.kept (unhide HB5)) 1 _ rfl
            have HEx6 := hide ((unhide HEx5).trans G6)
            have cve := run_b2s (P := Tryd.prog) S6 _ _ _ Tryd.underlying22 Tryd.underlying5 Tryd.underlying9 _ _ ((ints_of_owns (unhide HRe5)).ext G6)
            have cvl := run_b2s (P := Tryd.prog) S6 _ _ _ Tryd.underlying22 Tryd.underlying5 Tryd.underlying9 _ _ ((ints_of_owns (unhide HOl5)).ext G6)
            clear G6 HSk HN5 HB5
            cases pp with
            | true =>
              rw [show tickH Q true = Q from rfl] at q0 cvl
              rw [show tickK Q true = [] from by simp [tickK]]
              go_wp2
              exact bodyPost_ret (v := .bool true) (by simp [results, Tryd.results3, go_sem]) rfl ⟨rfl, (unhide HEx6).below⟩
            | false =>
              rw [show tickH Q false = [] from rfl] at q0 cvl
              go_wp2
              exact bodyPost_ret (v := .bool true) (by simp [results, Tryd.results3, go_sem]) rfl ⟨rfl, (unhide HEx6).below⟩
    · have b2 : (1048576 : Int) < (ms.length : Int) := by omega
      go_enter Tryd.func3, Tryd.ntmps3
      go_wp2
      go_ret
      exact ⟨rfl, (Ext.refl w).below⟩
  · have b1 : (1048576 : Int) < (xs.length : Int) := by omega
    go_enter Tryd.func3, Tryd.ntmps3
    go_wp2
    go_ret
    exact ⟨rfl, (Ext.refl w).below⟩
end Go.Proofs.YtbieoijeilhadaaDoor
