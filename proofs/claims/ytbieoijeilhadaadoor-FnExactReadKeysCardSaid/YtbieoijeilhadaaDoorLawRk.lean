import Derived.Test.YtbieoijeilhadaaDoorKdKr
import Derived.Test.YtbieoijeilhadaaDoorRkZ
namespace Go.Proofs.YtbieoijeilhadaaDoor
open Go.ChangeShapes Go.WideShapes Go.ChangeAt Go.RowKit Go.Deep
theorem rkStep_few {s : List Int} {p : Bool} {ks : List (List Int × Int)} {m : Nat} {q : Bool} (h : rkStep s p = some (ks, m, q)) : ks.length ≤ 1 := by
  unfold rkStep at h
  split at h
  · simp at h
  · split at h
    · cases he : endF s with
      | none => rw [he] at h; simp at h
      | some k =>
        rw [he] at h
        simp at h
        rw [← h.1]
        simp
    · split at h
      · simp at h
      · simp at h
        rw [← h.1]
        unfold keyT
        (repeat' split) <;> simp
theorem sumK_app (a b : List (List Int × Int)) : sumK (a ++ b) = sumK a + sumK b := by unfold sumK; rw [List.map_append, List.sum_append]
theorem rk_sum : ∀ (f : Nat) (s : List Int) (p : Bool), s.length ≤ f → sumK (rk s p).1 ≤ (rk s p).2.1 := by
  intro f
  induction f with
  | zero =>
    intro s p hf
    have e : s = [] := List.eq_nil_of_length_eq_zero (by omega)
    subst e
    rw [rk_nil]
    simp [sumK]
  | succ f ih =>
    intro s p hf
    cases hst : rkStep s p with
    | none => rw [rk_none hst]; simp [sumK]
    | some x =>
      obtain ⟨ks, m, q⟩ := x
      have hm := rkStep_n hst
      have ho := (rkStep_ok hst).2
      have hf1 := rkStep_few hst
      rw [rk_some hst]
      have hd : (s.drop m).length = s.length - m := by simp
      have := ih (s.drop m) q (by omega)
      show sumK (ks ++ _) ≤ m + _
      rw [sumK_app]
      have hk : sumK ks ≤ m := by
        match ks, hf1, ho with
        | [], _, _ => simp [sumK]
        | [k], _, ho => have := (ho k (by simp)).2; simpa [sumK] using this
      omega
theorem rk_sizes (s : List Int) (p : Bool) : (rk s p).1.length ≤ s.length ∧ sumK (rk s p).1 ≤ s.length ∧ (rkH s p).length ≤ s.length := by
  have h1 := rk_len s.length s p (Nat.le_refl _)
  have h2 := rk_sum s.length s p (Nat.le_refl _)
  have h3 := rkH_len s p
  omega
set_option maxHeartbeats 1000000 in
theorem fnExactReadKeys_great (ha : Option Addr) (hn hc : Nat) (p : Bool) (ao : Option Addr) (n cap : Nat) (w : World) (hl : ¬ n ≤ 1048576) :
    Calls Tryd.prog 4 #[.agg #[.slice ha hn hc, .bool p], .slice ao n cap] w fun e w' => e = .returned (.bool true) ∧ Below w.heap.size w w' := by
  have b1 : (1048576 : Int) < (n : Int) := by omega
  go_enter Tryd.func4, Tryd.ntmps4
  go_wp2
  go_ret
  exact ⟨rfl, ((Ext.refl w).alloc _).below⟩
theorem fnExactReadKeys_walk (ha : Option Addr) (hc : Nat) (hs : List Int) (p : Bool) (ao : Option Addr) (cap : Nat) (bs : List Int) (w : World) (hh : IntsAt w .u8 (.slice ha hs.length hc) hs) (hB : Bytes hs) (hlen : (hs.length : Int) ≤ 9223372036854775807) (hv : IntsAt w .u8 (.slice ao bs.length cap) bs) (hB2 : Bytes bs) (hT : Tabs2 w) :
    Calls Tryd.prog 4 #[.agg #[.slice ha hs.length hc, .bool p], .slice ao bs.length cap] w fun e w' => e = .returned (.bool true) ∧ Below w.heap.size w w' := by
  by_cases hl : bs.length ≤ 1048576
  · have hz := rk_sizes (hs ++ bs) p
    rw [List.length_append] at hz
    refine law_ReadKeys ha hs.length hc p ao bs.length cap w hl (krK hs p) (fun k => krK (mkU8 k hs.length) p) hs.length (bytesK bs) (fun k => bytesK (mkU8 k bs.length)) bs.length
      (krK (rkH (hs ++ bs) p) (rk (hs ++ bs) p).2.2) (fun k => krK (mkU8 k (rkH (hs ++ bs) p).length) (rk (hs ++ bs) p).2.2) (rkH (hs ++ bs) p).length (kysK (rk (hs ++ bs) p).1) (fun k => kysK (mkKys k (rk (hs ++ bs) p).1)) ((rk (hs ++ bs) p).1.length + sumK (rk (hs ++ bs) p).1) (hs.length ≤ 1048576)
      ?_ ?_ ?_ ?_ ?_ ?_ ?_ ?_ ?_ ?_ ?_ ?_ ?_ ?_ ?_ ?_ ?_ ?_ ?_
    · refine hide (fun W hW => (szKeyReader_any ha hs.length hc p 1048576 W (by omega) (by omega) hlen).mono ?_)
      rintro e w' ⟨r, rfl, hr, F⟩
      refine ⟨r, rfl, fun h0 => ?_, F⟩
      rcases hr with ⟨h1, _⟩ | ⟨h1, _⟩ <;> omega
    · refine hide (fun hb W hW => (toKeyReader_any _ hs p W (hh.ext hW) (by omega)).mono ?_)
      rintro e w' ⟨rfl, o, F⟩
      exact ⟨_, _, rfl, krK_own (owns_mono o (by omega)), F⟩
    · exact hide (fun W u hu => by
        obtain ⟨a, c, e⟩ := krK_shape hu
        exact ⟨_, _, _, _, e⟩)
    · exact hide (fun hb => krK_eq hs p (by omega))
    · exact hide (fun hb => ⟨krK_mark hs p (by omega), by omega⟩)
    · refine hide (fun hb W hW => (toByteS_any _ bs W (hv.ext hW) (by omega)).mono ?_)
      rintro e w' ⟨rfl, o, F⟩
      exact ⟨_, _, rfl, bytesK_own o, F⟩
    · exact hide (fun W u hu => by
        obtain ⟨a, c, e⟩ := bytesK_shape hu
        exact ⟨_, _, _, e⟩)
    · exact hide (fun hb => bytesK_eq bs (by omega))
    · exact hide (fun hb => ⟨bytesK_mark bs (by omega), by omega⟩)
    · refine hide (fun hb W u0 u1 hW h0 h1 => ?_)
      obtain ⟨a, c, rfl⟩ := krK_shape h0
      obtain ⟨u, e, hu⟩ := h0
      have e2 : u = .slice a hs.length c := by simpa using e.symm
      subst e2
      refine (specReadKeys_any a c hs bs p u1 W hu h1 hB hB2 (by omega)).mono ?_
      rintro e w' ⟨⟨hv, kv, rs, rfl, o1, o2⟩, F⟩
      exact ⟨_, _, rfl, ⟨_, rfl, ints_of_owns o1⟩, o2.cls, F⟩
    · refine hide (fun hb W u0 u1 hW h0 h1 => ?_)
      obtain ⟨a, c, rfl⟩ := krK_shape h0
      obtain ⟨u, e, hu⟩ := h0
      have e2 : u = .slice a hs.length c := by simpa using e.symm
      subst e2
      refine (implReadKeys_any a c hs bs p u1 W hu h1 hB hB2 (by omega) (hT.ext hW)).mono ?_
      rintro e w' ⟨⟨hv, kv, rs, rfl, o1, o2⟩, F⟩
      exact ⟨_, _, _, _, rfl, krK_own o1, kysK_own o2, fun g hg hf => kys_foot_apart o1 o2 g hf hg, F⟩
    · exact hide (fun W u hu => by
        obtain ⟨a, c, e⟩ := krK_shape hu
        exact ⟨_, _, _, _, e⟩)
    · exact hide (fun hb => krK_eq _ _ (by omega))
    · exact hide (fun hb => ⟨krK_mark _ _ (by omega), by omega⟩)
    · exact hide (fun hb => krK_held _ _ (by omega))
    · exact hide (fun W u hu => by
        obtain ⟨a, c, e⟩ := kysK_shape hu
        exact ⟨_, _, _, e⟩)
    · exact hide (fun hb => kysK_eq _ (by omega) (by omega))
    · exact hide (fun hb => ⟨kysK_mark _ (by omega) (by omega), by omega⟩)
    · exact hide (fun hb => kysK_held _ (by omega) (by omega))
  · exact fnExactReadKeys_great ha hs.length hc p ao bs.length cap w hl
end Go.Proofs.YtbieoijeilhadaaDoor
