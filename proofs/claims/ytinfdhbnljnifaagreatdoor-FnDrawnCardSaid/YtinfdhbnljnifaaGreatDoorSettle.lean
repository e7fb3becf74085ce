import Derived.Test.YtinfdhbnljnifaaGreatDoorTextOf
import Derived.Test.YtinfdhbnljnifaaGreatDoorSpecClean
import Derived.Test.YtinfdhbnljnifaaGreatDoorShowable
import Derived.Lib.OthersKept
import Derived.Test.YtinfdhbnljnifaaGreatDoorKys
namespace Go.Proofs.YtinfdhbnljnifaaGreatDoor
open Go.RowKit
theorem zmu (r : Int) : 0 ≤ zbo r ∧ zbo r ≤ 1114111 := by
 unfold zbo
 split
 ·omega
 ·exact zdq r
theorem zgD : ∀ (f : Nat) (l : List Int), ∀ x ∈ zbh f l, 0 ≤ x ∧ x ≤ 1114111
 | 0, l => by simp [zbh]
 | f + 1, l => by
  intro x hx
  rw [zbh] at hx
  split at hx
  ·simp at hx
  ·rcases List.mem_cons.1 hx with rfl | h
   ·exact zmu _
   ·exact zgD f _ x h
theorem zdu (l : List Int) : zdv (zm l) := fun x hx => by
 have := zgD l.length l x hx
 omega
theorem zkA (cs : List (List Int × Int)) (c : List Int × Int) : ∀ k, k ≤ cs.length → zaY (cs ++ [c]) k = zaY cs k
 | 0, _ => rfl
 | k + 1, h => by
  rw [zaY, zaY, zkA cs c k (by omega), zef]
  rw [if_neg (by omega)]
theorem zjs (cs : List (List Int × Int)) (c : List Int × Int) (i : Nat) : ∀ k, k ≤ i → zaY (cs.set i c) k = zaY cs k
 | 0, _ => rfl
 | k + 1, h => by
  rw [zaY, zaY, zjs cs c i k (by omega)]
  have : cR (cs.set i c) k = cR cs k := by
   unfold cR
   rw [List.getElem?_set_ne (by omega)]
  rw [this]
theorem zeg (xs : List Int) : ∀ k, zaY (clF xs k) (clF xs k).length ≤ k + 1
 | 0 => by simp [clF, zaY]
 | k + 1 => by
  have ih := zeg xs k
  rw [clF, za3]
  split
  ·rw [List.length_append, show [([zaa (at0 xs k)], wid (zaa (at0 xs k)))].length = 1 from rfl, zaY, zkA _ _ _ (Nat.le_refl _), zef, if_pos rfl]
   simp; omega
  ·split
   ·simp [zaY, cR]
   ·rename_i h1 h2
    obtain ⟨m, hm⟩ : ∃ m, (clF xs k).length = m + 1 := ⟨(clF xs k).length - 1, by omega⟩
    rw [List.length_set, hm, zaY, show m + 1 - 1 = m by omega, zjs _ _ _ _ (Nat.le_refl _), zfn _ _ _ _ (by omega), if_pos rfl]
    rw [hm, zaY] at ih
    simp; omega
theorem zeU (xs : List Int) : ∀ k j, zdv (cR (clF xs k) j)
 | 0, j => by intro x hx; simp [clF, cR] at hx
 | k + 1, j => by
  have ih := zeU xs k
  have hs := zdq (at0 xs k)
  rw [clF, za3]
  split
  ·rw [zef]; split
   ·intro x hx; simp at hx; omega
   ·exact ih j
  ·split
   ·rename_i h1 h2
    by_cases hj : j = 0
    ·subst hj; intro x hx; simp [cR] at hx; omega
    ·intro x hx; simp [cR, List.getElem?_eq_none (show [(([9676, zaa (at0 xs k)] : List Int), (1 : Int))].length ≤ j by simp; omega)] at hx
   ·rename_i h1 h2
    rw [zfn _ _ _ _ (by omega)]
    split
    ·intro x hx
     rcases List.mem_append.1 hx with h | h
     ·exact ih _ x h
     ·simp at h; omega
    ·exact ih j
theorem zfA (xs : List Int) (h : xs.length ≤ 8000000) : (zaB xs).length + zaY (zaB xs) (zaB xs).length ≤ 16777216 := by
 have := zeb xs xs.length
 have := zeg xs xs.length
 unfold zaB; omega
def zas (bs : List Int) : List Int := zy (zaB (zm bs))
theorem zdR (bs : List Int) : (zas bs).length ≤ 4 * bs.length + 4 := by
 have h1 := zch (zaB (zm bs)) (zaB (zm bs)).length
 have h2 := zeg (zm bs) (zm bs).length
 have h3 := zaJ bs
 unfold zas zy
 unfold zaB at h1 ⊢
 omega
theorem zh2 (xs : List Int) : ∀ k, zv (txR xs k)
 | 0 => by intro x hx; simp [txR] at hx
 | k + 1 => by
  intro x hx
  rw [txR] at hx
  rcases List.mem_append.1 hx with h | h
  ·exact zh2 xs k x h
  ·exact zdF _ x h
theorem zen (cs : List (List Int × Int)) : ∀ k, zv (txT cs k)
 | 0 => by intro x hx; simp [txT] at hx
 | k + 1 => by
  intro x hx
  rw [txT] at hx
  rcases List.mem_append.1 hx with h | h
  ·exact zen cs k x h
  ·exact zh2 _ _ x h
theorem zhY (bs : List Int) : zv (zas bs) := zen _ _
theorem zec {P : Program} (w : World) (src dst e : TypeId) (hs : P.underlying src = some .string) (hd : P.underlying dst = some (.slice e)) (he : P.underlying e = some (.int .u8)) (zs : List Int) (hz : zv zs) :
  ∃ v W', (convert src dst (.string (zo zs))).run P w = .ok v W' ∧ zx W' .u8 v zs ∧ Ext w W' := by
 have hr := run_bytes_of_string (P := P) w src dst e (zo zs) hs hd he
 rw [zai] at hr
 obtain ⟨cap, W', h1, h2, h3, h4⟩ := zgd (P := P) w src dst e hs hd he zs hz
 have h5 := h1
 rw [hr] at h5
 injection h5 with h6 h7
 injection h6 with h8 h9 h10
 refine ⟨_, _, h1, ⟨_, _, rfl, ?_, fun hp => ⟨_, _, rfl, fun j hj => ?_⟩⟩, h2⟩
 ·rw [← h10]; exact grownCap_ge w zs.length 0 e
 ·have h11 := h4 j (.int .u8 (at0 zs j)) (by simp [zfN hj])
  rw [Addr.add_lit] at h11
  exact h11
set_option maxRecDepth 10000 in
set_option maxHeartbeats 1000000 in
theorem zg3 (bs : List Int) (hb : zv bs) (w : World) (hl : bs.length ≤ 8000000) :
  Calls Tryz.prog 192 #[.string (zo bs)] w fun e w' => e = .returned (.string (zo (zas bs))) ∧ Ext w w' := by
 obtain ⟨v0, w0, hrun, h0, E0⟩ := zec (P := Tryz.prog) w _ _ _ Tryz.underlying9 Tryz.underlying22 Tryz.underlying5 bs hb
 have hcl := zaJ bs
 have H0 := zh h0
 go_enter Tryz.func192, Tryz.ntmps192
 go_wp2_with fail
 refine (zbn bs hb v0 w0 (zu H0) (by omega)).mono ?_
 rintro e w1 ⟨v1, rfl, o1, E1⟩
 go_wp2_with fail
 refine (zbv v1 (zm bs) w1 (zz o1) (zdu bs) (by omega)).mono ?_
 rintro e w2 ⟨v2, rs2, rfl, o2, E2⟩
 have O2 := zh o2
 clear o1 o2
 go_wp2_with fail
 refine (zaf v2 (zaB (zm bs)) w2 (zu O2).cls (zfA _ (by omega)) (fun j _ => zeU _ _ j)).mono ?_
 rintro e w3 ⟨rfl, E3⟩
 go_wp2
 go_ret
 exact ⟨rfl, ((E0.trans E1).trans E2).trans E3⟩
end Go.Proofs.YtinfdhbnljnifaaGreatDoor
