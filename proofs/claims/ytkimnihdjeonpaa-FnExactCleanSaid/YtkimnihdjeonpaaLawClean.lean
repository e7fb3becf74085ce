import Derived.Test.YtkimnihdjeonpaaImplClean
import Derived.Test.YtkimnihdjeonpaaI32s
import Derived.Test.YtkimnihdjeonpaaU8s
namespace Go.Proofs.Ytkimnihdjeonpaa
open Go.RowKit
theorem owned_ge {w : World} {base : Nat} {e : TypeId} {size : Nat} {v : Value} {n : Nat} {xs : List Value} (h : w.ownsRow base e size v n xs) {row : Option Nat} (hr : ∀ g, row = some g → g < base) : v.ownBlock = none ∨ v.ownBlock ≠ row := by
  cases hv : v.ownBlock with
  | none => exact .inl rfl
  | some g =>
    right
    intro e
    have := (h.lt g hv).1
    have := hr g e.symm
    omega
set_option maxHeartbeats 1000000 in
theorem fnExactClean_small (va : Value) (bs : List Int) (hb : Bytes bs) (w : World) (hv : IntsAt w .u8 va bs) (hl : bs.length ≤ 1048576) :
    Calls Try.prog 4 #[va] w fun e w' => e = .returned (.bool true) ∧ Below w.heap.size w w' := by
  have hv0 := hv
  have hcl := cleanL_len bs
  obtain ⟨ao, cap, rfl, hcap, hr⟩ := hv
  clear hr
  go_enter Try.func4, Try.ntmps4
  go_wp2_with fail
  refine (toByteS_any _ bs _ hv0 (by omega)).mono ?_
  rintro e w1 ⟨rfl, o1, E1⟩
  go_wp2_with fail
  refine (specClean_any bs hb _ _ (ints_of_owns o1) (by omega)).mono ?_
  rintro e w2 ⟨ws, rfl, os2, F2⟩
  have E2 := E1.trans F2
  clear o1
  go_wp2_with fail
  refine (toByteS_any _ bs _ (hv0.ext E2) (by omega)).mono ?_
  rintro e w3 ⟨rfl, ox3, F3⟩
  have E3 := E2.trans F3
  go_wp2_with fail
  refine (implClean_any bs hb _ _ (ints_of_owns ox3) (by omega)).mono ?_
  rintro e w4 ⟨vg, rfl, og4, F4⟩
  have E4 := E3.trans F4
  have os4 := F4.owns (F3.owns os2)
  have ox4 := F4.owns ox3
  go_wp2_with fail
  refine (eqInt32S_same _ _ _ _ (ints_of_owns og4) (ints_of_owns os4) (by omega)).mono ?_
  rintro e w5 ⟨rfl, F5⟩
  have E5 := E4.trans F5
  go_wp2_with fail
  refine (toByteS_any _ bs _ (hv0.ext E5) (by omega)).mono ?_
  rintro e w6 ⟨rfl, oy6, F6⟩
  have E6 := E5.trans F6
  have ox6 := F6.owns (F5.owns ox4)
  go_wp2_with fail
  refine (eqByteS_same _ _ bs _ (ints_of_owns ox6) (ints_of_owns oy6) (by omega)).mono ?_
  rintro e w7 ⟨rfl, F7⟩
  clear oy6
  have E7 := E6.trans F7
  have ox7 := F7.owns ox6
  have os7 := F7.owns (F6.owns (F5.owns os4))
  have og7 := F7.owns (F6.owns (F5.owns og4))
  have z23 : w2.heap.size < w3.heap.size := (ox3.lt w2.heap.size rfl).2
  have z02 := E2.size
  have z03 := E3.size
  clear ox3 ox4 ox6 os4 og4
  go_wp2_with fail
  refine (markByteS_any w2.heap.size _ _ _ 1 _ ox7 (by omega) (by omega) (by omega)).mono ?_
  rintro e w8 ⟨rfl, -, G8⟩
  have E8 : Ext w w8 := E7.grown G8 (fun k hk => by simp [Value.ownBlock] at hk; omega)
  have og8 := og7.kept G8 (owned_ge og7 (fun g hg => by simp [Value.ownBlock] at hg; omega))
  have os8 := os7.kept G8 (by
    cases hv : ws.ownBlock with
    | none => exact .inl rfl
    | some g =>
      right
      have := (os2.lt g hv).2
      simp [Value.ownBlock]; omega)
  clear og7 os7 ox7 G8
  have hk1 : (0 : Int) ≤ 1 + (bs.length : Int) := by omega
  have hk2 : ¬ (1 : Int) + (bs.length : Int) < 0 := by omega
  go_wp2_with fail
  refine (eqInt32S_same _ _ _ _ (ints_of_owns og8) (ints_of_owns os8) (by omega)).mono ?_
  rintro e w9 ⟨rfl, F9⟩
  have E9 := E8.trans F9
  have og9 := F9.owns og8
  have os9 := F9.owns os8
  clear og8 os8
  go_wp2_with fail
  refine (markInt32S_any w3.heap.size _ _ _ 1 _ og9 (by omega) (by omega) (by omega)).mono ?_
  rintro e w10 ⟨rfl, om10, G10⟩
  have E10 : Ext w w10 := E9.grown G10 (fun k hk => by have := (og9.lt k hk).1; omega)
  have os10 := os9.kept G10 (by
    cases hv : ws.ownBlock with
    | none => exact .inl rfl
    | some g =>
      right
      intro e
      have := (os2.lt g hv).2
      have := (og9.lt g e.symm).1
      omega)
  have om10' : w10.ownsRow w3.heap.size 21 1 vg (mkI32 1 (cleanL bs).length).length ((mkI32 1 (cleanL bs).length).map (Value.int .i32)) := by rw [mkI32_len]; exact om10
  clear og9 os9 G10 om10
  go_wp2_with fail
  refine (heldInt32S_any _ _ 1 _ (ints_of_owns om10') (by omega) (by omega) (by omega)).mono ?_
  rintro e w11 ⟨rfl, F11⟩
  have E11 := E10.trans F11
  have hq1 : ¬ (1 : Int) + ((cleanL bs).length : Int) < 0 := by omega
  go_wp2_with fail
  refine (toByteS_any _ bs _ (hv0.ext E11) (by omega)).mono ?_
  rintro e w12 ⟨rfl, oy12, F12⟩
  go_wp2_with fail
  refine (implClean_any bs hb _ _ (ints_of_owns oy12) (by omega)).mono ?_
  rintro e w13 ⟨vh, rfl, oh13, F13⟩
  have os13 := F13.owns (F12.owns (F11.owns os10))
  have om13 := F13.owns (F12.owns (F11.owns om10'))
  have E13 := (E11.trans F12).trans F13
  clear oy12 os10 om10'
  go_wp2_with fail
  refine (eqInt32S_same _ _ _ _ (ints_of_owns oh13) (ints_of_owns os13) (by omega)).mono ?_
  rintro e w14 ⟨rfl, F14⟩
  have om14 := F14.owns om13
  go_wp2_with fail
  refine (heldInt32S_any _ _ 1 _ (ints_of_owns om14) (by omega) (by omega) (by omega)).mono ?_
  rintro e w15 ⟨rfl, F15⟩
  go_wp2
  go_ret
  exact ⟨rfl, ((E13.trans F14).trans F15).below⟩
theorem fnExactClean_great (ao : Option Addr) (n cap : Nat) (w : World) (hl : ¬ n ≤ 1048576) :
    Calls Try.prog 4 #[.slice ao n cap] w fun e w' => e = .returned (.bool true) ∧ Below w.heap.size w w' := by
  have h : (1048576 : Int) < (n : Int) := by omega
  go_enter Try.func4, Try.ntmps4
  go_wp2
  go_ret
  exact ⟨rfl, Below.refl _ _⟩
end Go.Proofs.Ytkimnihdjeonpaa
