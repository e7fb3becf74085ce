import Derived.Test.YtlnmpbdnmlpkiaaDoorAllOk
import Derived.Test.YtlnmpbdnmlpkiaaDoorLineI
namespace Go.Proofs.YtlnmpbdnmlpkiaaDoor
open Go.RowKit

def SetP (bs : List Int) : Prop := settleL bs = bs
theorem settled_ba (a : ByteArray) (w : World) (hla : a.size ≤ 1048576) (hT : Tabs3 w) (ok : Bool) (hok : ok = true ↔ SetP (baL a)) :
    Calls Tryd.prog 158 #[.string a] w fun e w' => e = .returned (.bool ok) ∧ Ext w w' := by
  have h := settledT_any (baL a) (baL_bytes a) w (by rw [baL_len]; omega) hT ok hok
  rwa [toBA_baL] at h
set_option maxRecDepth 10000 in
set_option maxHeartbeats 1000000 in
theorem allOk1_text (x : ByteArray) (B : Nat) (w : World) (hx : x.size ≤ 1048576) (hT : Tabs3 w) (hq : w.cell? ⟨B, 0, none⟩ = some (.func (.func 83) #[] #[])) (ok : Bool) (hok : ok = true ↔ TextP (baL x)) :
    Calls Tryd.prog 187 #[.string x, .pointer (some ⟨B, 0, none⟩)] w fun e w' => e = .returned (.bool (!ok)) ∧ Ext w w' := by
  have hcon := hide (textOk_ba x w hx hT ok hok)
  clear hok hT
  go_enter Tryd.func187, Tryd.ntmps187
  go_wp2_with fail
  refine (unhide hcon).mono ?_
  rintro e w1 ⟨rfl, F1⟩
  go_wp2
  go_ret
  exact ⟨rfl, F1⟩
set_option maxRecDepth 10000 in
set_option maxHeartbeats 1000000 in
theorem allOk_text (v : Value) (n : Nat) (tx : Nat → ByteArray) (w : World) (hv : Row1At w v n (fun j => .string (tx j))) (hn : n ≤ 1048576) (hx : ∀ j, j < n → (tx j).size ≤ 1048576) (hT : Tabs3 w) (ok : Bool) (hok : ok = true ↔ ∀ j, j < n → TextP (baL (tx j))) :
    Calls Tryd.prog 160 #[v, .func (.func 83) #[] #[]] w fun e w' => e = .returned (.bool ok) ∧ Ext w w' := by
  have each : ∀ j, ∃ b : Bool, b = true ↔ TextP (baL (tx j)) := fun j => by
    by_cases h : TextP (baL (tx j))
    · exact ⟨true, by simp [h]⟩
    · exact ⟨false, by simp [h]⟩
  obtain ⟨b, hb⟩ := Classical.axiomOfChoice each
  have E0 := (Ext.refl w).alloc (.cells #[.func (.func 83) #[] #[]] 100)
  have c0 := cells_of (new_block w (.cells #[.func (.func 83) #[] #[]] 100)) 0 _ rfl
  obtain ⟨V, hV⟩ : ∃ V, V = w.alloc (.cells #[.func (.func 83) #[] #[]] 100) := ⟨_, rfl⟩
  rw [← hV] at E0 c0
  have HV := hide hV
  have hcon := hide (containsFunc_clo v n tx (fun j => !b j) ⟨w.heap.size, 0, none⟩ V (hv.ext E0) (by omega) (fun j hj W hW => allOk1_text (tx j) w.heap.size W (hx j hj) (hT.ext (E0.trans hW)) (hW.cell c0) (b j) (hb j)) (!ok) (by
    rw [Bool.not_eq_true', ← Bool.not_eq_true, hok]
    constructor
    · intro h
      refine Classical.byContradiction fun h2 => h fun j hj => (hb j).1 ?_
      cases e : b j with
      | true => rfl
      | false => exact absurd ⟨j, hj, by simp [e]⟩ h2
    · rintro ⟨j, hj, h⟩ h2
      rw [(hb j).2 (h2 j hj)] at h
      cases h))
  obtain ⟨ao, ca, rfl, _, _⟩ := hv
  clear hV hok hb hT hx each
  go_enter Tryd.func160, Tryd.ntmps160
  go_wp2_with fail
  rw [← unhide HV]
  refine (unhide hcon).mono ?_
  rintro e w1 ⟨rfl, F1⟩
  go_wp2
  go_ret
  exact ⟨ret_bool (by simp), E0.trans F1⟩
set_option maxRecDepth 10000 in
set_option maxHeartbeats 1000000 in
theorem allOk1_set (x : ByteArray) (B : Nat) (w : World) (hx : x.size ≤ 1048576) (hT : Tabs3 w) (hq : w.cell? ⟨B, 0, none⟩ = some (.func (.func 158) #[] #[])) (ok : Bool) (hok : ok = true ↔ SetP (baL x)) :
    Calls Tryd.prog 187 #[.string x, .pointer (some ⟨B, 0, none⟩)] w fun e w' => e = .returned (.bool (!ok)) ∧ Ext w w' := by
  have hcon := hide (settled_ba x w hx hT ok hok)
  clear hok hT
  go_enter Tryd.func187, Tryd.ntmps187
  go_wp2_with fail
  refine (unhide hcon).mono ?_
  rintro e w1 ⟨rfl, F1⟩
  go_wp2
  go_ret
  exact ⟨rfl, F1⟩
set_option maxRecDepth 10000 in
set_option maxHeartbeats 1000000 in
theorem allOk_set (v : Value) (n : Nat) (tx : Nat → ByteArray) (w : World) (hv : Row1At w v n (fun j => .string (tx j))) (hn : n ≤ 1048576) (hx : ∀ j, j < n → (tx j).size ≤ 1048576) (hT : Tabs3 w) (ok : Bool) (hok : ok = true ↔ ∀ j, j < n → SetP (baL (tx j))) :
    Calls Tryd.prog 160 #[v, .func (.func 158) #[] #[]] w fun e w' => e = .returned (.bool ok) ∧ Ext w w' := by
  have each : ∀ j, ∃ b : Bool, b = true ↔ SetP (baL (tx j)) := fun j => by
    by_cases h : SetP (baL (tx j))
    · exact ⟨true, by simp [h]⟩
    · exact ⟨false, by simp [h]⟩
  obtain ⟨b, hb⟩ := Classical.axiomOfChoice each
  have E0 := (Ext.refl w).alloc (.cells #[.func (.func 158) #[] #[]] 100)
  have c0 := cells_of (new_block w (.cells #[.func (.func 158) #[] #[]] 100)) 0 _ rfl
  obtain ⟨V, hV⟩ : ∃ V, V = w.alloc (.cells #[.func (.func 158) #[] #[]] 100) := ⟨_, rfl⟩
  rw [← hV] at E0 c0
  have HV := hide hV
  have hcon := hide (containsFunc_clo v n tx (fun j => !b j) ⟨w.heap.size, 0, none⟩ V (hv.ext E0) (by omega) (fun j hj W hW => allOk1_set (tx j) w.heap.size W (hx j hj) (hT.ext (E0.trans hW)) (hW.cell c0) (b j) (hb j)) (!ok) (by
    rw [Bool.not_eq_true', ← Bool.not_eq_true, hok]
    constructor
    · intro h
      refine Classical.byContradiction fun h2 => h fun j hj => (hb j).1 ?_
      cases e : b j with
      | true => rfl
      | false => exact absurd ⟨j, hj, by simp [e]⟩ h2
    · rintro ⟨j, hj, h⟩ h2
      rw [(hb j).2 (h2 j hj)] at h
      cases h))
  obtain ⟨ao, ca, rfl, _, _⟩ := hv
  clear hV hok hb hT hx each
  go_enter Tryd.func160, Tryd.ntmps160
  go_wp2_with fail
  rw [← unhide HV]
  refine (unhide hcon).mono ?_
  rintro e w1 ⟨rfl, F1⟩
  go_wp2
  go_ret
  exact ⟨ret_bool (by simp), E0.trans F1⟩
set_option maxRecDepth 10000 in
set_option maxHeartbeats 1000000 in
theorem promptOk_any (x : ByteArray) (w : World) (hx : x.size ≤ 1048576) (hT : Tabs3 w) (ok : Bool) (hok : ok = true ↔ SetP (baL x) ∧ (cleanL (baL x)).length ≤ 40) :
    Calls Tryd.prog 111 #[.string x] w fun e w' => e = .returned (.bool ok) ∧ Ext w w' := by
  have hk := cleanL_len (baL x)
  rw [baL_len] at hk
  have hrc : ∀ W, Calls Tryd.prog 159 #[.string x] W fun e w' => e = .returned (.int .i64 ((cleanL (baL x)).length : Int)) ∧ Ext W w' := fun W => by
    have h := runeCount_any (baL x) (baL_bytes x) W (by rw [baL_len]; omega)
    rwa [toBA_baL] at h
  have HRC := hide hrc
  have HK := hide hok
  clear hrc hok
  by_cases hs : SetP (baL x)
  · have hcon := hide (settled_ba x w hx hT true (by simp [hs]))
    by_cases hl : ((cleanL (baL x)).length : Int) ≤ 40
    · have hfin : Hid (ok = true) := hide ((unhide HK).2 ⟨hs, by omega⟩)
      clear hs hT
      go_enter Tryd.func111, Tryd.ntmps111
      go_wp2_with fail
      refine (unhide hcon).mono ?_
      rintro e w1 ⟨rfl, F1⟩
      go_wp2_with fail
      refine ((unhide HRC) w1).mono ?_
      rintro e w2 ⟨rfl, F2⟩
      go_wp2
      go_ret
      exact ⟨ret_bool (unhide hfin).symm, F1.trans F2⟩
    · have hfin : Hid (ok = false) := by
        refine hide ?_
        cases hc : ok with
        | false => rfl
        | true => exact absurd ((unhide HK).1 hc).2 (by omega)
      clear hs hT
      go_enter Tryd.func111, Tryd.ntmps111
      go_wp2_with fail
      refine (unhide hcon).mono ?_
      rintro e w1 ⟨rfl, F1⟩
      go_wp2_with fail
      refine ((unhide HRC) w1).mono ?_
      rintro e w2 ⟨rfl, F2⟩
      go_wp2
      go_ret
      exact ⟨ret_bool (by rw [unhide hfin]; exact decide_eq_false (by omega)), F1.trans F2⟩
  · have hcon := hide (settled_ba x w hx hT false (by simp [hs]))
    have hfin : Hid (ok = false) := by
      refine hide ?_
      cases hc : ok with
      | false => rfl
      | true => exact absurd ((unhide HK).1 hc).1 hs
    clear hs hT
    go_enter Tryd.func111, Tryd.ntmps111
    go_wp2_with fail
    refine (unhide hcon).mono ?_
    rintro e w1 ⟨rfl, F1⟩
    go_wp2
    go_ret
    exact ⟨ret_bool (unhide hfin).symm, F1⟩
end Go.Proofs.YtlnmpbdnmlpkiaaDoor
