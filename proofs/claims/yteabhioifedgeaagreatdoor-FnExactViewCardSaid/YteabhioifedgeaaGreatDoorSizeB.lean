import Derived.Test.YteabhioifedgeaaGreatDoorSnapOk
import Derived.Test.YteabhioifedgeaaGreatDoorDrawM
import Derived.Test.YteabhioifedgeaaGreatDoorRows12
import Derived.Test.YteabhioifedgeaaGreatDoorWhole
import Derived.Test.YteabhioifedgeaaGreatDoorAllOk
import Derived.Lib.TrimByte
import Derived.Test.YteabhioifedgeaaGreatDoorShelf3
import Derived.Shelf.Strings.Prefix
import Derived.Test.YteabhioifedgeaaGreatDoorBase
import Derived.Test.YteabhioifedgeaaGreatDoorChecked
namespace Go.Proofs.YteabhioifedgeaaGreatDoor
open Go.RowKit

theorem toBA_nil : toBA [] = { data := #[] } := rfl
/-- What textOk says. -/
def TextP (bs : List Int) : Prop := settleL bs = bs ∧ (cleanL bs).length ≤ 300
theorem TextP_snap (bs : List Int) : TextP bs ↔ SnapP bs [] := by
  unfold TextP SnapP
  have e1 : settleL [] = [] := rfl
  have e2 : cleanL [] = [] := rfl
  simp [e1, e2]
set_option maxRecDepth 10000 in
set_option maxHeartbeats 1000000 in
theorem textOk_any (bs : List Int) (hb : Bytes bs) (w : World) (hl : bs.length ≤ 16777216) (hT : Tabs3 w) (ok : Bool) (hok : ok = true ↔ TextP bs) :
    Calls Tryz.prog 247 #[.string (toBA bs)] w fun e w' => e = .returned (.bool ok) ∧ Ext w w' := by
  have hs := fun W (hW : Ext w W) => snapOk_any bs [] hb (fun x hx => by simp at hx) W hl (by simp) (hT.ext hW) ok (by rw [hok, TextP_snap])
  rw [toBA_nil] at hs
  have HS := hide hs
  clear hs hok
  go_enter Tryz.func247, Tryz.ntmps247
  go_wp2_with fail
  refine ((unhide HS) _ (Ext.refl _)).mono ?_
  rintro e w1 ⟨rfl, F1⟩
  go_wp2
  go_ret
  exact ⟨rfl, F1⟩
end Go.Proofs.YteabhioifedgeaaGreatDoor

namespace Go.Proofs.YteabhioifedgeaaGreatDoor
open Go.RowKit

/-- A valid line. -/
def LineP (a b c : ByteArray) (n : Nat) (tx hf : Nat → ByteArray) : Prop := n ≤ 50 ∧ SnapP (baL a) (baL b) ∧ TextP (baL c) ∧ ∀ j, j < n → SnapP (baL (tx j)) (baL (hf j))
abbrev snapD (x y : List Int) : Decidable (SnapP x y) := inferInstanceAs (Decidable (settleL x = x ∧ settleL y = y ∧ (cleanL x).length + (cleanL y).length ≤ 300))
abbrev lineD (a b c : ByteArray) (n : Nat) (tx hf : Nat → ByteArray) : Decidable (LineP a b c n tx hf) := @instDecidableAnd _ _ _ (@instDecidableAnd _ _ (snapD _ _) (@instDecidableAnd _ _ (inferInstanceAs (Decidable (settleL (baL c) = baL c ∧ (cleanL (baL c)).length ≤ 300))) (@Nat.decidableBallLT n _ (fun j _ => snapD (baL (tx j)) (baL (hf j))))))
theorem ex_bool (p : Prop) : ∃ b : Bool, b = true ↔ p := by
  by_cases h : p
  · exact ⟨true, by simp [h]⟩
  · exact ⟨false, by simp [h]⟩
theorem not_ok {ok : Bool} {p : Prop} (h : ok = true ↔ p) (hn : ¬ p) : ok = false := by
  cases hc : ok with
  | false => rfl
  | true => exact absurd (h.1 hc) hn
theorem snapOk_ba (a b : ByteArray) (w : World) (hla : a.size ≤ 1048576) (hlb : b.size ≤ 1048576) (hT : Tabs3 w) (ok : Bool) (hok : ok = true ↔ SnapP (baL a) (baL b)) :
    Calls Tryz.prog 246 #[.agg #[.string a, .string b]] w fun e w' => e = .returned (.bool ok) ∧ Ext w w' := by
  have h := snapOk_any (baL a) (baL b) (baL_bytes a) (baL_bytes b) w (by rw [baL_len]; omega) (by rw [baL_len]; omega) hT ok hok
  rwa [toBA_baL, toBA_baL] at h
theorem textOk_ba (a : ByteArray) (w : World) (hla : a.size ≤ 1048576) (hT : Tabs3 w) (ok : Bool) (hok : ok = true ↔ TextP (baL a)) :
    Calls Tryz.prog 247 #[.string a] w fun e w' => e = .returned (.bool ok) ∧ Ext w w' := by
  have h := textOk_any (baL a) (baL_bytes a) w (by rw [baL_len]; omega) hT ok hok
  rwa [toBA_baL] at h
set_option maxRecDepth 10000 in
set_option maxHeartbeats 4000000 in
theorem implLineOk_any (a b c : ByteArray) (v : Value) (n : Nat) (tx hf : Nat → ByteArray) (w : World) (hv : Row2At w v n (fun j => .string (tx j)) (fun j => .string (hf j))) (ha : a.size ≤ 1048576) (hb : b.size ≤ 1048576) (hc : c.size ≤ 1048576) (hn : n ≤ 1048576) (hx : ∀ j, j < n → (tx j).size ≤ 1048576 ∧ (hf j).size ≤ 1048576) (hT : Tabs3 w) (ok : Bool) (hok : ok = true ↔ LineP a b c n tx hf) :
    Calls Tryz.prog 202 #[.agg #[.string a, .string b, .string c, v]] w fun e w' => e = .returned (.bool ok) ∧ Ext w w' := by
  obtain ⟨ao, ca, rfl, hca, hxa⟩ := hv
  have HX := hide hxa
  have HZ := hide hx
  have HT := hide hT
  have HK := hide hok
  clear hxa hx hT hok
  have EW := (Ext.refl w).alloc (.cells #[.string a, .string b, .string c, .slice ao n ca] 59)
  have hbk := new_block w (.cells #[.string a, .string b, .string c, .slice ao n ca] 59)
  obtain ⟨W1, hW1⟩ : ∃ W1, W1 = w.alloc (.cells #[.string a, .string b, .string c, .slice ao n ca] 59) := ⟨_, rfl⟩
  rw [← hW1] at EW hbk
  have p0 := cells_of hbk 0 _ rfl
  have p1 := cells_of hbk 1 _ rfl
  have p2 := cells_of hbk 2 _ rfl
  have p3 := cells_of hbk 3 _ rfl
  have HW := hide hW1
  clear hW1 hbk
  obtain ⟨bs, hbs⟩ := ex_bool (SnapP (baL a) (baL b))
  have hcS := hide (fun W (hW : Ext w W) => snapOk_ba a b W ha hb ((unhide HT).ext hW) bs hbs)
  have HBS := hide hbs
  clear hbs
  obtain ⟨bt, hbt⟩ := ex_bool (TextP (baL c))
  have hcT := hide (fun W (hW : Ext w W) => textOk_ba c W hc ((unhide HT).ext hW) bt hbt)
  have HBT := hide hbt
  clear hbt
  go_enter Tryz.func202, Tryz.ntmps202
  go_wp2_with fail
  rw [← unhide HW]
  refine ((unhide hcS) _ EW).mono ?_
  rintro e w1 ⟨rfl, F1⟩
  have p2' := F1.cell p2
  have p3' := F1.cell p3
  by_cases h1 : SnapP (baL a) (baL b)
  · obtain rfl : bs = true := (unhide HBS).2 h1
    have H1 := hide h1
    clear h1
    go_wp2_with fail
    refine ((unhide hcT) _ (EW.trans F1)).mono ?_
    rintro e w2 ⟨rfl, F2⟩
    have p3' := F2.cell p3'
    have E2 := F1.trans F2
    by_cases h2 : TextP (baL c)
    · obtain rfl : bt = true := (unhide HBT).2 h2
      by_cases h3 : n ≤ 50
      · have HP := hide (And.intro (unhide H1) h2)
        have h3I : (n : Int) ≤ 50 := by omega
        clear h2
        go_wp2
        go_loopw [27] (fun i wr => ∃ k : Nat, k ≤ n ∧ i = .int .i64 k ∧ Hid (∀ j, j < k → SnapP (baL (tx j)) (baL (hf j))) ∧ Ext W1 wr) (fun i _ => n - (intOf i).toNat)
        case atStart => exact ⟨0, Nat.zero_le _, rfl, hide (fun j hj => by omega), E2⟩
        case round =>
          obtain ⟨k, hk, rfl, HJ, hext⟩ := hrel
          by_cases hlt : k < n
          · obtain ⟨bb, off, hao, hcc⟩ := (unhide HX) (by omega)
            subst hao
            have hE := EW.trans hext
            have g1 := hE.cell (hcc k hlt).1
            have g2 := hE.cell (hcc k hlt).2
            have bk : (k : Int) < (n : Int) := by omega
            have hsz := (unhide HZ) k hlt
            obtain ⟨bj, hbj⟩ := ex_bool (SnapP (baL (tx k)) (baL (hf k)))
            have HBJ := hide hbj
            have hcJ := hide (fun W (hW : Ext w W) => snapOk_ba (tx k) (hf k) W hsz.1 hsz.2 ((unhide HT).ext hW) bj hbj)
            clear hbj
            go_wp2_with fail
            refine ((unhide hcJ) _ (by repeat' first | exact hE | refine Ext.alloc ?_ _ | refine Ext.setCell ?_ (by have := hE.size; dsimp only; omega) _)).mono ?_
            rintro e w3 ⟨rfl, F3⟩
            have hE3 : Ext W1 w3 := Ext.trans (by repeat' first | exact hext | refine Ext.alloc ?_ _ | refine Ext.setCell ?_ (by have := hext.size; dsimp only; omega) _) F3
            by_cases hs : SnapP (baL (tx k)) (baL (hf k))
            · obtain rfl : bj = true := (unhide HBJ).2 hs
              have HJ2 : Hid (∀ j, j < k + 1 → SnapP (baL (tx j)) (baL (hf j))) := hide (fun j hj => by
                by_cases e : j = k
                · subst e; exact hs
                · exact (unhide HJ) j (by omega))
              clear hs
              go_wp2
              go_roundw
              case rel => exact ⟨k + 1, by omega, by go_num, HJ2, hE3⟩
              case measure => simp [intOf]; omega
            · obtain rfl : bj = false := not_ok (unhide HBJ) hs
              have hfin : Hid (ok = false) := hide (not_ok (unhide HK) (fun h => hs (h.2.2.2 k hlt)))
              clear hs
              go_wp2
              go_ret
              exact ⟨ret_bool (unhide hfin).symm, EW.trans hE3⟩
          · obtain rfl : k = n := by omega
            have hfin : Hid (ok = true) := hide ((unhide HK).2 ⟨h3, (unhide HP).1, (unhide HP).2, unhide HJ⟩)
            go_wp2
            go_ret
            exact ⟨ret_bool (unhide hfin).symm, EW.trans hext⟩
      · have h3I : ¬ (n : Int) ≤ 50 := by omega
        have hfin : Hid (ok = false) := hide (not_ok (unhide HK) (fun h => h3 h.1))
        clear h2
        go_wp2
        go_ret
        exact ⟨ret_bool (unhide hfin).symm, EW.trans E2⟩
    · obtain rfl : bt = false := not_ok (unhide HBT) h2
      have hfin : Hid (ok = false) := hide (not_ok (unhide HK) (fun h => h2 h.2.2.1))
      clear h2
      go_wp2
      go_ret
      exact ⟨ret_bool (unhide hfin).symm, EW.trans E2⟩
  · obtain rfl : bs = false := not_ok (unhide HBS) h1
    have hfin : Hid (ok = false) := hide (not_ok (unhide HK) (fun h => h1 h.2.1))
    clear h1
    go_wp2
    go_ret
    exact ⟨ret_bool (unhide hfin).symm, EW.trans F1⟩
end Go.Proofs.YteabhioifedgeaaGreatDoor

namespace Go.Proofs.YteabhioifedgeaaGreatDoor
open Go.RowKit

def SetP (bs : List Int) : Prop := settleL bs = bs
theorem settled_ba (a : ByteArray) (w : World) (hla : a.size ≤ 1048576) (hT : Tabs3 w) (ok : Bool) (hok : ok = true ↔ SetP (baL a)) :
    Calls Tryz.prog 244 #[.string a] w fun e w' => e = .returned (.bool ok) ∧ Ext w w' := by
  have h := settledT_any (baL a) (baL_bytes a) w (by rw [baL_len]; omega) hT ok hok
  rwa [toBA_baL] at h
set_option maxRecDepth 10000 in
set_option maxHeartbeats 1000000 in
theorem allOk1_text (x : ByteArray) (B : Nat) (w : World) (hx : x.size ≤ 1048576) (hT : Tabs3 w) (hq : w.cell? ⟨B, 0, none⟩ = some (.func (.func 247) #[] #[])) (ok : Bool) (hok : ok = true ↔ TextP (baL x)) :
    Calls Tryz.prog 276 #[.string x, .pointer (some ⟨B, 0, none⟩)] w fun e w' => e = .returned (.bool (!ok)) ∧ Ext w w' := by
  have hcon := hide (textOk_ba x w hx hT ok hok)
  clear hok hT
  go_enter Tryz.func276, Tryz.ntmps276
  go_wp2_with fail
  refine (unhide hcon).mono ?_
  rintro e w1 ⟨rfl, F1⟩
  go_wp2
  go_ret
  exact ⟨rfl, F1⟩
set_option maxRecDepth 10000 in
set_option maxHeartbeats 1000000 in
theorem allOk_text (v : Value) (n : Nat) (tx : Nat → ByteArray) (w : World) (hv : Row1At w v n (fun j => .string (tx j))) (hn : n ≤ 1048576) (hx : ∀ j, j < n → (tx j).size ≤ 1048576) (hT : Tabs3 w) (ok : Bool) (hok : ok = true ↔ ∀ j, j < n → TextP (baL (tx j))) :
    Calls Tryz.prog 248 #[v, .func (.func 247) #[] #[]] w fun e w' => e = .returned (.bool ok) ∧ Ext w w' := by
  have each : ∀ j, ∃ b : Bool, b = true ↔ TextP (baL (tx j)) := fun j => by
    by_cases h : TextP (baL (tx j))
    · exact ⟨true, by simp [h]⟩
    · exact ⟨false, by simp [h]⟩
  obtain ⟨b, hb⟩ := Classical.axiomOfChoice each
  have E0 := (Ext.refl w).alloc (.cells #[.func (.func 247) #[] #[]] 228)
  have c0 := cells_of (new_block w (.cells #[.func (.func 247) #[] #[]] 228)) 0 _ rfl
  obtain ⟨V, hV⟩ : ∃ V, V = w.alloc (.cells #[.func (.func 247) #[] #[]] 228) := ⟨_, rfl⟩
  rw [← hV] at E0 c0
  have HV := hide hV
  have hcon := hide (containsFunc_clo v n tx (fun j => !b j) ⟨w.heap.size, 0, none⟩ V (hv.ext E0) (by omega) (fun j hj W hW => allOk1_text (tx j) w.heap.size W (hx j hj) (hT.ext (E0.trans hW)) (hW.cell c0) (b j) (hb j)) (!ok) (by
    rw [Bool.not_eq_true', ← Bool.not_eq_true, hok]
    constructor
    · intro h
      refine Classical.byContradiction fun h2 => h fun j hj => (hb j).1 ?_
      cases e : b j with
      | true => rfl
      | false => exact absurd ⟨j, hj, by simp [e]⟩ h2
    · rintro ⟨j, hj, h⟩ h2
      rw [(hb j).2 (h2 j hj)] at h
      cases h))
  obtain ⟨ao, ca, rfl, _, _⟩ := hv
  clear hV hok hb hT hx each
  go_enter Tryz.func248, Tryz.ntmps248
  go_wp2_with fail
  rw [← unhide HV]
  refine (unhide hcon).mono ?_
  rintro e w1 ⟨rfl, F1⟩
  go_wp2
  go_ret
  exact ⟨ret_bool (by simp), E0.trans F1⟩
set_option maxRecDepth 10000 in
set_option maxHeartbeats 1000000 in
theorem allOk1_set (x : ByteArray) (B : Nat) (w : World) (hx : x.size ≤ 1048576) (hT : Tabs3 w) (hq : w.cell? ⟨B, 0, none⟩ = some (.func (.func 244) #[] #[])) (ok : Bool) (hok : ok = true ↔ SetP (baL x)) :
    Calls Tryz.prog 276 #[.string x, .pointer (some ⟨B, 0, none⟩)] w fun e w' => e = .returned (.bool (!ok)) ∧ Ext w w' := by
  have hcon := hide (settled_ba x w hx hT ok hok)
  clear hok hT
  go_enter Tryz.func276, Tryz.ntmps276
  go_wp2_with fail
  refine (unhide hcon).mono ?_
  rintro e w1 ⟨rfl, F1⟩
  go_wp2
  go_ret
  exact ⟨rfl, F1⟩
set_option maxRecDepth 10000 in
set_option maxHeartbeats 1000000 in
theorem allOk_set (v : Value) (n : Nat) (tx : Nat → ByteArray) (w : World) (hv : Row1At w v n (fun j => .string (tx j))) (hn : n ≤ 1048576) (hx : ∀ j, j < n → (tx j).size ≤ 1048576) (hT : Tabs3 w) (ok : Bool) (hok : ok = true ↔ ∀ j, j < n → SetP (baL (tx j))) :
    Calls Tryz.prog 248 #[v, .func (.func 244) #[] #[]] w fun e w' => e = .returned (.bool ok) ∧ Ext w w' := by
  have each : ∀ j, ∃ b : Bool, b = true ↔ SetP (baL (tx j)) := fun j => by
    by_cases h : SetP (baL (tx j))
    · exact ⟨true, by simp [h]⟩
    · exact ⟨false, by simp [h]⟩
  obtain ⟨b, hb⟩ := Classical.axiomOfChoice each
  have E0 := (Ext.refl w).alloc (.cells #[.func (.func 244) #[] #[]] 228)
  have c0 := cells_of (new_block w (.cells #[.func (.func 244) #[] #[]] 228)) 0 _ rfl
  obtain ⟨V, hV⟩ : ∃ V, V = w.alloc (.cells #[.func (.func 244) #[] #[]] 228) := ⟨_, rfl⟩
  rw [← hV] at E0 c0
  have HV := hide hV
  have hcon := hide (containsFunc_clo v n tx (fun j => !b j) ⟨w.heap.size, 0, none⟩ V (hv.ext E0) (by omega) (fun j hj W hW => allOk1_set (tx j) w.heap.size W (hx j hj) (hT.ext (E0.trans hW)) (hW.cell c0) (b j) (hb j)) (!ok) (by
    rw [Bool.not_eq_true', ← Bool.not_eq_true, hok]
    constructor
    · intro h
      refine Classical.byContradiction fun h2 => h fun j hj => (hb j).1 ?_
      cases e : b j with
      | true => rfl
      | false => exact absurd ⟨j, hj, by simp [e]⟩ h2
    · rintro ⟨j, hj, h⟩ h2
      rw [(hb j).2 (h2 j hj)] at h
      cases h))
  obtain ⟨ao, ca, rfl, _, _⟩ := hv
  clear hV hok hb hT hx each
  go_enter Tryz.func248, Tryz.ntmps248
  go_wp2_with fail
  rw [← unhide HV]
  refine (unhide hcon).mono ?_
  rintro e w1 ⟨rfl, F1⟩
  go_wp2
  go_ret
  exact ⟨ret_bool (by simp), E0.trans F1⟩
set_option maxRecDepth 10000 in
set_option maxHeartbeats 1000000 in
theorem promptOk_any (x : ByteArray) (w : World) (hx : x.size ≤ 1048576) (hT : Tabs3 w) (ok : Bool) (hok : ok = true ↔ SetP (baL x) ∧ (cleanL (baL x)).length ≤ 40) :
    Calls Tryz.prog 201 #[.string x] w fun e w' => e = .returned (.bool ok) ∧ Ext w w' := by
  have hk := cleanL_len (baL x)
  rw [baL_len] at hk
  have hrc : ∀ W, Calls Tryz.prog 245 #[.string x] W fun e w' => e = .returned (.int .i64 ((cleanL (baL x)).length : Int)) ∧ Ext W w' := fun W => by
    have h := runeCount_any (baL x) (baL_bytes x) W (by rw [baL_len]; omega)
    rwa [toBA_baL] at h
  have HRC := hide hrc
  have HK := hide hok
  clear hrc hok
  by_cases hs : SetP (baL x)
  · have hcon := hide (settled_ba x w hx hT true (by simp [hs]))
    by_cases hl : ((cleanL (baL x)).length : Int) ≤ 40
    · have hfin : Hid (ok = true) := hide ((unhide HK).2 ⟨hs, by omega⟩)
      clear hs hT
      go_enter Tryz.func201, Tryz.ntmps201
      go_wp2_with fail
      refine (unhide hcon).mono ?_
      rintro e w1 ⟨rfl, F1⟩
      go_wp2_with fail
      refine ((unhide HRC) w1).mono ?_
      rintro e w2 ⟨rfl, F2⟩
      go_wp2
      go_ret
      exact ⟨ret_bool (unhide hfin).symm, F1.trans F2⟩
    · have hfin : Hid (ok = false) := by
        refine hide ?_
        cases hc : ok with
        | false => rfl
        | true => exact absurd ((unhide HK).1 hc).2 (by omega)
      clear hs hT
      go_enter Tryz.func201, Tryz.ntmps201
      go_wp2_with fail
      refine (unhide hcon).mono ?_
      rintro e w1 ⟨rfl, F1⟩
      go_wp2_with fail
      refine ((unhide HRC) w1).mono ?_
      rintro e w2 ⟨rfl, F2⟩
      go_wp2
      go_ret
      exact ⟨ret_bool (by rw [unhide hfin]; exact decide_eq_false (by omega)), F1.trans F2⟩
  · have hcon := hide (settled_ba x w hx hT false (by simp [hs]))
    have hfin : Hid (ok = false) := by
      refine hide ?_
      cases hc : ok with
      | false => rfl
      | true => exact absurd ((unhide HK).1 hc).1 hs
    clear hs hT
    go_enter Tryz.func201, Tryz.ntmps201
    go_wp2_with fail
    refine (unhide hcon).mono ?_
    rintro e w1 ⟨rfl, F1⟩
    go_wp2
    go_ret
    exact ⟨ret_bool (unhide hfin).symm, F1⟩
end Go.Proofs.YteabhioifedgeaaGreatDoor

namespace Go.Proofs.YteabhioifedgeaaGreatDoor
open Go.RowKit

theorem s2i (w : World) (s : ByteArray) : ∃ cap W', (convert 9 22 (.string s)).run Tryz.prog w = .ok (.slice (some ⟨w.heap.size, 0, none⟩) s.size cap) W' ∧ (∀ j u, ((baL s).map (Value.int .u8))[j]? = some u → W'.cell? ((⟨w.heap.size, 0, none⟩ : Addr).add j) = some u) ∧ Ext w W' := by
  have hr := run_bytes_of_string (P := Tryz.prog) w 9 22 5 s Tryz.underlying9 Tryz.underlying22 Tryz.underlying5
  refine ⟨_, _, hr, fun j u hj => ?_, (Ext.refl w).drew.alloc _⟩
  have hjl : j < s.data.size := by
    have := (List.getElem?_eq_some_iff.1 hj).1
    simp [baL] at this
    exact this
  rw [Addr.add_lit, Nat.zero_add]
  have hc := World.cell?_alloc_mark w.drew (bytesRow s (grownCap w s.size 0 5)) 5 ((bytesRow s (grownCap w s.size 0 5)).size, (bytesRow s (grownCap w s.size 0 5)).size + 1) j
  rw [bytesRow_at _ _ _ hjl] at hc
  refine Eq.trans hc ?_
  rw [← hj]
  simp only [baL, List.map_map, List.getElem?_map, Array.getElem?_toList]
  rw [Array.getElem?_eq_getElem hjl]
  rfl
/-- How many bytes stand before the spaces at the end, of the first k. -/
def trimK (s : ByteArray) : Nat → Nat
  | 0 => 0
  | k + 1 => if s.data.toList[k]? = some 32 then trimK s k else k + 1
set_option maxRecDepth 10000 in
set_option maxHeartbeats 1000000 in
theorem l2Trim_any (s : ByteArray) (w : World) (hs : s.size ≤ 1048576) :
    Calls Tryz.prog 97 #[.string s] w fun e w' => e = .returned (.string (s.extract 0 (trimK s s.size))) ∧ w' = w := by
  go_enter Tryz.func97, Tryz.ntmps97
  go_wp2
  go_loop [3] (fun i => ∃ k : Nat, k ≤ s.size ∧ i = .int .i64 k ∧ Hid (trimK s s.size = trimK s k)) (fun i => (intOf i).toNat)
  case atStart => exact ⟨s.size, Nat.le_refl _, rfl, hide rfl⟩
  case round =>
    obtain ⟨k, hk, rfl, HJ⟩ := hrel
    by_cases h0 : k = 0
    · subst h0
      have hfin : Hid (trimK s s.size = 0) := hide ((unhide HJ).trans rfl)
      go_wp2
      go_ret
      exact ⟨by rw [unhide hfin]; simp, rfl⟩
    · obtain ⟨j, rfl⟩ : ∃ j, k = j + 1 := ⟨k - 1, by omega⟩
      have hw1 : IntKind.i64.wrap (((j + 1 : Nat) : Int) - 1) = (j : Int) := by rw [IntKind.wrap_i64]; omega
      have bj : (j : Int) < (s.size : Int) := by omega
      have hj : j < s.size := by omega
      have hat : s.data.toList[j]? = some (s[j]'hj) := by
        rw [List.getElem?_eq_getElem (by simpa using hj)]
        simp [ByteArray.getElem_eq_getElem_data]
      by_cases he : (s[j]'hj).toNat = 32
      · have HJ2 : Hid (trimK s s.size = trimK s j) := hide ((unhide HJ).trans (by
          rw [trimK, if_pos]
          rw [hat]
          exact congrArg some (UInt8.toNat_inj.1 he)))
        clear hat
        go_wp2
        go_round
        case rel => exact ⟨j, by omega, rfl, HJ2⟩
        case measure => simp [intOf]
      · have hfin : Hid (trimK s s.size = j + 1) := hide ((unhide HJ).trans (by
          rw [trimK, if_neg]
          rw [hat]
          exact fun e => he (by rw [Option.some.inj e]; rfl)))
        clear hat
        go_wp2
        go_ret
        exact ⟨by rw [unhide hfin]; rfl, rfl⟩
theorem trimK_le (s : ByteArray) : ∀ k, trimK s k ≤ k
  | 0 => Nat.le_refl _
  | k + 1 => by
    rw [trimK]
    split
    · have := trimK_le s k
      omega
    · exact Nat.le_refl _
/-- A text without the spaces at its end. -/
def trimS (s : ByteArray) : ByteArray := s.extract 0 (trimK s s.size)
def tkL (l : List UInt8) : Nat → Nat
  | 0 => 0
  | k + 1 => if l[k]? = some 32 then tkL l k else k + 1
theorem trimK_tkL (s : ByteArray) : ∀ k, trimK s k = tkL s.data.toList k
  | 0 => rfl
  | k + 1 => by rw [trimK, tkL, trimK_tkL s k]
theorem tkL_app (l r : List UInt8) : ∀ k, k ≤ l.length → tkL (l ++ r) k = tkL l k
  | 0, _ => rfl
  | k + 1, h => by rw [tkL, tkL, tkL_app l r k (by omega), List.getElem?_append_left (by omega)]
theorem tkL_le (l : List UInt8) : ∀ k, tkL l k ≤ k
  | 0 => Nat.le_refl _
  | k + 1 => by
    rw [tkL]
    split
    · have := tkL_le l k
      omega
    · exact Nat.le_refl _
theorem take_tkL (l : List UInt8) : l.take (tkL l l.length) = Lib.trimRightB l 32 := by
  obtain ⟨m, rfl⟩ : ∃ m : List UInt8, l = m.reverse := ⟨l.reverse, by simp⟩
  induction m with
  | nil => rfl
  | cons a m ih =>
    unfold Lib.trimRightB at ih ⊢
    rw [List.reverse_reverse] at ih ⊢
    rw [List.reverse_cons, List.length_append]
    show List.take (tkL (m.reverse ++ [a]) (m.reverse.length + 1)) _ = _
    rw [tkL, List.getElem?_append_right (Nat.le_refl _), Nat.sub_self, List.dropWhile_cons]
    by_cases h : a = 32
    · subst h
      rw [if_pos (by rfl), if_pos (by rfl), tkL_app _ _ _ (Nat.le_refl _), ← ih, List.take_append_of_le_length (tkL_le _ _)]
    · rw [if_neg (by simpa using h), if_neg (by simpa using h), List.take_of_length_le (by simp)]
      simp
theorem trimS_right (s : ByteArray) : (⟨(Lib.trimRightB s.data.toList 32).toArray⟩ : ByteArray) = trimS s := by
  apply WideShapes.bytes_inj
  have hl : s.data.toList.length = s.size := by simp
  rw [trimS, trimK_tkL, ← take_tkL, hl, ByteArray.data_extract]
  simp
theorem trimS_size (s : ByteArray) : (trimS s).size ≤ s.size := by
  rw [trimS, ByteArray.size_extract]
  omega
end Go.Proofs.YteabhioifedgeaaGreatDoor

namespace Go.Proofs.YteabhioifedgeaaGreatDoor
open Go.RowKit

set_option maxRecDepth 10000 in
set_option maxHeartbeats 1000000 in
theorem endsWithSpace_any (x : ByteArray) (w : World) (hx : x.size ≤ 1048576) :
    Calls Tryz.prog 206 #[.string x] w fun e w' => e = .returned (.bool (Lib.hasSuffix x.data.toList [32])) ∧ Ext w w' := by
  have hcon := hide (Any.strings_HasSuffix Tryz.lays100 x { data := #[32] } w (by omega))
  go_enter Tryz.func206, Tryz.ntmps206
  go_wp2_with fail
  refine (unhide hcon).mono ?_
  rintro e w1 ⟨rfl, rfl⟩
  go_wp2
  go_ret
  exact ⟨rfl, Ext.refl _⟩
/-- A text stays when its spaces at the end are cut just when it ends with none. -/
theorem trim_same (s : ByteArray) : s.extract 0 (trimK s s.size) = s ↔ Lib.hasSuffix s.data.toList [32] = false := by
  have hl : s.data.toList.length = s.size := by simp
  cases hz : s.size with
  | zero =>
    have he : s.data.toList = [] := List.eq_nil_of_length_eq_zero (by omega)
    constructor
    · intro _
      rw [he]
      rfl
    · intro _
      apply WideShapes.bytes_inj
      rw [he]
      simp [trimK]
  | succ k =>
    have hk : k < s.data.toList.length := by omega
    have hsuf : Lib.hasSuffix s.data.toList [32] = true ↔ s.data.toList[k]? = some 32 := by
      unfold Lib.hasSuffix
      rw [List.isSuffixOf_iff_suffix]
      constructor
      · rintro ⟨t, ht⟩
        have h2 : t.length = k := by
          have := congrArg List.length ht
          simp at this
          omega
        rw [← ht, List.getElem?_append_right (by omega)]
        simp [h2]
      · intro h
        refine ⟨s.data.toList.take k, ?_⟩
        have h3 : s.data.toList.drop k = [32] := by
          rw [List.drop_eq_getElem_cons hk, List.drop_eq_nil_of_le (by omega)]
          rw [List.getElem?_eq_getElem hk] at h
          rw [Option.some.inj h]
        rw [← h3, List.take_append_drop]
    rw [trimK]
    by_cases h : s.data.toList[k]? = some 32
    · rw [if_pos h]
      have h1 := hsuf.2 h
      rw [h1]
      constructor
      · intro e
        have h2 := trimK_le s k
        have h3 := congrArg ByteArray.size e
        rw [ByteArray.size_extract] at h3
        omega
      · intro e
        cases e
    · rw [if_neg h]
      have h1 : Lib.hasSuffix s.data.toList [32] = false := by
        cases hb : Lib.hasSuffix s.data.toList [32] with
        | false => rfl
        | true => exact absurd (hsuf.1 hb) h
      rw [h1]
      refine ⟨fun _ => rfl, fun _ => ?_⟩
      rw [← hz]
      apply WideShapes.bytes_inj
      simp
end Go.Proofs.YteabhioifedgeaaGreatDoor

namespace Go.Proofs.YteabhioifedgeaaGreatDoor
open Go.RowKit

/-- What wayOk says. -/
def WayP (nav : Bool) (n : Nat) (at9 : Int) (tx : Nat → ByteArray) (dr : ByteArray) : Prop :=
  if nav then n ≤ 100 ∧ 0 ≤ at9 ∧ at9 ≤ (n : Int) ∧ (∀ j, j < n → TextP (baL (tx j))) ∧ TextP (baL dr) else n = 0 ∧ at9 = 0 ∧ dr = { data := #[] }
set_option maxRecDepth 10000 in
set_option maxHeartbeats 2000000 in
theorem wayOk_any (pr a b c dr : ByteArray) (cols rows at9 : Int) (u hv pv qv lv dv : Value) (kp nav st : Bool) (n : Nat) (tx : Nat → ByteArray) (w : World) (hpv : Row1At w pv n (fun j => .string (tx j))) (hn : n ≤ 1048576) (hx : ∀ j, j < n → (tx j).size ≤ 1048576) (hd : dr.size ≤ 1048576) (hT : Tabs3 w) (ok : Bool) (hok : ok = true ↔ WayP nav n at9 tx dr) :
    Calls Tryz.prog 203 #[.agg #[.string pr, .int .i64 cols, .int .i64 rows, .string a, .string b, .string c, u, hv, .bool kp, .bool nav, pv, .int .i64 at9, .string dr, .bool st, qv, lv, dv]] w fun e w' => e = .returned (.bool ok) ∧ Ext w w' := by
  obtain ⟨bt, hbt⟩ := ex_bool (∀ j, j < n → TextP (baL (tx j)))
  obtain ⟨bd, hbd⟩ := ex_bool (TextP (baL dr))
  have hcA := hide (fun W (hW : Ext w W) => allOk_text pv n tx W (hpv.ext hW) hn hx (hT.ext hW) bt hbt)
  have hcD := hide (fun W (hW : Ext w W) => textOk_ba dr W hd (hT.ext hW) bd hbd)
  obtain ⟨ao, ca, rfl, _, _⟩ := hpv
  have HBT := hide hbt
  have HBD := hide hbd
  clear hx hT hbt hbd
  cases nav with
  | false =>
    have hP : ok = true ↔ n = 0 ∧ at9 = 0 ∧ dr = { data := #[] } := by simpa [WayP] using hok
    have HP := hide hP
    clear hok hP hcA hcD HBT HBD
    by_cases h1 : n = 0
    · subst h1
      by_cases h2 : at9 = 0
      · subst h2
        by_cases h3 : dr = { data := #[] }
        · subst h3
          have hfin : Hid (ok = true) := hide ((unhide HP).2 ⟨rfl, rfl, rfl⟩)
          go_enter Tryz.func203, Tryz.ntmps203
          go_wp2
          go_ret
          exact ⟨ret_bool (unhide hfin).symm, (Ext.refl _).alloc _⟩
        · have hne : dr.toList.isEmpty = false := by
            rw [toList_data]
            cases e : dr.data.toList with
            | nil => exact absurd (WideShapes.bytes_inj e) h3
            | cons _ _ => rfl
          have hfin : Hid (ok = false) := hide (not_ok (unhide HP) (fun h => h3 h.2.2))
          clear h3
          go_enter Tryz.func203, Tryz.ntmps203
          go_wp2
          go_ret
          exact ⟨ret_bool (unhide hfin).symm, (Ext.refl _).alloc _⟩
      · have hfin : Hid (ok = false) := hide (not_ok (unhide HP) (fun h => h2 h.2.1))
        go_enter Tryz.func203, Tryz.ntmps203
        go_wp2
        go_ret
        exact ⟨ret_bool (unhide hfin).symm, (Ext.refl _).alloc _⟩
    · have hfin : Hid (ok = false) := hide (not_ok (unhide HP) (fun h => h1 h.1))
      have h1I : ¬ (n : Int) = 0 := by omega
      go_enter Tryz.func203, Tryz.ntmps203
      go_wp2
      go_ret
      exact ⟨ret_bool (unhide hfin).symm, (Ext.refl _).alloc _⟩
  | true =>
    have hP : ok = true ↔ n ≤ 100 ∧ 0 ≤ at9 ∧ at9 ≤ (n : Int) ∧ (∀ j, j < n → TextP (baL (tx j))) ∧ TextP (baL dr) := by simpa [WayP] using hok
    have HP := hide hP
    clear hok hP
    by_cases h1 : (n : Int) ≤ 100
    · by_cases h2 : 0 ≤ at9
      · by_cases h3 : at9 ≤ (n : Int)
        · have q12 : ∀ o, (w.alloc (.cells #[.string pr, .int .i64 cols, .int .i64 rows, .string a, .string b, .string c, u, hv, .bool kp, .bool true, Value.slice ao n ca, .int .i64 at9, .string dr, .bool st, qv, lv, dv] o)).cell? ⟨w.heap.size, 12, none⟩ = some (.string dr) := fun o => cells_of (new_block w _) 12 _ rfl
          have EV := (Ext.refl w).alloc (.cells #[.string pr, .int .i64 cols, .int .i64 rows, .string a, .string b, .string c, u, hv, .bool kp, .bool true, Value.slice ao n ca, .int .i64 at9, .string dr, .bool st, qv, lv, dv] 63)
          have q12 := q12 63
          obtain ⟨V, hV⟩ : ∃ V, V = w.alloc (.cells #[.string pr, .int .i64 cols, .int .i64 rows, .string a, .string b, .string c, u, hv, .bool kp, .bool true, Value.slice ao n ca, .int .i64 at9, .string dr, .bool st, qv, lv, dv] 63) := ⟨_, rfl⟩
          rw [← hV] at EV q12
          have HV := hide hV
          clear hV
          go_enter Tryz.func203, Tryz.ntmps203
          go_wp2_with fail
          rw [← unhide HV]
          refine ((unhide hcA) V EV).mono ?_
          rintro e w1 ⟨rfl, F1⟩
          have q12' := F1.cell q12
          cases bt with
          | false =>
            have hfin : Hid (ok = false) := hide (not_ok (unhide HP) (fun h => by have := (unhide HBT).2 h.2.2.2.1; cases this))
            go_wp2
            go_ret
            exact ⟨ret_bool (unhide hfin).symm, EV.trans F1⟩
          | true =>
            go_wp2_with fail
            refine ((unhide hcD) w1 (EV.trans F1)).mono ?_
            rintro e w2 ⟨rfl, F2⟩
            have hfin : Hid (ok = bd) := hide (by
              rw [Bool.eq_iff_iff, unhide HP, unhide HBD]
              exact ⟨fun h => h.2.2.2.2, fun h => ⟨by omega, h2, h3, (unhide HBT).1 (by simp), h⟩⟩)
            go_wp2
            go_ret
            exact ⟨ret_bool (unhide hfin).symm, EV.trans (F1.trans F2)⟩
        · have hfin : Hid (ok = false) := hide (not_ok (unhide HP) (fun h => h3 h.2.2.1))
          go_enter Tryz.func203, Tryz.ntmps203
          go_wp2
          go_ret
          exact ⟨ret_bool (unhide hfin).symm, (Ext.refl _).alloc _⟩
      · have hfin : Hid (ok = false) := hide (not_ok (unhide HP) (fun h => h2 h.2.1))
        go_enter Tryz.func203, Tryz.ntmps203
        go_wp2
        go_ret
        exact ⟨ret_bool (unhide hfin).symm, (Ext.refl _).alloc _⟩
    · have hfin : Hid (ok = false) := hide (not_ok (unhide HP) (fun h => h1 (by omega)))
      go_enter Tryz.func203, Tryz.ntmps203
      go_wp2
      go_ret
      exact ⟨ret_bool (unhide hfin).symm, (Ext.refl _).alloc _⟩
end Go.Proofs.YteabhioifedgeaaGreatDoor

namespace Go.Proofs.YteabhioifedgeaaGreatDoor
open Go.RowKit

def sizeB (c r : Int) : Bool := decide (2 ≤ c) && decide (c ≤ 200) && decide (1 ≤ r) && decide (r ≤ 100)
theorem sizeB_open {c r : Int} (h : sizeB c r = true) : ∃ cn rn : Nat, c = cn ∧ r = rn ∧ 2 ≤ cn ∧ cn ≤ 200 ∧ 1 ≤ rn ∧ rn ≤ 100 := by
  simp [sizeB] at h
  exact ⟨c.toNat, r.toNat, by omega, by omega, by omega, by omega, by omega, by omega⟩
theorem sizeOk_any (c r : Int) (w : World) : Calls Tryz.prog 72 #[.int .i64 c, .int .i64 r] w fun e w' => e = .returned (.bool (sizeB c r)) ∧ w' = w := by
  go_enter Tryz.func72, Tryz.ntmps72
  go_wp2
  all_goals
    go_ret
    refine ⟨ret_bool ?_, rfl⟩
    unfold sizeB
    rw [Bool.eq_iff_iff]
    simp
    omega
theorem l2SizeOk_any (c r : Int) (w : World) : Calls Tryz.prog 76 #[.int .i64 c, .int .i64 r] w fun e w' => e = .returned (.bool (sizeB c r)) ∧ w' = w := by
  go_enter Tryz.func76, Tryz.ntmps76
  go_wp2
  all_goals
    go_ret
    refine ⟨ret_bool ?_, rfl⟩
    unfold sizeB
    rw [Bool.eq_iff_iff]
    simp
    omega
end Go.Proofs.YteabhioifedgeaaGreatDoor
