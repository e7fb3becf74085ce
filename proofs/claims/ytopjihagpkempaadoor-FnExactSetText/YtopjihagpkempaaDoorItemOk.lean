import Derived.Test.YtopjihagpkempaaDoorSnapOk
import Derived.Test.YtopjihagpkempaaDoorGenSetText
import Derived.Test.YtopjihagpkempaaDoorBaL
import Derived.Test.YtopjihagpkempaaDoorGapR
import Derived.Deep.DeepCutAuto
import Derived.Deep.RegionLaw
import Derived.Deep.CutBlock
import Derived.Test.YtopjihagpkempaaDoorGapU
import Derived.Test.YtopjihagpkempaaDoorGapC
namespace Go.Proofs.YtopjihagpkempaaDoor
open Go.RowKit

theorem toBA_nil : toBA [] = { data := #[] } := rfl
/-- What textOk says. -/
def TextP (bs : List Int) : Prop := settleL bs = bs ∧ (cleanL bs).length ≤ 300
theorem TextP_snap (bs : List Int) : TextP bs ↔ SnapP bs [] := by
  unfold TextP SnapP
  have e1 : settleL [] = [] := rfl
  have e2 : cleanL [] = [] := rfl
  simp [e1, e2]
set_option maxRecDepth 10000 in
set_option maxHeartbeats 1000000 in
theorem textOk_any (bs : List Int) (hb : Bytes bs) (w : World) (hl : bs.length ≤ 16777216) (hT : Tabs3 w) (ok : Bool) (hok : ok = true ↔ TextP bs) :
    Calls Tryd.prog 18 #[.string (toBA bs)] w fun e w' => e = .returned (.bool ok) ∧ Ext w w' := by
  have hs := fun W (hW : Ext w W) => snapOk_any bs [] hb (fun x hx => by simp at hx) W hl (by simp) (hT.ext hW) ok (by rw [hok, TextP_snap])
  rw [toBA_nil] at hs
  have HS := hide hs
  clear hs hok
  go_enter Tryd.func18, Tryd.ntmps18
  go_wp2_with fail
  refine ((unhide HS) _ (Ext.refl _)).mono ?_
  rintro e w1 ⟨rfl, F1⟩
  go_wp2
  go_ret
  exact ⟨rfl, F1⟩
end Go.Proofs.YtopjihagpkempaaDoor

namespace Go.Proofs.YtopjihagpkempaaDoor
open Go.RowKit

/-- A valid line. -/
def LineP (a b c : ByteArray) (n : Nat) (tx hf : Nat → ByteArray) : Prop := n ≤ 50 ∧ SnapP (baL a) (baL b) ∧ TextP (baL c) ∧ ∀ j, j < n → SnapP (baL (tx j)) (baL (hf j))
abbrev snapD (x y : List Int) : Decidable (SnapP x y) := inferInstanceAs (Decidable (settleL x = x ∧ settleL y = y ∧ (cleanL x).length + (cleanL y).length ≤ 300))
abbrev lineD (a b c : ByteArray) (n : Nat) (tx hf : Nat → ByteArray) : Decidable (LineP a b c n tx hf) := @instDecidableAnd _ _ _ (@instDecidableAnd _ _ (snapD _ _) (@instDecidableAnd _ _ (inferInstanceAs (Decidable (settleL (baL c) = baL c ∧ (cleanL (baL c)).length ≤ 300))) (@Nat.decidableBallLT n _ (fun j _ => snapD (baL (tx j)) (baL (hf j))))))
theorem ex_bool (p : Prop) : ∃ b : Bool, b = true ↔ p := by
  by_cases h : p
  · exact ⟨true, by simp [h]⟩
  · exact ⟨false, by simp [h]⟩
theorem not_ok {ok : Bool} {p : Prop} (h : ok = true ↔ p) (hn : ¬ p) : ok = false := by
  cases hc : ok with
  | false => rfl
  | true => exact absurd (h.1 hc) hn
theorem snapOk_ba (a b : ByteArray) (w : World) (hla : a.size ≤ 1048576) (hlb : b.size ≤ 1048576) (hT : Tabs3 w) (ok : Bool) (hok : ok = true ↔ SnapP (baL a) (baL b)) :
    Calls Tryd.prog 30 #[.agg #[.string a, .string b]] w fun e w' => e = .returned (.bool ok) ∧ Ext w w' := by
  have h := snapOk_any (baL a) (baL b) (baL_bytes a) (baL_bytes b) w (by rw [baL_len]; omega) (by rw [baL_len]; omega) hT ok hok
  rwa [toBA_baL, toBA_baL] at h
theorem textOk_ba (a : ByteArray) (w : World) (hla : a.size ≤ 1048576) (hT : Tabs3 w) (ok : Bool) (hok : ok = true ↔ TextP (baL a)) :
    Calls Tryd.prog 18 #[.string a] w fun e w' => e = .returned (.bool ok) ∧ Ext w w' := by
  have h := textOk_any (baL a) (baL_bytes a) w (by rw [baL_len]; omega) hT ok hok
  rwa [toBA_baL] at h
set_option maxRecDepth 10000 in
set_option maxHeartbeats 4000000 in
theorem implLineOk_any (a b c : ByteArray) (v : Value) (n : Nat) (tx hf : Nat → ByteArray) (w : World) (hv : Row2At w v n (fun j => .string (tx j)) (fun j => .string (hf j))) (ha : a.size ≤ 1048576) (hb : b.size ≤ 1048576) (hc : c.size ≤ 1048576) (hn : n ≤ 1048576) (hx : ∀ j, j < n → (tx j).size ≤ 1048576 ∧ (hf j).size ≤ 1048576) (hT : Tabs3 w) (ok : Bool) (hok : ok = true ↔ LineP a b c n tx hf) :
    Calls Tryd.prog 17 #[.agg #[.string a, .string b, .string c, v]] w fun e w' => e = .returned (.bool ok) ∧ Ext w w' := by
  obtain ⟨ao, ca, rfl, hca, hxa⟩ := hv
  have HX := hide hxa
  have HZ := hide hx
  have HT := hide hT
  have HK := hide hok
  clear hxa hx hT hok
  have EW := (Ext.refl w).alloc (.cells #[.string a, .string b, .string c, .slice ao n ca] 28)
  have hbk := new_block w (.cells #[.string a, .string b, .string c, .slice ao n ca] 28)
  obtain ⟨W1, hW1⟩ : ∃ W1, W1 = w.alloc (.cells #[.string a, .string b, .string c, .slice ao n ca] 28) := ⟨_, rfl⟩
  rw [← hW1] at EW hbk
  have p0 := cells_of hbk 0 _ rfl
  have p1 := cells_of hbk 1 _ rfl
  have p2 := cells_of hbk 2 _ rfl
  have p3 := cells_of hbk 3 _ rfl
  have HW := hide hW1
  clear hW1 hbk
  obtain ⟨bs, hbs⟩ := ex_bool (SnapP (baL a) (baL b))
  have hcS := hide (fun W (hW : Ext w W) => snapOk_ba a b W ha hb ((unhide HT).ext hW) bs hbs)
  have HBS := hide hbs
  clear hbs
  obtain ⟨bt, hbt⟩ := ex_bool (TextP (baL c))
  have hcT := hide (fun W (hW : Ext w W) => textOk_ba c W hc ((unhide HT).ext hW) bt hbt)
  have HBT := hide hbt
  clear hbt
  go_enter Tryd.func17, Tryd.ntmps17
  go_wp2_with fail
  rw [← unhide HW]
  refine ((unhide hcS) _ EW).mono ?_
  rintro e w1 ⟨rfl, F1⟩
  have p2' := F1.cell p2
  have p3' := F1.cell p3
  by_cases h1 : SnapP (baL a) (baL b)
  · obtain rfl : bs = true := (unhide HBS).2 h1
    have H1 := hide h1
    clear h1
    go_wp2_with fail
    refine ((unhide hcT) _ (EW.trans F1)).mono ?_
    rintro e w2 ⟨rfl, F2⟩
    have p3' := F2.cell p3'
    have E2 := F1.trans F2
    by_cases h2 : TextP (baL c)
    · obtain rfl : bt = true := (unhide HBT).2 h2
      by_cases h3 : n ≤ 50
      · have HP := hide (And.intro (unhide H1) h2)
        have h3I : (n : Int) ≤ 50 := by omega
        clear h2
        go_wp2
        go_loopw [27] (fun i wr => ∃ k : Nat, k ≤ n ∧ i = .int .i64 k ∧ Hid (∀ j, j < k → SnapP (baL (tx j)) (baL (hf j))) ∧ Ext W1 wr) (fun i _ => n - (intOf i).toNat)
        case atStart => exact ⟨0, Nat.zero_le _, rfl, hide (fun j hj => by omega), E2⟩
        case round =>
          obtain ⟨k, hk, rfl, HJ, hext⟩ := hrel
          by_cases hlt : k < n
          · obtain ⟨bb, off, hao, hcc⟩ := (unhide HX) (by omega)
            subst hao
            have hE := EW.trans hext
            have g1 := hE.cell (hcc k hlt).1
            have g2 := hE.cell (hcc k hlt).2
            have bk : (k : Int) < (n : Int) := by omega
            have hsz := (unhide HZ) k hlt
            obtain ⟨bj, hbj⟩ := ex_bool (SnapP (baL (tx k)) (baL (hf k)))
            have HBJ := hide hbj
            have hcJ := hide (fun W (hW : Ext w W) => snapOk_ba (tx k) (hf k) W hsz.1 hsz.2 ((unhide HT).ext hW) bj hbj)
            clear hbj
            go_wp2_with fail
            refine ((unhide hcJ) _ (by repeat' first | exact hE | refine Ext.alloc ?_ _ | refine Ext.setCell ?_ (by have := hE.size; dsimp only; omega) _)).mono ?_
            rintro e w3 ⟨rfl, F3⟩
            have hE3 : Ext W1 w3 := Ext.trans (by repeat' first | exact hext | refine Ext.alloc ?_ _ | refine Ext.setCell ?_ (by have := hext.size; dsimp only; omega) _) F3
            by_cases hs : SnapP (baL (tx k)) (baL (hf k))
            · obtain rfl : bj = true := (unhide HBJ).2 hs
              have HJ2 : Hid (∀ j, j < k + 1 → SnapP (baL (tx j)) (baL (hf j))) := hide (fun j hj => by
                by_cases e : j = k
                · subst e; exact hs
                · exact (unhide HJ) j (by omega))
              clear hs
              go_wp2
              go_roundw
              case rel => exact ⟨k + 1, by omega, by go_num, HJ2, hE3⟩
              case measure => simp [intOf]; omega
            · obtain rfl : bj = false := not_ok (unhide HBJ) hs
              have hfin : Hid (ok = false) := hide (not_ok (unhide HK) (fun h => hs (h.2.2.2 k hlt)))
              clear hs
              go_wp2
              go_ret
              exact ⟨ret_bool (unhide hfin).symm, EW.trans hE3⟩
          · obtain rfl : k = n := by omega
            have hfin : Hid (ok = true) := hide ((unhide HK).2 ⟨h3, (unhide HP).1, (unhide HP).2, unhide HJ⟩)
            go_wp2
            go_ret
            exact ⟨ret_bool (unhide hfin).symm, EW.trans hext⟩
      · have h3I : ¬ (n : Int) ≤ 50 := by omega
        have hfin : Hid (ok = false) := hide (not_ok (unhide HK) (fun h => h3 h.1))
        clear h2
        go_wp2
        go_ret
        exact ⟨ret_bool (unhide hfin).symm, EW.trans E2⟩
    · obtain rfl : bt = false := not_ok (unhide HBT) h2
      have hfin : Hid (ok = false) := hide (not_ok (unhide HK) (fun h => h2 h.2.2.1))
      clear h2
      go_wp2
      go_ret
      exact ⟨ret_bool (unhide hfin).symm, EW.trans E2⟩
  · obtain rfl : bs = false := not_ok (unhide HBS) h1
    have hfin : Hid (ok = false) := hide (not_ok (unhide HK) (fun h => h1 h.2.1))
    clear h1
    go_wp2
    go_ret
    exact ⟨ret_bool (unhide hfin).symm, EW.trans F1⟩
end Go.Proofs.YtopjihagpkempaaDoor

namespace Go.Proofs.YtopjihagpkempaaDoor
open Go.RowKit

set_option maxRecDepth 10000 in
set_option maxHeartbeats 4000000 in
theorem implSetText_no (a b c : ByteArray) (v : Value) (n : Nat) (tx hf : Nat → ByteArray) (s : ByteArray) (w : World) (hv : Row2At w v n (fun j => .string (tx j)) (fun j => .string (hf j))) (ha : a.size ≤ 1048576) (hb : b.size ≤ 1048576) (hc : c.size ≤ 1048576) (hn : n ≤ 1048576) (hx : ∀ j, j < n → (tx j).size ≤ 1048576 ∧ (hf j).size ≤ 1048576) (hs : s.size ≤ 1048576) (hT : Tabs3 w) (hP : ¬ (LineP a b c n tx hf ∧ TextP (baL s))) :
    Calls Tryd.prog 7 #[.agg #[.string a, .string b, .string c, v], .string s] w fun e w' => ∃ v', e = .returned (.tuple #[.agg #[.string a, .string b, .string c, v'], .bool false]) ∧ Own2 w' w.heap.size 51 v' n (fun j => .string (tx j)) (fun j => .string (hf j)) ∧ Ext w w' := by
  obtain ⟨ok, hok⟩ := ex_bool (LineP a b c n tx hf)
  obtain ⟨ot, hot⟩ := ex_bool (TextP (baL s))
  have hno : ok = true → ot = false := fun h => not_ok hot (fun h2 => hP ⟨hok.1 h, h2⟩)
  have infoL : (Tryd.prog.info? 28).map (·.size) = some 4 := by kernel_rfl
  obtain ⟨ao, ca, rfl, _, _⟩ := id hv
  have H1 := hide (fun W (E : Ext w W) => implLineOk_any a b c (.slice ao n ca) n tx hf W (hv.ext E) ha hb hc hn hx (hT.ext E) ok hok)
  have H2 := hide (fun W (E : Ext w W) => textOk_ba s W hs (hT.ext E) ot hot)
  have H3 := hide (fun W (E : Ext w W) => copyLine_any a b c (.slice ao n ca) n tx hf W (hv.ext E) hn)
  have HV := hide hv
  clear hok hot hP hv hx hT
  obtain ⟨V, hV⟩ : ∃ V, V = (w.alloc (.cells #[.string a, .string b, .string c, .slice ao n ca] 28)).alloc (.cells #[.string { data := #[] }, .string { data := #[] }, .string { data := #[] }, .slice none 0 0] 28) := ⟨_, rfl⟩
  have E0 : Ext w V := by rw [hV]; exact ((Ext.refl w).alloc _).alloc _
  have HB0 : Hid (V.heap[w.heap.size]? = some (.cells #[.string a, .string b, .string c, .slice ao n ca] 28 (0, 0))) := hide (by rw [hV]; exact ((Ext.refl _).alloc _).kept (new_block w _))
  have HB1 : Hid (V.heap[w.heap.size + 1]? = some (.cells #[.string { data := #[] }, .string { data := #[] }, .string { data := #[] }, .slice none 0 0] 28 (0, 0))) := hide (by rw [hV]; have h := new_block (w.alloc (.cells #[.string a, .string b, .string c, .slice ao n ca] 28)) (.cells #[.string { data := #[] }, .string { data := #[] }, .string { data := #[] }, .slice none 0 0] 28); rw [show (w.alloc (.cells #[.string a, .string b, .string c, .slice ao n ca] 28)).heap.size = w.heap.size + 1 by simp] at h; exact h)
  have sz0 : w.heap.size + 1 < V.heap.size := by rw [hV]; simp
  have HW := hide hV
  clear hV
  go_enter Tryd.func7, Tryd.ntmps7
  go_wp2_with fail
  rw [← unhide HW]
  clear HW
  refine ((unhide H1) _ E0).mono ?_
  rintro e w1 ⟨rfl, E1⟩
  have E01 := E0.trans E1
  replace HB0 := hide (E1.kept (unhide HB0))
  replace HB1 := hide (E1.kept (unhide HB1))
  have z1 := E1.size
  clear E0 E1 H1
  cases ok
  · have c0 : w1.cell? ⟨w.heap.size, 0, none⟩ = some (.string a) := cells_of (unhide HB0) 0 _ rfl
    have c1 : w1.cell? ⟨w.heap.size, 1, none⟩ = some (.string b) := cells_of (unhide HB0) 1 _ rfl
    have c2 : w1.cell? ⟨w.heap.size, 2, none⟩ = some (.string c) := cells_of (unhide HB0) 2 _ rfl
    have c3 : w1.cell? ⟨w.heap.size, 3, none⟩ = some (.slice ao n ca) := cells_of (unhide HB0) 3 _ rfl
    go_wp2_with fail
    refine ((unhide H3) _ E01).mono ?_
    rintro e w2 ⟨ua, uc, rfl, HO, E2⟩
    replace HB1 := hide (E2.kept (unhide HB1))
    have HE := hide (E01.trans E2)
    clear E2 c0 c1 c2 c3
    go_wp2_with (first
      | (refine wpList_store_blk rfl 28 _ _ rfl rfl (w.heap.size + 1) rfl _ _ _ rfl (unhide HB1) infoL rfl (by simp [Value.oneCell']) ?_; intro Z hy hf9; have HY := hide hy; have FY := hide hf9; clear hy hf9))
    have v0 : Z.cell? ⟨w.heap.size + 1, 0, none⟩ = some (.string a) := cells_of (unhide HY) 0 _ rfl
    have v1 : Z.cell? ⟨w.heap.size + 1, 1, none⟩ = some (.string b) := cells_of (unhide HY) 1 _ rfl
    have v2 : Z.cell? ⟨w.heap.size + 1, 2, none⟩ = some (.string c) := cells_of (unhide HY) 2 _ rfl
    have v3 : Z.cell? ⟨w.heap.size + 1, 3, none⟩ = some (.slice ua n uc) := cells_of (unhide HY) 3 _ rfl
    exact bodyPost_ret (v := .tuple #[.agg #[.string a, .string b, .string c, .slice ua n uc], .bool false]) (by simp [results, Tryd.results7, go_sem, v0, v1, v2, v3]) rfl ⟨_, rfl, ((unhide HO).fr (unhide FY) (fun g hg e9 => by have := ((unhide HO).lt g hg).1; omega)).mono (by omega), (unhide FY).ext (unhide HE) (fun q hq => by omega)⟩
  · obtain rfl := hno rfl
    go_wp2_with fail
    refine ((unhide H2) _ E01).mono ?_
    rintro e w3 ⟨rfl, E3⟩
    replace HB0 := hide (E3.kept (unhide HB0))
    replace HB1 := hide (E3.kept (unhide HB1))
    have E03 := E01.trans E3
    have z3 := E3.size
    clear E3 E01
    have c0 : w3.cell? ⟨w.heap.size, 0, none⟩ = some (.string a) := cells_of (unhide HB0) 0 _ rfl
    have c1 : w3.cell? ⟨w.heap.size, 1, none⟩ = some (.string b) := cells_of (unhide HB0) 1 _ rfl
    have c2 : w3.cell? ⟨w.heap.size, 2, none⟩ = some (.string c) := cells_of (unhide HB0) 2 _ rfl
    have c3 : w3.cell? ⟨w.heap.size, 3, none⟩ = some (.slice ao n ca) := cells_of (unhide HB0) 3 _ rfl
    go_wp2_with fail
    refine ((unhide H3) _ E03).mono ?_
    rintro e w2 ⟨ua, uc, rfl, HO, E2⟩
    replace HB1 := hide (E2.kept (unhide HB1))
    have HE := hide (E03.trans E2)
    clear E2 c0 c1 c2 c3
    go_wp2_with (first
      | (refine wpList_store_blk rfl 28 _ _ rfl rfl (w.heap.size + 1) rfl _ _ _ rfl (unhide HB1) infoL rfl (by simp [Value.oneCell']) ?_; intro Z hy hf9; have HY := hide hy; have FY := hide hf9; clear hy hf9))
    have v0 : Z.cell? ⟨w.heap.size + 1, 0, none⟩ = some (.string a) := cells_of (unhide HY) 0 _ rfl
    have v1 : Z.cell? ⟨w.heap.size + 1, 1, none⟩ = some (.string b) := cells_of (unhide HY) 1 _ rfl
    have v2 : Z.cell? ⟨w.heap.size + 1, 2, none⟩ = some (.string c) := cells_of (unhide HY) 2 _ rfl
    have v3 : Z.cell? ⟨w.heap.size + 1, 3, none⟩ = some (.slice ua n uc) := cells_of (unhide HY) 3 _ rfl
    exact bodyPost_ret (v := .tuple #[.agg #[.string a, .string b, .string c, .slice ua n uc], .bool false]) (by simp [results, Tryd.results7, go_sem, v0, v1, v2, v3]) rfl ⟨_, rfl, ((unhide HO).fr (unhide FY) (fun g hg e9 => by have := ((unhide HO).lt g hg).1; omega)).mono (by omega), (unhide FY).ext (unhide HE) (fun q hq => by omega)⟩
set_option maxRecDepth 10000 in
set_option maxHeartbeats 4000000 in
theorem implSetText_yes (a b c : ByteArray) (v : Value) (n : Nat) (tx hf : Nat → ByteArray) (s : ByteArray) (w : World) (hv : Row2At w v n (fun j => .string (tx j)) (fun j => .string (hf j))) (ha : a.size ≤ 1048576) (hb : b.size ≤ 1048576) (hc : c.size ≤ 1048576) (hn : n ≤ 1048576) (hx : ∀ j, j < n → (tx j).size ≤ 1048576 ∧ (hf j).size ≤ 1048576) (hs : s.size ≤ 1048576) (hT : Tabs3 w) (hP : LineP a b c n tx hf) (hS : TextP (baL s)) :
    Calls Tryd.prog 7 #[.agg #[.string a, .string b, .string c, v], .string s] w fun e w' => ∃ v', e = .returned (.tuple #[.agg #[.string s, .string noT, .string c, v'], .bool true]) ∧ Own2 w' w.heap.size 51 v' (undoN (unL tx hf n) (a, b)).length (fun j => .string (lnT (undoN (unL tx hf n) (a, b)) j)) (fun j => .string (lnH (undoN (unL tx hf n) (a, b)) j)) ∧ Ext w w' := by
  obtain ⟨hn50, ⟨sa, sb, sab⟩, _, _⟩ := id hP
  have la := cut_len (baL a)
  have lb := cut_len (baL b)
  have ls := cut_len (baL s)
  have sS := hS.2
  have infoL : (Tryd.prog.info? 28).map (·.size) = some 4 := by kernel_rfl
  have hul : (unL tx hf n).length = n := unL_len tx hf n
  have hzl := undoN_len (unL tx hf n) (a, b) (by omega)
  obtain ⟨ao, ca, rfl, _, _⟩ := id hv
  have H1 := hide (fun W (E : Ext w W) => implLineOk_any a b c (.slice ao n ca) n tx hf W (hv.ext E) ha hb hc hn hx (hT.ext E) true (by simp [hP]))
  have H2 := hide (fun W (E : Ext w W) => textOk_ba s W hs (hT.ext E) true (by simp [hS]))
  have H3 := hide (fun W (E : Ext w W) => newEditor_any (baL a) (baL b) (baL_bytes a) (baL_bytes b) (by rw [baL_len]; omega) (by rw [baL_len]; omega) (by omega) c (.slice ao n ca) n tx hf W (hv.ext E) hn50 (fun w' E' => (hT.ext (E.trans E')).1))
  rw [toBA_baL, toBA_baL] at H3
  have H4 := hide (fun (P base : Nat) (cl rl rr : List Value) (u : Value) (qs : List Nat) (W : World) (E : Ext w W) (hPw : w.heap.size ≤ P) (hbw : w.heap.size ≤ base) (hP : W.heap[P]? = some (.cells (edC cl ((cutC (baL a)).length : Int) ((300 - (cutC (baL b)).length : Nat) : Int) c u) 64 (0, 0))) (hG : GapIn P W cl rl rr (cutC (baL a)) (cutC (baL b))) (hU : BackOwn W base u qs (unL tx hf n)) (hb : base ≤ W.heap.size) =>
    setText_any P cl rl rr (cutC (baL a)) (cutC (baL b)) (300 - (cutC (baL b)).length) rfl c u qs (unL tx hf n) base W hP hG (cut_fit _ (by rw [baL_len]; omega)) (cut_fit _ (by rw [baL_len]; omega)) (cut_i32 _) (cut_i32 _) hU hb (by omega) (baL s) (baL_bytes s) (by rw [baL_len]; omega) (by omega) (fun W' f => (hT.ext (f.ext E (fun q hq => by
      rcases hq with hq | hq
      · omega
      · have := (hU.2.1.lt _ hq).1
        omega))).1))
  have ea : toBA (textC (cutC (baL a))) = a := by rw [show textC (cutC (baL a)) = baL a from sa, toBA_baL]
  have eb : toBA (textC (cutC (baL b))) = b := by rw [show textC (cutC (baL b)) = baL b from sb, toBA_baL]
  have es : toBA (textC (cutC (baL s))) = s := by rw [show textC (cutC (baL s)) = baL s from hS.1, toBA_baL]
  rw [ea, eb, toBA_baL] at H4
  obtain ⟨uz, huz⟩ : ∃ uz, uz = undoN (unL tx hf n) (a, b) := ⟨_, rfl⟩
  rw [← huz] at H4 hzl ⊢
  have H5 := hide (fun (P : Nat) (cl rl rr : List Value) (u : Value) (W : World) (hP : W.heap[P]? = some (.cells (edC cl ((cutC (baL s)).length : Int) ((300 - (cutC []).length : Nat) : Int) c u) 64 (0, 0))) (hG : GapIn P W cl rl rr (cutC (baL s)) (cutC [])) (hU : BackAt W u uz) =>
    line_any P cl rl rr (cutC (baL s)) (cutC []) (300 - (cutC []).length) rfl c u uz W hP hG (cut_fit _ (by rw [baL_len]; omega)) (cut_fit _ (Nat.zero_le _)) (cut_i32 _) (cut_i32 _) hU hzl)
  rw [es, show toBA (textC (cutC [])) = noT from rfl] at H5
  clear hP hS hv hx huz hT sa sb sab la lb ls sS ea eb es hul hzl hn50
  obtain ⟨V, hV⟩ : ∃ V, V = (w.alloc (.cells #[.string a, .string b, .string c, .slice ao n ca] 28)).alloc (.cells #[.string { data := #[] }, .string { data := #[] }, .string { data := #[] }, .slice none 0 0] 28) := ⟨_, rfl⟩
  have E0 : Ext w V := by rw [hV]; exact ((Ext.refl w).alloc _).alloc _
  have HB0 : Hid (V.heap[w.heap.size]? = some (.cells #[.string a, .string b, .string c, .slice ao n ca] 28 (0, 0))) := hide (by rw [hV]; exact ((Ext.refl _).alloc _).kept (new_block w _))
  have HB1 : Hid (V.heap[w.heap.size + 1]? = some (.cells #[.string { data := #[] }, .string { data := #[] }, .string { data := #[] }, .slice none 0 0] 28 (0, 0))) := hide (by rw [hV]; have h := new_block (w.alloc (.cells #[.string a, .string b, .string c, .slice ao n ca] 28)) (.cells #[.string { data := #[] }, .string { data := #[] }, .string { data := #[] }, .slice none 0 0] 28); rw [show (w.alloc (.cells #[.string a, .string b, .string c, .slice ao n ca] 28)).heap.size = w.heap.size + 1 by simp] at h; exact h)
  have sz0 : w.heap.size + 1 < V.heap.size := by rw [hV]; simp
  have HW := hide hV
  clear hV
  go_enter Tryd.func7, Tryd.ntmps7
  go_wp2_with fail
  rw [← unhide HW]
  clear HW
  refine ((unhide H1) _ E0).mono ?_
  rintro e w1 ⟨rfl, E1⟩
  have E01 := E0.trans E1
  replace HB0 := hide (E1.kept (unhide HB0))
  replace HB1 := hide (E1.kept (unhide HB1))
  have z1 := E1.size
  clear E0 E1 H1
  go_wp2_with fail
  refine ((unhide H2) _ E01).mono ?_
  rintro e w3 ⟨rfl, E3⟩
  replace HB0 := hide (E3.kept (unhide HB0))
  replace HB1 := hide (E3.kept (unhide HB1))
  have E03 := E01.trans E3
  have z3 := E3.size
  clear E3 E01 H2
  have c0 : w3.cell? ⟨w.heap.size, 0, none⟩ = some (.string a) := cells_of (unhide HB0) 0 _ rfl
  have c1 : w3.cell? ⟨w.heap.size, 1, none⟩ = some (.string b) := cells_of (unhide HB0) 1 _ rfl
  have c2 : w3.cell? ⟨w.heap.size, 2, none⟩ = some (.string c) := cells_of (unhide HB0) 2 _ rfl
  have c3 : w3.cell? ⟨w.heap.size, 3, none⟩ = some (.slice ao n ca) := cells_of (unhide HB0) 3 _ rfl
  go_wp2_with fail
  refine ((unhide H3) _ E03).mono ?_
  rintro e w4 ⟨P, cl, rl, rr, u, qs, base, rfl, p4, g4, b4, hP4, hb4, hbs, E4⟩
  have H4' := hide ((unhide H4) P base cl rl rr u qs w4 (E03.trans E4) (by omega) (by omega) p4 g4 b4 hbs)
  have hob : ∀ x, u.ownBlock = some x → base ≤ x := fun x hx => (b4.2.1.lt x hx).1
  replace HB1 := hide (E4.kept (unhide HB1))
  have HE4 := hide (E03.trans E4)
  have hw3 : w.heap.size + 1 < w3.heap.size := by omega
  clear H3 H4 p4 g4 b4 E4 E03 c0 c1 c2 c3 HB0
  go_wp2_with fail
  refine (unhide H4').mono ?_
  rintro e w5 ⟨cl5, rl5, rr5, u5, rfl, p5, g5, b5, F5⟩
  have H5' := hide ((unhide H5) P cl5 rl5 rr5 u5 w5 p5 g5 b5)
  replace HB1 := hide (F5.kept (unhide HB1) (fun e9 => by
    rcases e9 with e9 | e9
    · omega
    · have := hob _ e9
      omega))
  have hz5 : w.heap.size + 1 < w5.heap.size := lt_of_block (unhide HB1)
  have HE5 := hide (F5.ext (unhide HE4) (fun q hq => by
    rcases hq with hq | hq
    · omega
    · have := hob _ hq
      omega))
  clear H4' H5 p5 g5 b5 F5 HE4 hob
  go_wp2_with fail
  refine (unhide H5').mono ?_
  rintro e w6 ⟨v6, rfl, hO, E6⟩
  obtain ⟨ua, un, uc, rfl⟩ : ∃ ua un uc, v6 = .slice ua un uc := by
    obtain ⟨g1, g2, e1, _⟩ := hO.reads
    exact ⟨_, _, _, e1⟩
  have HO := hide hO
  replace HB1 := hide (E6.kept (unhide HB1))
  have HE := hide ((unhide HE5).trans E6)
  clear hO E6 H5'
  go_wp2_with (first
    | (refine wpList_store_blk rfl 28 _ _ rfl rfl (w.heap.size + 1) rfl _ _ _ rfl (unhide HB1) infoL rfl (by simp [Value.oneCell']) ?_; intro Z hy hf9; have HY := hide hy; have FY := hide hf9; clear hy hf9))
  have v0 : Z.cell? ⟨w.heap.size + 1, 0, none⟩ = some (.string s) := cells_of (unhide HY) 0 _ rfl
  have v1 : Z.cell? ⟨w.heap.size + 1, 1, none⟩ = some (.string noT) := cells_of (unhide HY) 1 _ rfl
  have v2 : Z.cell? ⟨w.heap.size + 1, 2, none⟩ = some (.string c) := cells_of (unhide HY) 2 _ rfl
  have v3 : Z.cell? ⟨w.heap.size + 1, 3, none⟩ = some (.slice ua un uc) := cells_of (unhide HY) 3 _ rfl
  exact bodyPost_ret (v := .tuple #[.agg #[.string s, .string noT, .string c, .slice ua un uc], .bool true]) (by simp [results, Tryd.results7, go_sem, v0, v1, v2, v3]) rfl ⟨_, rfl, ((unhide HO).fr (unhide FY) (fun g hg e9 => by have := ((unhide HO).lt g hg).1; omega)).mono (by omega), (unhide FY).ext (unhide HE) (fun q hq => by omega)⟩
end Go.Proofs.YtopjihagpkempaaDoor

namespace Go.Proofs.YtopjihagpkempaaDoor
open Go.RowKit

theorem own2_pr {w : World} {base : Nat} {T : TypeId} {v : Value} {un : List (ByteArray × ByteArray)} (h : w.ownsRow base T 2 v un.length (prL un)) : Own2 w base T v un.length (fun j => .string (lnT un j)) (fun j => .string (lnH un j)) := own2_pairs h
/-- Behind the first. -/
theorem src_drop {w : World} {base : Nat} {T : TypeId} {un : List (ByteArray × ByteArray)} {g cap : Nat} (h : w.ownsRow base T 2 (.slice (some ⟨g, 0, none⟩) un.length cap) un.length (prL un)) (h0 : 0 < un.length) (hc : un.length ≤ cap) : Src w 2 (.slice (some ⟨g, 2, none⟩) (un.length - 1) (cap - 1)) (un.length - 1) (prL (un.drop 1)) := by
  have hr : Row2At w (.slice (some ⟨g, 2, none⟩) (un.length - 1) (cap - 1)) (un.length - 1) (fun j => .string (lnT (un.drop 1) j)) (fun j => .string (lnH (un.drop 1) j)) := by
    refine ⟨_, cap - 1, rfl, by omega, fun _ => ⟨g, 2, rfl, fun j hj => ?_⟩⟩
    obtain ⟨p1, p2⟩ := prL_at un (j + 1) (by omega)
    have c1 := h.cellAt ((j + 1) * 2) (by omega)
    have c2 := h.cellAt ((j + 1) * 2 + 1) (by omega)
    rw [p1] at c1
    rw [p2] at c2
    rw [show 2 + j * 2 = (j + 1) * 2 by omega, c1, c2]
    exact ⟨by rw [← lnT_drop], by rw [← lnH_drop]⟩
  have hs := Src.snaps hr
  have e : prL (un.drop 1) = pairsL (fun j => .string (lnT (un.drop 1) j)) (fun j => .string (lnH (un.drop 1) j)) (un.length - 1) := by unfold prL; rw [List.length_drop]
  rw [e]
  exact hs
set_option maxRecDepth 10000 in
set_option maxHeartbeats 4000000 in
theorem l4Set_any (a b c l r : ByteArray) (v : Value) (n : Nat) (tx hf : Nat → ByteArray) (w : World) (hv : Row2At w v n (fun j => .string (tx j)) (fun j => .string (hf j))) (hn : n ≤ 50) :
    Calls Tryd.prog 15 #[.agg #[.string a, .string b, .string c, v], .string l, .string r] w fun e w' => ∃ v', e = .returned (.agg #[.string l, .string r, .string c, v']) ∧ Own2 w' w.heap.size 51 v' (undoN (unL tx hf n) (a, b)).length (fun j => .string (lnT (undoN (unL tx hf n) (a, b)) j)) (fun j => .string (lnH (undoN (unL tx hf n) (a, b)) j)) ∧ Ext w w' := by
  obtain ⟨ic, hic, hc0, hc1, hc2⟩ := info_parts infoSnap
  have infoL : (Tryd.prog.info? 28).map (·.size) = some 4 := by kernel_rfl
  have HC := hide (fun W (E : Ext w W) => l4Copy_any a b c v n tx hf W (hv.ext E) (by omega))
  obtain ⟨ao, ca, rfl, _, _⟩ := hv
  obtain ⟨V, hV⟩ : ∃ V, V = (w.alloc (.cells #[.string a, .string b, .string c, .slice ao n ca] 28)).alloc (.cells #[.string { data := #[] }, .string { data := #[] }, .string { data := #[] }, .slice none 0 0] 28) := ⟨_, rfl⟩
  have E0 : Ext w V := by rw [hV]; exact ((Ext.refl w).alloc _).alloc _
  have sz0 : V.heap.size = w.heap.size + 1 + 1 := by rw [hV]; simp
  have HB0 : Hid (V.heap[w.heap.size]? = some (.cells #[.string a, .string b, .string c, .slice ao n ca] 28 (0, 0))) := hide (by rw [hV]; exact ((Ext.refl _).alloc _).kept (new_block w _))
  have HB1 : Hid (V.heap[w.heap.size + 1]? = some (.cells #[.string { data := #[] }, .string { data := #[] }, .string { data := #[] }, .slice none 0 0] 28 (0, 0))) := hide (by rw [hV]; have h := new_block (w.alloc (.cells #[.string a, .string b, .string c, .slice ao n ca] 28)) (.cells #[.string { data := #[] }, .string { data := #[] }, .string { data := #[] }, .slice none 0 0] 28); rw [show (w.alloc (.cells #[.string a, .string b, .string c, .slice ao n ca] 28)).heap.size = w.heap.size + 1 by simp] at h; exact h)
  have HV := hide hV
  obtain ⟨un, hun⟩ : ∃ un, un = unL tx hf n := ⟨_, rfl⟩
  have hul : un.length = n := unL_eq tx hf n un hun
  rw [← hun]
  have HUN := hide hun
  obtain ⟨uz, huz⟩ : ∃ uz, uz = undoN un (a, b) := ⟨_, rfl⟩
  rw [← huz]
  have HUZ := hide huz
  clear hV hun huz
  go_enter Tryd.func15, Tryd.ntmps15
  go_wp2_with fail
  rw [← unhide HV]
  clear HV
  refine ((unhide HC) _ E0).mono ?_
  rintro e w1 ⟨ua, uc, rfl, HO1, E1⟩
  clear HC
  have z1 := E1.size
  replace HB0 := hide (E1.kept (unhide HB0))
  replace HB1 := hide (E1.kept (unhide HB1))
  have HE1 := hide (E0.trans E1)
  clear E0 E1
  have HO := hide (own2_list (unhide HO1))
  clear HO1
  have HN := hide (heap_alloc_new w1 (.cells #[.string { data := #[] }, .string { data := #[] }, .string { data := #[] }, .slice none 0 0] 28))
  go_wp2_with (first
    | (refine wpList_store_blk rfl 28 _ _ rfl rfl (w1.heap.size) rfl _ _ _ rfl (unhide HN) infoL rfl (by simp [Value.oneCell']) ?_; intro U HB hU; have HB9 := hide HB; have EU := hU.ext ((Ext.refl w1).alloc _) (fun q hq => by omega); have HEU := hide EU; have u3 : U.cell? ⟨w1.heap.size, 3, none⟩ = some (.slice ua n uc) := cells_of HB 3 _ rfl; have u0 : U.cell? ⟨w.heap.size, 0, none⟩ = some (.string a) := cells_of (EU.kept (unhide HB0)) 0 _ rfl; have u1 : U.cell? ⟨w.heap.size, 1, none⟩ = some (.string b) := cells_of (EU.kept (unhide HB0)) 1 _ rfl; clear EU HB hU)
    | (at_builtin; refine StopQ.intro ?_))
  show wpList _ _ _ _ _ _
  have HSR := hide (Src.made (w := U) (size := 2) [.string a, .string b] 1 51 rfl (by simp [Value.oneCell']))
  have HOU := hide (((unhide HEU).owns (unhide HO)).alloc (.cells #[.string a, .string b] 51))
  have zU := (unhide HEU).size
  have hgl := lt_of_block (unhide HB9)
  have hog : ∀ x, (Value.slice ua n uc).ownBlock = some x → V.heap.size ≤ x ∧ x < w1.heap.size := (unhide HO).lt
  rw [← prL_un, ← unhide HUN] at HOU
  clear HUN HO u3
  refine wpList_app rfl _ _ 26 rfl V.heap.size 51 ic (.agg #[.string noT, .string noT]) 2 32 Tryd.underlying26 hic hc0 hc1 hc2 rfl (by decide) _ n (prL un) rfl (unhide HOU) _ 1 [.string a, .string b] rfl (unhide HSR) (by unfold maxLen; omega) (by omega) (by simp; omega) ?_
  intro v3 w3 o3 G3 _
  obtain ⟨a3, c3, rfl⟩ := owns_ln o3
  have X3 := Fr.grown (S := fun q => (Value.slice ua n uc).ownBlock = some q) (Fr.of_ext ((Ext.refl U).alloc (.cells #[.string a, .string b] 51))) G3 (fun q hq => hq)
  have E3 : Ext w w3 := X3.ext ((unhide HE1).trans (unhide HEU)) (fun q hq => by have := hog q hq; omega)
  have HB := hide (X3.kept (unhide HB9) (fun e => by have := hog _ e; omega))
  replace HB1 := hide (X3.kept ((unhide HEU).kept (unhide HB1)) (fun e => by have := hog _ e; omega))
  have z3 := X3.size
  have g3 : w3.cell? ⟨w1.heap.size, 3, none⟩ = some (.slice ua n uc) := cells_of (unhide HB) 3 _ rfl
  have f3 : ∀ i, w3.frozen? ⟨w1.heap.size, i, none⟩ = false := fun i => Lib.frozen_of_heap (unhide HB) i
  rw [← prL_snoc un (a, b)] at o3
  have h1 : (un ++ [(a, b)]).length = n + 1 := by simp [hul]
  have HO3 := hide o3
  have HE3 := hide E3
  obtain ⟨w4, hw4⟩ : ∃ w4, w4 = w3.setCell ⟨w1.heap.size, 3, none⟩ (.slice a3 (n + 1) c3) := ⟨_, rfl⟩
  have HB4 : Hid (w4.heap[w1.heap.size]? = some (.cells #[.string a, .string b, .string c, .slice a3 (n + 1) c3] 28 (0, 0))) := hide (by rw [hw4]; exact set_blk2 (unhide HB) rfl)
  have HB14 : Hid (w4.heap[w.heap.size + 1]? = some (.cells #[.string { data := #[] }, .string { data := #[] }, .string { data := #[] }, .slice none 0 0] 28 (0, 0))) := hide (by rw [hw4]; exact set_else (unhide HB1) (by omega))
  have F4 : Fr (fun q => q = w1.heap.size) w3 w4 := by rw [hw4]; exact Fr.setCell (S := fun q => q = w1.heap.size) (Fr.refl _ w3) (a := ⟨w1.heap.size, 3, none⟩) rfl _
  have HO4 : Hid (w4.ownsRow V.heap.size 51 2 (.slice a3 (n + 1) c3) (n + 1) (prL (un ++ [(a, b)]))) := hide (by
    refine F4.owns o3 (fun g hg e9 => ?_)
    subst e9
    obtain ⟨c9, k9⟩ := owns_kind o3 hg
    rw [unhide HB] at k9
    injection k9 with k9
    injection k9 with _ k9
    exact absurd k9 (by decide))
  have HE4 := hide (F4.ext E3 (fun q hq => by omega))
  have z4 := F4.size
  have HW4 := hide hw4
  have H1 := hide h1
  have HUL := hide hul
  have hVz : w.heap.size + 1 < V.heap.size := by omega
  clear o3 G3 X3 E3 HOU HSR HEU HE1 HB9 u0 u1 HB0 hog F4 hw4 HO3 HE3 h1 hul sz0
  go_upto_region 3 with fail
  rw [← unhide HW4]
  have y3 : w4.cell? ⟨w1.heap.size, 3, none⟩ = some (.slice a3 (n + 1) c3) := cells_of (unhide HB4) 3 _ rfl
  have y0 : w4.cell? ⟨w1.heap.size, 0, none⟩ = some (.string a) := cells_of (unhide HB4) 0 _ rfl
  have y1 : w4.cell? ⟨w1.heap.size, 1, none⟩ = some (.string b) := cells_of (unhide HB4) 1 _ rfl
  have f4 : ∀ i, w4.frozen? ⟨w1.heap.size, i, none⟩ = false := fun i => Lib.frozen_of_heap (unhide HB4) i
  clear HW4 HB HB1 g3 f3
  by_cases h50 : n = 50
  · have HU := hide (show uz = (un ++ [(a, b)]).drop 1 by rw [unhide HUZ]; unfold undoN; rw [if_pos (by have := unhide HUL; omega)])
    subst h50
    rcases (unhide HO4).2 with ⟨e0, _⟩ | ⟨g, cap, cur, e0, hgb, hgh, hcap, _⟩
    · simp at e0
    obtain ⟨rfl, _, rfl⟩ := Value.slice.inj e0
    have hcap' : 51 ≤ c3 := hcap
    have k1 : ¬ c3 = 1 := by omega
    have k2 : ¬ c3 = 0 := by omega
    have k3 : (1 : Int) ≤ (c3 : Int) := by omega
    have y3n : ∀ o, (w4.alloc o).cell? ⟨w1.heap.size, 3, none⟩ = some (.slice (some ⟨g, 0, none⟩) 51 c3) := fun o => ((Ext.refl w4).alloc o).cell y3
    have HOD := hide (unhide HO4)
    rw [← unhide H1] at HOD
    have HSR := hide ((src_drop (unhide HOD) (by have := unhide H1; omega) (by have := unhide H1; omega)).ext ((Ext.refl w4).alloc (.cells #[] 51)))
    rw [unhide H1] at HSR
    have HOE := hide (owns_empty w4 51 2)
    clear e0 hcap hgh HOD
    go_wp2_with (at_builtin; refine StopQ.intro ?_)
    show wpList _ _ _ _ _ _
    refine wpList_app rfl _ _ 26 rfl w4.heap.size 51 ic (.agg #[.string noT, .string noT]) 2 32 Tryd.underlying26 hic hc0 hc1 hc2 rfl (by decide) _ 0 [] rfl (unhide HOE) _ 50 (prL ((un ++ [(a, b)]).drop 1)) rfl (unhide HSR) (by unfold maxLen; omega) (by omega) (by simp) ?_
    intro v5 w5 o5 G5 _
    obtain ⟨a5, c5, rfl⟩ := owns_ln o5
    rw [Nat.zero_add, List.nil_append] at o5
    have X5 := Fr.grown (S := fun q => q = w4.heap.size) (Fr.of_ext ((Ext.refl w4).alloc (.cells #[] 51))) G5 (fun q hq => by cases hq; rfl)
    have hgl4 := lt_of_block (unhide HB4)
    have hgl14 := lt_of_block (unhide HB14)
    have HE5 := hide (X5.ext (unhide HE4) (fun q hq => by omega))
    have HB5 := hide (X5.kept (unhide HB4) (by omega))
    have HB15 := hide (X5.kept (unhide HB14) (by omega))
    have HO5 := hide o5
    have m3 : w5.cell? ⟨w1.heap.size, 3, none⟩ = some (.slice (some ⟨g, 0, none⟩) 51 c3) := cells_of (unhide HB5) 3 _ rfl
    have m0 : w5.cell? ⟨w1.heap.size, 0, none⟩ = some (.string a) := cells_of (unhide HB5) 0 _ rfl
    have m1 : w5.cell? ⟨w1.heap.size, 1, none⟩ = some (.string b) := cells_of (unhide HB5) 1 _ rfl
    have f5 : ∀ i, w5.frozen? ⟨w1.heap.size, i, none⟩ = false := fun i => Lib.frozen_of_heap (unhide HB5) i
    clear o5 G5 X5 HSR HOE y3n y3 y0 y1 f4
    rw [Nat.zero_add]
    have HBs : Hid ((((w5.setCell ⟨w1.heap.size, 3, none⟩ (.slice a5 50 c5)).setCell ⟨w1.heap.size, 0, none⟩ (.string l)).setCell ⟨w1.heap.size, 1, none⟩ (.string r)).heap[w1.heap.size]? = some (.cells #[.string l, .string r, .string c, .slice a5 50 c5] 28 (0, 0))) := hide (set_blk2 (set_blk2 (set_blk2 (unhide HB5) rfl) rfl) rfl)
    have HB1s : Hid ((((w5.setCell ⟨w1.heap.size, 3, none⟩ (.slice a5 50 c5)).setCell ⟨w1.heap.size, 0, none⟩ (.string l)).setCell ⟨w1.heap.size, 1, none⟩ (.string r)).heap[w.heap.size + 1]? = some (.cells #[.string { data := #[] }, .string { data := #[] }, .string { data := #[] }, .slice none 0 0] 28 (0, 0))) := hide (set_else (set_else (set_else (unhide HB15) (by omega)) (by omega)) (by omega))
    go_wp2_with (first
      | (refine wpList_load_blk rfl 28 _ rfl (w1.heap.size) rfl _ _ _ _ (unhide HBs) Tryd.underlying28 rfl infoL ?_)
      | (refine wpList_store_blk rfl 28 _ _ rfl rfl (w.heap.size + 1) rfl _ _ _ rfl (unhide HB1s) infoL rfl (by simp [Value.oneCell']) ?_; intro Y hy hf9; have HY := hide hy; have FY := hide hf9; clear hy hf9))
    have FZ : Fr (fun q => q = w1.heap.size ∨ q = w.heap.size + 1) w5 Y := (Fr.setCell (Fr.setCell (Fr.setCell (S := fun q => q = w1.heap.size ∨ q = w.heap.size + 1) (Fr.refl _ w5) (a := ⟨w1.heap.size, 3, none⟩) (.inl rfl) _) (a := ⟨w1.heap.size, 0, none⟩) (.inl rfl) _) (a := ⟨w1.heap.size, 1, none⟩) (.inl rfl) _).tr ((unhide FY).mono (fun q hq => .inr hq))
    have v0 : Y.cell? ⟨w.heap.size + 1, 0, none⟩ = some (.string l) := cells_of (unhide HY) 0 _ rfl
    have v1 : Y.cell? ⟨w.heap.size + 1, 1, none⟩ = some (.string r) := cells_of (unhide HY) 1 _ rfl
    have v2 : Y.cell? ⟨w.heap.size + 1, 2, none⟩ = some (.string c) := cells_of (unhide HY) 2 _ rfl
    have v3 : Y.cell? ⟨w.heap.size + 1, 3, none⟩ = some (.slice a5 50 c5) := cells_of (unhide HY) 3 _ rfl
    have hl5 : uz.length = 50 := by rw [unhide HU, List.length_drop, unhide H1]
    have hO : Own2 Y w.heap.size 51 (.slice a5 50 c5) uz.length (fun j => .string (lnT uz j)) (fun j => .string (lnH uz j)) := by
      have h := unhide HO5
      rw [← unhide HU, ← hl5] at h
      rw [← hl5]
      refine ((own2_pr h).fr FZ (fun g hg e9 => ?_)).mono (by omega)
      have := (h.lt g hg).1
      omega
    exact bodyPost_ret (v := .agg #[.string l, .string r, .string c, .slice a5 50 c5]) (by simp [results, Tryd.results15, go_sem, v0, v1, v2, v3]) rfl ⟨_, rfl, hO, FZ.ext (unhide HE5) (fun q hq => by omega)⟩
  · have HU := hide (show uz = un ++ [(a, b)] by rw [unhide HUZ]; unfold undoN; rw [if_neg (by have := unhide HUL; omega)])
    have hlt : ¬ (50 : Int) < ((n + 1 : Nat) : Int) := by omega
    have hlt2 : ¬ 50 < n + 1 := by omega
    have HBs : Hid (((w4.setCell ⟨w1.heap.size, 0, none⟩ (.string l)).setCell ⟨w1.heap.size, 1, none⟩ (.string r)).heap[w1.heap.size]? = some (.cells #[.string l, .string r, .string c, .slice a3 (n + 1) c3] 28 (0, 0))) := hide (set_blk2 (set_blk2 (unhide HB4) rfl) rfl)
    have HB1s : Hid (((w4.setCell ⟨w1.heap.size, 0, none⟩ (.string l)).setCell ⟨w1.heap.size, 1, none⟩ (.string r)).heap[w.heap.size + 1]? = some (.cells #[.string { data := #[] }, .string { data := #[] }, .string { data := #[] }, .slice none 0 0] 28 (0, 0))) := hide (set_else (set_else (unhide HB14) (by omega)) (by omega))
    go_wp2_with (first
      | (refine wpList_load_blk rfl 28 _ rfl (w1.heap.size) rfl _ _ _ _ (unhide HBs) Tryd.underlying28 rfl infoL ?_)
      | (refine wpList_store_blk rfl 28 _ _ rfl rfl (w.heap.size + 1) rfl _ _ _ rfl (unhide HB1s) infoL rfl (by simp [Value.oneCell']) ?_; intro Y hy hf9; have HY := hide hy; have FY := hide hf9; clear hy hf9))
    have FZ : Fr (fun q => q = w1.heap.size ∨ q = w.heap.size + 1) w4 Y := (Fr.setCell (Fr.setCell (S := fun q => q = w1.heap.size ∨ q = w.heap.size + 1) (Fr.refl _ w4) (a := ⟨w1.heap.size, 0, none⟩) (.inl rfl) _) (a := ⟨w1.heap.size, 1, none⟩) (.inl rfl) _).tr ((unhide FY).mono (fun q hq => .inr hq))
    have v0 : Y.cell? ⟨w.heap.size + 1, 0, none⟩ = some (.string l) := cells_of (unhide HY) 0 _ rfl
    have v1 : Y.cell? ⟨w.heap.size + 1, 1, none⟩ = some (.string r) := cells_of (unhide HY) 1 _ rfl
    have v2 : Y.cell? ⟨w.heap.size + 1, 2, none⟩ = some (.string c) := cells_of (unhide HY) 2 _ rfl
    have v3 : Y.cell? ⟨w.heap.size + 1, 3, none⟩ = some (.slice a3 (n + 1) c3) := cells_of (unhide HY) 3 _ rfl
    have hO : Own2 Y w.heap.size 51 (.slice a3 (n + 1) c3) uz.length (fun j => .string (lnT uz j)) (fun j => .string (lnH uz j)) := by
      have h := (unhide HO4)
      rw [← unhide H1, ← unhide HU] at h
      rw [← unhide H1, ← unhide HU]
      refine ((own2_pr h).fr FZ (fun g hg e9 => ?_)).mono (by omega)
      rcases e9 with e9 | e9
      · subst e9
        obtain ⟨c9, k9⟩ := owns_kind h hg
        rw [unhide HB4] at k9
        injection k9 with k9
        injection k9 with _ k9
        exact absurd k9 (by decide)
      · have := (h.lt g hg).1
        omega
    exact bodyPost_ret (v := .agg #[.string l, .string r, .string c, .slice a3 (n + 1) c3]) (by simp [results, Tryd.results15, go_sem, v0, v1, v2, v3]) rfl ⟨_, rfl, hO, FZ.ext (unhide HE4) (fun q hq => by omega)⟩
end Go.Proofs.YtopjihagpkempaaDoor

namespace Go.Proofs.YtopjihagpkempaaDoor
open Go.RowKit

/-- A text that may be an item. -/
def ItemP (bs : List Int) : Prop := bs ≠ [] ∧ settleL bs = bs ∧ (cleanL bs).length ≤ 300
theorem encA_len : ∀ xs : List Int, (encA xs).length ≤ 4 * xs.length
  | [] => by simp [encA]
  | x :: xs => by
    have := encA_len xs
    have h2 : (encR x).length ≤ 4 := by
      unfold encR encL
      repeat' split
      all_goals simp
    simp only [encA, List.length_append, List.length_cons]
    omega
theorem settled_short (bs : List Int) (h : settleL bs = bs) : bs.length ≤ 4 * (cleanL bs).length := by
  have hv := ((settled_iff bs).1 h).2.2
  have h1 := encA_len (runesL bs)
  rw [hv] at h1
  rw [clean_runes, List.length_map]
  exact h1
theorem toBA_some {bs : List Int} (h : bs ≠ []) : (toBA bs).toList.isEmpty = false := by
  rw [toList_data, toBA_list]
  cases bs with
  | nil => exact absurd rfl h
  | cons a r => rfl
end Go.Proofs.YtopjihagpkempaaDoor
