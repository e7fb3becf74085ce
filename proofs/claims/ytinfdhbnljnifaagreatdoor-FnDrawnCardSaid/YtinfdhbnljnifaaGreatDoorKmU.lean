import Derived.Test.YtinfdhbnljnifaaGreatDoorWhole
import Derived.Test.YtinfdhbnljnifaaGreatDoorSizeB
import Derived.Deep.RegionHeldLaw
import Derived.Test.YtinfdhbnljnifaaGreatDoorEdW2
import Derived.Test.YtinfdhbnljnifaaGreatDoorSzCls
import Derived.Test.YtinfdhbnljnifaaGreatDoorAppRune
namespace Go.Proofs.YtinfdhbnljnifaaGreatDoor
open Go.RowKit
theorem zaF.take {w : World} {ao : Option Addr} {c n : Nat} {cs : List (List Int × Int)} (h : zaF w (.slice ao n c) cs) (x : Nat) (hx : x ≤ cs.length) : zaF w (.slice ao x c) (cs.take x) := by
 obtain ⟨rs, ao', cap, e, hc, hr, hcell⟩ := h
 simp only [Value.slice.injEq] at e
 obtain ⟨rfl, rfl, rfl⟩ := e
 have hl : (cs.take x).length = x := by simp; omega
 have hR : ∀ j, j < x → cR (cs.take x) j = cR cs j ∧ cW (cs.take x) j = cW cs j := fun j hj => by
  unfold cR cW
  rw [List.getElem?_take_of_lt hj]
  exact ⟨rfl, rfl⟩
 refine ⟨rs, ao, c, by rw [hl], by omega, fun j hj => ?_, fun hp => ?_⟩
 ·rw [(hR j (by omega)).1]
  exact hr j (by omega)
 ·obtain ⟨b, off, e2, h2⟩ := hcell (by omega)
  refine ⟨b, off, e2, fun j hj => ?_⟩
  rw [(hR j (by omega)).2]
  exact h2 j (by omega)
theorem infoClL : (Tryz.prog.info? 205).map (fun i => (i.zero, i.size, i.bytes)) = some (some (.agg #[.slice none 0 0, .int .i64 0]), 2, 32) := by kernel_rfl
theorem zdH {w : World} {b : Nat} {T : TypeId} {sz : Nat} {v : Value} {n : Nat} {xs : List Value} (h : w.ownsRow b T sz v n xs) : ∃ a c, v = .slice a n c := by
 rcases h.2 with ⟨rfl, h0⟩ | ⟨g, c, _, rfl, _⟩
 ·exact ⟨none, 0, by rw [h0]⟩
 ·exact ⟨_, c, rfl⟩
abbrev zeP (a b c : ByteArray) (ua : Option Addr) (un uc : Nat) : Array Value := #[.string a, .string b, .string c, .slice ua un uc]
abbrev zkK : Array Value := #[.slice none 0 0, .int .i64 0, .int .i64 0]
theorem znK {cs : List (List Int × Int)} (h : zco cs) (s e j : Nat) : 0 ≤ cW ((cs.take e).drop s) j ∧ cW ((cs.take e).drop s) j ≤ 2 := by
 unfold cW
 cases hj : ((cs.take e).drop s)[j]? with
 | none => simp
 | some u =>
  obtain ⟨q, hq⟩ := List.mem_iff_getElem?.1 (List.mem_of_mem_take (List.mem_of_mem_drop (List.mem_of_getElem? hj)))
  have := h.all q
  unfold cW at this
  rw [hq] at this
  exact this
theorem zok {cs : List (List Int × Int)} {cols p i : Nat} (hi : i < (zbk cs cols p).length) : 0 ≤ at0 (zbk cs cols p) i ∧ at0 (zbk cs cols p) i ≤ at0 (zbk cs cols p ++ [(cs.length : Int)]) (i + 1) ∧ at0 (zbk cs cols p ++ [(cs.length : Int)]) (i + 1) ≤ (cs.length : Int) := by
 have ok := zcP cs cols cs.length
 have hS : ∀ j, j < (stS cs cols).length → 0 ≤ at0 (stS cs cols) j ∧ at0 (stS cs cols) j ≤ (cs.length : Int) := ok.le
 have hM : ∀ j, j + 1 < (stS cs cols).length → at0 (stS cs cols) j ≤ at0 (stS cs cols) (j + 1) := ok.mono
 unfold zbk at hi ⊢
 split
 ·rename_i hL
  rw [if_pos hL] at hi
  simp at hi
  have hpn : p = cs.length := hL.1
  by_cases e1 : i + 1 < (stS cs cols).length
  ·rw [zaX, if_neg (by omega), zaX, if_neg (by simp; omega), zaX, if_neg (by omega)]
   have a := hS i (by omega)
   have b := hS (i + 1) e1
   exact ⟨a.1, hM i e1, b.2⟩
  ·by_cases e2 : i + 1 = (stS cs cols).length
   ·have e3 : at0 (stS cs cols ++ [(p : Int)] ++ [(cs.length : Int)]) (i + 1) = (p : Int) := by rw [zaX, if_neg (by simp; omega), zaX, if_pos e2]
    rw [e3, zaX, if_neg (by omega)]
    have a := hS i (by omega)
    omega
   ·have e4 : i = (stS cs cols).length := by omega
    have e3 : at0 (stS cs cols ++ [(p : Int)] ++ [(cs.length : Int)]) (i + 1) = (cs.length : Int) := by rw [zaX, if_pos (by simp; omega)]
    rw [e3, zaX, if_pos e4]
    omega
 ·rename_i hL
  rw [if_neg hL] at hi
  have a := hS i hi
  rw [zaX]
  split
  ·omega
  ·rename_i e
   have b := hS (i + 1) (by omega)
   have c := hM i (by omega)
   omega
set_option maxRecDepth 10000 in
set_option maxHeartbeats 1000000 in
theorem zkH (v : Value) (cs : List (List Int × Int)) (w : World) (hv : zaF w v cs) (hl : cs.length ≤ 16777216) (hW : ∀ j, 0 ≤ cW cs j ∧ cW cs j ≤ 2) :
  Calls Tryz.prog 146 #[v] w fun e w' => e = .returned (.int .i64 (zkE cs)) ∧ Ext w w' := by
 obtain ⟨ra, ao, ca, rfl, hca, hra, hxa⟩ := hv
 have HF : Hid (zkE cs = pw cs cs.length) := rfl
 obtain ⟨n, hn⟩ : ∃ n, n = cs.length := ⟨_, rfl⟩
 rw [← hn] at hca hra hxa hl HF ⊢
 have HX := zh hxa
 have HB := zh (pw_bd cs hW)
 have HW := zh hW
 clear hn hxa hra hW
 go_enter Tryz.func146, Tryz.ntmps146
 go_wp2
 go_loopw [3, 4] (fun s i wr => ∃ k : Nat, k ≤ n ∧ i = .int .i64 k ∧ s = .int .i64 (pw cs k) ∧ Ext w wr) (fun _ i _ => n - (intOf i).toNat)
 case atStart => exact ⟨0, Nat.zero_le _, rfl, rfl, Ext.refl _⟩
 case round =>
  obtain ⟨k, hk, rfl, rfl, hext⟩ := hrel
  by_cases hlt : k < n
  ·obtain ⟨b, off, hao, hc⟩ := (zu HX) (by omega)
   subst hao
   have g2 := hext.cell (hc k hlt).2
   clear hc
   have bk : (k : Int) < (n : Int) := by omega
   have b1 := (zu HB) k
   have b2 := (zu HW) k
   have hst : Hid (pw cs (k + 1) = pw cs k + cW cs k) := rfl
   go_wp2
   go_roundw
   case rel => exact ⟨k + 1, by omega, by go_num, by rw [zu hst], hext⟩
   case measure => simp [intOf]; omega
  ·obtain rfl : k = n := by omega
   have hb9 : ¬ (k : Int) < (k : Int) := by omega
   go_wp2
   go_ret
   exact ⟨zbF (zu HF).symm, hext⟩
set_option maxRecDepth 10000 in
set_option maxHeartbeats 1000000 in
theorem znk (v : Value) (S : List Int) (p : Nat) (w : World) (hv : zx w .i64 v S) (hl : S.length ≤ 16777216) :
  Calls Tryz.prog 145 #[v, .int .i64 p] w fun e w' => e = .returned (.int .i64 (rwF S p S.length)) ∧ w' = w := by
 obtain ⟨ao, ca, rfl, hca, hxa⟩ := hv
 obtain ⟨n, hn⟩ : ∃ n, n = S.length := ⟨_, rfl⟩
 rw [← hn] at hca hxa hl ⊢
 have HX := zh hxa
 clear hn hxa
 go_enter Tryz.func145, Tryz.ntmps145
 go_wp2
 go_loop [5, 6] (fun r i => ∃ k : Nat, k ≤ n ∧ i = .int .i64 k ∧ r = .int .i64 (rwF S p k : Nat)) (fun _ i => n - (intOf i).toNat)
 case atStart => exact ⟨0, Nat.zero_le _, rfl, rfl⟩
 case round =>
  obtain ⟨k, hk, rfl, rfl⟩ := hrel
  by_cases hlt : k < n
  ·obtain ⟨b, off, hao, hc⟩ := (zu HX) (by omega)
   subst hao
   have g1 := hc k hlt
   clear hc
   have bk : (k : Int) < (n : Int) := by omega
   by_cases hle : at0 S k ≤ (p : Int)
   ·have hst : Hid (rwF S p (k + 1) = k) := zh (by rw [rwF, if_pos hle])
    go_wp2
    go_round
    case rel => exact ⟨k + 1, by omega, by go_num, by rw [zu hst]⟩
    case measure => simp [intOf]; omega
   ·have hst : Hid (rwF S p (k + 1) = rwF S p k) := zh (by rw [rwF, if_neg hle])
    go_wp2
    go_round
    case rel => exact ⟨k + 1, by omega, by go_num, by rw [zu hst]⟩
    case measure => simp [intOf]; omega
  ·obtain rfl : k = n := by omega
   have hb9 : ¬ (k : Int) < (k : Int) := by omega
   go_wp2
   go_ret
   exact ⟨rfl, rfl⟩
structure zju (wr w0 : World) (z ge L : Nat) (S : List Int) (N : Nat) (rv : Value) (m : Nat) (T : Nat → ByteArray) (a b : Int) : Prop where
 box : wr.heap[z + 1]? = some (.cells #[rv, .int .i64 a, .int .i64 b] 46 (0, 0))
 own : wr.ownsRow z 9 1 rv m (zbC T m)
 ne1 : rv.ownBlock ≠ some (z + 1)
 ne2 : rv.ownBlock ≠ some ge
 gel : ge < wr.heap.size
 gez : ge ≠ z + 1
 ends : ∀ j, j < L → wr.cell? ⟨ge, j, none⟩ = some (.int .i64 (at0 (S ++ [(N : Int)]) (j + 1)))
 ext : Ext w0 wr
theorem zju.more {wr w0 w' w2 w3 : World} {z ge L : Nat} {S : List Int} {N : Nat} {rv : Value} {m : Nat} {T : Nat → ByteArray} {a b : Int} {g cap H : Nat} (h : zju wr w0 z ge L S N rv m T a b) (hz : w0.heap.size = z) (E : Ext wr w') (E2 : Ext w' w2) (hg : w2.grownBy w3 rv.ownBlock)
  (ho : w3.ownsRow z 9 1 (.slice (some ⟨g, 0, none⟩) (m + 1) cap) (m + 1) (zbC T m ++ [.string (T m)])) (hat : rv.ownBlock = some g ∨ g = H) (hH : wr.heap.size ≤ H) :
  zju (w3.setCell ⟨z + 1, 0, none⟩ (.slice (some ⟨g, 0, none⟩) (m + 1) cap)) w0 z ge L S N (.slice (some ⟨g, 0, none⟩) (m + 1) cap) (m + 1) T a b ∧ w3.heap[z + 1]? = some (.cells #[rv, .int .i64 a, .int .i64 b] 46 (0, 0)) := by
 have hb1 : z + 1 < wr.heap.size := (Array.getElem?_eq_some_iff.1 h.box).1
 have s1 := E.size
 have s2 := E2.size
 have s3 := hg.size
 have hgl := h.gel
 have hgz := h.gez
 have hgne : g ≠ z + 1 := by
  rcases hat with e | e
  ·intro e2; subst e2; exact h.ne1 e
  ·omega
 have hgne2 : g ≠ ge := by
  rcases hat with e | e
  ·intro e2; subst e2; exact h.ne2 e
  ·omega
 have blk : ∀ k, k < wr.heap.size → rv.ownBlock ≠ some k → w3.heap[k]? = wr.heap[k]? := fun k hk hn => (hg.block k (by omega) (fun e => hn e.symm)).trans ((E2.heap (by omega)).trans (E.heap hk))
 have hbox : w3.heap[z + 1]? = some (.cells #[rv, .int .i64 a, .int .i64 b] 46 (0, 0)) := (blk _ hb1 h.ne1).trans h.box
 have fr : Fr (fun k => k = z + 1) w3 (w3.setCell ⟨z + 1, 0, none⟩ (.slice (some ⟨g, 0, none⟩) (m + 1) cap)) := Fr.setCell (S := fun k => k = z + 1) (Fr.refl _ _) (a := ⟨z + 1, 0, none⟩) rfl _
 refine ⟨⟨?_, ?_, by simp [Value.ownBlock]; exact hgne, by simp [Value.ownBlock]; exact hgne2, by simp; omega, hgz, fun j hj => ?_, ?_⟩, hbox⟩
 ·rw [heap_setCell_same w3 (z + 1) 0 _ _ _ hbox]
  rfl
 ·rw [zfz]
  exact fr.owns ho (fun k hk e => by simp [Value.ownBlock] at hk; omega)
 ·have h1 := h.ends j hj
  have e1 : (w3.setCell ⟨z + 1, 0, none⟩ (.slice (some ⟨g, 0, none⟩) (m + 1) cap)).heap[ge]? = w3.heap[ge]? := fr.block ge (by omega) (by omega)
  rw [World.cell?_of_block (a := ⟨ge, j, none⟩) (e1.trans (blk ge h.gel h.ne2))]
  exact h1
 ·refine Fr.ext (S := fun k => k = z + 1) fr ?_ (fun k hk => by omega)
  exact ((h.ext.trans E).trans E2).grown hg (fun k hk => by have := (h.own.lt k hk).1; omega)
theorem ziW {W : World} {b i : Nat} {cs : Array Value} {T : TypeId} {v : Value} (h : W.heap[b]? = some (.cells cs T (0, 0))) : (W.setCell ⟨b, i, none⟩ v).heap[b]? = some (.cells (cs.setIfInBounds i v) T (0, 0)) := heap_setCell_same W b i _ _ _ h
theorem zj {W : World} {b i : Nat} {cs cs' : Array Value} {T : TypeId} {v : Value} (h : W.heap[b]? = some (.cells cs T (0, 0))) (e : cs.setIfInBounds i v = cs') : (W.setCell ⟨b, i, none⟩ v).heap[b]? = some (.cells cs' T (0, 0)) := by
 rw [ziW h, e]
theorem zbl {W : World} {b c i : Nat} {v : Value} {o : Obj} (h : W.heap[b]? = some o) (hne : b ≠ c) : (W.setCell ⟨c, i, none⟩ v).heap[b]? = some o := (Below.heap_setCell W ⟨c, i, none⟩ v b hne).trans h
def zaS (p : Prop) : Prop := p
theorem zaS.intro {p : Prop} (h : zaS p) : p := h
theorem Src.snaps {w : World} {v : Value} {n : Nat} {tx hf : Nat → ByteArray} (h : zag w v n (fun j => .string (tx j)) (fun j => .string (hf j))) : Src w 2 v n (zaK (fun j => .string (tx j)) (fun j => .string (hf j)) n) := by
 refine ⟨zcD _ _ _, zhc, ?_⟩
 obtain ⟨ao, c, rfl, hc, hx⟩ := h
 by_cases h0 : n = 0
 ·subst h0
  cases ao with
  | none => exact .inl ⟨c, rfl, rfl⟩
  | some ad => exact .inr ⟨ad, c, rfl, fun j u hu => by simp [zaK] at hu⟩
 ·obtain ⟨bb, off, e, hcc⟩ := hx (by omega)
  subst e
  exact .inr ⟨_, c, rfl, zd2 hcc⟩
theorem zeI {w : World} {base : Nat} {T : TypeId} {v : Value} {n : Nat} {A B : Nat → Value} (h : w.ownsRow base T 2 v n (zaK A B n)) : zaG w base T v n A B := ⟨_, h, fun j hj => zdm A B n j hj⟩
theorem zbi {w : World} {b : Nat} {T : TypeId} {sz : Nat} {v : Value} {n : Nat} {xs : List Value} (h : w.ownsRow b T sz v n xs) : ∃ a c, v = .slice a n c := by
 rcases h.2 with ⟨rfl, h0⟩ | ⟨g, c, _, rfl, _⟩
 ·exact ⟨none, 0, by rw [h0]⟩
 ·exact ⟨_, c, rfl⟩
set_option maxRecDepth 10000 in
set_option maxHeartbeats 2000000 in
theorem zaq (a b c : ByteArray) (v : Value) (n : Nat) (tx hf : Nat → ByteArray) (w : World) (hv : zag w v n (fun j => .string (tx j)) (fun j => .string (hf j))) (hn : n ≤ 1048576) :
  Calls Tryz.prog 132 #[.agg #[.string a, .string b, .string c, v]] w fun e w' => ∃ ua uc, e = .returned (.agg #[.string a, .string b, .string c, .slice ua n uc]) ∧ Hid (zaG w' w.heap.size 201 (.slice ua n uc) n (fun j => .string (tx j)) (fun j => .string (hf j))) ∧ Ext w w' := by
 obtain ⟨ic, hic, hc0, hc1, hc2⟩ := info_parts zgV
 have HV := zh hv
 obtain ⟨ao, ca, rfl, _, _⟩ := hv
 obtain ⟨V, hV⟩ : ∃ V, V = (w.alloc (.cells #[.string a, .string b, .string c, .slice ao n ca] 99)).alloc (.cells zL4 99) := ⟨_, rfl⟩
 have E0 : Ext w V := by rw [hV]; exact ((Ext.refl w).alloc _).alloc _
 have sz0 : V.heap.size = w.heap.size + 1 + 1 := by rw [hV]; simp
 have HB0 : Hid (V.heap[w.heap.size]? = some (.cells #[.string a, .string b, .string c, .slice ao n ca] 99 (0, 0))) := zh (by rw [hV]; exact ((Ext.refl _).alloc _).kept (zk w _))
 have HB1 : Hid (V.heap[w.heap.size + 1]? = some (.cells zL4 99 (0, 0))) := zh (by rw [hV]; have h := zk (w.alloc (.cells #[.string a, .string b, .string c, .slice ao n ca] 99)) (.cells zL4 99); rw [show (w.alloc (.cells #[.string a, .string b, .string c, .slice ao n ca] 99)).heap.size = w.heap.size + 1 by simp] at h; exact h)
 have HO := zh (zaD V 201 2)
 have HSR := zh (Src.snaps ((zu HV).ext (E0.alloc (.cells #[] 201))))
 obtain ⟨V2, hV2⟩ : ∃ V2, V2 = V.alloc (.cells #[] 201) := ⟨_, rfl⟩
 have EV : Ext V V2 := by rw [hV2]; exact (Ext.refl V).alloc _
 have sz2 : V2.heap.size = w.heap.size + 1 + 1 + 1 := by rw [hV2]; simp [sz0]
 rw [← hV2] at HO HSR
 have HVV : Hid (V2 = ((w.alloc (.cells #[.string a, .string b, .string c, .slice ao n ca] 99)).alloc (.cells zL4 99)).alloc (.cells #[] 201)) := zh (by rw [hV2, hV])
 rw [sz0] at HO
 clear hV hV2
 go_enter Tryz.func132, Tryz.ntmps132
 go_wp2_with (at_builtin; refine zaS.intro ?_)
 show wpList _ _ _ _ _ _
 rw [← zu HVV]
 clear HVV
 refine zd rfl _ _ 97 rfl (w.heap.size + 1 + 1) 201 ic (.agg #[.string noT, .string noT]) 2 32 Tryz.underlying97 hic hc0 hc1 hc2 rfl (by decide) _ 0 [] rfl (zu HO) _ n (zaK (fun j => .string (tx j)) (fun j => .string (hf j)) n) rfl (zu HSR) (by unfold maxLen; omega) (by omega) (by omega) ?_
 intro v2 w2 o2 G2 _
 have X2 := Fr.grown (S := fun q => q = w.heap.size + 1 + 1) (Fr.of_ext EV) G2 (fun q hq => by cases hq; rfl)
 have E2 : Ext w w2 := X2.ext E0 (fun q hq => by omega)
 rw [Nat.zero_add, List.nil_append] at o2
 obtain ⟨a2, c2, rfl⟩ := zbi o2
 replace HB0 := zh (X2.kept (zu HB0) (by omega))
 replace HB1 := zh (X2.kept (zu HB1) (by omega))
 have HO2 := zh (zeI o2)
 have x3 := zg (zu HB0) 3 _ rfl
 have f0 : ∀ i, w2.frozen? ⟨w.heap.size, i, none⟩ = false := fun i => Lib.frozen_of_heap (zu HB0) i
 have infoL : (Tryz.prog.info? 99).map (·.size) = some 4 := by kernel_rfl
 have HB0s : Hid ((w2.setCell ⟨w.heap.size, 3, none⟩ (.slice a2 n c2)).heap[w.heap.size]? = some (.cells #[.string a, .string b, .string c, .slice a2 n c2] 99 (0, 0))) := zh (zj (zu HB0) rfl)
 have HB1s : Hid ((w2.setCell ⟨w.heap.size, 3, none⟩ (.slice a2 n c2)).heap[w.heap.size + 1]? = some (.cells zL4 99 (0, 0))) := zh (zbl (zu HB1) (by omega))
 clear o2 G2 X2
 go_wp2_with (first
  | (refine zl rfl 99 _ rfl (w.heap.size) rfl _ _ _ _ (zu HB0s) Tryz.underlying99 rfl infoL ?_)
  | (refine zi rfl 99 _ _ rfl rfl (w.heap.size + 1) rfl _ _ _ rfl (zu HB1s) infoL rfl (by simp [Value.oneCell']) ?_; intro U HB9 hU9; have HU9 := zh hU9; have HB9' := zh HB9; clear hU9 HB9))
 have HB9 := zu HB9'
 have hU : Fr (fun q => q = w.heap.size ∨ q = w.heap.size + 1) w2 U := (Fr.setCell (S := fun q => q = w.heap.size ∨ q = w.heap.size + 1) (Fr.refl _ _) (a := ⟨w.heap.size, 3, none⟩) (.inl rfl) _).tr ((zu HU9).mono (fun q hq => .inr hq))
 clear HU9 HB9' x3 f0
 have v0 := zg HB9 0 _ rfl
 have v1 := zg HB9 1 _ rfl
 have v2 := zg HB9 2 _ rfl
 have v3 := zg HB9 3 _ rfl
 exact bodyPost_ret (v := .agg #[.string a, .string b, .string c, .slice a2 n c2]) (by simp [results, Tryz.results132, go_sem, v0, v1, v2, v3]) rfl ⟨a2, c2, rfl, zh (((zu HO2).fr hU (fun g hg e9 => by have := ((zu HO2).lt g hg).1; omega)).mono (by omega)), hU.ext E2 (fun q hq => by omega)⟩
def zbA (s : List Int) (c : Int) : List Int := s ++ List.replicate (zbp (at0 s 0) - s.length) c
def zbS (s : List Int) : Bool := decide (s.length < zbp (at0 s 0)) && (decide ((zak (zbA s 128)).2 = (zbp (at0 s 0) : Int)) || decide ((zak (zbA s 191)).2 = (zbp (at0 s 0) : Int)))
set_option maxRecDepth 10000 in
set_option maxHeartbeats 4000000 in
theorem zkI (bs : List Int) (hb : zv bs) (v : Value) (i : Nat) (w : World) (hv : zx w .u8 v bs) (hi : i < bs.length) (hl : bs.length ≤ 4398046511104) :
  Calls Tryz.prog 41 #[v, .int .i64 i] w fun e w' => e = .returned (.bool (zbS (bs.drop i))) ∧ Ext w w' := by
 obtain ⟨ao, cap, rfl, hcap, hr⟩ := hv
 obtain ⟨b, off, rfl, hc⟩ := hr (by omega)
 have HC := zh hc
 have g1 := hc i hi
 have hbs := zh (fun n hn => hb n (List.mem_of_mem_drop hn) : zv (bs.drop i))
 clear hr hc hb
 have hat : at0 (bs.drop i) 0 = at0 bs i := by rw [zaQ]; rfl
 obtain ⟨s, hs⟩ : ∃ s, s = bs.drop i := ⟨_, rfl⟩
 have hsl : s.length = bs.length - i := by rw [hs]; simp
 rw [← hs] at hbs hat ⊢
 obtain ⟨n, hn⟩ : ∃ n, n = zbp (at0 bs i) := ⟨_, rfl⟩
 have h4 : n ≤ 4 := by rw [hn]; unfold zbp; (repeat' split) <;> omega
 have HN : Hid (zbp (at0 s 0) = n) := zh (by rw [hat, hn])
 have HNN := zh hn
 have hwI : IntKind.i64.wrap ((bs.length : Int) - (i : Int)) = (s.length : Int) := by rw [IntKind.wrap_i64]; omega
 have hSrc : Hid (zx w .u8 (.slice (some ⟨b, off + i, none⟩) s.length (cap - i)) s) := zh ⟨_, _, rfl, by omega, fun _ => ⟨b, off + i, rfl, fun j hj => by
  have h9 := (zu HC) (i + j) (by omega)
  rw [hs, zaQ]
  rw [show off + i + j = off + (i + j) by omega]
  exact h9⟩⟩
 have HSL := zh hsl
 clear hn hat hs
 by_cases hA : n = 0
 ·subst hA
  have HF := zh (show zbS s = false by unfold zbS; rw [zu HN]; simp)
  clear hwI hsl
  go_enter Tryz.func41, Tryz.ntmps41
  go_wp2_with fail
  refine (zcd _ _).mono ?_
  rw [← zu HNN]
  rintro e w1 ⟨rfl, rfl⟩
  go_wp2
  exact bodyPost_ret (v := .bool false) (by simp [results, Tryz.results41, go_sem]) rfl ⟨by rw [zu HF], Ext.refl _⟩
 have hz : ((n : Int) == 0) = false := by simp; omega
 by_cases hB : n ≤ s.length
 ·have HF := zh (show zbS s = false by unfold zbS; rw [zu HN]; simp; omega)
  have hBI : (n : Int) ≤ (s.length : Int) := by omega
  clear hsl
  go_enter Tryz.func41, Tryz.ntmps41
  go_wp2_with fail
  refine (zcd _ _).mono ?_
  rw [← zu HNN]
  rintro e w1 ⟨rfl, rfl⟩
  go_wp2
  exact bodyPost_ret (v := .bool false) (by simp [results, Tryz.results41, go_sem]) rfl ⟨by rw [zu HF], Ext.refl _⟩
 have hBI : ¬ (n : Int) ≤ (s.length : Int) := by omega
 have hs1 : 1 ≤ s.length := by omega
 have hcm : ¬ cap = i := by omega
 have hci : (i : Int) ≤ (bs.length : Int) := by omega
 have hcj : (bs.length : Int) ≤ (cap : Int) := by omega
 obtain ⟨i0, hi0, hz0, hz1, hz2⟩ := info_parts zbP
 have HR := zh (fun (L : Int) (hL : 0 ≤ L ∧ L ≤ 255) v W (hv : zx W .u8 v (zbA s L)) => zeO (zbA s L) (fun x hx => by
  unfold zbA at hx
  rcases List.mem_append.1 hx with h9 | h9
  ·exact (zu hbs) x h9
  ·have := List.eq_of_mem_replicate h9; rw [this]; exact hL) v 0 W hv (by unfold zbA; rw [List.length_append]; omega) (by unfold zbA; rw [List.length_append, List.length_replicate, zu HN]; omega))
 have HBF := zh (show zbS s = (decide ((zak (zbA s 128)).2 = (n : Int)) || decide ((zak (zbA s 191)).2 = (n : Int))) by unfold zbS; rw [zu HN]; simp; omega)
 have hsd : bs.length - i = s.length := hsl.symm
 clear hsl
 go_enter Tryz.func41, Tryz.ntmps41
 go_wp2_with fail
 refine (zcd _ _).mono ?_
 rw [← zu HNN]
 rintro e w1 ⟨rfl, rfl⟩
 go_wp2
 go_loopw [7] (fun l9 wr => ∃ L : Int, l9 = .int .i64 L ∧ (L = 128 ∨ L = 191 ∨ L = 254) ∧ Hid ((128 < L → (zak (zbA s 128)).2 ≠ (n : Int)) ∧ (191 < L → (zak (zbA s 191)).2 ≠ (n : Int))) ∧ Ext w1 wr) (fun l9 _ => 300 - (intOf l9).toNat)
 case atStart => exact ⟨128, rfl, .inl rfl, zh ⟨fun h => absurd h (by omega), fun h => absurd h (by omega)⟩, Ext.refl _⟩
 case round =>
  rename World => wo
  obtain ⟨L, rfl, hL, HQ, hext⟩ := hrel
  by_cases hLe : L = 254
  ·subst hLe
   have HF := zh (show zbS s = false by
    rw [zu HBF]
    have h9 := zu HQ
    simp [h9.1 (by omega), h9.2 (by omega)])
   clear HQ
   go_wp2
   exact bodyPost_ret (v := .bool false) (by simp [results, Tryz.results41, go_sem]) rfl ⟨by rw [zu HF], hext⟩
  have hL1 : L < 192 := by omega
  have hL0 : 0 ≤ L ∧ L ≤ 255 := by omega
  have hwL : IntKind.u8.wrap L = L := by rw [IntKind.wrap_u8]; omega
  have HE0 := zh (hext.alloc (.cells #[] 5))
  have HSr := zh (Src.ints ((zu hSrc).ext (zu HE0)))
  have HOe := zh (zaD wo 5 1)
  go_wp2_with (at_builtin; refine zaS.intro ?_)
  show wpList _ _ _ _ _ _
  refine zd rfl _ _ 22 rfl wo.heap.size 5 i0 (.int .u8 0) 1 1 Tryz.underlying22 hi0 hz0 hz1 hz2 rfl (by decide) _ _ _ rfl (zu HOe) _ s.length (s.map (Value.int .u8)) rfl (zu HSr) (by unfold maxLen; omega) (by omega) (by simp) ?_
  intro v5 w5 o5 G5 _
  rw [Nat.zero_add, List.nil_append] at o5
  obtain ⟨a5, c5, rfl⟩ : ∃ a c, v5 = .slice a s.length c := by
   rcases o5.2 with ⟨e, h0⟩ | ⟨g, cap9, cur, e, _⟩
   ·exact ⟨none, 0, by rw [e]; omega⟩
   ·exact ⟨_, _, e⟩
  have HO5 := zh o5
  have E5 := zh ((zu HE0).grown G5 (fun q hq => by have h9 : wo.heap.size = q := Option.some.inj hq; have := hext.size; omega))
  clear o5 G5 HOe HSr HE0
  go_wp2_with fail
  go_loopw [8] (fun a9 wi => ∃ (k : Nat) (ai : Option Addr) (ci : Nat), s.length + k ≤ n ∧ a9 = .slice ai (s.length + k) ci ∧ Hid (wi.ownsRow wo.heap.size 5 1 (.slice ai (s.length + k) ci) (s.length + k) ((s ++ List.replicate k L).map (Value.int .u8))) ∧ Ext w1 wi) (fun a9 _ => n - (match a9 with | .slice _ l _ => l | _ => 0))
  case atStart => exact ⟨0, a5, c5, by omega, by simp, by simpa using HO5, zu E5⟩
  case round =>
   rename World => wi
   obtain ⟨k, ai, ci, hk, rfl, HOi, hexi⟩ := hrel
   have hkk : IntKind.i64.wrap ((s.length : Int) + (k : Int)) = (s.length : Int) + (k : Int) := by rw [IntKind.wrap_i64]; omega
   by_cases hlt : s.length + k < n
   ·have hltI : (s.length : Int) + (k : Int) < (n : Int) := by omega
    have HO6 := zh ((zu HOi).alloc (.cells #[.int .u8 L] 5))
    have HS6 := zh (Src.made (w := wi) (size := 1) [.int .u8 L] 1 5 rfl (by simp [Value.oneCell']))
    have HE6 := zh (hexi.alloc (.cells #[.int .u8 L] 5))
    have hbi : wo.heap.size ≤ (wi.alloc (.cells #[.int .u8 L] 5)).heap.size := by
     rcases (zu HOi).2 with ⟨_, e0⟩ | ⟨g, cc, cur, e0, hg, hb9, _⟩
     ·omega
     ·have := (Array.getElem?_eq_some_iff.1 hb9).1
      simp
      omega
    have Hbi := zh hbi
    clear hbi
    go_wp2_with (at_builtin; refine zaS.intro ?_)
    show wpList _ _ _ _ _ _
    refine zd rfl _ _ 22 rfl wo.heap.size 5 i0 (.int .u8 0) 1 1 Tryz.underlying22 hi0 hz0 hz1 hz2 rfl (by decide) _ _ _ rfl (zu HO6) _ 1 [.int .u8 L] rfl (zu HS6) (by unfold maxLen; omega) (by omega) (zu Hbi) ?_
    intro v7 w7 o7 G7 _
    obtain ⟨a7, c7, rfl⟩ : ∃ a c, v7 = .slice a (s.length + (k + 1)) c := by
     rcases o7.2 with ⟨e, h0⟩ | ⟨g, cap9, cur, e, _⟩
     ·omega
     ·exact ⟨_, _, e⟩
    have HO7 : Hid (w7.ownsRow wo.heap.size 5 1 (.slice a7 (s.length + (k + 1)) c7) (s.length + (k + 1)) ((s ++ List.replicate (k + 1) L).map (Value.int .u8))) := zh (by
     rw [List.replicate_succ', ← List.append_assoc, List.map_append]
     exact o7)
    have HE7 := zh ((zu HE6).grown G7 (fun q hq => by have := ((zu HOi).lt q hq).1; have := hext.size; omega))
    clear o7 G7 HO6 HS6 HE6 Hbi
    go_wp2
    go_roundw
    case rel => exact ⟨k + 1, a7, c7, by omega, rfl, HO7, zu HE7⟩
    case measure => simp; omega
   ·have hnl : ¬ (s.length : Int) + (k : Int) < (n : Int) := by omega
    have HNK : Hid (n = s.length + k) := zh (by omega)
    have hfill : s ++ List.replicate k L = zbA s L := by unfold zbA; rw [zu HN, zu HNK, Nat.add_sub_cancel_left]
    rw [hfill] at HOi
    have hfl : (zbA s L).length = s.length + k := by rw [← hfill]; simp
    have hRc := zh ((zu HR) L hL0 (.slice ai (s.length + k) ci) wi (by rw [← hfl]; exact zz (by rw [hfl]; exact zu HOi)))
    obtain ⟨D, hD⟩ : ∃ D, zak (zbA s L) = D := ⟨_, rfl⟩
    rw [List.drop_zero, hD] at hRc
    clear hfill hfl HOi
    go_wp2_with fail
    refine (zu hRc).mono ?_
    rintro e w8 ⟨rfl, E8⟩
    have HE8 := zh (hexi.trans E8)
    clear E8 hRc
    by_cases hy : ((D.2 : Nat) : Int) = (n : Int)
    ·have hyb : (((D.2 : Nat) : Int) == (n : Int)) = true := by simpa using hy
     have HF := zh (show zbS s = true by
      rw [zu HBF]
      rcases hL with rfl | rfl | rfl
      ·rw [hD]; simp [hy]
      ·rw [hD]; simp [hy]
      ·omega)
     clear HQ HBF hD
     go_wp2
     exact bodyPost_ret (v := .bool true) (by simp [results, Tryz.results41, go_sem]) rfl ⟨by rw [zu HF], zu HE8⟩
    ·have hyb : (((D.2 : Nat) : Int) == (n : Int)) = false := by simpa using hy
     have HQ2 : Hid ((128 < L + 63 → (zak (zbA s 128)).2 ≠ (n : Int)) ∧ (191 < L + 63 → (zak (zbA s 191)).2 ≠ (n : Int))) := zh (by
      rcases hL with rfl | rfl | rfl
      ·rw [hD]; exact ⟨fun _ => hy, fun h => absurd h (by omega)⟩
      ·rw [hD]; exact ⟨fun _ => (zu HQ).1 (by omega), fun _ => hy⟩
      ·omega)
     clear HQ hD
     go_wp2
     go_roundw
     case rel => exact ⟨L + 63, by go_num, by omega, HQ2, zu HE8⟩
     case measure => simp [intOf]; omega
def loB (c : Int) : Int := if c = 224 then 160 else if c = 240 then 144 else 128
def hiB (c : Int) : Int := if c = 237 then 159 else if c = 244 then 143 else 191
def nB (c : Int) : Nat := if c < 194 then 1 else if c < 224 then 2 else if c < 240 then 3 else if c < 245 then 4 else 1
def zaP (s : List Int) : Bool :=
 decide (nB (at0 s 0) ≤ s.length) || (decide (1 < s.length) && (decide (at0 s 1 < loB (at0 s 0)) || decide (hiB (at0 s 0) < at0 s 1))) || (decide (2 < s.length) && (decide (at0 s 2 < 128) || decide (191 < at0 s 2)))
theorem zfp (v : Int) : Utf8.valid v = true ↔ (0 ≤ v ∧ v < 55296) ∨ (57343 < v ∧ v ≤ 1114111) := by
 unfold Utf8.valid
 simp
 omega
theorem zhr (a b : Int) (l : List Int) : zaz (a :: b :: l) 1 = true ↔ 128 ≤ b ∧ b ≤ 191 := by simp [zaz, at0]
theorem zks (a b c : Int) (l : List Int) : zaz (a :: b :: c :: l) 2 = true ↔ 128 ≤ c ∧ c ≤ 191 := by simp [zaz, at0]
theorem zlc (a b c d : Int) (l : List Int) : zaz (a :: b :: c :: d :: l) 3 = true ↔ 128 ≤ d ∧ d ≤ 191 := by simp [zaz, at0]
theorem dec2 (a b : Int) (l : List Int) (h : 192 ≤ a ∧ a < 224) : (zak (a :: b :: l)).2 = 2 ↔ 194 ≤ a ∧ 128 ≤ b ∧ b ≤ 191 := by
 unfold zak
 have e0 : at0 (a :: b :: l) 0 = a := rfl
 have e1 : at0 (a :: b :: l) 1 = b := rfl
 simp only [e0, zhr, v2, e1]
 rw [if_neg (by omega)]
 by_cases h1 : 128 ≤ b ∧ b ≤ 191
 ·rw [if_pos ⟨h, h1⟩]
  split
  ·simp; omega
  ·simp; omega
 ·rw [if_neg (fun x => h1 x.2), if_neg (by omega), if_neg (by omega)]
  simp
  omega
theorem dec3 (a b c : Int) (l : List Int) (h : 224 ≤ a ∧ a < 240) : (zak (a :: b :: c :: l)).2 = 3 ↔ loB a ≤ b ∧ b ≤ hiB a ∧ 128 ≤ c ∧ c ≤ 191 := by
 unfold zak
 have e0 : at0 (a :: b :: c :: l) 0 = a := rfl
 have e1 : at0 (a :: b :: c :: l) 1 = b := rfl
 have e2 : at0 (a :: b :: c :: l) 2 = c := rfl
 simp only [e0, zhr, zks, v3, e1, e2, zfp]
 unfold loB hiB
 rw [if_neg (by omega), if_neg (by omega)]
 by_cases h1 : (128 ≤ b ∧ b ≤ 191) ∧ 128 ≤ c ∧ c ≤ 191
 ·rw [if_pos ⟨h, h1⟩]
  split
  ·simp; (repeat' split) <;> omega
  ·simp; (repeat' split) <;> omega
 ·rw [if_neg (fun x => h1 x.2), if_neg (by omega)]
  simp
  (repeat' split) <;> omega
theorem zf9 (a b c d : Int) (l : List Int) (h : 240 ≤ a ∧ a < 248) : (zak (a :: b :: c :: d :: l)).2 = 4 ↔ a < 245 ∧ loB a ≤ b ∧ b ≤ hiB a ∧ (128 ≤ c ∧ c ≤ 191) ∧ 128 ≤ d ∧ d ≤ 191 := by
 unfold zak
 have e0 : at0 (a :: b :: c :: d :: l) 0 = a := rfl
 have e1 : at0 (a :: b :: c :: d :: l) 1 = b := rfl
 have e2 : at0 (a :: b :: c :: d :: l) 2 = c := rfl
 have e3 : at0 (a :: b :: c :: d :: l) 3 = d := rfl
 simp only [e0, zhr, zks, zlc, v4, e1, e2, e3, zfp]
 unfold loB hiB
 rw [if_neg (by omega), if_neg (by omega), if_neg (by omega)]
 by_cases h1 : (128 ≤ b ∧ b ≤ 191) ∧ (128 ≤ c ∧ c ≤ 191) ∧ 128 ≤ d ∧ d ≤ 191
 ·rw [if_pos ⟨h, h1⟩]
  split
  ·simp; (repeat' split) <;> omega
  ·simp; (repeat' split) <;> omega
 ·rw [if_neg (fun x => h1 x.2)]
  simp
  (repeat' split) <;> omega
theorem zdz (a : Int) : (a < 128 ∧ zbp a = 1) ∨ ((128 ≤ a ∧ a < 192 ∨ 248 ≤ a) ∧ zbp a = 0) ∨ ((192 ≤ a ∧ a < 224) ∧ zbp a = 2) ∨ ((224 ≤ a ∧ a < 240) ∧ zbp a = 3) ∨ ((240 ≤ a ∧ a < 248) ∧ zbp a = 4) := by
 unfold zbp
 (repeat' split) <;> omega
theorem zdh (a : Int) : (a < 194 ∧ nB a = 1) ∨ ((194 ≤ a ∧ a < 224) ∧ nB a = 2) ∨ ((224 ≤ a ∧ a < 240) ∧ nB a = 3) ∨ ((240 ≤ a ∧ a < 245) ∧ nB a = 4) ∨ (245 ≤ a ∧ nB a = 1) := by
 unfold nB
 (repeat' split) <;> omega
theorem lo_hi (a : Int) : 128 ≤ loB a ∧ loB a ≤ 160 ∧ 143 ≤ hiB a ∧ hiB a ≤ 191 ∧ loB a ≤ hiB a ∧ (hiB a < 191 → loB a = 128) := by
 unfold loB hiB
 (repeat' split) <;> omega
theorem zgi (s : List Int) : zbS s = true ↔ s.length < zbp (at0 s 0) ∧ ((zak (zbA s 128)).2 = zbp (at0 s 0) ∨ (zak (zbA s 191)).2 = zbp (at0 s 0)) := by
 unfold zbS
 simp only [Bool.and_eq_true, Bool.or_eq_true, decide_eq_true_eq]
 constructor
 ·rintro ⟨h1, h2⟩; exact ⟨h1, by omega⟩
 ·rintro ⟨h1, h2⟩; exact ⟨h1, by omega⟩
theorem zcw (s : List Int) : zaP s = false ↔ s.length < nB (at0 s 0) ∧ (1 < s.length → loB (at0 s 0) ≤ at0 s 1 ∧ at0 s 1 ≤ hiB (at0 s 0)) ∧ (2 < s.length → 128 ≤ at0 s 2 ∧ at0 s 2 ≤ 191) := by
 unfold zaP
 simp only [Bool.or_eq_false_iff, Bool.and_eq_false_iff, decide_eq_false_iff_not]
 omega
theorem znq (a : Int) : zbS [a] = true ↔ zaP [a] = false := by
 rw [zgi, zcw]
 have e0 : at0 [a] 0 = a := rfl
 rw [e0]
 have hl := lo_hi a
 simp only [List.length_cons, List.length_nil]
 unfold zbA
 rw [e0]
 rcases zdz a with ⟨h, hn⟩ | ⟨h, hn⟩ | ⟨h, hn⟩ | ⟨h, hn⟩ | ⟨h, hn⟩ <;> rcases zdh a with ⟨k, hm⟩ | ⟨k, hm⟩ | ⟨k, hm⟩ | ⟨k, hm⟩ | ⟨k, hm⟩ <;> rw [hn, hm] <;> try omega
 ·show _ ∧ ((zak [a, 128]).2 = 2 ∨ (zak [a, 191]).2 = 2) ↔ _
  rw [dec2 a 128 [] h, dec2 a 191 [] h]; omega
 ·show _ ∧ ((zak [a, 128]).2 = 2 ∨ (zak [a, 191]).2 = 2) ↔ _
  rw [dec2 a 128 [] h, dec2 a 191 [] h]; omega
 ·show _ ∧ ((zak [a, 128, 128]).2 = 3 ∨ (zak [a, 191, 191]).2 = 3) ↔ _
  rw [dec3 a 128 128 [] h, dec3 a 191 191 [] h]; omega
 ·show _ ∧ ((zak [a, 128, 128, 128]).2 = 4 ∨ (zak [a, 191, 191, 191]).2 = 4) ↔ _
  rw [zf9 a 128 128 128 [] h, zf9 a 191 191 191 [] h]; omega
 ·show _ ∧ ((zak [a, 128, 128, 128]).2 = 4 ∨ (zak [a, 191, 191, 191]).2 = 4) ↔ _
  rw [zf9 a 128 128 128 [] h, zf9 a 191 191 191 [] h]; omega
theorem zni (a b : Int) : zbS [a, b] = true ↔ zaP [a, b] = false := by
 rw [zgi, zcw]
 have e0 : at0 [a, b] 0 = a := rfl
 have e1 : at0 [a, b] 1 = b := rfl
 rw [e0, e1]
 have hl := lo_hi a
 simp only [List.length_cons, List.length_nil]
 unfold zbA
 rw [e0]
 rcases zdz a with ⟨h, hn⟩ | ⟨h, hn⟩ | ⟨h, hn⟩ | ⟨h, hn⟩ | ⟨h, hn⟩ <;> rcases zdh a with ⟨k, hm⟩ | ⟨k, hm⟩ | ⟨k, hm⟩ | ⟨k, hm⟩ | ⟨k, hm⟩ <;> rw [hn, hm] <;> try omega
 ·show _ ∧ ((zak [a, b, 128]).2 = 3 ∨ (zak [a, b, 191]).2 = 3) ↔ _
  rw [dec3 a b 128 [] h, dec3 a b 191 [] h]; omega
 ·show _ ∧ ((zak [a, b, 128, 128]).2 = 4 ∨ (zak [a, b, 191, 191]).2 = 4) ↔ _
  rw [zf9 a b 128 128 [] h, zf9 a b 191 191 [] h]; omega
 ·show _ ∧ ((zak [a, b, 128, 128]).2 = 4 ∨ (zak [a, b, 191, 191]).2 = 4) ↔ _
  rw [zf9 a b 128 128 [] h, zf9 a b 191 191 [] h]; omega
theorem zm0 (a b c : Int) : zbS [a, b, c] = true ↔ zaP [a, b, c] = false := by
 rw [zgi, zcw]
 have e0 : at0 [a, b, c] 0 = a := rfl
 have e1 : at0 [a, b, c] 1 = b := rfl
 have e2 : at0 [a, b, c] 2 = c := rfl
 rw [e0, e1, e2]
 have hl := lo_hi a
 simp only [List.length_cons, List.length_nil]
 unfold zbA
 rw [e0]
 rcases zdz a with ⟨h, hn⟩ | ⟨h, hn⟩ | ⟨h, hn⟩ | ⟨h, hn⟩ | ⟨h, hn⟩ <;> rcases zdh a with ⟨k, hm⟩ | ⟨k, hm⟩ | ⟨k, hm⟩ | ⟨k, hm⟩ | ⟨k, hm⟩ <;> rw [hn, hm] <;> try omega
 ·show _ ∧ ((zak [a, b, c, 128]).2 = 4 ∨ (zak [a, b, c, 191]).2 = 4) ↔ _
  rw [zf9 a b c 128 [] h, zf9 a b c 191 [] h]; omega
 ·show _ ∧ ((zak [a, b, c, 128]).2 = 4 ∨ (zak [a, b, c, 191]).2 = 4) ↔ _
  rw [zf9 a b c 128 [] h, zf9 a b c 191 [] h]; omega
theorem zde : ∀ s : List Int, 0 < s.length → zbS s = !zaP s
 | [], h => by simp at h
 | [a], _ => by have := znq a; cases h1 : zbS [a] <;> cases h2 : zaP [a] <;> simp_all
 | [a, b], _ => by have := zni a b; cases h1 : zbS [a, b] <;> cases h2 : zaP [a, b] <;> simp_all
 | [a, b, c], _ => by have := zm0 a b c; cases h1 : zbS [a, b, c] <;> cases h2 : zaP [a, b, c] <;> simp_all
 | a :: b :: c :: d :: l, _ => by
  have h1 : ¬ zbS (a :: b :: c :: d :: l) = true := by
   rw [zgi]
   rintro ⟨h1, _⟩
   simp only [List.length_cons] at h1
   rcases zdz (at0 (a :: b :: c :: d :: l) 0) with ⟨h, hn⟩ | ⟨h, hn⟩ | ⟨h, hn⟩ | ⟨h, hn⟩ | ⟨h, hn⟩ <;> omega
  have h2 : ¬ zaP (a :: b :: c :: d :: l) = false := by
   rw [zcw]
   rintro ⟨h1, _⟩
   simp only [List.length_cons] at h1
   rcases zdh (at0 (a :: b :: c :: d :: l) 0) with ⟨h, hn⟩ | ⟨h, hn⟩ | ⟨h, hn⟩ | ⟨h, hn⟩ | ⟨h, hn⟩ <;> omega
  cases h3 : zbS (a :: b :: c :: d :: l) <;> cases h4 : zaP (a :: b :: c :: d :: l) <;> simp_all
end Go.Proofs.YtinfdhbnljnifaaGreatDoor
