import Derived.Test.YtmlkpdbfnffoaaaGreatDoorEdPr
import Derived.Test.YtmlkpdbfnffoaaaGreatDoorEdWr
import Derived.Test.YtmlkpdbfnffoaaaGreatDoorEdP2
set_option maxHeartbeats 8000000
set_option maxRecDepth 10000
namespace Go.Proofs.YtmlkpdbfnffoaaaGreatDoor
open Go.RowKit
theorem Fr.offG {S : Nat → Prop} {G : Nat} {W0 W w' : World} (h : Fr (fun q => q = G) W0 W) (k : Fr S W w') (hS : ∀ x, S x → W0.heap.size ≤ x) : Fr (fun q => q = G) W0 w' := Fr.off h k (fun x hx => .inr (hS x hx))
theorem zmS (P : Nat) (cl rl rr : List Value) (A B : List (List Int × Int)) (bh : Nat) (hbh : bh = 300 - B.length) (k : ByteArray) (u : Value) (un : List (ByteArray × ByteArray)) (W : World) (hP : W.heap[P]? = some (.cells (edC cl (A.length : Int) (bh : Int) k u) 226 (0, 0))) (hG : zaY P W cl rl rr A B) (zA : A.length + zaL A A.length ≤ 16777216) (zB : B.length + zaL B B.length ≤ 16777216) (iA : ∀ j, j < A.length → zbv (cR A j)) (iB : ∀ j, j < B.length → zbv (cR B j)) (hU : zg9 W u un) (hn : un.length ≤ 50) :
    Calls Tryz.prog 158 #[.pointer (some ⟨P, 0, none⟩)] W fun e w' => ∃ v, e = .returned (.agg #[.string (zv (zac A)), .string (zv (zac B)), .string k, v]) ∧ zaR w' W.heap.size 132 v un.length (fun j => .string (lnT un j)) (fun j => .string (lnH un j)) ∧ Ext W w' := by
  obtain ⟨ic, hic, hc0, hc1, hc2⟩ := info_parts zdi
  have infoS : (Tryz.prog.info? 132).map (·.size) = some 2 := by kernel_rfl
  have infoL : (Tryz.prog.info? 37).map (·.size) = some 4 := by kernel_rfl
  have hl := hG.len
  have hPl : P < W.heap.size := (Array.getElem?_eq_some_iff.1 hP).1
  obtain ⟨qs, hq, ⟨ao, ca, rfl, hca, hxa⟩, hbx⟩ := hU
  have HS := zi (fun w (E : Ext W w) => zf7 P cl rl rr A B bh hbh k _ w (E.kept hP) (hG.fr (Fr.of_ext E)) zA zB iA iB)
  have HP := zi hP
  have HX := zi hxa
  have HBX := zi hbx
  clear hP hG hbh zA zB iA iB hxa hbx
  obtain ⟨X, hX⟩ : ∃ X, X = zv (zac A) := ⟨_, rfl⟩
  obtain ⟨Y, hY⟩ : ∃ Y, Y = zv (zac B) := ⟨_, rfl⟩
  rw [← hX, ← hY] at HS ⊢
  clear hX hY
  go_enter Tryz.func158, Tryz.ntmps158
  go_wp2_with fail
  obtain ⟨V, hV⟩ : ∃ V, V = W.alloc (.cells zL4 37) := ⟨_, rfl⟩
  rw [← hV]
  have E0 : Ext W V := by rw [hV]; exact (Ext.refl W).alloc _
  have HR0 : Hid (V.heap[W.heap.size]? = some (.cells zL4 37 (0, 0))) := zi (by rw [hV]; exact zn W _)
  have hz0 := zt (zg HR0)
  clear hV
  refine ((zg HS) _ E0).mono ?_
  rintro e w1 ⟨rfl, E1⟩
  clear HS
  have E01 := E0.trans E1
  have hz1 := E1.size
  replace HR0 := E1.hk HR0
  have HP1 := E01.hk HP
  clear E0 E1
  have HN := zi (heap_alloc_new w1 (.cells #[.string { data := #[] }, .string { data := #[] }] 132))
  go_upto_region 2 with (refine zy rfl 132 _ _ rfl rfl (w1.heap.size) rfl _ _ _ rfl (zg HN) infoS rfl (by simp [Value.oneCell']) ?_; intro U HB hU; have HB9 := zi HB; have HU9 := zi hU; clear HB hU)
  have v0 := zk (zg HB9) 0 _ rfl
  have v1 := zk (zg HB9) 1 _ rfl
  have EU : Ext w1 U := (zg HU9).ext ((Ext.refl w1).alloc _) (fun q hq => by omega)
  have kP : U.cell? ⟨P, 602, none⟩ = some (.string k) := (zaJ (EU.kept (zg HP1)) hl).2.2.1
  have EWU := E01.trans EU
  have zU := EU.size
  replace HR0 := EU.hk HR0
  have HEU := zi EWU
  clear EU EWU HP1 E01 HB9 HU9 HN
  go_region_held3 (fun W => W.cell? ⟨w1.heap.size, 0, none⟩ = some (.string X) ∧ W.cell? ⟨w1.heap.size, 1, none⟩ = some (.string Y) ∧ W.cell? ⟨P, 602, none⟩ = some (.string k)) (first | exact ⟨v0, v1, kP⟩ | exact ⟨((Ext.refl U).alloc _).drew.cell v0, ((Ext.refl U).alloc _).drew.cell v1, ((Ext.refl U).alloc _).drew.cell kP⟩) (first | fail)
  obtain ⟨W2, hW2⟩ : ∃ W2, W2 = (U.alloc (.cells #[.string X, .string Y, .string k, .slice none 0 0] 37)).drew := ⟨_, rfl⟩
  have E2 : Ext U W2 := by rw [hW2]; exact ((Ext.refl U).alloc _).drew
  have HG0 : Hid (W2.heap[U.heap.size]? = some (.cells #[.string X, .string Y, .string k, .slice none 0 0] 37 (0, 0))) := zi (by rw [hW2]; exact zn U _)
  replace HR0 := E2.hk HR0
  have EW2 := (zg HEU).trans E2
  have z2 := zt (zg HG0)
  have k603 : W2.cell? ⟨P, 603, none⟩ = some (.slice ao un.length ca) := (zaJ (EW2.kept (zg HP)) hl).2.2.2.1
  have HE2 := zi EW2
  rw [← hW2]
  clear hW2 E2 EW2 HEU v0 v1 kP HP
  obtain ⟨G, hG⟩ : ∃ G, G = U.heap.size := ⟨_, rfl⟩
  rw [← hG] at HG0 z2 ⊢
  have hWG : W.heap.size < G := by omega
  obtain ⟨m, hm⟩ : ∃ m, m = un.length := ⟨_, rfl⟩
  rw [← hm] at k603 hca hq hn HX
  have HM := zi hm
  clear hG hm zU
  go_wp2
  go_loopw [25] (fun i wr => ∃ (j : Nat) (ka : Option Addr) (kc : Nat), j ≤ m ∧ i = .int .i64 j ∧ Hid (wr.heap[G]? = some (.cells #[.string X, .string Y, .string k, .slice ka j kc] 37 (0, 0))) ∧ Hid (wr.heap[W.heap.size]? = some (.cells zL4 37 (0, 0))) ∧ Hid (wr.ownsRow W2.heap.size 132 2 (.slice ka j kc) j (prL (un.take j))) ∧ Hid (Fr (fun q => q = G) W2 wr)) (fun i _ => m - (intOf i).toNat)
  case atStart => exact ⟨0, none, 0, Nat.zero_le _, rfl, HG0, HR0, zi (zbp _ _ _ _), zi (Fr.refl _ _)⟩
  case round =>
    obtain ⟨j, ka, kc, hj, rfl, HG, HR, HO, HF⟩ := hrel
    clear HG0 HR0 k603
    have hE := (zg HF).ext (zg HE2) (fun q hq => by omega)
    have zr := (zg HF).size
    have x3 := zk (zg HG) 3 _ rfl
    by_cases hlt : j < m
    · obtain ⟨b, off, hao, hc⟩ := (zg HX) (by omega)
      subst hao
      have hjq : j < qs.length := by omega
      obtain ⟨q, hqj⟩ : ∃ q, qs[j]? = some q := ⟨qs[j], by simp [hjq]⟩
      obtain ⟨s, hsj⟩ : ∃ s, un[j]? = some s := ⟨un[j]'(by have := zg HM; omega), by simp⟩
      have g1 : wr.cell? ⟨b, off + j, none⟩ = some (.func (.func 258) #[] #[.pointer (some ⟨q, 0, none⟩)]) := by
        have h := hE.cell (hc j hlt)
        rw [hqj] at h
        exact h
      have HBk := zi (fun w (E : Ext wr w) => zng q s w (E.kept (hE.kept ((zg HBX) j q s hqj hsj))))
      have hst : Hid (prL (un.take (j + 1)) = prL (un.take j) ++ [.string s.1, .string s.2]) := zi (by
        rw [← zi8]
        congr 1
        rw [List.take_add_one, hsj]
        rfl)
      have bj : (j : Int) < (m : Int) := by omega
      have x3n : ∀ o, (wr.alloc o).cell? ⟨G, 3, none⟩ = some (.slice ka j kc) := fun o => ((Ext.refl wr).alloc o).cell x3
      have hGl := zt (zg HG)
      clear hc hqj hsj hjq
      go_upto_region 6 with fail
      go_region_law (first
        | (go_simp; go_at_call 258; refine ((zg HBk) _ (by first | exact Ext.refl wr | exact (Ext.refl wr).drew)).mono ?_; rintro e w4 ⟨rfl, F4⟩; have E4 : Ext wr w4 := (by first | exact F4 | exact (Ext.refl wr).drew.trans F4); have z4 := E4.size; have x4 := E4.cell x3; have x4n : ∀ o, (w4.alloc o).cell? ⟨G, 3, none⟩ = some (.slice ka j kc) := fun o => ((Ext.refl w4).alloc o).cell x4; clear F4)
        | (refine step_append_lies _ (by rfl) _ _ _ (by rfl) W2.heap.size 132 ic _ 2 32 Tryz.underlying35 hic hc0 hc1 hc2 rfl (by omega) (.slice ka j kc) j (prL (un.take j)) (by rfl) (by first | exact (E4.owns (zg HO)).alloc _ | exact ((E4.owns (zg HO)).alloc _).drew | exact (E4.owns (zg HO)).drew.alloc _ | exact ((E4.owns (zg HO)).drew.alloc _).drew)
             ⟨w4.heap.size, 0, none⟩ 1 1 [.string s.1, .string s.2] (by rfl) (by rfl) (World.news_of_block (cs := #[.string s.1, .string s.2]) (t := 132) (fr := (0, 0)) (heap_alloc_new w4 _)) (by simp [Value.oneCell'])
             (by omega) (by unfold maxLen; omega) (by omega) (by simp; omega) (w4.heap.size + 1) (by simp) ?_
           intro g6 c6 w6 o6 G6 hat hlt6
           have X6 := Fr.grown (S := fun q => (Value.slice ka j kc).ownBlock = some q) (w := wr) (Fr.of_ext (by first | exact E4.alloc _ | exact (E4.alloc _).drew | exact E4.drew.alloc _ | exact (E4.drew.alloc _).drew)) G6 (fun q hq => hq)
           rw [← zg hst] at o6
           have HO6 := zi o6
           have hoff : ∀ x, (Value.slice ka j kc).ownBlock = some x → W2.heap.size ≤ x := fun x hx => ((zg HO).lt x hx).1
           have hb6 := X6.kept (zg HG) (fun hq => by have := hoff _ hq; omega)
           have HB6 := zi hb6
           have y3 := zk hb6 3 _ rfl
           have f3 : w6.frozen? ⟨G, 3, none⟩ = false := Lib.frozen_of_heap hb6 3
           have HC6 := zi (X6.kept (zg HR) (fun hq => by have := hoff _ hq; omega))
           have z6 := X6.size
           have HX6 := zi (Fr.offG (zg HF) X6 hoff)
           clear X6 o6 G6 hb6 hat))
      all_goals
        go_wp2
        go_roundw
        case rel =>
          refine ⟨j + 1, some ⟨g6, 0, none⟩, c6, by omega, by go_num, zi (zaM (zg HB6) rfl), zi (zat (zg HC6) (by omega)), zi (zf (zg HO6) (fun e9 => ?_) _), zi ((zg HX6).setCell rfl _)⟩
          have : W2.heap.size ≤ G := ((zg HO6).lt _ e9).1
          omega
        case measure => simp [intOf]; omega
    · obtain rfl : j = m := by omega
      have hb9 : ¬ (j : Int) < (j : Int) := by omega
      have HE := zi hE
      have HT : Hid (un.take j = un) := zi (by rw [zg HM, List.take_length])
      rw [zg HT] at HO
      clear x3 hE
      go_wp2_with (first
        | (refine zm rfl 37 _ rfl G rfl _ _ _ _ (zg HG) Tryz.underlying37 rfl infoL ?_)
        | (refine zy rfl 37 _ _ rfl rfl (W.heap.size) rfl _ _ _ rfl (zg HR) infoL rfl (by simp [Value.oneCell']) ?_; intro Z hy hf9; have HY := zi hy; have FY := zi hf9; clear hy hf9))
      have v0 := zk (zg HY) 0 _ rfl
      have v1 := zk (zg HY) 1 _ rfl
      have v2 := zk (zg HY) 2 _ rfl
      have v3 := zk (zg HY) 3 _ rfl
      have hO : zaR Z W.heap.size 132 (.slice ka j kc) un.length (fun j => .string (lnT un j)) (fun j => .string (lnH un j)) := by
        have h := zg HO
        rw [zg HM] at h
        rw [zg HM]
        refine ((zdz h).fr (zg FY) (fun g hg e9 => ?_)).mono (by omega)
        have := (h.lt g hg).1
        omega
      exact bodyPost_ret (v := .agg #[.string X, .string Y, .string k, .slice ka j kc]) (by simp [results, Tryz.results158, go_sem, v0, v1, v2, v3]) rfl ⟨_, rfl, hO, (zg FY).ext (zg HE) (fun q hq => by omega)⟩
section
variable {P base : Nat} {W : World} {a b c : ByteArray} {u : Value} {qs : List Nat} {un : List (ByteArray × ByteArray)} {cl rl rr : List Value}
theorem press_1 (h : zfs a b c un) (e0 : Ed0 P base W c u qs un (zd (baL a)) (zd (baL b)) cl rl rr) (rv : Value) (rs : List Int) (hr : zag W .i32 rv rs) (iR : zbv rs) (zR : rs.length ≤ 1048576) (hT : ∀ W', Fr (fun x => x = P ∨ base ≤ x) W W' → zcB W') :
  Calls Tryz.prog 157 #[.pointer (some ⟨P, 0, none⟩), .agg #[.int .i64 1, rv]] W fun e w' => ∃ d, e = .returned (.int .i64 d) ∧ zfn (edF a b c un 1 rs) P base W d w' := by
 have ef : edF a b c un 1 rs = zej a b c un rs := by simp [edF]
 have key : ∀ o : LD, edF a b c un 1 rs = o → ∀ (w w' : World) (e : Ending), Ext W w → (∃ d, e = .returned (.int .i64 d) ∧ zfn o P base w d w') → ∃ d, e = .returned (.int .i64 d) ∧ zfn (edF a b c un 1 rs) P base W d w' := by
  rintro o rfl w w' e E ⟨d, h1, h2⟩
  exact ⟨d, h1, h2.pre E⟩
 have hz : (zp (baL a)).length ≤ 1048576 := by have := h.nab; omega
 have fb : zaq (zj (zp (baL b))) = zp (baL b) := zbK h.sb
 have ea : zv (zac (zj (zp (baL a)))) = a := h.ea
 have eb : zv (zac (zj (zp (baL b)))) = b := h.eb
 refine zmc 259 (fun _ _ => by kernel_rfl) (.pointer (some ⟨P, 0, none⟩)) P 1 rv W rfl (zfn (edF a b c un 1 rs) P base W) (fun w E => ?_)
 by_cases h0 : rs.length = 0
 ·obtain ⟨ra, rc, rfl, _⟩ := id hr
  rw [h0]
  refine (zkq 1 ra rc (e0.ext E)).mono ?_
  intro e1 w' r
  refine key ⟨a, b, c, un, 0⟩ (ef.trans ?_) w w' e1 E (zfn.of (o := ⟨a, b, c, un, 0⟩) r h.ea h.eb h.smA h.smB h.n)
  rw [zej, if_pos h0]
 ·refine (zi1 (zp (baL a)) (zp (baL b)) hz 1 rv rs (by omega) (hr.ext E) iR zR (fun W' f => hT W' ((Fr.of_ext E).tr f)) (e0.ext E)).mono ?_
  rw [fb, ea, eb]
  rintro e1 w' (⟨h1, r⟩ | ⟨h1, r⟩)
  ·refine key ⟨a, b, c, un, 2⟩ (ef.trans ?_) w w' e1 E (zfn.of (o := ⟨a, b, c, un, 2⟩) r h.ea h.eb h.smA h.smB h.n)
   rw [zej, if_neg h0, if_pos h1]
  ·refine key (zer a b c un (zv (zac (zj (zp (baL a) ++ rs)))) b) (ef.trans ?_) w w' e1 E (zfn.of (o := zer a b c un (zv (zac (zj (zp (baL a) ++ rs)))) b) r rfl eb (flat_sm (by omega)) h.smB (h.un50 _))
   rw [zej, if_neg h0, if_neg (by omega)]
end
theorem good_fl {c : List Int × Int} (h : zbD c) : fl c.1 = c.1 ∧ ∀ x ∈ c.1, zb0 x := by
 have h1 : zj c.1 = [c] := by rw [zd8]; exact h
 have h2 := zhY c.1
 have h3 := zgO c.1
 rw [h1] at h2 h3
 simp only [zaq, List.append_nil] at h2 h3
 have hm : c.1.map zaa = c.1 := by
  conv => rhs; rw [← List.map_id c.1]
  exact List.map_congr_left (fun x hx => (h3 x hx).shown)
 rw [hm] at h2
 exact ⟨h2.symm, h3⟩
theorem zj2 : ∀ (X : List (List Int × Int)), (∀ c ∈ X, zbD c) → fl (zaq X) = zaq X ∧ ∀ x ∈ zaq X, zb0 x
 | [], _ => ⟨rfl, fun x hx => by simp [zaq] at hx⟩
 | c :: cs, h => by
  obtain ⟨h1, h2⟩ := good_fl (h c (by simp))
  obtain ⟨h3, h4⟩ := zj2 cs (fun d hd => h d (by simp [hd]))
  refine ⟨fl_app h1 h3, fun x hx => ?_⟩
  rw [zaq] at hx
  exact (List.mem_append.1 hx).elim (h2 x) (h4 x)
theorem zdt {X : List (List Int × Int)} (h : ∀ c ∈ X, zbD c) : zaC (zac X) = zac X ∧ zp (zac X) = zaq X := by
 obtain ⟨h1, h2⟩ := zj2 X h
 have h3 : zp (zac X) = zaq X := by rw [zbu, zfy _ h2]
 refine ⟨?_, h3⟩
 rw [zc5, h3, h1, zbu]
theorem zhi : ∀ xs : List Int, (zcj xs).length ≤ 4 * xs.length
 | [] => Nat.le_refl _
 | x :: xs => by
  rw [zcj, List.length_append]
  have h1 := ze0 x
  have h2 := zhi xs
  simp
  omega
theorem zba {L : List Int} (h : zaC L = L) : L.length ≤ 4 * (zp L).length := by
 have := zhi (zp L)
 rwa [zjZ h] at this
theorem zh1 : ∀ xs : List Int, zaj (zcj xs)
 | [] => fun n hn => by simp [zcj] at hn
 | x :: xs => fun n hn => by
  rw [zcj] at hn
  rcases List.mem_append.1 hn with h | h
  ·exact zdw x n h
  ·exact zh1 xs n h
theorem zkt (X : List (List Int × Int)) : zaj (zac X) := by rw [zbu]; exact zh1 _
theorem zjr (X : List (List Int × Int)) : baL (zv (zac X)) = zac X := ziY (zkt X)
theorem zkU {X Y : List (List Int × Int)} (hx : ∀ c ∈ X, zbD c) (hy : ∀ c ∈ Y, zbD c) (hn : (zaq X).length + (zaq Y).length ≤ 300) : zbQ (baL (zv (zac X))) (baL (zv (zac Y))) := by
 rw [zjr, zjr]
 exact ⟨(zdt hx).1, (zdt hy).1, by rw [(zdt hx).2, (zdt hy).2]; exact hn⟩
def OkL (o : LD) : Prop := zb8 o.a o.b o.c o.un.length (lnT o.un) (lnH o.un)
theorem ln_mem {un : List (ByteArray × ByteArray)} {j : Nat} (hj : j < un.length) : (lnT un j, lnH un j) ∈ un := by
 have h : un[j]? = some un[j] := List.getElem?_eq_getElem hj
 rw [zdQ h, zd1 h]
 exact List.getElem_mem hj
theorem zmQ {a b c : ByteArray} {un : List (ByteArray × ByteArray)} (hn : un.length ≤ 50) (h1 : zbQ (baL a) (baL b)) (h2 : zbe (baL c)) (h3 : ∀ s ∈ un, zbQ (baL s.1) (baL s.2)) : zb8 a b c un.length (lnT un) (lnH un) :=
 ⟨hn, h1, h2, fun _ hj => h3 _ (ln_mem hj)⟩
theorem zl5 {a b c : ByteArray} {un : List (ByteArray × ByteArray)} (h : zb8 a b c un.length (lnT un) (lnH un)) : ∀ s ∈ un, zbQ (baL s.1) (baL s.2) := by
 intro s hs
 obtain ⟨j, hj, e⟩ := List.getElem_of_mem hs
 have h9 : un[j]? = some s := by rw [List.getElem?_eq_getElem hj, e]
 have := h.2.2.2 j hj
 rwa [zdQ h9, zd1 h9] at this
theorem zlE {un : List (ByteArray × ByteArray)} {s t : ByteArray × ByteArray} (h : t ∈ zbk un s) : t ∈ un ∨ t = s := by
 unfold zbk at h
 split at h
 ·have := List.mem_of_mem_drop h
  simpa using this
 ·simpa using h
theorem zlb (X : List (List Int × Int)) (n : Nat) : (zaq (X.take n)).length + (zaq (X.drop n)).length = (zaq X).length := by
 conv => rhs; rw [← List.take_append_drop n X, zbV, List.length_append]
section
variable {a b c : ByteArray} {un : List (ByteArray × ByteArray)}
theorem okSet (h : zb8 a b c un.length (lnT un) (lnH un)) {l r : ByteArray} (hs : zbQ (baL l) (baL r)) : OkL (zer a b c un l r) := by
 refine zmQ (zhK un _ h.1) hs h.2.2.1 (fun s hs => ?_)
 rcases zlE hs with h1 | rfl
 ·exact zl5 h s h1
 ·exact h.2.1
end
theorem zk9 {tx hf : Nat → ByteArray} {n : Nat} {s : ByteArray × ByteArray} (h : s ∈ unL tx hf n) : ∃ j, j < n ∧ s = (tx j, hf j) := by
 unfold unL at h
 obtain ⟨j, hj, e⟩ := List.mem_map.1 h
 exact ⟨j, List.mem_range.1 hj, e.symm⟩
theorem lnOk_of {a b c : ByteArray} {n : Nat} {tx hf : Nat → ByteArray} (h : zb8 a b c n tx hf) (ha : a.size ≤ 1048576) (hb : b.size ≤ 1048576) (hc : c.size ≤ 1048576) (hx : ∀ j, j < n → (tx j).size ≤ 1048576 ∧ (hf j).size ≤ 1048576) : zfs a b c (unL tx hf n) := by
 obtain ⟨h1, ⟨h2, h3, h4⟩, ⟨h5, h6⟩, h7⟩ := h
 refine ⟨h2, h3, h5, h4, h6, by rw [zca]; exact h1, fun s hs => ?_, ha, hb, hc, fun s hs => ?_⟩
 ·obtain ⟨j, hj, rfl⟩ := zk9 hs
  exact h7 j hj
 ·obtain ⟨j, hj, rfl⟩ := zk9 hs
  exact hx j hj
def Few (k : Int) : Prop := k = 1 ∨ k = 22 ∨ k = 23
section
variable {P base : Nat} {W : World} {a b c : ByteArray} {u : Value} {qs : List Nat} {un : List (ByteArray × ByteArray)} {cl rl rr : List Value}
theorem zlS (h : zfs a b c un) (e0 : Ed0 P base W c u qs un (zd (baL a)) (zd (baL b)) cl rl rr) (kd : Int) (hk : Few kd) (rv : Value) (rs : List Int) (hr : zag W .i32 rv rs) (iR : zbv rs) (zR : rs.length ≤ 1048576) (hT : ∀ W', Fr (fun x => x = P ∨ base ≤ x) W W' → zcB W') :
  Calls Tryz.prog 157 #[.pointer (some ⟨P, 0, none⟩), .agg #[.int .i64 kd, rv]] W fun e w' => ∃ d, e = .returned (.int .i64 d) ∧ zfn (edF a b c un kd rs) P base W d w' := by
 by_cases h1 : kd = 1
 ·subst h1
  exact press_1 h e0 rv rs hr iR zR hT
 have hk2 : kd = 22 ∨ kd = 23 := hk.resolve_left h1
 have ef : edF a b c un kd rs = ⟨a, b, c, un, 0⟩ := by rcases hk2 with rfl | rfl <;> rfl
 rw [ef]
 refine (zka P kd rv W (fun x hx e => ?_)).mono ?_
 ·simp only [actL, List.mem_cons, List.not_mem_nil, or_false] at hx
  rcases hx with rfl | rfl | rfl | rfl | rfl | rfl | rfl | rfl | rfl | rfl | rfl | rfl | rfl | rfl | rfl | rfl | rfl | rfl | rfl | rfl | rfl <;> simp at e <;> omega
 ·rintro e1 w' ⟨rfl, E1⟩
  exact zfn.of (o := ⟨a, b, c, un, 0⟩) (e0.same E1 0) h.ea h.eb h.smA h.smB h.n
end
theorem zis (a b c : ByteArray) (v : Value) (n : Nat) (tx hf : Nat → ByteArray) (kd : Int) (rv : Value) (rs : List Int) (w : World) (hv : zaH w v n (fun j => .string (tx j)) (fun j => .string (hf j))) (ha : a.size ≤ 1048576) (hb : b.size ≤ 1048576) (hc : c.size ≤ 1048576) (hn : n ≤ 1048576) (hx : ∀ j, j < n → (tx j).size ≤ 1048576 ∧ (hf j).size ≤ 1048576) (hT : zbf w) (hr : zag w .i32 rv rs) (iR : zbv rs) (zR : rs.length ≤ 1048576) (hP : zb8 a b c n tx hf) (hkd : Few kd) :
  Calls Tryz.prog 98 #[.agg #[.string a, .string b, .string c, v], .agg #[.int .i64 kd, rv]] w fun e w' => LnO w' w.heap.size (edF a b c (unL tx hf n) kd rs) e ∧ Ext w w' := by
 have infoL : (Tryz.prog.info? 37).map (·.size) = some 4 := by kernel_rfl
 have infoK : (Tryz.prog.info? 102).map (·.size) = some 2 := by kernel_rfl
 have hln := lnOk_of hP ha hb hc hx
 have hn50 := hP.1
 have la := zk5 (baL a)
 have lb := zk5 (baL b)
 have nab := hln.nab
 obtain ⟨ao, ca, rfl, _, _⟩ := id hv
 have H1 := zi (fun W (E : Ext w W) => zd3 a b c (.slice ao n ca) n tx hf W (hv.ext E) ha hb hc hn hx (hT.ext E) true (by simp [hP]))
 have H3 := zi (fun W (E : Ext w W) => zhC (baL a) (baL b) (zau a) (zau b) (by rw [zar]; omega) (by rw [zar]; omega) (by omega) c (.slice ao n ca) n tx hf W (hv.ext E) hn50 (fun w' E' => (hT.ext (E.trans E')).1))
 rw [zay, zay] at H3
 obtain ⟨o, ho⟩ : ∃ o, o = edF a b c (unL tx hf n) kd rs := ⟨_, rfl⟩
 have H4 := zi (fun (P base : Nat) (cl rl rr : List Value) (u : Value) (qs : List Nat) (W : World) (E : Ext w W) (hPw : w.heap.size ≤ P) (hbw : w.heap.size ≤ base) (e0 : Ed0 P base W c u qs (unL tx hf n) (zd (baL a)) (zd (baL b)) cl rl rr) =>
  zlS hln e0 kd hkd rv rs (hr.ext E) iR zR (fun W' f => (hT.ext (f.ext E (fun q hq => by
   rcases hq with hq | hq <;> omega))).1))
 rw [← ho] at H4 ⊢
 have CA := zi (show CkC (zd (baL a)) from ⟨zlf _ (by rw [zar]; omega), zle _⟩)
 have CB := zi (show CkC (zd (baL b)) from ⟨zlf _ (by rw [zar]; omega), zle _⟩)
 have HUN := zi (show (unL tx hf n).length ≤ 50 by rw [zca]; exact hn50)
 clear hkd hP hv hx hT hr iR zR hln ho la lb nab hn50
 obtain ⟨V, hV⟩ : ∃ V, V = ((w.alloc (.cells #[.string a, .string b, .string c, .slice ao n ca] 37)).alloc (.cells #[.int .i64 kd, rv] 102)).alloc (.cells zL4 37) := ⟨_, rfl⟩
 have E0 : Ext w V := by rw [hV]; exact (((Ext.refl w).alloc _).alloc _).alloc _
 have HB0 : Hid (V.heap[w.heap.size]? = some (.cells #[.string a, .string b, .string c, .slice ao n ca] 37 (0, 0))) := zi (by rw [hV]; exact (((Ext.refl _).alloc _).alloc _).kept (zn w _))
 have HBK : Hid (V.heap[w.heap.size + 1]? = some (.cells #[.int .i64 kd, rv] 102 (0, 0))) := zi (by rw [hV]; have h := zn (w.alloc (.cells #[.string a, .string b, .string c, .slice ao n ca] 37)) (.cells #[.int .i64 kd, rv] 102); rw [show (w.alloc (.cells #[.string a, .string b, .string c, .slice ao n ca] 37)).heap.size = w.heap.size + 1 by simp] at h; exact ((Ext.refl _).alloc _).kept h)
 have HB1 : Hid (V.heap[w.heap.size + 2]? = some (.cells zL4 37 (0, 0))) := zi (by rw [hV]; have h := zn ((w.alloc (.cells #[.string a, .string b, .string c, .slice ao n ca] 37)).alloc (.cells #[.int .i64 kd, rv] 102)) (.cells zL4 37); rw [show ((w.alloc (.cells #[.string a, .string b, .string c, .slice ao n ca] 37)).alloc (.cells #[.int .i64 kd, rv] 102)).heap.size = w.heap.size + 2 by simp] at h; exact h)
 have sz0 : w.heap.size + 2 < V.heap.size := zt (zg HB1)
 have HW := zi hV
 clear hV
 go_enter Tryz.func98, Tryz.ntmps98
 go_wp2_with fail
 rw [← zg HW]
 clear HW
 refine ((zg H1) _ E0).mono ?_
 rintro e w1 ⟨rfl, E1⟩
 have E01 := E0.trans E1
 replace HB0 := E1.hk HB0
 replace HBK := E1.hk HBK
 replace HB1 := E1.hk HB1
 have z1 := E1.size
 clear E0 E1 H1
 have c0 := zk (zg HB0) 0 _ rfl
 have c1 := zk (zg HB0) 1 _ rfl
 have c2 := zk (zg HB0) 2 _ rfl
 have c3 := zk (zg HB0) 3 _ rfl
 go_wp2_with fail
 refine ((zg H3) _ E01).mono ?_
 rintro e w4 ⟨P, cl, rl, rr, u, qs, base, rfl, p4, g4, b4, hP4, hb4, hbs, E4⟩
 have H4' := zi ((zg H4) P base cl rl rr u qs w4 (E01.trans E4) (by omega) (by omega) ⟨p4, g4, b4, hbs, zg CA, zg CB, zg HUN⟩)
 replace HBK := E4.hk HBK
 replace HB1 := E4.hk HB1
 have HE4 := zi (E01.trans E4)
 have hw1 : w.heap.size + 2 < w1.heap.size := by omega
 clear H3 H4 p4 g4 b4 E4 E01 c0 c1 c2 c3 HB0 CA CB HUN
 go_wp2_with (first
  | (refine zm rfl 102 _ rfl (w.heap.size + 1) rfl _ _ _ _ (zg HBK) Tryz.underlying102 rfl infoK ?_))
 refine (zg H4').mono ?_
 rintro e w5 ⟨d, rfl, A', B', rfl, ta, tb, ca5, cb5, h50, ⟨cl5, rl5, rr5, u5, p5, g5, b5⟩, F5⟩
 have H5 := zi (zmS P cl5 rl5 rr5 A' B' _ rfl o.c u5 o.un w5 p5 g5 ca5.1 cb5.1 ca5.2 cb5.2 b5 h50)
 rw [ta, tb] at H5
 replace HB1 := zi (F5.kept (zg HB1) (fun e9 => by rcases e9 with e9 | e9 <;> omega))
 have hz5 : w.heap.size + 2 < w5.heap.size := zt (zg HB1)
 have HE5 := zi (F5.ext (zg HE4) (fun q hq => by rcases hq with hq | hq <;> omega))
 clear H4' p5 g5 b5 F5 HE4 ca5 cb5 h50 ta tb HBK
 go_wp2_with fail
 refine (zg H5).mono ?_
 rintro e w6 ⟨v6, rfl, hO, E6⟩
 obtain ⟨ua, uc, rfl⟩ : ∃ ua uc, v6 = .slice ua o.un.length uc := by
  obtain ⟨g1, g2, e1, _⟩ := hO.reads
  exact ⟨_, _, e1⟩
 have HO := zi hO
 replace HB1 := E6.hk HB1
 have HE := Hid.ht HE5 E6
 clear hO E6 H5 HE5
 go_wp2_with (first
  | (refine zy rfl 37 _ _ rfl rfl (w.heap.size + 2) rfl _ _ _ rfl (zg HB1) infoL rfl (by simp [Value.oneCell']) ?_; intro Z hy hf9; have HY := zi hy; have FY := zi hf9; clear hy hf9))
 have v0 := zk (zg HY) 0 _ rfl
 have v1 := zk (zg HY) 1 _ rfl
 have v2 := zk (zg HY) 2 _ rfl
 have v3 := zk (zg HY) 3 _ rfl
 exact bodyPost_ret (v := .tuple #[.agg #[.string o.a, .string o.b, .string o.c, .slice ua o.un.length uc], .int .i64 o.d]) (by simp [results, Tryz.results98, go_sem, v0, v1, v2, v3]) rfl ⟨⟨_, rfl, ((zg HO).fr (zg FY) (fun g hg e9 => by have := ((zg HO).lt g hg).1; omega)).mono (by omega)⟩, (zg FY).ext (zg HE) (fun q hq => by omega)⟩
end Go.Proofs.YtmlkpdbfnffoaaaGreatDoor
