import Derived.Test.YtmlkpdbfnffoaaaGreatDoorWtT
import Derived.Test.YtmlkpdbfnffoaaaGreatDoorSesOkS2
set_option maxHeartbeats 8000000
set_option maxRecDepth 10000
set_option linter.unusedSimpArgs false
namespace Go.Proofs.YtmlkpdbfnffoaaaGreatDoor
open Go.RowKit
abbrev zSS : Array Value := zS7
theorem zcZ (cap : Int) (hv : Value) (hn : Nat) (ht : Nat → ByteArray) (w : World) (hH : zah w hv hn (fun j => .string (ht j))) (hHn : hn ≤ 1048576) :
  Calls Tryz.prog 27 #[.agg #[.int .i64 cap, hv]] w fun e w' => ∃ va vc, e = .returned (.agg #[.int .i64 cap, .slice va hn vc]) ∧ zaD w' w.heap.size 9 (.slice va hn vc) hn (fun j => .string (ht j)) ∧ Ext w w' := by
 have hcC := zi (fun W (hW : Ext w W) => zcQ hv hn ht W (hH.ext hW) hHn)
 obtain ⟨hva, hvc, rfl, _, _⟩ := hH
 obtain ⟨U, hU⟩ : ∃ U, U = (w.alloc (.cells #[.int .i64 cap, .slice hva hn hvc] 41)).alloc (.cells zH2 41) := ⟨_, rfl⟩
 have EU : Ext w U := by rw [hU]; exact ((Ext.refl w).alloc _).alloc _
 have zU : U.heap.size = w.heap.size + 2 := by rw [hU]; simp
 have HB0 : Hid (U.heap[w.heap.size]? = some (.cells #[.int .i64 cap, .slice hva hn hvc] 41 (0, 0))) := zi (by rw [hU]; exact ((Ext.refl _).alloc _).kept (zn w _))
 have HB1 : Hid (U.heap[w.heap.size + 1]? = some (.cells zH2 41 (0, 0))) := zi (by rw [hU]; have h := zn (w.alloc (.cells #[.int .i64 cap, .slice hva hn hvc] 41)) (.cells zH2 41); simpa using h)
 have HU := zi hU
 have HE := zi EU
 clear hU EU
 go_enter Tryz.func27, Tryz.ntmps27
 go_wp2
 rw [← zg HU]
 clear HU
 refine wp_region_held_drew (S := fun W => W.heap[w.heap.size]? = some (.cells #[.int .i64 cap, .slice hva hn hvc] 41 (0, 0))) (by kernel_rfl) (zg HB0) (fun hHeld => ?_)
 refine tk 0 ?_ rfl (by kernel_rfl) (fun _ _ _ h => h) (by rfl) ?_ (by assumption) ?_
 rotate_left
 ·intro w' hSw; go_simp <;> with_reducible rfl
 simp only [Act.put, q9]
 refine tk 1 ?_ rfl (by kernel_rfl) (fun _ _ _ h => h) (by rfl) ?_ (by assumption) ?_
 rotate_left
 ·intro w' hSw; have h9 := zk hSw 0 _ rfl; go_simp <;> with_reducible rfl
 simp only [Act.put, q9]
 refine tk 2 ?_ rfl (by kernel_rfl) (fun _ _ _ h => h) (by rfl) ?_ (by assumption) ?_
 rotate_left
 ·intro w' hSw; go_simp <;> with_reducible rfl
 simp only [Act.put, q9]
 refine tk 3 ?_ rfl (by kernel_rfl) (fun _ _ _ h => h) (by rfl) ?_ (by assumption) ?_
 rotate_left
 ·intro w' hSw; have h9 := zk hSw 1 _ rfl; go_simp <;> with_reducible rfl
 simp only [Act.put, q9]
 have G := zi ((Ext.refl U).drew)
 have zG : U.drew.heap.size = U.heap.size := rfl
 generalize U.drew = Y0 at *
 refine rdy 4 (by kernel_rfl) rfl (fun K hK => ?_)
 go_simp
 refine ((zg hcC) _ ((zg HE).trans (zg G))).mono ?_
 rintro e w2 ⟨a2, c2, rfl, ho2, E2⟩
 have o2 := zg ho2
 clear ho2
 have HO2 := zi o2
 have G2 := Hid.ht G E2
 clear o2 E2
 refine hK.out _ _ ((zg G2).kept (zg HB0)) (fun hHeld => ?_)
 clear hK K
 refine tk 5 ?_ rfl (by kernel_rfl) (fun _ _ _ h => h) (by rfl) ?_ (by assumption) ?_
 rotate_left
 ·intro w' hSw; go_simp <;> with_reducible rfl
 simp only [Act.put, q9]
 refine rdy 6 (by kernel_rfl) rfl (fun K hK => ?_)
 refine zad 41 _ _ rfl rfl (w.heap.size + 1) rfl _ _ #[.int .i64 cap, .slice a2 hn c2] rfl ((zg G2).kept (zg HB1)) zaB rfl (by simp [Value.oneCell']) ?_
 intro Z hy hf
 refine hK.out _ _ (hf.kept ((zg G2).kept (zg HB0)) (by omega)) (fun hHeld => ?_)
 clear hK K
 refine wpAnyH_done (by kernel_rfl) ?_ _
 go_wp2
 have y0 := zk hy 0 _ rfl
 have y1 := zk hy 1 _ rfl
 exact bodyPost_ret (v := .agg #[.int .i64 cap, .slice a2 hn c2]) (by simp [results, Tryz.results27, go_sem, y0, y1]) rfl ⟨_, _, rfl, ((zg HO2).fr hf (fun q hq e9 => by have := ((zg HO2).lt q hq).1; omega)).mono (by omega), hf.ext ((zg HE).trans (zg G2)) (fun q hq => by omega)⟩
theorem zel (s : SS) (u h p q l d : Value) (cap : Int) (hv : Value) (hn : Nat) (ht : Nat → ByteArray) (w : World) (hA : zbb w s u h p q l d) (hz : s.Sz) (hH : zah w hv hn (fun j => .string (ht j))) (hHn : hn ≤ 1048576) (hHx : ∀ j, j < hn → (ht j).size ≤ 1048576) (cd : Int) (hcd : ¬ (zcv s ∧ zbY cap hn ht) ∧ cd = 1 ∨ (zcv s ∧ zbY cap hn ht) ∧ s.st = true ∧ cd = 3 ∨ (zcv s ∧ zbY cap hn ht) ∧ s.st = false ∧ cd = 0) :
  Calls Tryz.prog 28 #[zaK s u h p q l d, .agg #[.int .i64 cap, hv], .int .i64 0] w fun e w' => e = .returned (.int .i64 cd) ∧ Ext w w' := by
 obtain ⟨b1, hb1⟩ := za2 (zcv s)
 obtain ⟨b2, hb2⟩ := za2 (zbY cap hn ht)
 have hc1 := zi (fun W (hW : Ext w W) => zfk s u h p q l d W (hA.ext hW) hz b1 hb1)
 have hc2 := zi (fun W (hW : Ext w W) => zeY cap hv hn ht W (hH.ext hW) hHn hHx b2 hb2)
 obtain ⟨ua, uc, ha, hc, pa, pc, qa, qc, la, lc, da, dc, rfl, rfl, rfl, rfl, rfl, rfl⟩ := hA.forms
 obtain ⟨hva, hvc, rfl, _, _⟩ := hH
 have hk2 : b1 = true → s.kh.length ≤ 2000 := fun e => (hb1.1 e).2.2.2.1
 have hkl := hz.kh
 simp only [zb3] at hc1
 rw [zb3]
 have HSC : Hid (ze s (.slice ua s.un uc) (.slice ha s.kh.length hc) (.slice pa s.pn pc) (.slice qa s.qn qc) (.slice la s.ln lc) (.slice da s.dn dc) = (sC s (.slice ua s.un uc) (.slice ha s.kh.length hc) (.slice pa s.pn pc) (.slice qa s.qn qc) (.slice la s.ln lc) (.slice da s.dn dc))) := zi rfl
 generalize hsc : ze s (.slice ua s.un uc) (.slice ha s.kh.length hc) (.slice pa s.pn pc) (.slice qa s.qn qc) (.slice la s.ln lc) (.slice da s.dn dc) = sc at *
 have hz17 : sc.size = 17 := by rw [← hsc]; rfl
 have HZ := zi hz17
 obtain ⟨V, hV⟩ : ∃ V, V = (w.alloc (.cells sc 40)).alloc (.cells #[.int .i64 cap, .slice hva hn hvc] 41) := ⟨_, rfl⟩
 have E0 : Ext w V := by rw [hV]; exact ((Ext.refl w).alloc _).alloc _
 have HB0 : Hid (V.heap[w.heap.size]? = some (.cells sc 40 (0, 0))) := zi (by rw [hV]; exact ((Ext.refl _).alloc _).kept (zn w _))
 have HB1 : Hid (V.heap[w.heap.size + 1]? = some (.cells #[.int .i64 cap, .slice hva hn hvc] 41 (0, 0))) := zi (by rw [hV]; have h := zn (w.alloc (.cells sc 40)) (.cells #[.int .i64 cap, .slice hva hn hvc] 41); rw [show (w.alloc (.cells sc 40)).heap.size = w.heap.size + 1 by simp] at h; exact h)
 have HV := zi hV
 have HE := zi E0
 have HCD := zi hcd
 have HB12 := zi (And.intro hb1 hb2)
 have hst : ∃ st, s.st = st := ⟨_, rfl⟩
 obtain ⟨st, hst⟩ := hst
 have g7 : sc[7]? = some (.slice ha s.kh.length hc) := by rw [zg HSC]; rfl
 have g13 : sc[13]? = some (.bool st) := by rw [zg HSC, ← hst]; rfl
 have HG := zi (And.intro g7 g13)
 have HST := zi hst
 clear hV E0 hcd hb1 hb2 hz17 hsc hA hz hst g7 g13 HSC hHx
 go_enter Tryz.func28, Tryz.ntmps28
 go_upto_region 1 with fail
 rw [← zg HV]
 clear HV
 go_wp2_with (refine zm rfl 40 _ rfl (w.heap.size) rfl _ _ _ _ (zg HB0) Tryz.underlying40 rfl (by rw [zg HZ]; exact zap) ?_)
 refine ((zg hc1) _ (zg HE)).mono ?_
 rintro e w1 ⟨rfl, E1⟩
 have H1 := zi E1
 clear E1
 cases b1 with
 | false =>
  have e1 : cd = 1 := by rcases zg HCD with h | h | h; exact h.2; exact Bool.noConfusion ((zg HB12).1.2 h.1.1); exact Bool.noConfusion ((zg HB12).1.2 h.1.1)
  subst e1
  go_wp2
  go_ret
  exact ⟨rfl, (zg HE).trans (zg H1)⟩
 | true =>
  have hk3 := hk2 rfl
  have HY1 : Hid (zcv s) := zi ((zg HB12).1.1 rfl)
  have HB2 := zi (zg HB12).2
  clear HB12
  go_wp2_with (refine zaU (by rfl) 41 _ rfl (w.heap.size + 1) rfl _ _ _ _ ((zg H1).kept (zg HB1)) Tryz.underlying41 rfl zaB ?_)
  refine ((zg hc2) _ ((zg HE).trans (zg H1))).mono ?_
  rintro e w2 ⟨rfl, E2⟩
  have H2 := zi ((zg H1).trans E2)
  clear E2
  cases b2 with
  | false =>
   have e1 : cd = 1 := by rcases zg HCD with h | h | h; exact h.2; exact Bool.noConfusion ((zg HB2).2 h.1.2); exact Bool.noConfusion ((zg HB2).2 h.1.2)
   subst e1
   go_wp2
   go_ret
   exact ⟨rfl, (zg HE).trans (zg H2)⟩
  | true =>
   have c7 : w2.cell? ⟨w.heap.size, 7, none⟩ = some (.slice ha s.kh.length hc) := by rw [cell_of_row w2 _ 7 _ _ _ ((zg H2).kept (zg HB0))]; exact (zg HG).1
   have c13 : w2.cell? ⟨w.heap.size, 13, none⟩ = some (.bool st) := by rw [cell_of_row w2 _ 13 _ _ _ ((zg H2).kept (zg HB0))]; exact (zg HG).2
   have w7 : IntKind.i64.wrap (0 + (s.kh.length : Int)) = (s.kh.length : Int) := by rw [IntKind.wrap_i64]; omega
   have n7 : ¬ (2000 : Int) < (s.kh.length : Int) := by omega
   have n0 : ¬ (2000 : Int) < 0 := by omega
   have w8 : IntKind.i64.wrap (s.kh.length : Int) = (s.kh.length : Int) := by rw [IntKind.wrap_i64]; omega
   have hy := And.intro (zg HY1) ((zg HB2).1 rfl)
   clear HB2
   cases st with
   | false =>
    have e1 : cd = 0 := by rcases zg HCD with h | h | h; exact absurd hy h.1; exact absurd (h.2.1.symm.trans (zg HST)) (by decide); exact h.2.2
    subst e1
    clear hy
    go_wp2
    go_ret
    exact ⟨rfl, (zg HE).trans (zg H2)⟩
   | true =>
    have e1 : cd = 3 := by rcases zg HCD with h | h | h; exact absurd hy h.1; exact h.2.2; exact absurd (h.2.1.symm.trans (zg HST)) (by decide)
    subst e1
    clear hy
    go_wp2
    go_ret
    exact ⟨rfl, (zg HE).trans (zg H2)⟩
def zmG (s : SS) (cap : Int) (hn : Nat) (ht : Nat → ByteArray) (hv : Value) (base H : Nat) (u h p q l d : Value) (sc : Array Value) (a0 a1 : Value) (bs : List Int) (v : Value) (W : World) : Prop :=
 zbY cap hn ht ∧ s.st = false ∧ a0 = .int .i64 cap ∧ a1 = hv ∧ bs = s.wtB ∧ zaD W base 9 hv hn (fun j => .string (ht j)) ∧ ∃ u' h', sc = ze s.wtS u' h' p q l d ∧ zax W base s.wtS u' h' p q l d ∧ (∀ g, zab u' h' p q l d g → zab u h p q l d g ∨ H ≤ g) ∧ ∀ g, h'.ownBlock = some g → v.ownBlock ≠ some g
theorem lvK_his {sc : Array Value} {a0 a1 : Value} {ob qb nb : Nat} {t : List Value} (h : sc.size = 17) (j : Nat) (v : Value) (hj : (#[a0, a1] : Array Value)[j]? = some v) : (lvC sc (lvK a0 a1 ob qb nb t))[17 + j]? = some v := by
 rw [zcA h]
 match j, hj with
 | 0, hj => exact hj
 | 1, hj => exact hj
 | j + 2, hj => simp at hj
theorem lvH_his {sc : Array Value} {a0 a1 : Value} {r : List Value} (h : sc.size = 17) (j : Nat) (v : Value) (hj : (#[a0, a1] : Array Value)[j]? = some v) : (lvC sc (a0 :: a1 :: r))[17 + j]? = some v := by
 rw [zcA h]
 match j, hj with
 | 0, hj => exact hj
 | 1, hj => exact hj
 | j + 2, hj => simp at hj
theorem zmy {s : SS} {u h p q l d : Value} {t : List Value} (j : Nat) (v : Value) (hj : (#[h, .bool s.kp] : Array Value)[j]? = some v) : (lvC (ze s u h p q l d) t)[7 + j]? = some v := by
 match j, hj with
 | 0, hj => exact hj
 | 1, hj => exact hj
 | j + 2, hj => simp at hj
theorem zlM (P lb : Nat) (s : SS) (ua ha pa qa la da : Option Addr) (uc hc pc qc lc dc : Nat) (cap : Int) (hn : Nat) (ht : Nat → ByteArray) (hva : Option Addr) (hvc : Nat) (B ob qb nb base H : Nat) (bva : Option Addr) (bvc : Nat) (W : World)
  (hbx : W.heap[lb]? = some (.cells #[.pointer (some ⟨P, 0, none⟩)] 69 (0, 0))) (hne : P ≠ ob ∧ P ≠ qb ∧ P ≠ nb ∧ P ≠ 3 ∧ P < B) (hlb : lb ≠ P ∧ lb ≠ ob) (hft : ∀ g, zab (.slice ua s.un uc) (.slice ha s.kh.length hc) (.slice pa s.pn pc) (.slice qa s.qn qc) (.slice la s.ln lc) (.slice da s.dn dc) g → g ≠ P ∧ g ≠ ob) (hhf : ∀ g, (Value.slice hva hn hvc).ownBlock = some g → g ≠ P ∧ g ≠ ob) (hbB : base ≤ B) (hHW : H ≤ W.heap.size)
  (hO : zax W base s (.slice ua s.un uc) (.slice ha s.kh.length hc) (.slice pa s.pn pc) (.slice qa s.qn qc) (.slice la s.ln lc) (.slice da s.dn dc)) (hok : zcv s) (hBy : zaj s.kh) (hH : zaD W base 9 (.slice hva hn hvc) hn (fun j => .string (ht j))) (hHn : hn ≤ 1048576) (hHx : ∀ j, j < hn → (ht j).size ≤ 1048576)
  (hT : ∀ W', Fr (fun q => q = P ∨ False ∨ WS B ob q) W W' → zbf W') (hP : W.heap[P]? = some (.cells (lvC (ze s (.slice ua s.un uc) (.slice ha s.kh.length hc) (.slice pa s.pn pc) (.slice qa s.qn qc) (.slice la s.ln lc) (.slice da s.dn dc)) (lvK (.int .i64 cap) (.slice hva hn hvc) ob qb nb [.slice bva s.blk.n bvc, .int .i64 (s.blk.R : Int), .int .i64 s.blk.C])) 88 (0, 0))) (hW : WrS W B ob qb nb []) (hb : zaD W B 9 (.slice bva s.blk.n bvc) s.blk.n (fun j => .string (s.blk.tx j))) :
  Calls Tryz.prog 58 #[.pointer (some ⟨lb, 0, none⟩)] W fun e w' => WorkH (fun _ => False) P B ob qb nb (zmG s cap hn ht (.slice hva hn hvc) base H (.slice ua s.un uc) (.slice ha s.kh.length hc) (.slice pa s.pn pc) (.slice qa s.qn qc) (.slice la s.ln lc) (.slice da s.dn dc)) (fun c => ¬ zbY cap hn ht ∧ c = 1 ∨ zbY cap hn ht ∧ s.st = true ∧ c = 3) W e w' := by
 have k0 := zk hbx 0 _ rfl
 obtain ⟨hk, hhk⟩ := za2 (zbY cap hn ht)
 have hcH := zi (zfq cap (.slice hva hn hvc) hn ht W hH.reads hHn hHx (hT W (Fr.refl _ _)) hk hhk)
 have hcT := zi (fun V (hV : Ext W V) => zlL P B ob qb nb base s (.slice ua s.un uc) (.slice ha s.kh.length hc) (.slice pa s.pn pc) (.slice qa s.qn qc) (.slice la s.ln lc) (.slice da s.dn dc) (.int .i64 cap) (.slice hva hn hvc) bva bvc W V hV hP hO hok hBy hW hb hne hft hbB (fun W' f => hT W' f.1))
 have HPO := zi hP
 have HBX := zi hbx
 have HLB := zi hlb
 have HHK := zi hhk
 have HHH := zi (fun W' (f : LF (fun _ => False) P B ob W W') => zbM hH f (fun g hg => ⟨(hhf g hg).1, (hhf g hg).2, id⟩))
 have HHW := zi hHW
 clear hP hO hW hb hH hHx hT hbx hft hhf hhk hlb hHW
 go_enter Tryz.func58, Tryz.ntmps58
 go_wp2_with (refine zbc rfl 41 _ rfl P 17 rfl _ _ #[.int .i64 cap, .slice hva hn hvc] _ _ (zg HPO) (lvK_his rfl) Tryz.underlying41 rfl zaB ?_)
 refine (zg hcH).mono ?_
 rintro e w1 ⟨rfl, E1⟩
 have HE1 := zi E1
 have j0 := zk (E1.kept (zg HBX)) 0 _ rfl
 have j13 : w1.cell? ⟨P, 13, none⟩ = some (.bool s.st) := by rw [cell_of_row w1 P 13 _ _ _ (E1.kept (zg HPO))]; rfl
 clear E1 hcH k0
 cases hk with
 | false =>
  have HNO : Hid (¬ zbY cap hn ht) := zi (fun h => Bool.noConfusion ((zg HHK).2 h))
  clear HHK
  go_wp2_with fail
  refine (zeC 1 w1).mono ?_
  rintro e w6 ⟨rfl, rfl⟩
  exact ⟨rfl, .inr ⟨1, _, _, _, _, rfl, rfl, (zg HE1).kept (zg HPO), .inl ⟨zg HNO, rfl⟩, Fr.of_ext (zg HE1)⟩⟩
 | true =>
  have HYS : Hid (zbY cap hn ht) := zi ((zg HHK).1 rfl)
  clear HHK
  go_wp2_with fail
  refine (zdX 1 w1).mono ?_
  rintro e w6 ⟨rfl, rfl⟩
  obtain ⟨st, hst⟩ : ∃ st, s.st = st := ⟨_, rfl⟩
  rw [hst] at j13
  have HST := zi hst
  clear hst
  cases st with
  | true =>
   go_wp2_with fail
   refine (zeC 3 w6).mono ?_
   rintro e w7 ⟨rfl, rfl⟩
   exact ⟨rfl, .inr ⟨3, _, _, _, _, rfl, rfl, (zg HE1).kept (zg HPO), .inr ⟨zg HYS, zg HST, rfl⟩, Fr.of_ext (zg HE1)⟩⟩
  | false =>
  go_wp2_with fail
  refine (zdX 3 w6).mono ?_
  rintro e w7 ⟨rfl, rfl⟩
  clear j0 j13
  go_upto_region 2 with fail
  refine wp_region_held_drew (S := fun W => W.heap[lb]? = some (.cells #[.pointer (some ⟨P, 0, none⟩)] 69 (0, 0))) (by kernel_rfl) ((zg HE1).kept (zg HBX)) (fun hHeld => ?_)
  refine wpAnyH_take (i := 0) (v := .pointer (some ⟨P, 0, none⟩)) rfl (by kernel_rfl) (by kernel_rfl) (by kernel_rfl) (fun _ _ _ h => h) (Or.inl ⟨by rfl, ?_⟩) (by assumption) ?_
  ·intro w' hSw; have k9 := zk hSw 0 _ rfl; go_simp <;> with_reducible rfl
  simp only [Act.put, q9]
  refine wpAnyH_take (i := 1) (v := .pointer (some ⟨P, 0, none⟩)) rfl (by kernel_rfl) (by kernel_rfl) (by kernel_rfl) (fun _ _ _ h => h) (Or.inl ⟨by rfl, ?_⟩) (by assumption) ?_
  ·intro w' hSw; have k9 := zk hSw 0 _ rfl; go_simp <;> with_reducible rfl
  simp only [Act.put, q9]
  refine wpAnyH_take (i := 2) (v := .pointer (some ⟨P, 0, none⟩)) rfl (by kernel_rfl) (by kernel_rfl) (by kernel_rfl) (fun _ _ _ h => h) (Or.inl ⟨by rfl, ?_⟩) (by assumption) ?_
  ·intro w' hSw; go_simp <;> with_reducible rfl
  simp only [Act.put, q9]
  refine wpAnyH_take (i := 3) (v := .pointer (some ⟨P, 0, none⟩)) rfl (by kernel_rfl) (by kernel_rfl) (by kernel_rfl) (fun _ _ _ h => h) (Or.inl ⟨by rfl, ?_⟩) (by assumption) ?_
  ·intro w' hSw; go_simp <;> with_reducible rfl
  simp only [Act.put, q9]
  refine wpAnyH_take (i := 4) (v := .pointer (some ⟨P, 7, none⟩)) rfl (by kernel_rfl) (by kernel_rfl) (by kernel_rfl) (fun _ _ _ h => h) (Or.inl ⟨by rfl, ?_⟩) (by assumption) ?_
  ·intro w' hSw; go_simp <;> with_reducible rfl
  simp only [Act.put, q9]
  have HED := zi ((zg HE1).drew)
  refine rdy 5 (by kernel_rfl) rfl (fun K hK => ?_)
  refine zeO 38 _ rfl P 7 rfl _ _ #[.slice ha s.kh.length hc, .bool s.kp] _ _ ((zg HED).kept (zg HPO)) zmy Tryz.underlying38 rfl zlm ?_
  refine hK.out _ _ ((zg HED).kept (zg HBX)) (fun hHeld => ?_)
  clear hK K
  simp only [Act.put, q9]
  refine rdy 6 (by kernel_rfl) rfl (fun K hK => ?_)
  go_simp
  refine ((zg hcT) _ (zg HED)).mono ?_
  rintro e w3 ⟨E3, xa, xn, xc, kp, ka, kn, kc, rfl, hcP⟩
  have HE3 := Hid.ht HED E3
  have HCP := zi hcP
  clear E3 hcP hcT HED
  refine hK.out _ _ ((zg HE3).kept (zg HBX)) (fun hHeld => ?_)
  clear hK K
  refine tk 7 (.agg #[.slice xa xn xc, .bool kp]) rfl (by kernel_rfl) (fun _ _ _ h => h) (by rfl) ?_ (by assumption) ?_
  ·intro w' hSw; go_simp <;> with_reducible rfl
  simp only [Act.put, q9]
  refine wpAnyH_take (i := 8) (v := .slice ka kn kc) rfl (by kernel_rfl) (by kernel_rfl) (by kernel_rfl) (fun _ _ _ h => h) (Or.inl ⟨by rfl, ?_⟩) (by assumption) ?_
  ·intro w' hSw; go_simp <;> with_reducible rfl
  simp only [Act.put, q9]
  refine rdy 9 (by kernel_rfl) rfl (fun K hK => ?_)
  go_simp
  refine (zg HCP).mono ?_
  rintro e w4 ⟨rfl, u', h', t, hP4, hW4, hO4, hf4, hL4, hv4⟩
  refine hK.out _ _ (hL4.2 _ _ _ _ (zg HBX) (zg HLB).1 (zg HLB).2 id (by decide)) (fun hHeld => ?_)
  clear hK K
  refine wpAnyH_done (by kernel_rfl) ?_ _
  go_wp2
  exact bodyPost_end (v := .tuple #[]) (by simp [results, Tryz.results58, go_sem]) rfl (.inl ⟨_, _, _, _, _, rfl, rfl, hP4, hW4, fun v hv => ⟨zg HYS, zg HST, rfl, rfl, rfl, (zg HHH) w4 hL4, u', h', rfl, hO4, fun g hg => (hf4 g hg).imp id (fun h => Nat.le_trans (zg HHW) h), hv4 v hv⟩, hL4.1⟩)
def LiveH (Rel : SS → List Int → Int → Prop) (cap : Int) (hn : Nat) (ht : Nat → ByteArray) (w0 w : World) (P : Nat) (e : Ending) (w' : World) : Prop :=
 ∃ v zs s' cd u h p q l d hv r, e = .returned (.tuple #[v, .int .i64 cd]) ∧ Rel s' zs cd ∧ w'.ownsRow w0.heap.size 5 1 v zs.length (zs.map (Value.int .u8)) ∧ zax w' w0.heap.size s' u h p q l d ∧ zaD w' w0.heap.size 9 hv hn (fun j => .string (ht j)) ∧ w'.heap[P]? = some (.cells (lvC (ze s' u h p q l d) (.int .i64 cap :: hv :: r)) 88 (0, 0)) ∧ (∀ g, zab u h p q l d g → v.ownBlock ≠ some g) ∧ (∀ g, zab u h p q l d g → hv.ownBlock ≠ some g) ∧ Fr (fun g => w0.heap.size ≤ g) w w'
theorem ziR (P : Nat) (s : SS) (cap : Int) (hn : Nat) (ht : Nat → ByteArray) (hva : Option Addr) (hvc : Nat) (ua ha pa qa la da : Option Addr) (uc hc pc qc lc dc : Nat) (w0 w : World) (E0 : Ext w0 w) (hP0 : w0.heap.size ≤ P)
  (hL : w.heap[P]? = some (.cells (lvC (ze s (.slice ua s.un uc) (.slice ha s.kh.length hc) (.slice pa s.pn pc) (.slice qa s.qn qc) (.slice la s.ln lc) (.slice da s.dn dc)) (lvH (.int .i64 cap) (.slice hva hn hvc))) 88 (0, 0))) (hO : zax w w0.heap.size s (.slice ua s.un uc) (.slice ha s.kh.length hc) (.slice pa s.pn pc) (.slice qa s.qn qc) (.slice la s.ln lc) (.slice da s.dn dc)) (hnf : ¬ zab (.slice ua s.un uc) (.slice ha s.kh.length hc) (.slice pa s.pn pc) (.slice qa s.qn qc) (.slice la s.ln lc) (.slice da s.dn dc) P) (hH : zaD w w0.heap.size 9 (.slice hva hn hvc) hn (fun j => .string (ht j))) (hHf : ∀ g, zab (.slice ua s.un uc) (.slice ha s.kh.length hc) (.slice pa s.pn pc) (.slice qa s.qn qc) (.slice la s.ln lc) (.slice da s.dn dc) g → (Value.slice hva hn hvc).ownBlock ≠ some g) (hHP : (Value.slice hva hn hvc).ownBlock ≠ some P) (hHn : hn ≤ 1048576) (hHx : ∀ j, j < hn → (ht j).size ≤ 1048576) (hz : s.Sz) (hBy : zaj s.kh) (hT : zbf w0) (hlo : 3 < w0.heap.size) (hPw : zdP w0) :
  Calls Tryz.prog 35 #[.pointer (some ⟨P, 0, none⟩)] w fun e w' => LiveH (zgK s cap hn ht) cap hn ht w0 w P e w' := by
 have hPs : P < w.heap.size := zt hL
 have EA := (Ext.refl w).alloc (.cells #[.pointer (some ⟨P, 0, none⟩)] 69)
 have hs1 : (w.alloc (.cells #[.pointer (some ⟨P, 0, none⟩)] 69)).heap.size = w.heap.size + 1 := by simp
 have hs0 := E0.size
 have hft : ∀ g, zab (.slice ua s.un uc) (.slice ha s.kh.length hc) (.slice pa s.pn pc) (.slice qa s.qn qc) (.slice la s.ln lc) (.slice da s.dn dc) g → g ≠ P ∧ w0.heap.size ≤ g ∧ g < w.heap.size := fun g hg => ⟨fun e => by subst e; exact hnf hg, (hO.foot hg).1, (hO.foot hg).2⟩
 have hhg : ∀ g, (Value.slice hva hn hvc).ownBlock = some g → g ≠ P ∧ w0.heap.size ≤ g ∧ g < w.heap.size := fun g hg => ⟨fun e => by subst e; exact hHP hg, (hH.lt g hg).1, (hH.lt g hg).2⟩
 have hf := zkx (fun _ => False) P s cap hn ht hva hvc ua ha pa qa la da uc hc pc qc lc dc 58 #[.pointer (some ⟨w.heap.size, 0, none⟩)] (zmG s cap hn ht (.slice hva hn hvc) w0.heap.size (w.heap.size + 1 + 3) (.slice ua s.un uc) (.slice ha s.kh.length hc) (.slice pa s.pn pc) (.slice qa s.qn qc) (.slice la s.ln lc) (.slice da s.dn dc)) (fun c => ¬ zbY cap hn ht ∧ c = 1 ∨ zbY cap hn ht ∧ s.st = true ∧ c = 3) w0 (w.alloc (.cells #[.pointer (some ⟨P, 0, none⟩)] 69)) (hH.ext EA) hHP hHn (E0.trans EA) hP0 (fun q hq => hq.elim) (EA.kept hL) (hO.ext EA) hnf hz hT hlo hPw
  (fun sc a0 a1 bs v W1 W2 h F => by
   obtain ⟨h1, h2, h3, h4, h5, h6, u', h', h7, h8, h9, h10⟩ := h
   refine ⟨h1, h2, h3, h4, h5, h6.fr F (fun g hg e => ?_), u', h', h7, h8.fr F (fun g hg e => ?_), h9, h10⟩
   ·have k := hhg g hg
    rw [hs1] at e
    rcases e with e | e | e
    ·exact k.1 e
    ·omega
    ·omega
   ·rw [hs1] at e
    rcases h9 g hg with k | k
    ·have k := hft g k
     rcases e with e | e | e
     ·exact k.1 e
     ·omega
     ·omega
    ·omega)
  (fun W => Go.MuLone.run_callFunc_enter Tryz.func58 (by kernel_rfl) rfl _ _)
  (fun hk W B ob qb nb bv hE hF hob hB hP hWr hbv => by
   obtain ⟨bva, bvc, rfl⟩ := hbv.slice
   rw [hs1] at hob hB
   have hle := hWr.le
   have nf : ∀ g, g < w.heap.size → g ≠ P → ¬ (g = P ∨ (w.alloc (.cells #[.pointer (some ⟨P, 0, none⟩)] 69)).heap.size ≤ g) := fun g h1 h2 e => by rw [hs1] at e; rcases e with e | e; exact h2 e; omega
   refine zlM P w.heap.size s ua ha pa qa la da uc hc pc qc lc dc cap hn ht hva hvc B ob qb nb w0.heap.size (w.heap.size + 1 + 3) bva bvc W (hF.kept (zn w _) (by rw [hs1]; omega)) ⟨by omega, by omega, by omega, by omega, by omega⟩ ⟨by omega, by omega⟩ (fun g hg => by have h7 := hft g hg; exact ⟨h7.1, by omega⟩) (fun g hg => by have h7 := hhg g hg; exact ⟨h7.1, by omega⟩) (by omega) (by omega)
    ((hO.ext EA).fr hF (fun g hg => nf g (hft g hg).2.2 (hft g hg).1)) hk hBy ((hH.ext EA).fr hF (fun g hg => nf g (hhg g hg).2.2 (hhg g hg).1)) hHn hHx (fun W' f => hT.ext (f.ext hE (fun q hq => ?_))) hP hWr hbv
   rcases hq with hq | hq | hq | hq
   ·omega
   ·exact hq.elim
   ·omega
   ·omega)
 have HF := zi hf
 have hmf : ∀ (fn : Fn) (first cap : Array Value) (w : World), (Instr.makeFunc fn first cap).run Tryz.prog w = .ok (.func fn first cap) w := fun _ _ _ _ => rfl
 have HS1 := zi hs1
 have HEA := zi EA
 have HFT := zi hft
 have HHG := zi hhg
 have HHF := zi hHf
 clear hf hL hO hnf hz hT hPw hs1 EA hft hH hHf hHP hHx hhg hBy
 go_enter Tryz.func35, Tryz.ntmps35
 go_wp2_with fail
 refine (zg HF).mono ?_
 rintro e w2 (⟨v, sc, a0, a1, bs, r, rfl, hk, ho, hP2, hsz, ⟨hhp, hst, rfl, rfl, rfl, ho1, u', h', rfl, ho2, hf2, hv2⟩, F2⟩ | ⟨c, u, h, p, q, l, d, hv, r, rfl, hk, hP2, ho, hnf2, ho1, hap, F2⟩)
 ·obtain ⟨a2, c2, rfl⟩ := zaE ho
  have HO2 := zi ho
  have HP2 := zi hP2
  have HF2 := zi F2
  have HK := zi (And.intro hk (And.intro hhp hst))
  have HV2 := zi (And.intro ho1 (And.intro ho2 hf2))
  have HVV := zi hv2
  clear ho hP2 F2 hk hhp hst hsz ho1 ho2 hf2 hv2
  go_wp2
  have h1 := zg HS1
  refine bodyPost_ret (v := .tuple #[.slice a2 s.wtB.length c2, .int .i64 0]) (by simp [results, Tryz.results35, go_sem]) rfl ⟨_, s.wtB, s.wtS, 0, u', h', _, _, _, _, _, r, rfl, .inl ⟨(zg HK).1, (zg HK).2.1, (zg HK).2.2, rfl, rfl, rfl⟩, zas (zg HO2) (by omega), (zg HV2).2.1, (zg HV2).1, zg HP2, ?_, ?_, (Fr.of_ext (zg HEA)).tr ((zg HF2).mono (fun q hq => by rw [h1] at hq; rcases hq with hq | hq | hq; omega; exact hq.elim; omega))⟩
  ·intro g hg e9
   have h2 := ((zg HO2).lt g e9).1
   rw [h1] at h2
   rcases (zg HV2).2.2 g hg with h3 | h3
   ·have := ((zg HFT) g h3).2.2; omega
   ·rcases hg with hg | hg | hg | hg | hg | hg
    ·obtain ⟨ys, h5, _⟩ := (zg HV2).2.1.un
     exact zaW h5 (zg HO2) (by decide) hg e9
    ·exact (zg HVV) g hg e9
    ·have := ((zg HFT) g (.inr (.inr (.inl hg)))).2.2; omega
    ·have := ((zg HFT) g (.inr (.inr (.inr (.inl hg))))).2.2; omega
    ·have := ((zg HFT) g (.inr (.inr (.inr (.inr (.inl hg)))))).2.2; omega
    ·have := ((zg HFT) g (.inr (.inr (.inr (.inr (.inr hg)))))).2.2; omega
  ·intro g hg e9
   have h2 := ((zg HHG) g e9).2.2
   rcases (zg HV2).2.2 g hg with h3 | h3
   ·exact (zg HHF) g h3 e9
   ·omega
 ·have HO2 := zi ho
  have HP2 := zi hP2
  have HF2 := zi F2
  have HK := zi hk
  have HV2 := zi (And.intro ho1 hap)
  clear ho hP2 F2 hk hnf2 ho1 hap
  go_wp2
  have h1 := zg HS1
  refine bodyPost_ret (v := .tuple #[.slice none 0 0, .int .i64 c]) (by simp [results, Tryz.results35, go_sem]) rfl ⟨_, [], s, c, u, h, p, q, l, d, hv, r, rfl, ?_, zbp _ _ _ _, (zg HO2).mono (by omega), (zg HV2).1.mono (by omega), zg HP2, fun g _ hg2 => by simp [Value.ownBlock] at hg2, fun g hg => (zg HV2).2 g hg, (Fr.of_ext (zg HEA)).tr ((zg HF2).mono (fun q hq => by rw [h1] at hq; rcases hq with hq | hq | hq; omega; exact hq.elim; omega))⟩
  rcases zg HK with ⟨e1, e2⟩ | ⟨e1, ⟨e2, e3⟩ | ⟨e2, e3, e4⟩⟩
  ·exact .inr (.inr ⟨fun h => e2 h.1, rfl, rfl, e1⟩)
  ·exact .inr (.inr ⟨fun h => e2 h.2, rfl, rfl, e3⟩)
  ·exact .inr (.inl ⟨e1, e2, e3, rfl, rfl, e4⟩)
end Go.Proofs.YtmlkpdbfnffoaaaGreatDoor
