import Derived.Test.YtkimnihdjeonpabGrid
import Derived.Test.YtkimnihdjeonpabU8s
namespace Go.Proofs.Ytkimnihdjeonpab
open Go.RowKit
structure SD where
  cols : Int
  rows : Int
  row : Int
  col : Int
  late : Bool
  R : Nat
  C : Nat → Nat
  tx : Nat → Nat → ByteArray
  hf : Nat → Nat → Bool
  hold : List Int
  nb : Nat
  bk : Nat → ByteArray
def scrV (d : SD) (gv hv bv : Value) : Value := .agg #[.int .i64 d.cols, .int .i64 d.rows, gv, .int .i64 d.row, .int .i64 d.col, .bool d.late, hv, bv]
def ScrAt (w : World) (d : SD) (gv hv bv : Value) : Prop :=
  GridAt w gv d.R d.C (fun i j => .string (d.tx i j)) (fun i j => .bool (d.hf i j)) ∧ IntsAt w .u8 hv d.hold ∧ Row1At w bv d.nb (fun j => .string (d.bk j))
theorem ScrAt.ext {w w' : World} {d : SD} {gv hv bv : Value} (h : ScrAt w d gv hv bv) (he : Ext w w') : ScrAt w' d gv hv bv := ⟨h.1.ext he, h.2.1.ext he, h.2.2.ext he⟩
structure SD.Fits (d : SD) : Prop where
  R : d.R ≤ 1048576
  C : ∀ i, i < d.R → d.C i ≤ 1048576
  hold : d.hold.length ≤ 1048576
  nb : d.nb ≤ 16777216
def OwnScr (w : World) (base : Nat) (d : SD) (gv : Value) (rv : Nat → Value) (hv bv : Value) : Prop :=
  OwnGrid w base gv rv d.R d.C (fun i j => .string (d.tx i j)) (fun i j => .bool (d.hf i j)) ∧ w.ownsRow base 5 1 hv d.hold.length (d.hold.map (Value.int .u8)) ∧ Own1 w base 9 bv d.nb (fun j => .string (d.bk j))
theorem OwnScr.ext {w w' : World} {base : Nat} {d : SD} {gv : Value} {rv : Nat → Value} {hv bv : Value} (h : OwnScr w base d gv rv hv bv) (he : Ext w w') : OwnScr w' base d gv rv hv bv := ⟨h.1.ext he, he.owns h.2.1, h.2.2.ext he⟩
theorem OwnScr.reads {w : World} {base : Nat} {d : SD} {gv : Value} {rv : Nat → Value} {hv bv : Value} (h : OwnScr w base d gv rv hv bv) : ScrAt w d gv hv bv := ⟨h.1.reads, ints_of_owns h.2.1, h.2.2.reads⟩
def SFoot (d : SD) (gv : Value) (rv : Nat → Value) (hv bv : Value) (g : Nat) : Prop := GFoot gv rv d.R g ∨ hv.ownBlock = some g ∨ bv.ownBlock = some g
theorem OwnScr.foot {w : World} {base : Nat} {d : SD} {gv : Value} {rv : Nat → Value} {hv bv : Value} (h : OwnScr w base d gv rv hv bv) {g : Nat} (hg : SFoot d gv rv hv bv g) : base ≤ g ∧ g < w.heap.size := by
  rcases hg with hg | hg | hg
  · exact h.1.foot hg
  · exact h.2.1.lt g hg
  · exact h.2.2.lt g hg
theorem OwnScr.fr {S : Nat → Prop} {w w' : World} {base : Nat} {d : SD} {gv : Value} {rv : Nat → Value} {hv bv : Value} (h : OwnScr w base d gv rv hv bv) (hf : Fr S w w') (hS : ∀ g, SFoot d gv rv hv bv g → ¬ S g) : OwnScr w' base d gv rv hv bv :=
  ⟨h.1.fr hf (fun g hg => hS g (.inl hg)), hf.owns h.2.1 (fun g hg => hS g (.inr (.inl hg))), h.2.2.fr hf (fun g hg => hS g (.inr (.inr hg)))⟩
set_option maxHeartbeats 2000000 in
theorem eqScreen_same (d : SD) (ga ha ba gb hb bb : Value) (w : World) (h1 : ScrAt w d ga ha ba) (h2 : ScrAt w d gb hb bb) (hF : d.Fits) :
    Calls Try.prog 17 #[scrV d ga ha ba, scrV d gb hb bb] w fun e w' => e = .returned (.bool true) ∧ Ext w w' := by
  obtain ⟨f1, f2, f3, f4⟩ := hF
  have H1 := hide h1
  have H2 := hide h2
  have HF2 := hide f2
  clear h1 h2 f2
  unfold scrV
  go_enter Try.func17, Try.ntmps17
  go_wp2_with fail
  have E0 : ∀ a b, Ext w ((w.alloc a).alloc b) := fun a b => ((Ext.refl _).alloc _).alloc _
  refine (eqCellSS_same _ _ d.R d.C d.tx d.hf _ ((unhide H1).ext (E0 _ _)).1 ((unhide H2).ext (E0 _ _)).1 (by omega) (fun i hi => by have := (unhide HF2) i hi; omega)).mono ?_
  rintro e w1 ⟨rfl, F1⟩
  have E1 := (E0 _ _).trans F1
  obtain ⟨hc, hfz⟩ := F1.rules
  go_wp2_with fail
  refine (eqByteS_same _ _ d.hold _ ((unhide H1).ext E1).2.1 ((unhide H2).ext E1).2.1 (by omega)).mono ?_
  rintro e w2 ⟨rfl, F2⟩
  have E2 := E1.trans F2
  obtain ⟨hc2, hfz2⟩ := (F1.trans F2).rules
  clear hc hfz
  go_wp2_with fail
  refine (eqStringS_same _ _ d.nb d.bk _ ((unhide H1).ext E2).2.2 ((unhide H2).ext E2).2.2 (by omega)).mono ?_
  rintro e w3 ⟨rfl, F3⟩
  go_wp2
  go_ret
  exact ⟨rfl, E2.trans F3⟩
theorem Fr.trans {S : Nat → Prop} {a b c : World} (h : Fr S a b) (k : Fr S b c) : Fr S a c :=
  ⟨k.os.trans h.os, k.tape.trans h.tape, k.output.trans h.output, Nat.le_trans h.size k.size, fun i hi hn => (k.block i (Nat.lt_of_lt_of_le hi h.size) hn).trans (h.block i hi hn)⟩
def sk1 (k : Int) (d : SD) : Int := gk k d.C d.R
def sk2 (k : Int) (d : SD) : Int := sk1 k d + (d.hold.length : Int)
def sk3 (k : Int) (d : SD) : Int := sk2 k d + (d.nb : Int)
def mkSD (k : Int) (d : SD) : SD := { d with tx := fun i j => mtx (gk k d.C i + 2 * (j : Int)), hf := fun i j => (gk k d.C i + 2 * (j : Int) + 1) % 3 == 0, hold := mkU8 (sk1 k d) d.hold.length, bk := fun j => mtx (sk2 k d + (j : Int)) }
def SD.Small (k : Int) (d : SD) : Prop := ∀ i, i ≤ d.R → 0 ≤ gk k d.C i ∧ gk k d.C i ≤ 549755813888
theorem OwnScr.kinds {w : World} {base : Nat} {d : SD} {gv : Value} {rv : Nat → Value} {hv bv : Value} (h : OwnScr w base d gv rv hv bv) :
    (∀ g, GFoot gv rv d.R g → hv.ownBlock ≠ some g ∧ bv.ownBlock ≠ some g) ∧ (∀ g, hv.ownBlock = some g → bv.ownBlock ≠ some g) := by
  obtain ⟨⟨⟨ys, a1, _⟩, a2, _⟩, a3, ⟨zs, a4, _⟩⟩ := h
  refine ⟨fun g hg => ?_, fun g hg => owns_apart a3 a4 (by decide) hg⟩
  rcases hg with hg | ⟨i, hi, hg⟩
  · exact ⟨owns_apart a1 a3 (by decide) hg, owns_apart a1 a4 (by decide) hg⟩
  · obtain ⟨xs, b1, _⟩ := a2 i hi
    exact ⟨owns_apart b1 a3 (by decide) hg, owns_apart b1 a4 (by decide) hg⟩
set_option maxHeartbeats 2000000 in
theorem markScreen_any (base : Nat) (d : SD) (gv : Value) (rv : Nat → Value) (hv bv : Value) (k : Int) (w : World) (h : OwnScr w base d gv rv hv bv) (hF : d.Fits) (hS : d.Small k) :
    Calls Try.prog 18 #[scrV d gv hv bv, .int .i64 k] w fun e w' => e = .returned (.int .i64 (sk3 k d)) ∧ OwnScr w' base (mkSD k d) gv rv hv bv ∧ Fr (SFoot d gv rv hv bv) w w' := by
  obtain ⟨f1, f2, f3, f4⟩ := hF
  have HH := hide h
  have HF2 := hide f2
  have HSM := hide hS
  have hk1 := hS d.R (Nat.le_refl _)
  have hs1 : Hid (sk1 k d = gk k d.C d.R) := rfl
  have hs2 : Hid (sk2 k d = sk1 k d + (d.hold.length : Int)) := rfl
  have hs3 : Hid (sk3 k d = sk2 k d + (d.nb : Int)) := rfl
  rw [← hs1.out] at hk1
  have hk2 : 0 ≤ sk2 k d ∧ sk2 k d ≤ 549756862464 := by rw [hs2.out]; omega
  obtain ⟨kd1, kd2⟩ := h.kinds
  have K1 := hide kd1
  have K2 := hide kd2
  clear h f2 hS kd1 kd2
  unfold scrV
  go_enter Try.func18, Try.ntmps18
  go_wp2_with fail
  refine (markCellSS_any base gv rv d.R d.C _ _ k _ ((unhide HH).1.ext ((Ext.refl _).alloc _)) f1 (unhide HF2) (fun i hi => by have := (unhide HSM) i hi; omega)).mono ?_
  rw [← hs1.out]
  rintro e w1 ⟨rfl, og1, fr1⟩
  have E0 : Ext w (w.alloc (.cells #[.int .i64 d.cols, .int .i64 d.rows, gv, .int .i64 d.row, .int .i64 d.col, .bool d.late, hv, bv] 37)) := (Ext.refl _).alloc _
  have oh1 := fr1.owns (E0.owns (unhide HH).2.1) (fun g hg e => ((unhide K1) g e).1 hg)
  have ob1 := ((unhide HH).2.2.ext E0).fr fr1 (fun g hg e => ((unhide K1) g e).2 hg)
  have hblk : ∀ g, SFoot d gv rv hv bv g → g < w.heap.size := fun g hg => ((unhide HH).foot hg).2
  have HBLK := hide hblk
  have hbox : ∀ o, w1.cell? ⟨w.heap.size, o, none⟩ = (w.alloc (.cells #[.int .i64 d.cols, .int .i64 d.rows, gv, .int .i64 d.row, .int .i64 d.col, .bool d.late, hv, bv] 37)).cell? ⟨w.heap.size, o, none⟩ := fun o => by
    refine World.cell?_of_block (a := ⟨w.heap.size, o, none⟩) (fr1.block _ (by simp) (fun e => ?_))
    have := hblk w.heap.size (.inl e); omega
  have b6 := hbox 6
  have b7 := hbox 7
  simp [go_sem] at b6 b7
  have FR1 := hide (Fr.trans (Fr.of_ext (S := SFoot d gv rv hv bv) E0) (fr1.mono (fun k hk => .inl hk)))
  have OG1 := hide og1
  have OB1 := hide ob1
  clear hbox hblk og1 ob1 fr1
  go_wp2_with fail
  refine (markByteS_any base hv _ _ (sk1 k d) _ oh1 (by omega) hk1.1 (by omega)).mono ?_
  rw [← hs2.out]
  rintro e w2 ⟨rfl, oh2, gr2⟩
  have fr2 : Fr (fun g => hv.ownBlock = some g) w1 w2 := (Fr.refl _ _).grown gr2 (fun q hq => hq)
  have og2 := (unhide OG1).fr fr2 (fun g hg e => ((unhide K1) g hg).1 e)
  have ob2 := (unhide OB1).fr fr2 (fun g hg e => (unhide K2) g e hg)
  have b72 : w2.cell? ⟨w.heap.size, 7, none⟩ = some bv := by
    refine (World.cell?_of_block (a := ⟨w.heap.size, 7, none⟩) (fr2.block _ (lt_of_cell b7) (fun e => ?_))).trans b7
    have := (unhide HBLK) w.heap.size (.inr (.inl e)); omega
  have FR2 := hide ((unhide FR1).trans (fr2.mono (fun k hk => .inr (.inl hk))))
  have OG2 := hide og2
  have OH2 := hide oh2
  clear og2 oh2 fr2 gr2 oh1 b6 b7
  go_wp2_with fail
  refine (markStringS_any base bv d.nb _ (sk2 k d) _ ob2 (by omega) hk2.1 (by omega)).mono ?_
  rw [← hs3.out]
  rintro e w3 ⟨rfl, ob3, fr3⟩
  have og3 := (unhide OG2).fr fr3 (fun g hg e => ((unhide K1) g hg).2 e)
  have oh3 := fr3.owns (unhide OH2) (fun g hg e => (unhide K2) g hg e)
  have FR3 := hide ((unhide FR2).trans (fr3.mono (fun k hk => .inr (.inr hk))))
  have HFIN : Hid (OwnScr w3 base (mkSD k d) gv rv hv bv) := by
    refine ⟨og3, ?_, ob3⟩
    show w3.ownsRow base 5 1 hv (mkU8 (sk1 k d) d.hold.length).length ((mkU8 (sk1 k d) d.hold.length).map (Value.int .u8))
    rw [mkU8_len]; exact oh3
  clear og3 oh3 ob3 fr3
  go_wp2
  go_ret
  exact ⟨rfl, unhide HFIN, unhide FR3⟩
set_option maxHeartbeats 2000000 in
theorem heldScreen_any (d : SD) (gv hv bv : Value) (k : Int) (w : World) (h : ScrAt w (mkSD k d) gv hv bv) (hF : d.Fits) (hS : d.Small k) :
    Calls Try.prog 19 #[scrV d gv hv bv, .int .i64 k] w fun e w' => e = .returned (.int .i64 (sk3 k d)) ∧ Ext w w' := by
  obtain ⟨f1, f2, f3, f4⟩ := hF
  have HH := hide h
  have HF2 := hide f2
  have HSM := hide hS
  have hk1 := hS d.R (Nat.le_refl _)
  have hs1 : Hid (sk1 k d = gk k d.C d.R) := rfl
  have hs2 : Hid (sk2 k d = sk1 k d + (d.hold.length : Int)) := rfl
  have hs3 : Hid (sk3 k d = sk2 k d + (d.nb : Int)) := rfl
  rw [← hs1.out] at hk1
  have hk2 : 0 ≤ sk2 k d ∧ sk2 k d ≤ 549756862464 := by rw [hs2.out]; omega
  have hk3 : 0 ≤ sk3 k d := by rw [hs3.out]; omega
  have hn1 : ¬ sk1 k d < 0 := by omega
  have hn2 : ¬ sk2 k d < 0 := by omega
  have hn3 : ¬ sk3 k d < 0 := by omega
  clear h f2 hS
  unfold scrV
  go_enter Try.func19, Try.ntmps19
  go_wp2_with fail
  have E0 : ∀ a, Ext w (w.alloc a) := fun a => (Ext.refl _).alloc _
  refine (heldCellSS_any gv d.R d.C k _ ((unhide HH).ext (E0 _)).1 f1 (unhide HF2) (fun i hi => by have := (unhide HSM) i hi; omega)).mono ?_
  rw [← hs1.out]
  rintro e w1 ⟨rfl, F1⟩
  have E1 := (E0 _).trans F1
  obtain ⟨hc, hfz⟩ := F1.rules
  have hcon := hide (fun W (hW : Ext w W) => heldByteS_any hv d.hold.length (sk1 k d) W ((unhide HH).ext hW).2.1 (by omega) hk1.1 (by omega))
  rw [← hs2.out] at hcon
  go_wp2_with fail
  refine ((unhide hcon) _ E1).mono ?_
  rintro e w2 ⟨rfl, F2⟩
  have E2 := E1.trans F2
  obtain ⟨hc2, hfz2⟩ := (F1.trans F2).rules
  clear hc hfz
  have hcon2 := hide (fun W (hW : Ext w W) => heldStringS_any bv d.nb (sk2 k d) W ((unhide HH).ext hW).2.2 (by omega) hk2.1 (by omega))
  rw [← hs3.out] at hcon2
  go_wp2_with fail
  refine ((unhide hcon2) _ E2).mono ?_
  rintro e w3 ⟨rfl, F3⟩
  go_wp2
  go_ret
  exact ⟨rfl, E2.trans F3⟩
end Go.Proofs.Ytkimnihdjeonpab
