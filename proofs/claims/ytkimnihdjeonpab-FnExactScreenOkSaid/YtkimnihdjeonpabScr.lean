import Derived.Test.YtkimnihdjeonpabGrid
import Derived.Test.YtkimnihdjeonpabU8s
namespace Go.Proofs.Ytkimnihdjeonpab
open Go.RowKit
structure SD where
  cols : Int
  rows : Int
  row : Int
  col : Int
  late : Bool
  R : Nat
  C : Nat → Nat
  tx : Nat → Nat → ByteArray
  hf : Nat → Nat → Bool
  hold : List Int
  nb : Nat
  bk : Nat → ByteArray
def scrV (d : SD) (gv hv bv : Value) : Value := .agg #[.int .i64 d.cols, .int .i64 d.rows, gv, .int .i64 d.row, .int .i64 d.col, .bool d.late, hv, bv]
def ScrAt (w : World) (d : SD) (gv hv bv : Value) : Prop :=
  GridAt w gv d.R d.C (fun i j => .string (d.tx i j)) (fun i j => .bool (d.hf i j)) ∧ IntsAt w .u8 hv d.hold ∧ Row1At w bv d.nb (fun j => .string (d.bk j))
theorem ScrAt.ext {w w' : World} {d : SD} {gv hv bv : Value} (h : ScrAt w d gv hv bv) (he : Ext w w') : ScrAt w' d gv hv bv := ⟨h.1.ext he, h.2.1.ext he, h.2.2.ext he⟩
structure SD.Fits (d : SD) : Prop where
  R : d.R ≤ 1048576
  C : ∀ i, i < d.R → d.C i ≤ 1048576
  hold : d.hold.length ≤ 1048576
  nb : d.nb ≤ 16777216
def OwnScr (w : World) (base : Nat) (d : SD) (gv : Value) (rv : Nat → Value) (hv bv : Value) : Prop :=
  OwnGrid w base gv rv d.R d.C (fun i j => .string (d.tx i j)) (fun i j => .bool (d.hf i j)) ∧ w.ownsRow base 5 1 hv d.hold.length (d.hold.map (Value.int .u8)) ∧ Own1 w base 9 bv d.nb (fun j => .string (d.bk j))
theorem OwnScr.ext {w w' : World} {base : Nat} {d : SD} {gv : Value} {rv : Nat → Value} {hv bv : Value} (h : OwnScr w base d gv rv hv bv) (he : Ext w w') : OwnScr w' base d gv rv hv bv := ⟨h.1.ext he, he.owns h.2.1, h.2.2.ext he⟩
theorem OwnScr.reads {w : World} {base : Nat} {d : SD} {gv : Value} {rv : Nat → Value} {hv bv : Value} (h : OwnScr w base d gv rv hv bv) : ScrAt w d gv hv bv := ⟨h.1.reads, ints_of_owns h.2.1, h.2.2.reads⟩
def SFoot (d : SD) (gv : Value) (rv : Nat → Value) (hv bv : Value) (g : Nat) : Prop := GFoot gv rv d.R g ∨ hv.ownBlock = some g ∨ bv.ownBlock = some g
theorem OwnScr.foot {w : World} {base : Nat} {d : SD} {gv : Value} {rv : Nat → Value} {hv bv : Value} (h : OwnScr w base d gv rv hv bv) {g : Nat} (hg : SFoot d gv rv hv bv g) : base ≤ g ∧ g < w.heap.size := by
  rcases hg with hg | hg | hg
  · exact h.1.foot hg
  · exact h.2.1.lt g hg
  · exact h.2.2.lt g hg
theorem OwnScr.fr {S : Nat → Prop} {w w' : World} {base : Nat} {d : SD} {gv : Value} {rv : Nat → Value} {hv bv : Value} (h : OwnScr w base d gv rv hv bv) (hf : Fr S w w') (hS : ∀ g, SFoot d gv rv hv bv g → ¬ S g) : OwnScr w' base d gv rv hv bv :=
  ⟨h.1.fr hf (fun g hg => hS g (.inl hg)), hf.owns h.2.1 (fun g hg => hS g (.inr (.inl hg))), h.2.2.fr hf (fun g hg => hS g (.inr (.inr hg)))⟩
set_option maxHeartbeats 2000000 in
theorem eqScreen_same (d : SD) (ga ha ba gb hb bb : Value) (w : World) (h1 : ScrAt w d ga ha ba) (h2 : ScrAt w d gb hb bb) (hF : d.Fits) :
    Calls Try.prog 17 #[scrV d ga ha ba, scrV d gb hb bb] w fun e w' => e = .returned (.bool true) ∧ Ext w w' := by
  obtain ⟨f1, f2, f3, f4⟩ := hF
  have H1 := hide h1
  have H2 := hide h2
  have HF2 := hide f2
  clear h1 h2 f2
  unfold scrV
  go_enter Try.func17, Try.ntmps17
  go_wp2_with fail
  have E0 : ∀ a b, Ext w ((w.alloc a).alloc b) := fun a b => ((Ext.refl _).alloc _).alloc _
  refine (eqCellSS_same _ _ d.R d.C d.tx d.hf _ ((unhide H1).ext (E0 _ _)).1 ((unhide H2).ext (E0 _ _)).1 (by omega) (fun i hi => by have := (unhide HF2) i hi; omega)).mono ?_
  rintro e w1 ⟨rfl, F1⟩
  have E1 := (E0 _ _).trans F1
  obtain ⟨hc, hfz⟩ := F1.rules
  go_wp2_with fail
  refine (eqByteS_same _ _ d.hold _ ((unhide H1).ext E1).2.1 ((unhide H2).ext E1).2.1 (by omega)).mono ?_
  rintro e w2 ⟨rfl, F2⟩
  have E2 := E1.trans F2
  obtain ⟨hc2, hfz2⟩ := (F1.trans F2).rules
  clear hc hfz
  go_wp2_with fail
  refine (eqStringS_same _ _ d.nb d.bk _ ((unhide H1).ext E2).2.2 ((unhide H2).ext E2).2.2 (by omega)).mono ?_
  rintro e w3 ⟨rfl, F3⟩
  go_wp2
  go_ret
  exact ⟨rfl, E2.trans F3⟩
theorem Fr.trans {S : Nat → Prop} {a b c : World} (h : Fr S a b) (k : Fr S b c) : Fr S a c :=
  ⟨k.os.trans h.os, k.tape.trans h.tape, k.output.trans h.output, Nat.le_trans h.size k.size, fun i hi hn => (k.block i (Nat.lt_of_lt_of_le hi h.size) hn).trans (h.block i hi hn)⟩
end Go.Proofs.Ytkimnihdjeonpab
