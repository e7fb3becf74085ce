import Derived.Test.YtbieoijeilhadaaDoorShowable
import Derived.Test.YtbieoijeilhadaaDoorRows12
import Derived.Deep.RegionHeld3
import Derived.Test.YtbieoijeilhadaaDoorKR
import Derived.Lib.ItoaNum
import Derived.Lib.Join
import Derived.Test.YtbieoijeilhadaaDoorBlocks
namespace Go.Proofs.YtbieoijeilhadaaDoor
open Go.RowKit
theorem Fr.tr {S : Nat → Prop} {a b c : World} (h : Fr S a b) (k : Fr S b c) : Fr S a c :=
  ⟨k.os.trans h.os, k.tape.trans h.tape, k.output.trans h.output, Nat.le_trans h.size k.size, fun i hi hn => (k.block i (Nat.lt_of_lt_of_le hi h.size) hn).trans (h.block i hi hn)⟩
end Go.Proofs.YtbieoijeilhadaaDoor

namespace Go.Proofs.YtbieoijeilhadaaDoor
open Go.RowKit
structure Kd where
  R : World → Value → Prop
  O : World → Nat → (Nat → Prop) → Value → Prop
  rext : ∀ {w w' : World} {v : Value}, R w v → Ext w w' → R w' v
  oext : ∀ {w w' : World} {b : Nat} {S : Nat → Prop} {v : Value}, O w b S v → Ext w w' → O w' b S v
  ofr : ∀ {w w' : World} {b : Nat} {S S' : Nat → Prop} {v : Value}, O w b S v → Fr S' w w' → (∀ g, S g → ¬ S' g) → O w' b S v
  reads : ∀ {w : World} {b : Nat} {S : Nat → Prop} {v : Value}, O w b S v → R w v
  lt : ∀ {w : World} {b : Nat} {S : Nat → Prop} {v : Value}, O w b S v → ∀ g, S g → b ≤ g ∧ g < w.heap.size
def EqOk (F : Nat) (K : Kd) : Prop := ∀ (w : World) (a b : Value), K.R w a → K.R w b → Calls Tryd.prog F #[a, b] w fun e w' => e = .returned (.bool true) ∧ Ext w w'
def MarkOk (F : Nat) (K : Kd) (M : Int → Kd) (m : Nat) : Prop :=
  ∀ (w : World) (b : Nat) (S : Nat → Prop) (v : Value) (k : Int), K.O w b S v → 0 ≤ k → k ≤ 68719476736 → Calls Tryd.prog F #[v, .int .i64 k] w fun e w' => e = .returned (.int .i64 (k + (m : Int))) ∧ (M k).O w' b S v ∧ Fr S w w'
def HeldOk (F : Nat) (M : Int → Kd) (m : Nat) : Prop :=
  ∀ (w : World) (v : Value) (k : Int), (M k).R w v → 0 ≤ k → k ≤ 68719476736 → Calls Tryd.prog F #[v, .int .i64 k] w fun e w' => e = .returned (.int .i64 (k + (m : Int))) ∧ Ext w w'
theorem Fr.kept {S : Nat → Prop} {w w' : World} {p : Nat} {o : Obj} (h : Fr S w w') (hp : w.heap[p]? = some o) (hS : ¬ S p) : w'.heap[p]? = some o := (h.block p (Array.getElem?_eq_some_iff.1 hp).1 hS).trans hp
theorem lt_of_block {w : World} {p : Nat} {o : Obj} (h : w.heap[p]? = some o) : p < w.heap.size := (Array.getElem?_eq_some_iff.1 h).1
def bytesK (zs : List Int) : Kd where
  R w v := IntsAt w .u8 v zs
  O w b S v := w.ownsRow b 5 1 v zs.length (zs.map (Value.int .u8)) ∧ ∀ g, S g ↔ v.ownBlock = some g
  rext h e := h.ext e
  oext h e := ⟨e.owns h.1, h.2⟩
  ofr h f d := ⟨f.owns h.1 (fun g hg => d g ((h.2 g).2 hg)), h.2⟩
  reads h := ints_of_owns h.1
  lt h g hg := h.1.lt g ((h.2 g).1 hg)
theorem bytesK_shape {zs : List Int} {w : World} {v : Value} (h : (bytesK zs).R w v) : ∃ a c, v = .slice a zs.length c := by
  obtain ⟨a, c, e, _⟩ := h
  exact ⟨a, c, e⟩
theorem bytesK_own {zs : List Int} {w : World} {b : Nat} {v : Value} (h : w.ownsRow b 5 1 v zs.length (zs.map (Value.int .u8))) : (bytesK zs).O w b (fun g => v.ownBlock = some g) v := ⟨h, fun _ => Iff.rfl⟩
theorem bytesK_eq (zs : List Int) (hn : zs.length ≤ 4398046511104) : EqOk 18 (bytesK zs) := fun w a b ha hb => eqByteS_same a b zs w ha hb hn
theorem bytesK_mark (zs : List Int) (hn : zs.length ≤ 1099511627776) : MarkOk 20 (bytesK zs) (fun k => bytesK (mkU8 k zs.length)) zs.length := fun w b S v k h h0 h1 => by
  refine (markByteS_any b v zs.length _ k w h.1 (by omega) h0 (by omega)).mono ?_
  rintro e w' ⟨rfl, o, f⟩
  have o2 : w'.ownsRow b 5 1 v (mkU8 k zs.length).length ((mkU8 k zs.length).map (Value.int .u8)) := by rw [mkU8_len]; exact o
  exact ⟨rfl, ⟨o2, h.2⟩, ((Fr.refl _ w).grown f (fun g hg => (h.2 g).2 hg))⟩
end Go.Proofs.YtbieoijeilhadaaDoor
