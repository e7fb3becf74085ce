import Derived.Test.YtmomcccgjjjldaaDoorWrapL
import Derived.Test.YtmomcccgjjjldaaDoorWrapS
namespace Go.Proofs.YtmomcccgjjjldaaDoor
open Go.RowKit
def wrS (cs : List (List Int × Int)) (cols : Int) : List Int := (stF cs cols cs.length).1 ++ [(cs.length : Int)]
def wrR (cs : List (List Int × Int)) (cols : Int) : Nat := if cols < 2 then 0 else (stF cs cols cs.length).1.length
def wrC (cs : List (List Int × Int)) (cols : Int) (i : Nat) : List (List Int × Int) := (cs.take (at0 (wrS cs cols) (i + 1)).toNat).drop (at0 (wrS cs cols) i).toNat
theorem wrS_step (cs : List (List Int × Int)) (cols : Int) (i : Nat) (h : i < (stF cs cols cs.length).1.length) : 0 ≤ at0 (wrS cs cols) i ∧ at0 (wrS cs cols) i ≤ at0 (wrS cs cols) (i + 1) ∧ at0 (wrS cs cols) (i + 1) ≤ (cs.length : Int) := by
  have hok := stF_ok cs cols cs.length
  unfold wrS
  rw [at0_app, if_neg (by omega), at0_app]
  have h1 := hok.le i h
  split
  · omega
  · have h2 := hok.mono i (by omega)
    have h3 := hok.le (i + 1) (by omega)
    omega
theorem infoRw : (Tryd.prog.info? 27).map (fun i => (i.zero, i.size, i.bytes)) = some (some (.slice none 0 0), 1, 24) := by kernel_rfl
theorem css_nil {W : World} {base : Nat} {v : Value} {rv : Nat → Value} {rs : Nat → List Value} {cs : Nat → List (List Int × Int)} (h : W.ownsRow base 27 1 v 0 []) : OwnCss W base v rv rs 0 cs :=
  ⟨⟨[], h, fun j hj => by omega⟩, fun i hi => by omega, fun i j g _ hj => by omega⟩
end Go.Proofs.YtmomcccgjjjldaaDoor
