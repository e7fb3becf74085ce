import Derived.Test.YtlnmpbdnmlpkiaaDoorWrapL
import Derived.Test.YtlnmpbdnmlpkiaaDoorWrapS
namespace Go.Proofs.YtlnmpbdnmlpkiaaDoor
open Go.RowKit

/-- All places at which rows begin, and the end. -/
def wrS (cs : List (List Int × Int)) (cols : Int) : List Int := (stF cs cols cs.length).1 ++ [(cs.length : Int)]
def wrR (cs : List (List Int × Int)) (cols : Int) : Nat := if cols < 2 then 0 else (stF cs cols cs.length).1.length
def wrC (cs : List (List Int × Int)) (cols : Int) (i : Nat) : List (List Int × Int) := (cs.take (at0 (wrS cs cols) (i + 1)).toNat).drop (at0 (wrS cs cols) i).toNat
theorem wrS_step (cs : List (List Int × Int)) (cols : Int) (i : Nat) (h : i < (stF cs cols cs.length).1.length) : 0 ≤ at0 (wrS cs cols) i ∧ at0 (wrS cs cols) i ≤ at0 (wrS cs cols) (i + 1) ∧ at0 (wrS cs cols) (i + 1) ≤ (cs.length : Int) := by
  have hok := stF_ok cs cols cs.length
  unfold wrS
  rw [at0_app, if_neg (by omega), at0_app]
  have h1 := hok.le i h
  split
  · omega
  · have h2 := hok.mono i (by omega)
    have h3 := hok.le (i + 1) (by omega)
    omega
theorem ClsAt.sub {w : World} {b off cap : Nat} {cs : List (List Int × Int)} (h : ClsAt w (.slice (some ⟨b, off, none⟩) cs.length cap) cs) (s e : Nat) (hse : s ≤ e) (he : e ≤ cs.length) (v : Value) (c : Nat) (hv : v = .slice (some ⟨b, off + s * 2, none⟩) (e - s) c) (hc : e - s ≤ c) : ClsAt w v ((cs.take e).drop s) := by
  obtain ⟨rs, ao, ca, e1, hca, hr, hx⟩ := h
  have hlen : ((cs.take e).drop s).length = e - s := by simp; omega
  have hR : ∀ j, j < e - s → cR ((cs.take e).drop s) j = cR cs (s + j) ∧ cW ((cs.take e).drop s) j = cW cs (s + j) := by
    intro j hj
    unfold cR cW
    rw [List.getElem?_drop, List.getElem?_take, if_pos (by omega)]
    exact ⟨rfl, rfl⟩
  refine ⟨rs.drop s, _, c, by rw [hlen]; exact hv, by omega, ?_, ?_⟩
  · intro j hj
    rw [hlen] at hj
    rw [(hR j hj).1]
    have : rV (rs.drop s) j = rV rs (s + j) := by
      unfold rV
      rw [List.getElem?_drop]
    rw [this]
    exact hr (s + j) (by omega)
  · intro hp
    rw [hlen] at hp
    obtain ⟨b', off', e2, hcell⟩ := hx (by omega)
    injection e1 with e3
    rw [e2] at e3
    injection e3 with e4
    injection e4 with e5 e6
    subst e5 e6
    refine ⟨b, off + s * 2, rfl, fun j hj => ?_⟩
    rw [hlen] at hj
    have h5 := hcell (s + j) (by omega)
    have : rV (rs.drop s) j = rV rs (s + j) := by
      unfold rV
      rw [List.getElem?_drop]
    rw [this, (hR j hj).2, show off + s * 2 + j * 2 = off + (s + j) * 2 by omega]
    exact h5
theorem infoRw : (Tryd.prog.info? 122).map (fun i => (i.zero, i.size, i.bytes)) = some (some (.slice none 0 0), 1, 24) := by kernel_rfl
theorem css_nil {W : World} {base : Nat} {v : Value} {rv : Nat → Value} {rs : Nat → List Value} {cs : Nat → List (List Int × Int)} (h : W.ownsRow base 122 1 v 0 []) : OwnCss W base v rv rs 0 cs :=
  ⟨⟨[], h, fun j hj => by omega⟩, fun i hi => by omega, fun i j g _ hj => by omega⟩
end Go.Proofs.YtlnmpbdnmlpkiaaDoor
