import Derived.Test.YtinfdhbnljnifaaGreatDoorU8s
import Derived.Test.YtinfdhbnljnifaaGreatDoorAppRune
namespace Go.Proofs.YtinfdhbnljnifaaGreatDoor
open Go.RowKit
theorem run_s2b {P : Program} (w : World) (src dst e : TypeId) (hs : P.underlying src = some .string) (hd : P.underlying dst = some (.slice e)) (he : P.underlying e = some (.int .u8)) (zs : List Int) (hz : Bytes zs) :
    ∃ cap W', (convert src dst (.string (toBA zs))).run P w = .ok (.slice (some ⟨w.heap.size, 0, none⟩) zs.length cap) W' ∧ Ext w W' ∧ W'.heap.size = w.heap.size + 1 ∧
      ∀ j u, (zs.map (Value.int .u8))[j]? = some u → W'.cell? ((⟨w.heap.size, 0, none⟩ : Addr).add j) = some u := by
  have hr := run_bytes_of_string (P := P) w src dst e (toBA zs) hs hd he
  rw [toBA_size] at hr
  refine ⟨_, _, hr, ((Ext.refl w).drew.alloc _), by rw [World.size_alloc]; rfl, fun j u hj => ?_⟩
  have hjl : j < zs.length := by
    have := (List.getElem?_eq_some_iff.1 hj).1
    simpa using this
  rw [Addr.add_lit, Nat.zero_add]
  have hc := World.cell?_alloc_mark w.drew (bytesRow (toBA zs) (grownCap w zs.length 0 e)) e ((bytesRow (toBA zs) (grownCap w zs.length 0 e)).size, (bytesRow (toBA zs) (grownCap w zs.length 0 e)).size + 1) j
  have hsz : j < (toBA zs).data.size := by
    have : (toBA zs).data.size = zs.length := toBA_size zs
    omega
  rw [bytesRow_at _ _ _ hsz] at hc
  refine Eq.trans hc ?_
  have hb := hz.at0 j
  have hg := toBA_get zs hz j
  have e1 : (toBA zs).get! j = (toBA zs).data[j] := by
    show (toBA zs).data[j]! = _
    rw [getElem!_pos]
  rw [e1] at hg
  rw [hg]
  have e2 : zs[j]? = some (at0 zs j) := at0_lt hjl
  simp [e2] at hj
  rw [← hj]
  congr 2
  omega
end Go.Proofs.YtinfdhbnljnifaaGreatDoor
