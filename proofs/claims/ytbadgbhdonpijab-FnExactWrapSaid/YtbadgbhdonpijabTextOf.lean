import Derived.Test.YtbadgbhdonpijabSpecRune
import Derived.Test.YtbadgbhdonpijabAppRune
import Derived.Test.YtbadgbhdonpijabCls
import Derived.Test.YtbadgbhdonpijabSzCls
namespace Go.Proofs.Ytbadgbhdonpijab
open Go.RowKit

def txR (xs : List Int) : Nat → List Int
  | 0 => []
  | k + 1 => txR xs k ++ encR (at0 xs k)
def txT (cs : List (List Int × Int)) : Nat → List Int
  | 0 => []
  | i + 1 => txT cs i ++ txR (cR cs i) (cR cs i).length
theorem txR_len (xs : List Int) : ∀ k, (txR xs k).length ≤ 4 * k
  | 0 => by simp [txR]
  | k + 1 => by have := txR_len xs k; have := encR_len (at0 xs k); simp [txR]; omega
theorem txT_len (cs : List (List Int × Int)) : ∀ i, (txT cs i).length ≤ 4 * sumR cs i
  | 0 => by simp [txT]
  | i + 1 => by have := txT_len cs i; have := txR_len (cR cs i) (cR cs i).length; simp [txT, sumR]; omega
theorem sumR_mono (cs : List (List Int × Int)) (i : Nat) : ∀ n, i ≤ n → sumR cs i ≤ sumR cs n := by
  intro n
  induction n with
  | zero => intro h; have : i = 0 := by omega
            subst this; exact Nat.le_refl _
  | succ n ih =>
    intro h
    by_cases e : i = n + 1
    · subst e; exact Nat.le_refl _
    · have := ih (by omega); rw [sumR]; omega
theorem encR_enc (r : Int) : encR r = encL (if Utf8.valid r = true then r else 65533) := by
  unfold encR
  split
  · rfl
  · decide
/-- The text of clusters, as bytes. -/
def textC (cs : List (List Int × Int)) : List Int := txT cs cs.length

theorem run_s2b {P : Program} (w : World) (src dst e : TypeId) (hs : P.underlying src = some .string) (hd : P.underlying dst = some (.slice e)) (he : P.underlying e = some (.int .u8)) (zs : List Int) (hz : Bytes zs) :
    ∃ cap W', (convert src dst (.string (toBA zs))).run P w = .ok (.slice (some ⟨w.heap.size, 0, none⟩) zs.length cap) W' ∧ Ext w W' ∧ W'.heap.size = w.heap.size + 1 ∧
      ∀ j u, (zs.map (Value.int .u8))[j]? = some u → W'.cell? ((⟨w.heap.size, 0, none⟩ : Addr).add j) = some u := by
  have hr := run_bytes_of_string (P := P) w src dst e (toBA zs) hs hd he
  rw [toBA_size] at hr
  refine ⟨_, _, hr, ((Ext.refl w).drew.alloc _), by rw [World.size_alloc]; rfl, fun j u hj => ?_⟩
  have hjl : j < zs.length := by
    have := (List.getElem?_eq_some_iff.1 hj).1
    simpa using this
  rw [Addr.add_lit, Nat.zero_add]
  have hc := World.cell?_alloc_mark w.drew (bytesRow (toBA zs) (grownCap w zs.length 0 e)) e ((bytesRow (toBA zs) (grownCap w zs.length 0 e)).size, (bytesRow (toBA zs) (grownCap w zs.length 0 e)).size + 1) j
  have hsz : j < (toBA zs).data.size := by
    have : (toBA zs).data.size = zs.length := toBA_size zs
    omega
  rw [bytesRow_at _ _ _ hsz] at hc
  refine Eq.trans hc ?_
  have hb := hz.at0 j
  have hg := toBA_get zs hz j
  have e1 : (toBA zs).get! j = (toBA zs).data[j] := by
    show (toBA zs).data[j]! = _
    rw [getElem!_pos]
  rw [e1] at hg
  rw [hg]
  have e2 : zs[j]? = some (at0 zs j) := at0_lt hjl
  simp [e2] at hj
  rw [← hj]
  congr 2
  omega

end Go.Proofs.Ytbadgbhdonpijab
