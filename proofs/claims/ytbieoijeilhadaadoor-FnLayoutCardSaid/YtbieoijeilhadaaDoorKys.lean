import Derived.Test.YtbieoijeilhadaaDoorCells
import Derived.Test.YtbieoijeilhadaaDoorBlocks
import Derived.Test.YtbieoijeilhadaaDoorProg
import Derived.Deep.SlicePairs
import Derived.Deep.Strs
import Derived.Lib.ItoaNum
import Derived.Lib.Join
import Derived.Laws.Rows
import Derived.Laws.Tables
import Derived.OwnWalk
import Derived.Deep.RegionHeld3
import Derived.Test.YtbieoijeilhadaaDoorAppRune
namespace Go.Proofs.YtbieoijeilhadaaDoor
open Go.RowKit
def baL (s : ByteArray) : List Int := s.data.toList.map fun b => ((b.toNat : Nat) : Int)
theorem toBA_baL (s : ByteArray) : toBA (baL s) = s := by
  apply WideShapes.bytes_inj
  rw [toBA_list, baL, List.map_map]
  conv => rhs; rw [← List.map_id s.data.toList]
  apply List.map_congr_left
  intro b _
  simp
theorem baL_len (s : ByteArray) : (baL s).length = s.size := by simp [baL]
theorem baL_bytes (s : ByteArray) : Bytes (baL s) := by
  intro n hn
  obtain ⟨b, _, rfl⟩ := List.mem_map.1 hn
  have := b.toNat_lt
  omega
theorem Bytes.app {xs ys : List Int} (hx : Bytes xs) (hy : Bytes ys) : Bytes (xs ++ ys) := by
  intro n hn
  rcases List.mem_append.1 hn with h | h
  · exact hx n h
  · exact hy n h
theorem baL_toBA {xs : List Int} (h : Bytes xs) : baL (toBA xs) = xs := toBA_inj (baL_bytes _) h (toBA_baL _)
end Go.Proofs.YtbieoijeilhadaaDoor

namespace Go.Proofs.YtbieoijeilhadaaDoor
open Go.RowKit
theorem Fr.tr {S : Nat → Prop} {a b c : World} (h : Fr S a b) (k : Fr S b c) : Fr S a c :=
  ⟨k.os.trans h.os, k.tape.trans h.tape, k.output.trans h.output, Nat.le_trans h.size k.size, fun i hi hn => (k.block i (Nat.lt_of_lt_of_le hi h.size) hn).trans (h.block i hi hn)⟩
end Go.Proofs.YtbieoijeilhadaaDoor

namespace Go.Proofs.YtbieoijeilhadaaDoor
open Go.RowKit
theorem Fr.kept {S : Nat → Prop} {w w' : World} {p : Nat} {o : Obj} (h : Fr S w w') (hp : w.heap[p]? = some o) (hS : ¬ S p) : w'.heap[p]? = some o := (h.block p (Array.getElem?_eq_some_iff.1 hp).1 hS).trans hp
theorem lt_of_block {w : World} {p : Nat} {o : Obj} (h : w.heap[p]? = some o) : p < w.heap.size := (Array.getElem?_eq_some_iff.1 h).1
end Go.Proofs.YtbieoijeilhadaaDoor

namespace Go.Proofs.YtbieoijeilhadaaDoor
open Go.RowKit
section
variable {P : Program} {w : World}
theorem run_loadAt_blk (t : TypeId) (b : Nat) (T : TypeId) (cs : Array Value) (z : Nat × Nat) (d : TypeDesc) (hg : w.heap[b]? = some (.cells cs T z)) (hu : P.underlying t = some d) (hd : (match d with | .struct _ | .array _ _ => true | _ => false) = true) (hi : (P.info? t).map (·.size) = some cs.size) :
    (Instr.loadAt t (.pointer (some ⟨b, 0, none⟩))).run P w = .ok (.agg cs) w := by
  simp only [Instr.loadAt, Instr.sureAddr, Sem.run_bind, Sem.run_pure, Result.andThen]
  exact run_loadVar_row w b T t cs z d hg hu hd hi
theorem run_storeAt_blk (t : TypeId) (b : Nat) (T : TypeId) (old cs : Array Value) (hg : w.heap[b]? = some (.cells old T (0, 0))) (hi : (P.info? t).map (·.size) = some cs.size) (ho : old.size = cs.size) (h1 : cs.all (·.oneCell') = true) :
    (Instr.storeAt t (.pointer (some ⟨b, 0, none⟩)) (.agg cs)).run P w = .ok () (w.setRow b cs) := by
  simp only [Instr.storeAt, Instr.sureAddr, Sem.run_bind, Sem.run_pure, Result.andThen]
  exact run_storeVar_row w b T t old cs hg hi ho h1
theorem wp_load_blk {o : Oper} {a : Act} {K : Act → World → Prop} {Q : Exit → Act → World → Prop} (t : TypeId) (s : Operand) (ho : o.op = .load t s) (b : Nat) (hs : a.eval s = .pointer (some ⟨b, 0, none⟩)) (T : TypeId) (cs : Array Value) (z : Nat × Nat) (d : TypeDesc)
    (hg : w.heap[b]? = some (.cells cs T z)) (hu : P.underlying t = some d) (hd : (match d with | .struct _ | .array _ _ => true | _ => false) = true) (hi : (P.info? t).map (·.size) = some cs.size) (h : K (a.put o.dst (.agg cs)) w) : o.wp P a w K Q := by
  have hr := run_loadAt_blk (P := P) (w := w) t b T cs z d hg hu hd hi
  unfold Oper.wp
  simp [execOp, ho, hs, hr, Result.andThen]
  exact h
theorem wpList_load_blk {ops : Array Oper} {rest : List Oper} {o : Oper} {a : Act} {Q : Exit → Act → World → Prop} (hgd : o.guard = none) (t : TypeId) (s : Operand) (ho : o.op = .load t s) (b : Nat) (hs : a.eval s = .pointer (some ⟨b, 0, none⟩)) (T : TypeId) (cs : Array Value) (z : Nat × Nat) (d : TypeDesc)
    (hg : w.heap[b]? = some (.cells cs T z)) (hu : P.underlying t = some d) (hd : (match d with | .struct _ | .array _ _ => true | _ => false) = true) (hi : (P.info? t).map (·.size) = some cs.size) (h : wpList P ops Q rest (a.put o.dst (.agg cs)) w) : wpList P ops Q (o :: rest) a w :=
  wpList_plain hgd fun _ hK => wp_load_blk t s ho b hs T cs z d hg hu hd hi (hK _ _ h)
theorem step_load_blk {ops : Array Oper} {o : Oper} {a : Act} {K : Act → World → Prop} {Q : Exit → Act → World → Prop} {E : Prop} (hgd : o.guard = none) (t : TypeId) (s : Operand) (ho : o.op = .load t s) (b : Nat) (hs : a.eval s = .pointer (some ⟨b, 0, none⟩)) (T : TypeId) (cs : Array Value) (z : Nat × Nat) (d : TypeDesc)
    (hg : w.heap[b]? = some (.cells cs T z)) (hu : P.underlying t = some d) (hd : (match d with | .struct _ | .array _ _ => true | _ => false) = true) (hi : (P.info? t).map (·.size) = some cs.size) (h : K (a.put o.dst (.agg cs)) w) :
    if Region.wanted o (yielded ops a.tmps) = true then Oper.wp P o a w K Q else E := by
  rw [if_pos (by simp [Region.wanted, hgd])]
  exact wp_load_blk t s ho b hs T cs z d hg hu hd hi h
theorem yields_load_blk {a : Act} {o : Oper} (t : TypeId) (s : Operand) (ho : o.op = .load t s) (b : Nat) (hs : a.eval s = .pointer (some ⟨b, 0, none⟩)) (T : TypeId) (cs : Array Value) (z : Nat × Nat) (d : TypeDesc)
    (hg : w.heap[b]? = some (.cells cs T z)) (hu : P.underlying t = some d) (hd : (match d with | .struct _ | .array _ _ => true | _ => false) = true) (hi : (P.info? t).map (·.size) = some cs.size) : (execOp a.eval o).run P w = .ok (Next.value (.agg cs)) w := by
  have hr := run_loadAt_blk (P := P) (w := w) t b T cs z d hg hu hd hi
  simp [execOp, ho, hs, hr, Result.andThen]
theorem setRow_fr (b : Nat) (cs : Array Value) : Fr (fun q => q = b) w (w.setRow b cs) := by
  refine ⟨rfl, rfl, rfl, by simp [World.setRow], fun i hi hn => ?_⟩
  simp only [World.setRow, Array.getElem?_modify]
  rw [if_neg (fun e => hn e.symm)]
theorem setRow_blk {b : Nat} {old cs : Array Value} {T : TypeId} {z : Nat × Nat} (hg : w.heap[b]? = some (.cells old T z)) : (w.setRow b cs).heap[b]? = some (.cells cs T z) := by
  simp [World.setRow, Array.getElem?_modify, hg]
theorem wpList_store_blk {ops : Array Oper} {rest : List Oper} {o : Oper} {a : Act} {Q : Exit → Act → World → Prop} (hgd : o.guard = none) (t : TypeId) (s x : Operand) (ho : o.op = .store t s x) (hdst : o.dst = none) (b : Nat) (hs : a.eval s = .pointer (some ⟨b, 0, none⟩)) (T : TypeId) (old cs : Array Value) (hx : a.eval x = .agg cs)
    (hg : w.heap[b]? = some (.cells old T (0, 0))) (hi : (P.info? t).map (·.size) = some cs.size) (hso : old.size = cs.size) (h1 : cs.all (·.oneCell') = true)
    (h : ∀ w', w'.heap[b]? = some (.cells cs T (0, 0)) → Fr (fun q => q = b) w w' → wpList P ops Q rest a w') : wpList P ops Q (o :: rest) a w := by
  refine wpList_plain hgd fun _ hK => ?_
  have hr := run_storeAt_blk (P := P) (w := w) t b T old cs hg hi hso h1
  have hk := hK _ _ (h _ (setRow_blk hg) (setRow_fr b cs))
  unfold Oper.wp
  simp [execOp, ho, hs, hx, hr, Result.andThen]
  simp [Oper.upon]
  rw [hdst]
  exact hk
theorem wp_store_blk {o : Oper} {a : Act} {K : Act → World → Prop} {Q : Exit → Act → World → Prop} (t : TypeId) (s x : Operand) (ho : o.op = .store t s x) (hdst : o.dst = none) (b : Nat) (hs : a.eval s = .pointer (some ⟨b, 0, none⟩)) (T : TypeId) (old cs : Array Value) (hx : a.eval x = .agg cs)
    (hg : w.heap[b]? = some (.cells old T (0, 0))) (hi : (P.info? t).map (·.size) = some cs.size) (hso : old.size = cs.size) (h1 : cs.all (·.oneCell') = true)
    (h : ∀ w', w'.heap[b]? = some (.cells cs T (0, 0)) → Fr (fun q => q = b) w w' → K a w') : o.wp P a w K Q := by
  have hr := run_storeAt_blk (P := P) (w := w) t b T old cs hg hi hso h1
  have hk := h _ (setRow_blk hg) (setRow_fr b cs)
  unfold Oper.wp
  simp [execOp, ho, hs, hx, hr, Result.andThen]
  simp [Oper.upon]
  rw [hdst]
  exact hk
end
end Go.Proofs.YtbieoijeilhadaaDoor

namespace Go.Proofs.YtbieoijeilhadaaDoor
open Go.RowKit
abbrev noT : ByteArray := { data := #[] }
theorem infoSnap : (Tryd.prog.info? 140).map (fun i => (i.zero, i.size, i.bytes)) = some (some (.agg #[.string noT, .string noT]), 2, 32) := by kernel_rfl
end Go.Proofs.YtbieoijeilhadaaDoor

namespace Go.Proofs.YtbieoijeilhadaaDoor
open Go.RowKit
def sumR (cs : List (List Int × Int)) : Nat → Nat
  | 0 => 0
  | j + 1 => sumR cs j + (cR cs j).length
end Go.Proofs.YtbieoijeilhadaaDoor

namespace Go.Proofs.YtbieoijeilhadaaDoor
open Go.RowKit
def txR (xs : List Int) : Nat → List Int
  | 0 => []
  | k + 1 => txR xs k ++ encR (at0 xs k)
def txT (cs : List (List Int × Int)) : Nat → List Int
  | 0 => []
  | i + 1 => txT cs i ++ txR (cR cs i) (cR cs i).length
theorem txR_len (xs : List Int) : ∀ k, (txR xs k).length ≤ 4 * k
  | 0 => by simp [txR]
  | k + 1 => by have := txR_len xs k; have := encR_len (at0 xs k); simp [txR]; omega
theorem txT_len (cs : List (List Int × Int)) : ∀ i, (txT cs i).length ≤ 4 * sumR cs i
  | 0 => by simp [txT]
  | i + 1 => by have := txT_len cs i; have := txR_len (cR cs i) (cR cs i).length; simp [txT, sumR]; omega
theorem sumR_mono (cs : List (List Int × Int)) (i : Nat) : ∀ n, i ≤ n → sumR cs i ≤ sumR cs n := by
  intro n
  induction n with
  | zero => intro h; have : i = 0 := by omega
            subst this; exact Nat.le_refl _
  | succ n ih =>
    intro h
    by_cases e : i = n + 1
    · subst e; exact Nat.le_refl _
    · have := ih (by omega); rw [sumR]; omega
theorem encR_enc (r : Int) : encR r = encL (if Utf8.valid r = true then r else 65533) := by
  unfold encR
  split
  · rfl
  · decide
def textC (cs : List (List Int × Int)) : List Int := txT cs cs.length
theorem run_s2b {P : Program} (w : World) (src dst e : TypeId) (hs : P.underlying src = some .string) (hd : P.underlying dst = some (.slice e)) (he : P.underlying e = some (.int .u8)) (zs : List Int) (hz : Bytes zs) :
    ∃ cap W', (convert src dst (.string (toBA zs))).run P w = .ok (.slice (some ⟨w.heap.size, 0, none⟩) zs.length cap) W' ∧ Ext w W' ∧ W'.heap.size = w.heap.size + 1 ∧
      ∀ j u, (zs.map (Value.int .u8))[j]? = some u → W'.cell? ((⟨w.heap.size, 0, none⟩ : Addr).add j) = some u := by
  have hr := run_bytes_of_string (P := P) w src dst e (toBA zs) hs hd he
  rw [toBA_size] at hr
  refine ⟨_, _, hr, ((Ext.refl w).drew.alloc _), by rw [World.size_alloc]; rfl, fun j u hj => ?_⟩
  have hjl : j < zs.length := by
    have := (List.getElem?_eq_some_iff.1 hj).1
    simpa using this
  rw [Addr.add_lit, Nat.zero_add]
  have hc := World.cell?_alloc_mark w.drew (bytesRow (toBA zs) (grownCap w zs.length 0 e)) e ((bytesRow (toBA zs) (grownCap w zs.length 0 e)).size, (bytesRow (toBA zs) (grownCap w zs.length 0 e)).size + 1) j
  have hsz : j < (toBA zs).data.size := by
    have : (toBA zs).data.size = zs.length := toBA_size zs
    omega
  rw [bytesRow_at _ _ _ hsz] at hc
  refine Eq.trans hc ?_
  have hb := hz.at0 j
  have hg := toBA_get zs hz j
  have e1 : (toBA zs).get! j = (toBA zs).data[j] := by
    show (toBA zs).data[j]! = _
    rw [getElem!_pos]
  rw [e1] at hg
  rw [hg]
  have e2 : zs[j]? = some (at0 zs j) := at0_lt hjl
  simp [e2] at hj
  rw [← hj]
  congr 2
  omega
set_option maxRecDepth 10000 in
set_option maxHeartbeats 2000000 in
theorem specTextOf_any (v : Value) (cs : List (List Int × Int)) (w : World) (hv : ClsAt w v cs) (hl : cs.length + sumR cs cs.length ≤ 16777216) (hI : ∀ j, j < cs.length → I32s (cR cs j)) :
    Calls Tryd.prog 56 #[v] w fun e w' => e = .returned (.string (toBA (textC cs))) ∧ Ext w w' := by
  obtain ⟨i0, hi, hz0, hz1, hz2⟩ := info_parts infoByteA
  obtain ⟨ra, ao, ca, rfl, hca, hra, hxa⟩ := hv
  have HF : Hid (textC cs = txT cs cs.length) := rfl
  obtain ⟨n, hnn⟩ : ∃ n, n = cs.length := ⟨_, rfl⟩
  rw [← hnn] at hca hra hxa hl hI HF ⊢
  have HA := hide hra
  have HI := hide hI
  have HXA := hide hxa
  clear hra hI hxa hnn
  go_enter Tryd.func56, Tryd.ntmps56
  go_wp2
  go_loopw [3, 4] (fun o i wr => ∃ (k : Nat), k ≤ n ∧ i = .int .i64 k ∧ wr.ownsRow w.heap.size 5 1 o (txT cs k).length ((txT cs k).map (Value.int .u8)) ∧ Ext w wr) (fun _ i _ => n - (intOf i).toNat)
  case atStart => exact ⟨0, Nat.zero_le _, rfl, by simpa [txT] using World.ownsRow_made w #[] 0 (Nat.le_refl _) (by unfold maxLen; omega) (by simp), (Ext.refl _).alloc _⟩
  case round =>
    obtain ⟨k, hk, rfl, hown, hext⟩ := hrel
    by_cases hlt : k < n
    · obtain ⟨b, off, hao, hc⟩ := (unhide HXA) (by omega)
      subst hao
      have HC := hide hc
      have hk2 := sumR_mono cs (k + 1) n (by omega)
      have hk3 := txT_len cs k
      have hk4 : Hid (sumR cs (k + 1) = sumR cs k + (cR cs k).length) := rfl
      rw [hk4.out] at hk2
      obtain ⟨a2, c2, hrv, hc2, hrx⟩ := (unhide HA) k hlt
      have h1 := (hc k hlt).1
      rw [hrv] at h1
      have hII := hide ((unhide HI) k hlt)
      obtain ⟨m, hm⟩ : ∃ m, m = (cR cs k).length := ⟨_, rfl⟩
      rw [← hm] at h1 hk2 hc2 hrx
      have HM := hide hm
      have HRX := hide hrx
      clear hc hrx hrv hm
      have bk : (k : Int) < (n : Int) := by omega
      go_wp2
      go_loopw [3, 5] (fun o i wr2 => ∃ (q : Nat), q ≤ m ∧ i = .int .i64 q ∧ wr2.ownsRow w.heap.size 5 1 o (txT cs k ++ txR (cR cs k) q).length ((txT cs k ++ txR (cR cs k) q).map (Value.int .u8)) ∧ Ext w wr2) (fun _ i _ => m - (intOf i).toNat)
      case atStart => exact ⟨0, Nat.zero_le _, rfl, by simpa [txR] using hown, hext⟩
      case round =>
        clear hown hext
        obtain ⟨q, hq, rfl, hown2, hext2⟩ := hrel
        have g1 := hext2.cell h1
        by_cases hlq : q < m
        · obtain ⟨b3, o3, ha3, hc3⟩ := (unhide HRX) (by omega)
          subst ha3
          have g3 := hext2.cell (hc3 q hlq)
          clear hc3
          have bq : (q : Int) < (m : Int) := by omega
          obtain ⟨x, hx⟩ : ∃ x, x = at0 (cR cs k) q := ⟨_, rfl⟩
          have hxb := (unhide hII).at0 q
          rw [← hx] at hxb g3
          have hst : Hid (txT cs k ++ txR (cR cs k) (q + 1) = (txT cs k ++ txR (cR cs k) q) ++ encR x) := by
            show _ = _
            rw [hx, List.append_assoc]; rfl
          have hql := txR_len (cR cs k) q
          have hql2 : (txT cs k ++ txR (cR cs k) q).length ≤ 67108864 := by simp; omega
          have henc := encR_enc x
          clear hx
          cases hval : Utf8.valid x
          · rw [hval] at henc
            have HE : Hid (encR x = encL 65533) := henc
            clear henc
            go_wp2_with fail
            refine (l1Valid_any _ _).mono ?_
            rintro e w3 ⟨rfl, rfl⟩
            go_wp2_with fail
            refine (l1Utf8_any _ _ (by omega) (by omega)).mono ?_
            rintro e w4 ⟨rfl, he4⟩
            rw [← unhide HE]
            obtain ⟨capb, w5, hrun, he5, hsz5, hcells⟩ := run_s2b (P := Tryd.prog) w4 _ _ _ Tryd.underlying9 Tryd.underlying22 Tryd.underlying5 (encR x) (encR_bytes x)
            have E5 := (hext2.trans he4).trans he5
            have hown5 := he5.owns (he4.owns hown2)
            have z5 := E5.size
            have el := encR_len x
            have HCE := hide hcells
            clear hcells
            go_wp2_with (at_builtin; go_must (refine wpList_append_own _ rfl _ _ 22 rfl w.heap.size 5 i0 (.int .u8 0) 1 1 Tryd.underlying22 hi hz0 hz1 hz2 rfl (by decide) _ _ _ rfl hown5 ⟨w4.heap.size, 0, none⟩ (encR x).length capb ((encR x).map (Value.int .u8)) rfl (by simp) (unhide HCE) (ints_oneCell _ _) ?_ ?_ ?_ ?_))
            · unfold maxLen; omega
            · omega
            · omega
            · intro v' w6 hown' hgrow _
              have hE : Ext w w6 := E5.grown hgrow (fun k hk => (hown5.lt k hk).1)
              have hO : w6.ownsRow w.heap.size 5 1 v' (txT cs k ++ txR (cR cs k) (q + 1)).length ((txT cs k ++ txR (cR cs k) (q + 1)).map (Value.int .u8)) := by
                rw [hst.out]; simpa [Nat.add_assoc] using hown'
              clear hown' hgrow hown5 hown2 hrun
              go_wp2
              go_roundw
              case rel => exact ⟨q + 1, by omega, by go_num, hO, hE⟩
              case measure => simp [intOf]; omega
          · rw [hval] at henc
            have HE : Hid (encR x = encL x) := henc
            have hvb := valid_bd hval
            clear henc
            go_wp2_with fail
            refine (l1Valid_any _ _).mono ?_
            rintro e w3 ⟨rfl, rfl⟩
            go_wp2_with fail
            refine (l1Utf8_any _ _ (by omega) (by omega)).mono ?_
            rintro e w4 ⟨rfl, he4⟩
            rw [← unhide HE]
            obtain ⟨capb, w5, hrun, he5, hsz5, hcells⟩ := run_s2b (P := Tryd.prog) w4 _ _ _ Tryd.underlying9 Tryd.underlying22 Tryd.underlying5 (encR x) (encR_bytes x)
            have E5 := (hext2.trans he4).trans he5
            have hown5 := he5.owns (he4.owns hown2)
            have z5 := E5.size
            have el := encR_len x
            have HCE := hide hcells
            clear hcells
            go_wp2_with (at_builtin; go_must (refine wpList_append_own _ rfl _ _ 22 rfl w.heap.size 5 i0 (.int .u8 0) 1 1 Tryd.underlying22 hi hz0 hz1 hz2 rfl (by decide) _ _ _ rfl hown5 ⟨w4.heap.size, 0, none⟩ (encR x).length capb ((encR x).map (Value.int .u8)) rfl (by simp) (unhide HCE) (ints_oneCell _ _) ?_ ?_ ?_ ?_))
            · unfold maxLen; omega
            · omega
            · omega
            · intro v' w6 hown' hgrow _
              have hE : Ext w w6 := E5.grown hgrow (fun k hk => (hown5.lt k hk).1)
              have hO : w6.ownsRow w.heap.size 5 1 v' (txT cs k ++ txR (cR cs k) (q + 1)).length ((txT cs k ++ txR (cR cs k) (q + 1)).map (Value.int .u8)) := by
                rw [hst.out]; simpa [Nat.add_assoc] using hown'
              clear hown' hgrow hown5 hown2 hrun
              go_wp2
              go_roundw
              case rel => exact ⟨q + 1, by omega, by go_num, hO, hE⟩
              case measure => simp [intOf]; omega
        · obtain rfl : q = m := by omega
          have hst : Hid (txT cs (k + 1) = txT cs k ++ txR (cR cs k) q) := by rw [unhide HM]; rfl
          rw [← hst.out] at hown2
          go_wp2
          go_roundw
          case rel => exact ⟨k + 1, by omega, by go_num, hown2, hext2⟩
          case measure => simp [intOf]; omega
    · obtain rfl : k = n := by omega
      have hcv := run_b2s (P := Tryd.prog) wr _ _ _ Tryd.underlying22 Tryd.underlying5 Tryd.underlying9 _ _ (ints_of_owns hown)
      rw [← HF.out] at hcv
      go_wp2
      go_ret
      exact ⟨rfl, hext⟩
set_option maxRecDepth 10000 in
set_option maxHeartbeats 2000000 in
theorem implTextOf_any (v : Value) (cs : List (List Int × Int)) (w : World) (hv : ClsAt w v cs) (hl : cs.length + sumR cs cs.length ≤ 16777216) (hI : ∀ j, j < cs.length → I32s (cR cs j)) :
    Calls Tryd.prog 91 #[v] w fun e w' => e = .returned (.string (toBA (textC cs))) ∧ Ext w w' := by
  obtain ⟨ra, ao, ca, rfl, hca, hra, hxa⟩ := hv
  have HF : Hid (textC cs = txT cs cs.length) := rfl
  obtain ⟨n, hnn⟩ : ∃ n, n = cs.length := ⟨_, rfl⟩
  rw [← hnn] at hca hra hxa hl hI HF ⊢
  have HA := hide hra
  have HI := hide hI
  have HXA := hide hxa
  clear hra hI hxa hnn
  go_enter Tryd.func91, Tryd.ntmps91
  go_wp2
  go_loopw [3, 10] (fun o i wr => ∃ (k : Nat), k ≤ n ∧ i = .int .i64 k ∧ wr.ownsRow w.heap.size 5 1 o (txT cs k).length ((txT cs k).map (Value.int .u8)) ∧ Ext w wr) (fun _ i _ => n - (intOf i).toNat)
  case atStart => exact ⟨0, Nat.zero_le _, rfl, by simpa [txT] using World.ownsRow_nil w w.heap.size 5 1, Ext.refl _⟩
  case round =>
    obtain ⟨k, hk, rfl, hown, hext⟩ := hrel
    by_cases hlt : k < n
    · obtain ⟨b, off, hao, hc⟩ := (unhide HXA) (by omega)
      subst hao
      have hk2 := sumR_mono cs (k + 1) n (by omega)
      have hk3 := txT_len cs k
      have hk4 : Hid (sumR cs (k + 1) = sumR cs k + (cR cs k).length) := rfl
      rw [hk4.out] at hk2
      obtain ⟨a2, c2, hrv, hc2, hrx⟩ := (unhide HA) k hlt
      have h1 := hext.cell (hc k hlt).1
      have h2 := hext.cell (hc k hlt).2
      rw [hrv] at h1
      have hII := hide ((unhide HI) k hlt)
      obtain ⟨m, hm⟩ : ∃ m, m = (cR cs k).length := ⟨_, rfl⟩
      rw [← hm] at h1 hk2 hc2 hrx
      have HM := hide hm
      have HRX := hide hrx
      clear hc hrx hrv hm
      have bk : (k : Int) < (n : Int) := by omega
      have hsz := hext.size
      go_wp2
      go_loopw [3, 17] (fun o i wr2 => ∃ (q : Nat), q ≤ m ∧ i = .int .i64 q ∧ wr2.ownsRow w.heap.size 5 1 o (txT cs k ++ txR (cR cs k) q).length ((txT cs k ++ txR (cR cs k) q).map (Value.int .u8)) ∧ Ext w wr2) (fun _ i _ => m - (intOf i).toNat)
      case atStart =>
        refine ⟨0, Nat.zero_le _, rfl, ?_, ?_⟩
        · rw [show txR (cR cs k) 0 = [] from rfl, List.append_nil]
          exact ((Ext.refl _).alloc _).owns hown
        · exact hext.alloc _
      case round =>
        clear hown hext h1 h2
        obtain ⟨q, hq, rfl, hown2, hext2⟩ := hrel
        by_cases hlq : q < m
        · obtain ⟨b3, o3, ha3, hc3⟩ := (unhide HRX) (by omega)
          subst ha3
          have g3 := hext2.cell (hc3 q hlq)
          clear hc3
          have bq : (q : Int) < (m : Int) := by omega
          obtain ⟨x, hx⟩ : ∃ x, x = at0 (cR cs k) q := ⟨_, rfl⟩
          have hxb := (unhide hII).at0 q
          rw [← hx] at hxb g3
          have hst : Hid (txT cs k ++ txR (cR cs k) (q + 1) = (txT cs k ++ txR (cR cs k) q) ++ encR x) := by
            show _ = _
            rw [hx, List.append_assoc]; rfl
          have hql := txR_len (cR cs k) q
          have hql2 : (txT cs k ++ txR (cR cs k) q).length ≤ 67108864 := by simp; omega
          have z2 := hext2.size
          clear hx
          go_wp2_with fail
          refine (AppendRune_any w.heap.size _ _ _ x _ z2 (by omega) hown2 hxb.1 hxb.2).mono ?_
          rintro e w4 ⟨v', rfl, hown', o, hgrow⟩
          have hE : Ext w w4 := (hext2.alloc o).grown hgrow (fun k hk => (hown2.lt k hk).1)
          have hO : w4.ownsRow w.heap.size 5 1 v' (txT cs k ++ txR (cR cs k) (q + 1)).length ((txT cs k ++ txR (cR cs k) (q + 1)).map (Value.int .u8)) := by
            rw [hst.out]; simpa [Nat.add_assoc] using hown'
          clear hown' hgrow hown2
          go_wp2
          go_roundw
          case rel => exact ⟨q + 1, by omega, by go_num, hO, hE⟩
          case measure => simp [intOf]; omega
        · obtain rfl : q = m := by omega
          have hst : Hid (txT cs (k + 1) = txT cs k ++ txR (cR cs k) q) := by rw [unhide HM]; rfl
          rw [← hst.out] at hown2
          go_wp2
          go_roundw
          case rel => exact ⟨k + 1, by omega, by go_num, hown2, hext2⟩
          case measure => simp [intOf]; omega
    · obtain rfl : k = n := by omega
      have hcv := run_b2s (P := Tryd.prog) wr _ _ _ Tryd.underlying22 Tryd.underlying5 Tryd.underlying9 _ _ (ints_of_owns hown)
      rw [← HF.out] at hcv
      go_wp2
      go_ret
      exact ⟨rfl, hext⟩
end Go.Proofs.YtbieoijeilhadaaDoor

namespace Go.Proofs.YtbieoijeilhadaaDoor
open Go.RowKit
theorem infoByte : (Tryd.prog.info? 5).map (fun i => (i.zero, i.size, i.bytes)) = some (some (.int .u8 0), 1, 1) := by kernel_rfl
theorem str_eq {a b : ByteArray} (h : a.toList = b.toList) : a = b := by
  rw [ByteArray.toList_eq, ByteArray.toList_eq] at h
  exact WideShapes.bytes_inj h
theorem ints_cut {w : World} {bs : List Int} {b off cap : Nat} (i n : Nat) (hc : ∀ j, j < bs.length → w.cell? ⟨b, off + j, none⟩ = some (.int .u8 (at0 bs j))) (h : i + n ≤ bs.length) (hn : n ≤ cap) :
    IntsAt w .u8 (.slice (some ⟨b, off + i, none⟩) n cap) ((bs.drop i).take n) := by
  have hl : ((bs.drop i).take n).length = n := by simp; omega
  refine ⟨some ⟨b, off + i, none⟩, cap, by rw [hl], by omega, fun _ => ⟨b, off + i, rfl, fun j hj => ?_⟩⟩
  rw [hl] at hj
  have := hc (i + j) (by omega)
  rw [← Nat.add_assoc] at this
  rw [this]
  simp [at0, hj]
theorem run_cut {P : Program} (t e : TypeId) (I : TypeInfo) (b off len cap i n : Nat) (ht : P.underlying t = some (.slice (P.elem t))) (he : P.elem t = e) (hi : P.info? e = some I) (hz : I.size = 1) (h : i + n ≤ cap) (h0 : 0 < n) (w : World) :
    (Instr.slice t (.slice (some ⟨b, off, none⟩) len cap) (some (.int .i64 (i : Int))) (some (.int .i64 ((i : Int) + (n : Int)))) none).run P w = .ok (.slice (some ⟨b, off + i, none⟩) n (cap - i)) w := by
  rw [run_slice_lh (P := P) w t _ _ _ ht .i64 .i64 _ _ (by omega) (by omega) (by omega)]
  have e1 : ((i : Int) + (n : Int)).toNat - i = n := by omega
  have e2 : ¬ cap = i := by omega
  simp [sizeOf, typeInfo, he, hi, hz, sliced, e1, e2, Addr.add_lit]
set_option maxHeartbeats 400000 in
theorem l1Rune_any (bs : List Int) (hb : Bytes bs) (v : Value) (i : Nat) (w : World) (hv : IntsAt w .u8 v bs) (hi : i < bs.length) (hl : bs.length ≤ 4398046511104) :
    Calls Tryd.prog 64 #[v, .int .i64 i] w fun e w' => e = .returned (.tuple #[.int .i64 (decL (bs.drop i)).1, .int .i64 (decL (bs.drop i)).2]) ∧ Ext w w' := by
  have hv0 := hv
  obtain ⟨ao, cap, rfl, hcap, hr⟩ := hv
  obtain ⟨b, off, rfl, hc⟩ := hr (by omega)
  clear hr
  have g0 := hc i (by omega)
  have hbi : (i : Int) < (bs.length : Int) := by omega
  have q0 : at0 (bs.drop i) 0 = at0 bs i := by rw [at0_drop]; rfl
  have hlen : (bs.drop i).length = bs.length - i := by simp
  obtain ⟨n, hn⟩ : ∃ n, n = need (at0 bs i) := ⟨_, rfl⟩
  have h4 : n ≤ 4 := by rw [hn]; unfold need; (repeat' split) <;> omega
  by_cases hA : n = 0 ∨ bs.length < i + n
  · have HF : Hid (decL (bs.drop i) = (65533, 1)) := rune_short _ (hb.drop i) (by rw [q0, ← hn, hlen]; omega) (by omega)
    have HN : Hid (n = need (at0 bs i)) := hn
    clear hn hc q0 hlen
    go_enter Tryd.func64, Tryd.ntmps64
    go_wp2_with fail
    refine (l1Need_any _ _).mono ?_
    rw [← HN.out]
    rintro e w1 ⟨rfl, rfl⟩
    rcases hA with hA | hA
    · subst hA
      go_wp2
      go_ret2
      rw [HF.out]
      exact ⟨rfl, Ext.refl _⟩
    · by_cases h0 : n = 0
      · subst h0; omega
      have hz : ((n : Int) == 0) = false := by simp; omega
      have hy : (bs.length : Int) < (i : Int) + (n : Int) := by omega
      go_wp2
      go_ret2
      rw [HF.out]
      exact ⟨rfl, Ext.refl _⟩
  · obtain ⟨R1, R2, R3⟩ := rune_long (bs.drop i) (hb.drop i) n (by rw [q0]; exact hn) (by omega) (by rw [hlen]; omega)
    have HN : Hid (n = need (at0 bs i)) := hn
    have hz : ((n : Int) == 0) = false := by simp; omega
    have hy : (i : Int) + (n : Int) ≤ (bs.length : Int) := by omega
    clear hn q0 hlen
    obtain ⟨V, hV⟩ : ∃ V, V = valL (bs.drop i) n := ⟨_, rfl⟩
    have HV : Hid (V = valL (bs.drop i) n) := hV
    rw [← hV] at R1 R2 R3
    clear hV
    cases hval : Utf8.valid V
    · have HF : Hid (decL (bs.drop i) = (65533, 1)) := R1 hval
      clear R1 R2 R3 hc
      go_enter Tryd.func64, Tryd.ntmps64
      go_wp2_with fail
      refine (l1Need_any _ _).mono ?_
      rw [← HN.out]
      rintro e w1 ⟨rfl, rfl⟩
      go_wp2_with fail
      refine (l1Value_any bs hb _ i n _ hv0 (by omega) (by omega) h4 hl).mono ?_
      rw [← HV.out]
      rintro e w2 ⟨rfl, he⟩
      go_wp2_with fail
      go_quiet ((go_at_call 84; exact Calls.quiet_of_same (l1Valid_any _ _)))
      go_wp2
      go_ret2
      rw [HF.out]
      exact ⟨rfl, he.drewN _⟩
    · have hbd := valid_bd hval
      have hcut := fun {W : World} (he : Ext w W) => run_b2s (P := Tryd.prog) W _ _ _ Tryd.underlying22 Tryd.underlying5 Tryd.underlying9 _ _ (ints_cut (cap := cap - i) i n (fun j hj => he.cell (hc j hj)) (by omega) (by omega))
      have HCUT : Hid (∀ {W : World}, Ext w W → (convert 22 9 (.slice (some ⟨b, off + i, none⟩) n (cap - i))).run Tryd.prog W = .ok (.string (toBA ((bs.drop i).take n))) W) := hcut
      clear hcut R1 hc
      obtain ⟨S, hS⟩ : ∃ S, S = toBA ((bs.drop i).take n) := ⟨_, rfl⟩
      have HS : Hid (S = toBA ((bs.drop i).take n)) := hS
      rw [← hS] at HCUT
      clear hS
      go_enter Tryd.func64, Tryd.ntmps64
      go_wp2_with fail
      refine (l1Need_any _ _).mono ?_
      rw [← HN.out]
      rintro e w1 ⟨rfl, rfl⟩
      go_wp2_with fail
      refine (l1Value_any bs hb _ i n _ hv0 (by omega) (by omega) h4 hl).mono ?_
      rw [← HV.out]
      rintro e w2 ⟨rfl, he⟩
      obtain ⟨I0, hI, hI0, hI1, hI2⟩ := info_parts infoByte
      have hcv := run_cut (P := Tryd.prog) 22 5 I0 b off bs.length cap i n (by kernel_rfl) (by kernel_rfl) hI hI1 (by omega) (by omega)
      clear hI hI0 hI1 hI2
      have hwr : IntKind.i64.wrap ((i : Int) + (n : Int)) = (i : Int) + (n : Int) := by rw [IntKind.wrap_i64]; omega
      go_wp2_with fail
      go_region_held3 (fun W => Ext w1 W ∧ (convert 22 9 (.slice (some ⟨b, off + i, none⟩) n (cap - i))).run Tryd.prog W = .ok (.string S) W) (first | exact ⟨he.drew, HCUT.out he.drew⟩ | exact ⟨he.trans' he' rfl rfl rfl rfl, HCUT.out (he.trans' he' rfl rfl rfl rfl)⟩) (first | (go_at_call 84; refine (l1Valid_any _ _).mono ?_; rintro e w' ⟨rfl, rfl⟩) | (go_at_call 85; refine (l1Utf8_any _ _ hbd.1 hbd.2).mono ?_; rintro e w' ⟨rfl, he'⟩))
      have hsame : toBA (encL V) = S ↔ encL V = (bs.drop i).take n := by
        rw [HS.out]
        exact ⟨toBA_inj (encL_bytes V hbd.1 (by omega)) (fun x hx => hb x (List.mem_of_mem_drop (List.mem_of_mem_take hx))), fun h => by rw [h]⟩
      have HSAME : Hid (toBA (encL V) = S ↔ encL V = (bs.drop i).take n) := hsame
      clear hsame
      have HR2 : Hid (¬ encL V = (bs.drop i).take n → decL (bs.drop i) = (65533, 1)) := R2 hval
      have HR3 : Hid (encL V = (bs.drop i).take n → decL (bs.drop i) = (V, n)) := R3 hval
      clear R2 R3
      go_wp2
      · have hne : ¬ toBA (encL V) = S := by
          have h0 : (!(toBA (encL V)).toList == S.toList) = true := by assumption
          intro e; rw [e] at h0; simp at h0
        go_ret2
        rw [HR2.out (fun h => hne (HSAME.out.2 h))]
        rename_i hx _
        exact ⟨rfl, hx.1⟩
      · have heq : toBA (encL V) = S := by
          have h0 : (!(toBA (encL V)).toList == S.toList) = false := by assumption
          exact str_eq (by simpa using h0)
        go_ret2
        rw [HR3.out (HSAME.out.1 heq)]
        rename_i hx _
        exact ⟨rfl, hx.1⟩
end Go.Proofs.YtbieoijeilhadaaDoor

namespace Go.Proofs.YtbieoijeilhadaaDoor
open Go.RowKit
structure Tk where
  n : Nat
  kind : Int
  r : Int
  p : Bool
def tkV (t : Tk) : Value := .agg #[.int .i64 (t.n : Int), .int .i64 t.kind, .int .i64 t.r, .bool t.p]
def tk0 : Tk := ⟨0, 0, 0, false⟩
def ctlB : List Int := [13, 10, 8, 127, 4, 2, 6, 1, 5, 16, 14, 11, 21, 23, 25, 20, 31, 18, 3]
def ctlK : List Int := [3, 3, 4, 4, 5, 6, 7, 8, 9, 10, 11, 12, 13, 14, 15, 16, 17, 20, 21]
def lookT : List Int → List Int → Int → Int → Int
  | b :: bs, k :: ks, c, d => if b = c then k else lookT bs ks c d
  | _, _, _, d => d
theorem lookT_no : ∀ (bs ks : List Int) (c d : Int), (∀ j, j < bs.length → at0 bs j ≠ c) → lookT bs ks c d = d
  | [], ks, c, d, _ => by cases ks <;> rfl
  | b :: bs, [], c, d, _ => rfl
  | b :: bs, k :: ks, c, d, h => by
    rw [lookT, if_neg (fun e => h 0 (by simp) (by simpa [at0] using e))]
    exact lookT_no bs ks c d (fun j hj => by have := h (j + 1) (by simpa using hj); simpa [at0] using this)
theorem lookT_yes : ∀ (bs ks : List Int) (c d : Int) (j : Nat), j < bs.length → bs.length = ks.length → (∀ m, m < j → at0 bs m ≠ c) → at0 bs j = c → lookT bs ks c d = at0 ks j
  | [], ks, c, d, j, hj, _, _, _ => by simp at hj
  | b :: bs, [], c, d, j, _, he, _, _ => by simp at he
  | b :: bs, k :: ks, c, d, 0, _, _, _, e => by
    rw [lookT, if_pos (by simpa [at0] using e)]
    simp [at0]
  | b :: bs, k :: ks, c, d, j + 1, hj, he, h, e => by
    rw [lookT, if_neg (fun e => h 0 (by omega) (by simpa [at0] using e)), lookT_yes bs ks c d j (by simpa using hj) (by simpa using he) (fun m hm => by have := h (m + 1) (by omega); simpa [at0] using this) (by simpa [at0] using e)]
    simp [at0]
def ctrlF (c : Int) : Int := lookT ctlB ctlK c (if c < 32 ∧ c ≠ 9 ∧ c ≠ 27 then 23 else 0)
def letB : List Int := [65, 66, 67, 68, 72, 70]
def letKs : List Int := [10, 11, 7, 6, 8, 9]
def letF (c : Int) : Int := lookT letB letKs c 23
def tilF (xs : List Int) : Int := if xs = [51] then 5 else if xs = [49] ∨ xs = [55] then 8 else if xs = [52] ∨ xs = [56] then 9 else if xs = [50, 48, 48] then -1 else 23
def numR : List Int → Nat
  | [] => 0
  | x :: xs => if 48 ≤ x ∧ x ≤ 63 then numR xs + 1 else 0
def brkF (s : List Int) : Tk :=
  if s.length ≤ 2 + numR (s.drop 2) then tk0
  else if at0 s (2 + numR (s.drop 2)) < 64 ∨ 126 < at0 s (2 + numR (s.drop 2)) then ⟨numR (s.drop 2) + 2, 23, 0, false⟩
  else if (if at0 s (2 + numR (s.drop 2)) = 126 then tilF ((s.drop 2).take (numR (s.drop 2))) else if numR (s.drop 2) = 0 then letF (at0 s (2 + numR (s.drop 2))) else 23) < 0 then ⟨numR (s.drop 2) + 3, 0, 0, true⟩
  else ⟨numR (s.drop 2) + 3, if at0 s (2 + numR (s.drop 2)) = 126 then tilF ((s.drop 2).take (numR (s.drop 2))) else if numR (s.drop 2) = 0 then letF (at0 s (2 + numR (s.drop 2))) else 23, 0, false⟩
def escF (s : List Int) : Tk :=
  if s.length ≤ 1 then tk0 else if at0 s 1 = 27 then ⟨1, 22, 0, false⟩ else if at0 s 1 = 91 then brkF s
  else if at0 s 1 = 79 then (if s.length ≤ 2 then tk0 else ⟨3, letF (at0 s 2), 0, false⟩)
  else if at0 s 1 = 98 then ⟨2, 18, 0, false⟩ else if at0 s 1 = 102 then ⟨2, 19, 0, false⟩ else ⟨2, 23, 0, false⟩
end Go.Proofs.YtbieoijeilhadaaDoor

namespace Go.Proofs.YtbieoijeilhadaaDoor
open Go.RowKit
def KysAt (w : World) (v : Value) (cs : List (List Int × Int)) : Prop :=
  ∃ (rs : List Value) (ao : Option Addr) (cap : Nat), v = .slice ao cs.length cap ∧ cs.length ≤ cap ∧ (∀ j, j < cs.length → IntsAt w .i32 (rV rs j) (cR cs j)) ∧
    (0 < cs.length → ∃ b off, ao = some ⟨b, off, none⟩ ∧ ∀ j, j < cs.length → w.cell? ⟨b, off + j * 2 + 1, none⟩ = some (rV rs j) ∧ w.cell? ⟨b, off + j * 2, none⟩ = some (.int .i64 (cW cs j)))
theorem KysAt.ext {w w' : World} {v : Value} {cs : List (List Int × Int)} (h : KysAt w v cs) (he : Ext w w') : KysAt w' v cs := by
  obtain ⟨rs, ao, cap, e, hc, hr, hx⟩ := h
  exact ⟨rs, ao, cap, e, hc, fun j hj => (hr j hj).ext he, fun hp => by
    obtain ⟨b, off, e2, hcell⟩ := hx hp
    exact ⟨b, off, e2, fun j hj => ⟨he.cell (hcell j hj).1, he.cell (hcell j hj).2⟩⟩⟩
def OwnKys (w : World) (base : Nat) (v : Value) (rs : List Value) (cs : List (List Int × Int)) : Prop :=
  rs.length = cs.length ∧ (∃ ys, w.ownsRow base 67 2 v cs.length ys ∧ ∀ j, j < cs.length → ys[j * 2 + 1]? = some (rV rs j) ∧ ys[j * 2]? = some (.int .i64 (cW cs j))) ∧
  (∀ j, j < cs.length → w.ownsRow base 21 1 (rV rs j) (cR cs j).length ((cR cs j).map (Value.int .i32))) ∧
  (∀ i j g, i < j → j < cs.length → (rV rs i).ownBlock = some g → (rV rs j).ownBlock ≠ some g)
theorem OwnKys.ext {w w' : World} {base : Nat} {v : Value} {rs : List Value} {cs : List (List Int × Int)} (h : OwnKys w base v rs cs) (he : Ext w w') : OwnKys w' base v rs cs := by
  obtain ⟨h0, ⟨ys, h1, h2⟩, h3, h4⟩ := h
  exact ⟨h0, ⟨ys, he.owns h1, h2⟩, fun j hj => he.owns (h3 j hj), h4⟩
theorem OwnKys.cls {w : World} {base : Nat} {v : Value} {rs : List Value} {cs : List (List Int × Int)} (h : OwnKys w base v rs cs) : KysAt w v cs := by
  obtain ⟨_, ⟨ys, h1, h2⟩, h3, _⟩ := h
  rcases h1.2 with ⟨rfl, h0⟩ | ⟨g, cap, cur, rfl, hb, hg, hn, hm, hs, ht⟩
  · exact ⟨rs, none, 0, by rw [h0], by omega, fun j hj => by omega, fun hp => by omega⟩
  · refine ⟨rs, _, cap, rfl, hn, fun j hj => ints_of_owns (h3 j hj), fun _ => ⟨g, 0, rfl, fun j hj => ?_⟩⟩
    have := h2 j hj
    rw [Nat.zero_add, h1.cellAt _ (by omega), h1.cellAt _ (by omega)]
    exact this
theorem OwnKys.push {W W' : World} {base : Nat} {v v' r : Value} {rs : List Value} {cs : List (List Int × Int)} {xs : List Int} {d : Int} {ys : List Value}
    (h : OwnKys W base v rs cs) (hy : W.ownsRow base 67 2 v cs.length ys) (hyy : ∀ j, j < cs.length → ys[j * 2 + 1]? = some (rV rs j) ∧ ys[j * 2]? = some (.int .i64 (cW cs j)))
    (hr : W.ownsRow base 21 1 r xs.length (xs.map (Value.int .i32))) (hfr : ∀ j g, j < cs.length → (rV rs j).ownBlock = some g → r.ownBlock ≠ some g)
    (ho : W'.ownsRow base 67 2 v' (cs.length + 1) (ys ++ [.int .i64 d, r])) (hg : W.grownBy W' v.ownBlock) : OwnKys W' base v' (rs ++ [r]) (cs ++ [(xs, d)]) := by
  obtain ⟨h0, _, h3, h4⟩ := h
  have hyl := hy.1
  have keep : ∀ (u : Value) (m : Nat) (zs : List Value), W.ownsRow base 21 1 u m zs → W'.ownsRow base 21 1 u m zs := fun u m zs hu =>
    owns_same hu (fun g hgu => hg.block g (hu.lt g hgu).2 (fun e => owns_apart hu hy (by decide) hgu e.symm))
  refine ⟨by simp [h0], ⟨_, by simpa using ho, fun j hj => ?_⟩, fun j hj => ?_, fun i j g hij hj hk => ?_⟩
  · simp at hj
    by_cases e : j = cs.length
    · subst e
      rw [← h0, rV_last, h0, cW_push, if_pos rfl]
      constructor
      · rw [List.getElem?_append_right (by omega)]; simp [hyl]
      · rw [List.getElem?_append_right (by omega)]; simp [hyl]
    · rw [rV_push rs r j (by omega), cW_push, if_neg e, List.getElem?_append_left (by omega), List.getElem?_append_left (by omega)]
      exact hyy j (by omega)
  · simp at hj
    rw [cR_push]
    by_cases e : j = cs.length
    · subst e
      rw [← h0, rV_last, h0, if_pos rfl]
      exact keep _ _ _ hr
    · rw [rV_push rs r j (by omega), if_neg e]
      exact keep _ _ _ (h3 j (by omega))
  · simp at hj
    rw [rV_push rs r i (by omega)] at hk
    by_cases e : j = cs.length
    · subst e
      rw [← h0, rV_last]
      exact hfr i g (by omega) hk
    · rw [rV_push rs r j (by omega)]
      exact h4 i j g hij (by omega) hk
theorem OwnKys.fr {S : Nat → Prop} {w w' : World} {base : Nat} {v : Value} {rs : List Value} {cs : List (List Int × Int)} (h : OwnKys w base v rs cs) (hf : Fr S w w') (hS : ∀ g, Foot v rs cs.length g → ¬ S g) : OwnKys w' base v rs cs := by
  obtain ⟨h0, ⟨ys, h1, h2⟩, h3, h4⟩ := h
  exact ⟨h0, ⟨ys, hf.owns h1 (fun g hg => hS g (.inl hg)), h2⟩, fun j hj => hf.owns (h3 j hj) (fun g hg => hS g (.inr ⟨j, hj, hg⟩)), h4⟩
theorem OwnKys.foot {w : World} {base : Nat} {v : Value} {rs : List Value} {cs : List (List Int × Int)} (h : OwnKys w base v rs cs) {g : Nat} (hg : Foot v rs cs.length g) : base ≤ g ∧ g < w.heap.size := by
  obtain ⟨h0, ⟨ys, h1, h2⟩, h3, h4⟩ := h
  rcases hg with hg | ⟨j, hj, hg⟩
  · exact h1.lt g hg
  · exact (h3 j hj).lt g hg
end Go.Proofs.YtbieoijeilhadaaDoor
