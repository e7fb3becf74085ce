import Derived.Test.YtkimnihdjeonpaaU8s
import Derived.Test.YtkimnihdjeonpaaSzB
import Derived.Test.YtkimnihdjeonpaaCame
import Derived.Test.YtkimnihdjeonpaaUtf
namespace Go.Proofs.Ytkimnihdjeonpaa
open Go.ChangeShapes Go.WideShapes Go.ChangeAt Go.RowKit Go.Deep
set_option maxHeartbeats 1000000 in
theorem szKeyReader_any (ao : Option Addr) (n cap : Nat) (p : Bool) (l : Int) (w : World) (h0 : 0 ≤ l) (h1 : l ≤ 4398046511104) (hn : (n : Int) ≤ 9223372036854775807) :
    Calls Try.prog 19 #[.agg #[.slice ao n cap, .bool p], .int .i64 l] w fun e w' => ∃ r : Int, e = .returned (.int .i64 r) ∧ SzR l n r ∧ Ext w w' := by
  have hcon := hide (fun W => szByteS_any ao n cap l W h0 h1 hn)
  go_enter Try.func19, Try.ntmps19
  go_wp2_with fail
  refine ((unhide hcon) _).mono ?_
  rintro e w1 ⟨rfl, rfl⟩
  by_cases h : l < (n : Int)
  · rw [if_pos h]
    go_wp2
    go_ret
    exact ⟨-1, rfl, .inl ⟨rfl, h⟩, (Ext.refl _).alloc _⟩
  · rw [if_neg h]
    have h2 : ¬ l - (n : Int) < 0 := by omega
    go_wp2
    go_ret
    exact ⟨l - (n : Int), rfl, .inr ⟨rfl, by omega⟩, (Ext.refl _).alloc _⟩
set_option maxHeartbeats 1000000 in
theorem toKeyReader_any (h : Value) (bs : List Int) (p : Bool) (w : World) (hr : IntsAt w .u8 h bs) (hx : bs.length ≤ 4398046511104) :
    Calls Try.prog 21 #[.agg #[h, .bool p]] w fun e w' => e = .returned (.agg #[.slice (some ⟨w.heap.size + 3, 0, none⟩) bs.length bs.length, .bool p]) ∧
      w'.ownsRow (w.heap.size + 3) 5 1 (.slice (some ⟨w.heap.size + 3, 0, none⟩) bs.length bs.length) bs.length (bs.map (Value.int .u8)) ∧ Ext w w' := by
  go_enter Try.func21, Try.ntmps21
  go_wp2_with fail
  refine (toByteS_any _ bs _ (hr.ext ((((Ext.refl _).alloc _).alloc _).alloc _)) hx).mono ?_
  rintro e w1 ⟨rfl, o1, F1⟩
  obtain ⟨hc, hf⟩ := F1.rules
  have hz : w.heap.size + 3 < w1.heap.size := by have := (o1.lt _ rfl).2; simpa using this
  have a0 : w1.cell? ⟨w.heap.size + 1, 0, none⟩ = some (.slice none 0 0) := by rw [hc _ _ (by simp)]; simp [go_sem]
  have a1 : w1.cell? ⟨w.heap.size + 1, 1, none⟩ = some (.bool false) := by rw [hc _ _ (by simp)]; simp [go_sem]
  go_wp2
  refine bodyPost_ret (v := .agg #[.slice (some ⟨w.heap.size + 3, 0, none⟩) bs.length bs.length, .bool p]) (by simp [results, Try.results21, go_sem, a0, a1]) rfl ⟨rfl, ?_, ?_⟩
  · repeat (refine owns_setCell ?_ (by simp [Value.ownBlock]) _)
    simpa using o1
  · repeat (refine Ext.setCell ?_ (by dsimp only; omega) _)
    exact ((((Ext.refl _).alloc _).alloc _).alloc _).trans F1
set_option maxHeartbeats 1000000 in
theorem eqKeyReader_same (ra rb : Value) (bs : List Int) (p : Bool) (w : World) (ha : IntsAt w .u8 ra bs) (hb : IntsAt w .u8 rb bs) (hx : bs.length ≤ 4398046511104) :
    Calls Try.prog 23 #[.agg #[ra, .bool p], .agg #[rb, .bool p]] w fun e w' => e = .returned (.bool true) ∧ Ext w w' := by
  go_enter Try.func23, Try.ntmps23
  go_wp2_with fail
  refine (eqByteS_same _ _ bs _ (ha.ext (((Ext.refl _).alloc _).alloc _)) (hb.ext (((Ext.refl _).alloc _).alloc _)) hx).mono ?_
  rintro e w1 ⟨rfl, F1⟩
  obtain ⟨hc, hf⟩ := F1.rules
  go_wp2
  go_ret
  exact ⟨rfl, (((Ext.refl _).alloc _).alloc _).trans F1⟩
set_option maxHeartbeats 1000000 in
theorem markKeyReader_any (base : Nat) (v : Value) (n : Nat) (xs : List Value) (p : Bool) (k : Int) (w : World) (hv : w.ownsRow base 5 1 v n xs) (hn : n ≤ 4398046511104) (hk : 0 ≤ k) (hk2 : k ≤ 4398046511104) :
    Calls Try.prog 25 #[.agg #[v, .bool p], .int .i64 k] w fun e w' => e = .returned (.int .i64 (k + (n : Int))) ∧ w'.ownsRow base 5 1 v n ((mkU8 k n).map (Value.int .u8)) ∧ w.grownBy w' v.ownBlock := by
  have hcon := hide (fun W (hW : Ext w W) => markByteS_any base v n xs k W (hW.owns hv) hn hk hk2)
  go_enter Try.func25, Try.ntmps25
  go_wp2_with fail
  refine ((unhide hcon) _ ((Ext.refl _).alloc _)).mono ?_
  rintro e w1 ⟨rfl, o1, F1⟩
  go_wp2
  go_ret
  exact ⟨rfl, o1, (World.grownBy_alloc w _ _).trans F1⟩
set_option maxHeartbeats 1000000 in
theorem heldKeyReader_any (v : Value) (n : Nat) (p : Bool) (k : Int) (w : World) (hv : IntsAt w .u8 v (mkU8 k n)) (hn : n ≤ 4398046511104) (hk : 0 ≤ k) (hk2 : k ≤ 4398046511104) :
    Calls Try.prog 27 #[.agg #[v, .bool p], .int .i64 k] w fun e w' => e = .returned (.int .i64 (k + (n : Int))) ∧ Ext w w' := by
  have hcon := hide (fun W (hW : Ext w W) => heldByteS_any v n k W (hv.ext hW) hn hk hk2)
  have hneg : ¬ k + (n : Int) < 0 := by omega
  go_enter Try.func27, Try.ntmps27
  go_wp2_with fail
  refine ((unhide hcon) _ ((Ext.refl _).alloc _)).mono ?_
  rintro e w1 ⟨rfl, F1⟩
  go_wp2
  go_ret
  exact ⟨rfl, ((Ext.refl _).alloc _).trans F1⟩
set_option maxRecDepth 10000 in
theorem kr_came {H : Type} {enc : TypeId × Value → H} {W : World} {v : Value} {d : DataW H} {p : List MemPlace} {base : Nat} {r : Reach}
    (hv : Value.okWide Try.prog W r base 39 v) (h : DataW.Trod enc Try.prog W 0 (fun _ => true) true 39 v d p) :
    ∃ (bs : List Int) (ha : Option Addr) (hc : Nat) (b : Bool), v = .agg #[.slice ha bs.length hc, .bool b] ∧ IntsAt W .u8 (.slice ha bs.length hc) bs ∧ Bytes bs ∧ (bs.length : Int) ≤ 9223372036854775807 := by
  obtain ⟨cs, rfl, hsz⟩ := okWide_struct Try.underlying39 hv
  obtain ⟨fuel, hf⟩ := h
  obtain ⟨xs, n, _, _, _, hlen, hx⟩ := DataW.trod_struct Try.underlying39 hf
  have h8 : Try.prog.cellsOf 39 = 2 := by kernel_rfl
  rw [h8] at hsz
  obtain ⟨l⟩ := cs
  have kb : Try.prog.cellsOf 4 = 1 := by kernel_rfl
  have ku : Try.prog.cellsOf 29 = 1 := by kernel_rfl
  match l, hsz, xs, hlen with
  | [c0, c1], _, [x0, x1], _ =>
    have t0 : DataW.trod enc Try.prog W 0 (fun _ => true) true n 29 [c0] = some x0 := by
      have := hx 0 _ rfl
      simpa [Value.cells, ku] using this
    have t1 : DataW.trod enc Try.prog W 0 (fun _ => true) true n 4 [c1] = some x1 := by
      have := hx 1 _ rfl
      simpa [Value.cells, kb] using this
    obtain ⟨zs, z1, z2, z3⟩ := bytes_trod Try.underlying29 Try.underlying5 (by kernel_rfl) t0
    obtain ⟨lt, e5, _⟩ := DataW.trod_bool Try.underlying4 t1
    simp at e5
    subst e5
    have z4 := z1
    obtain ⟨ao, cap, rfl, _⟩ := z1
    unfold maxLen at z3
    exact ⟨zs, ao, cap, lt, rfl, z4, fun n hn => bounds_u8 (z2 n hn), by omega⟩
end Go.Proofs.Ytkimnihdjeonpaa
