import Derived.Test.YtbieoijeilhadaaDoorKmK
import Derived.Test.YtbieoijeilhadaaDoorKmP
namespace Go.Proofs.YtbieoijeilhadaaDoor
open Go.RowKit Go.Maps
def MapsAt (w : World) (b1 b2 b3 : Nat) : Prop :=
  w.heap[b1]? = some (mapG (Value.int .u8) (kindsV loneL)) ∧ w.heap[b2]? = some (mapG (Value.int .u8) (kindsV metaL)) ∧ w.heap[b3]? = some (mapG Value.string (kindsV endsL))
set_option maxRecDepth 10000 in
set_option maxHeartbeats 8000000 in
theorem newDecoder_any (p : Bool) (w : World) :
    Calls Tryd.prog 36 #[.bool p] w fun e w' => (∃ D b1 b2 b3, e = .returned (.pointer (some ⟨D, 0, none⟩)) ∧ DkAt w' D w'.heap.size (fun _ => False) [] p [] (.map (some b1)) (.map (some b2)) (.map (some b3)) ∧ MapsAt w' b1 b2 b3 ∧ w.heap.size ≤ D ∧ w.heap.size ≤ b1 ∧ w.heap.size ≤ b2 ∧ w.heap.size ≤ b3 ∧ b1 < D ∧ b2 < D ∧ b3 < D) ∧ Ext w w' := by
  have hmm := @run_makeMap Tryd.prog
  go_enter Tryd.func36, Tryd.ntmps36
  go_wp2_with fail
  refine (loneBytes_any w).mono ?_
  rintro e w1 ⟨rfl, hb1, E1⟩
  have HM : Hid ((w1.alloc (.map #[] 0)).heap[w1.heap.size]? = some (mapG (Value.int .u8) [])) := hide (new_block w1 _)
  have HF : Hid (Fr (fun q => q = w1.heap.size) (w1.alloc (.map #[] 0)) (w1.alloc (.map #[] 0))) := hide (Fr.refl _ _)
  have HB1 := hide hb1
  have HE1 := hide E1
  have z1 := lt_of_block hb1
  clear hb1 E1
  go_wp2_with (first | fail | (
       refine wpList_insertG keyU8 rfl _ _ _ _ rfl rfl 5 _ Tryd.underlying79 Tryd.underlying5 w1.heap.size rfl _ (unhide HM) _ rfl (by rfl) (.int .i64 _) rfl ?_
       intro W1 hb hf
       simp only [List.nil_append, List.cons_append] at hb
       replace HM := hide hb
       replace HF := hide ((unhide HF).tr hf)
       clear hb hf))
  have E2 := (unhide HF).ext ((Ext.refl w1).alloc _) (fun q hq => by omega)
  refine (ends_any _).mono ?_
  rintro e w2 ⟨rfl, hb3, E3⟩
  have z2 := lt_of_block (unhide HM)
  have z3 := lt_of_block hb3
  have z4 := E2.size
  have HB3 := hide hb3
  have HM2 := hide (E3.kept (unhide HM))
  have HB12 := hide (E3.kept (E2.kept (unhide HB1)))
  have HE2 := hide (((unhide HE1).trans E2).trans E3)
  clear hb3 E3 E2 HM HF HE1 HB1
  go_wp2
  have EA := (Ext.refl w2).alloc (.cells #[.slice none 0 0, .bool p, .slice none 0 0, .map (some w.heap.size), .map (some w1.heap.size), .map (some W1.heap.size)] 82)
  have hsz : (w2.alloc (.cells #[.slice none 0 0, .bool p, .slice none 0 0, .map (some w.heap.size), .map (some w1.heap.size), .map (some W1.heap.size)] 82)).heap.size = w2.heap.size + 1 := by simp
  have z5 := (unhide HE2).size
  refine bodyPost_ret (v := .pointer (some ⟨w2.heap.size, 0, none⟩)) (by simp [results, Tryd.results36, go_sem]) rfl ⟨⟨w2.heap.size, w.heap.size, w1.heap.size, W1.heap.size, rfl, ⟨.slice none 0 0, .slice none 0 0, [], new_block w2 _, ⟨by simp, .inl ⟨rfl, rfl⟩⟩, kys_empty ⟨by simp, .inl ⟨rfl, rfl⟩⟩, by rw [hsz]; omega, Nat.le_refl _, fun _ hk => hk.elim⟩, ⟨EA.kept (unhide HB12), EA.kept (unhide HM2), EA.kept (unhide HB3)⟩, by omega, by omega, by omega, by omega, by omega, by omega, by omega⟩, (unhide HE2).trans EA⟩
end Go.Proofs.YtbieoijeilhadaaDoor
