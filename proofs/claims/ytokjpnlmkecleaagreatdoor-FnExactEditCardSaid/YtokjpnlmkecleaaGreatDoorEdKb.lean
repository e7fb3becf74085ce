import Derived.Test.YtokjpnlmkecleaaGreatDoorEdV
namespace Go.Proofs.YtokjpnlmkecleaaGreatDoor
open Go.RowKit

theorem edC_kill {cl : List Value} {fr bh : Int} {k k' : ByteArray} {u : Value} (h : cl.length = 600) : (edC cl fr bh k u).setIfInBounds 602 (.string k') = edC cl fr bh k' u := by
  unfold edC
  simp [h]
theorem edG_kill {W : World} {P : Nat} {cl : List Value} {fr bh : Int} {k : ByteArray} {u : Value} (h : W.heap[P]? = some (.cells (edC cl fr bh k u) 99 (0, 0))) : W.frozen? ⟨P, 602, none⟩ = false := Lib.frozen_of_heap h 602
section
variable {P base : Nat} {W0 W : World} {k : ByteArray} {u : Value} {un : List (ByteArray × ByteArray)} {cl rl rr : List Value}
/-- What is killed is set. -/
theorem Ed2.kill {A B : List (List Int × Int)} (h : Ed2 P base W0 W k u un A B cl rl rr) (k' : ByteArray) : Ed2 P base W0 (W.setCell ⟨P, 602, none⟩ (.string k')) k' u un A B cl rl rr := by
  have f : Fr (fun q => q = P) W (W.setCell ⟨P, 602, none⟩ (.string k')) := Fr.setCell (S := fun q => q = P) (Fr.refl _ W) (a := ⟨P, 602, none⟩) rfl _
  have hb := heap_setCell_same W P 602 _ _ (.string k') h.blk
  rw [edC_kill h.gap.len] at hb
  exact h.step hb (h.gap.fr f) f
end
section
variable {P base : Nat} {W : World} {k : ByteArray} {u : Value} {qs : List Nat} {un : List (ByteArray × ByteArray)} {cl rl rr : List Value}
set_option maxRecDepth 10000 in
set_option maxHeartbeats 4000000 in
theorem killBy_no {w : World} {A B : List (List Int × Int)} (tk : Value) (h : Ed0 P base W k u qs un A B cl rl rr) (E : Ext W w) :
    Calls Tryz.prog 127 #[.pointer (some ⟨P, 0, none⟩), tk, .int .i64 0] w fun e w' => EdR P base W w' k un A B 2 e := by
  have H0 := hide (h.same E 2)
  clear h E
  go_enter Tryz.func127, Tryz.ntmps127
  go_wp2
  exact bodyPost_ret (v := .int .i64 2) (by simp [results, Tryz.results127, go_sem]) rfl (unhide H0)
set_option maxRecDepth 10000 in
set_option maxHeartbeats 4000000 in
theorem killByL_any {w : World} {A1 A2 B : List (List Int × Int)} (hp : 0 < A2.length) (hc : CkC A2) (h : Ed0 P base W k u qs un (A1 ++ A2) B cl rl rr) (E : Ext W w) :
    Calls Tryz.prog 127 #[.pointer (some ⟨P, 0, none⟩), .func (.func 120) #[.pointer (some ⟨P, 0, none⟩)] #[], .int .i64 (A2.length : Int)] w fun e w' => EdR P base W w' (toBA (textC A2)) (undoN un (toBA (textC (A1 ++ A2)), toBA (textC B))) A1 B 1 e := by
  have H1 := hide (edChangeE h E)
  have H2 := hide (fun w u' un' (g : Ed2 P base W w k u' un' (A1 ++ A2) B cl rl rr) => edTakeL g)
  have H3 := hide (fun w v (hv : ClsAt w v A2) => implTextOf_any v A2 w hv hc.1 hc.2)
  obtain ⟨n, hn⟩ : ∃ n, A2.length = n := ⟨_, rfl⟩
  rw [hn] at hp H2 ⊢
  have hI : ¬ (n : Int) = 0 := by omega
  have hI2 : ¬ n = 0 := by omega
  clear h hn E hc
  go_enter Tryz.func127, Tryz.ntmps127
  go_wp2_with fail
  refine (unhide H1).mono ?_
  rintro e w1 ⟨u1, rfl, g1, -⟩
  have H2' := hide ((unhide H2) w1 u1 _ g1)
  clear H1 g1 H2
  go_wp2_with fail
  refine (unhide H2').mono ?_
  rintro e w2 ⟨v2, rl2, rfl, g2, c2⟩
  have H3' := hide ((unhide H3) w2 v2 c2)
  have HG := hide g2
  clear H2' g2 c2 H3
  go_wp2_with fail
  refine (unhide H3').mono ?_
  rintro e w3 ⟨rfl, E3⟩
  have HG3 := hide ((unhide HG).ext E3)
  have c602 := (edG_cells (unhide HG3).blk (unhide HG3).gap.len).2.2.1
  have f602 := edG_kill (unhide HG3).blk
  have H4 := hide (((unhide HG3).kill (toBA (textC A2))).end 1)
  clear HG E3 H3'
  go_wp2
  exact bodyPost_ret (v := .int .i64 1) (by simp [results, Tryz.results127, go_sem]) rfl (unhide H4)
set_option maxRecDepth 10000 in
set_option maxHeartbeats 4000000 in
theorem killByR_any {w : World} {A B1 B2 : List (List Int × Int)} (hp : 0 < B1.length) (hc : CkC B1) (h : Ed0 P base W k u qs un A (B1 ++ B2) cl rl rr) (E : Ext W w) :
    Calls Tryz.prog 127 #[.pointer (some ⟨P, 0, none⟩), .func (.func 121) #[.pointer (some ⟨P, 0, none⟩)] #[], .int .i64 (B1.length : Int)] w fun e w' => EdR P base W w' (toBA (textC B1)) (undoN un (toBA (textC A), toBA (textC (B1 ++ B2)))) A B2 1 e := by
  have H1 := hide (edChangeE h E)
  have H2 := hide (fun w u' un' (g : Ed2 P base W w k u' un' A (B1 ++ B2) cl rl rr) => edTakeR g)
  have H3 := hide (fun w v (hv : ClsAt w v B1) => implTextOf_any v B1 w hv hc.1 hc.2)
  obtain ⟨n, hn⟩ : ∃ n, B1.length = n := ⟨_, rfl⟩
  rw [hn] at hp H2 ⊢
  have hI : ¬ (n : Int) = 0 := by omega
  have hI2 : ¬ n = 0 := by omega
  clear h hn E hc
  go_enter Tryz.func127, Tryz.ntmps127
  go_wp2_with fail
  refine (unhide H1).mono ?_
  rintro e w1 ⟨u1, rfl, g1, -⟩
  have H2' := hide ((unhide H2) w1 u1 _ g1)
  clear H1 g1 H2
  go_wp2_with fail
  refine (unhide H2').mono ?_
  rintro e w2 ⟨v2, rl2, rfl, g2, c2⟩
  have H3' := hide ((unhide H3) w2 v2 c2)
  have HG := hide g2
  clear H2' g2 c2 H3
  go_wp2_with fail
  refine (unhide H3').mono ?_
  rintro e w3 ⟨rfl, E3⟩
  have HG3 := hide ((unhide HG).ext E3)
  have c602 := (edG_cells (unhide HG3).blk (unhide HG3).gap.len).2.2.1
  have f602 := edG_kill (unhide HG3).blk
  have H4 := hide (((unhide HG3).kill (toBA (textC B1))).end 1)
  clear HG E3 H3'
  go_wp2
  exact bodyPost_ret (v := .int .i64 1) (by simp [results, Tryz.results127, go_sem]) rfl (unhide H4)
end
end Go.Proofs.YtokjpnlmkecleaaGreatDoor
