import Derived.Test.YtkimnihdjeonpabScr
namespace Go.Proofs.Ytkimnihdjeonpab
open Go.RowKit
def SBox (W : World) (b : Nat) (d : SD) (gv hv bv : Value) : Prop :=
  W.cell? ⟨b, 0, none⟩ = some (.int .i64 d.cols) ∧ W.cell? ⟨b, 1, none⟩ = some (.int .i64 d.rows) ∧ W.cell? ⟨b, 2, none⟩ = some gv ∧ W.cell? ⟨b, 3, none⟩ = some (.int .i64 d.row) ∧ W.cell? ⟨b, 4, none⟩ = some (.int .i64 d.col) ∧ W.cell? ⟨b, 5, none⟩ = some (.bool d.late) ∧ W.cell? ⟨b, 6, none⟩ = some hv ∧ W.cell? ⟨b, 7, none⟩ = some bv
theorem SBox.fr {S : Nat → Prop} {W W' : World} {b : Nat} {d : SD} {gv hv bv : Value} (h : SBox W b d gv hv bv) (hf : Fr S W W') (hS : ¬ S b) : SBox W' b d gv hv bv := by
  obtain ⟨h0, h1, h2, h3, h4, h5, h6, h7⟩ := h
  have hb := hf.block b (lt_of_cell h0) hS
  exact ⟨(World.cell?_of_block (a := ⟨b, 0, none⟩) hb).trans h0, (World.cell?_of_block (a := ⟨b, 1, none⟩) hb).trans h1, (World.cell?_of_block (a := ⟨b, 2, none⟩) hb).trans h2, (World.cell?_of_block (a := ⟨b, 3, none⟩) hb).trans h3, (World.cell?_of_block (a := ⟨b, 4, none⟩) hb).trans h4, (World.cell?_of_block (a := ⟨b, 5, none⟩) hb).trans h5, (World.cell?_of_block (a := ⟨b, 6, none⟩) hb).trans h6, (World.cell?_of_block (a := ⟨b, 7, none⟩) hb).trans h7⟩
theorem SBox.ext {W W' : World} {b : Nat} {d : SD} {gv hv bv : Value} (h : SBox W b d gv hv bv) (he : Ext W W') : SBox W' b d gv hv bv := h.fr (Fr.of_ext (S := fun _ => False) he) (fun e => e)
theorem SBox.new (w : World) (d : SD) (gv hv bv : Value) : SBox (w.alloc (.cells #[.int .i64 d.cols, .int .i64 d.rows, gv, .int .i64 d.row, .int .i64 d.col, .bool d.late, hv, bv] 37)) w.heap.size d gv hv bv := by
  unfold SBox; simp [go_sem]
theorem ScrAt.forms {w : World} {d : SD} {gv hv bv : Value} (h : ScrAt w d gv hv bv) : ∃ ga gc ha hc ba bc, gv = .slice ga d.R gc ∧ hv = .slice ha d.hold.length hc ∧ bv = .slice ba d.nb bc := by
  obtain ⟨⟨_, ⟨ao, ca, e1, _⟩, _⟩, ⟨ah, ch, e2, _⟩, ⟨ab, cb, e3, _⟩⟩ := h
  exact ⟨ao, ca, ah, ch, ab, cb, e1, e2, e3⟩
end Go.Proofs.Ytkimnihdjeonpab
