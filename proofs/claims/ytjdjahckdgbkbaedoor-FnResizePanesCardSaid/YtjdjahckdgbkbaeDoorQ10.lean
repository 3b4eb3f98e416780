import Derived.Test.YtjdjahckdgbkbaeDoorQ09
import Derived.Test.YtjdjahckdgbkbaeDoorRows
import Derived.Test.YtjdjahckdgbkbaeDoorTie
import Derived.Test.YtjdjahckdgbkbaeDoorCards
import Derived.ProofKit
import Derived.Stop.LaidErr
import Derived.LaidHandle
import Derived.MakeChecks
import Derived.SevenTiedAt
import Derived.OpenShut
section
namespace Go.Proofs.YtjdjahckdgbkbaeDoor
open Go.ChangeShapes Go.WideShapes Go.ChangeAt Go.RowKit
/-! What the listed sentinel gives, and a world that holds it. -/
namespace LD
theorem gE : Tryd.prog.globalNamed "loop.example/widgetroom/impl.errNoRoom" = some 0 := by kernel_rfl
theorem gEType : (Tryd.prog.globals[0]?).map (·.type) = some 59 := by kernel_rfl
theorem cellsE : Tryd.prog.cellsOf 131 = 1 := by kernel_rfl
theorem cellsS : Tryd.prog.cellsOf 9 = 1 := by kernel_rfl
theorem star : "*" ++ "errors.errorString" = "*errors.errorString" := by decide
theorem rowE (u : TypeId) (h : Tryd.prog.typeName? 3 u = some "*errors.errorString") : u = 106 :=
  typeName_ptr_named (nm := "errors.errorString") (by rw [star]; kernel_rfl) (by kernel_rfl) (by decide) u (by rw [star]; exact h)
abbrev text : ByteArray := { data := #[110, 111, 32, 114, 111, 111, 109] }
noncomputable def low : Nat := (World.holding Tryd.prog default ⟨#[], #[], []⟩).heap.size
noncomputable def world (os : Os) : World :=
  let w0 := World.holding Tryd.prog os ⟨#[.cells #[.string text] 131], #[], []⟩
  { w0 with heap := w0.heap.modify 0 fun
      | .cells _ t frozen => .cells #[.iface 106 (.pointer (some ⟨low, 0, none⟩))] t frozen
      | o => o }
theorem met (os : Os) (args : Array Value) : laidMetH Tryd.prog Rows.fnResizePanesRow.laid ((world os).forCall (fun _ _ => 0) ⟨#[], args, []⟩).memory := by
  rw [MakeChecks.laidMetH_plain _ _ _ (by kernel_rfl)]
  exact laidMet_of_run (ps := [.cell 0 0, .cell low 0]) 8 (by kernel_rfl) (by kernel_rfl) (by kernel_rfl)
theorem var_below {W W' : World} {cs : Array Value} (h : W.var? Tryd.prog "loop.example/widgetroom/impl.errNoRoom" = some cs) (hb : Below W.heap.size W W') : W'.var? Tryd.prog "loop.example/widgetroom/impl.errNoRoom" = some cs := by
  unfold World.var? at h ⊢
  rw [gE] at h ⊢
  simp only [Option.bind_some] at h ⊢
  have hlt : 0 < W.heap.size := by
    rcases Nat.lt_or_ge 0 W.heap.size with h' | h'
    · exact h'
    · rw [Array.getElem?_eq_none h'] at h; cases h
  rw [hb.block 0 hlt]
  exact h
theorem opens {W : World} (h : laidMetH Tryd.prog Rows.fnResizePanesRow.laid W) : ∃ a : Addr, W.var? Tryd.prog "loop.example/widgetroom/impl.errNoRoom" = some #[.iface 106 (.pointer (some a))] ∧ W.cell? ⟨0, 0, none⟩ = some (.iface 106 (.pointer (some a))) := by
  rw [MakeChecks.laidMetH_plain _ _ _ (by kernel_rfl)] at h
  have h' : laidMet Tryd.prog (("loop.example/widgetroom/impl.errNoRoom", .iface "*errors.errorString" (.ptr (.agg [.lit (.string [110, 111, 32, 114, 111, 111, 109])]))) :: []) W := h
  obtain ⟨a0, s0, hv0, hc0, hs0, hz0⟩ := laid_sentinel h' gE gEType Tryd.underlying59 rowE Tryd.underlying106 Tryd.underlying131 rfl rfl Tryd.underlying9 cellsE cellsS
  exact ⟨a0, hv0, by simpa using World.var?_cell gE hv0 0⟩
end LD
end Go.Proofs.YtjdjahckdgbkbaeDoor
end
