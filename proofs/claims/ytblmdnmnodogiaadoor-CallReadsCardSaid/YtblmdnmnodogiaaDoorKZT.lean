/- CallReads' listed variables: what they give, and a world that has them. -/
import Derived.Test.YtblmdnmnodogiaaDoorKT
import Derived.Test.YtblmdnmnodogiaaDoorKZ
namespace Go.Proofs.YtblmdnmnodogiaaDoor
open Go.ChangeShapes Go.WideShapes Go.ChangeAt Go.RowKit Go.Shelf

theorem Tryd.gSp : Tryd.prog.globalNamed "strings.asciiSpace" = some 0 := by kernel_rfl
theorem Tryd.gSpT : (Tryd.prog.globals[0]?).map (·.type) = some 83 := by kernel_rfl
theorem spTab : (Rows.laid_strings_asciiSpace : DataW Unit) = Lib.tabData .u8 Lib.asciiSpaceTab := by kernel_rfl
abbrev laidListR : List (String × DataW Unit) := [("unicode/utf8.acceptRanges", Rows.laid_unicode_utf8_acceptRanges), ("unicode.White_Space", Rows.laid_unicode_White_Space), ("strings.asciiSpace", Rows.laid_strings_asciiSpace), ("finesse/call.texts", Rows.laid_finesse_call_texts), ("unicode/utf8.first", Rows.laid_unicode_utf8_first)]
theorem envR_of {W : World} (h : laidMetH Tryd.prog laidListR W) (hsh : W.ShapedOpen Tryd.prog) : EnvR W := by
  have h' : laidMet Tryd.prog laidListR W := h
  have h2 := h'.tail.tail
  rw [spTab] at h2
  exact ⟨env_of_head h2.tail hsh, Lib.tabIs_of_head Tryd.gSp Tryd.gSpT Tryd.underlying83 Tryd.underlying5 (by kernel_rfl) (by kernel_rfl) h2⟩
noncomputable def lowR : Nat := (World.holding Tryd.prog default ⟨#[], #[], []⟩).heap.size
def rg16 : List Int := [9, 13, 1, 32, 133, 101, 160, 5760, 5600, 8192, 8202, 1, 8232, 8233, 1, 8239, 8287, 48, 12288, 12288, 1]
/-- A world that fits: the listed variables as their initialisers lay them. -/
noncomputable def laidWorldR (os : Os) : World :=
  let w0 := World.holding Tryd.prog os ⟨#[.cells #[.slice (some ⟨lowR + 1, 0, none⟩) 7 7, .slice none 0 0, .int .i64 2] 111, .cells (tabCells .u16 rg16) 114], #[], []⟩
  { w0 with heap := ((((w0.heap.modify 5 (swap (tabCells .u8 accs))).modify 4 (swap (tabCells .u8 (Go.Pinned.utf8FirstZ.map fun (n : Nat) => (n : Int))))).modify 1 (swap txA)).modify 0 (swap (tabCells .u8 Lib.asciiSpaceTab))).modify 2 (swap #[.pointer (some ⟨lowR, 0, none⟩)]) }
set_option maxRecDepth 100000 in
theorem laidWorldR_met (os : Os) (args : Array Value) : laidMetH Tryd.prog laidListR ((laidWorldR os).forCall (fun _ _ => 0) ⟨#[], args, []⟩).memory :=
  laidMetH_of_parts (laidMet_of_run' 9 (by kernel_rfl) (by kernel_rfl)) (by kernel_rfl)
end Go.Proofs.YtblmdnmnodogiaaDoor
