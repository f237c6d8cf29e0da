/-
  Words and walks under the law's proof.
-/
import Derived.Test.YtknnjkhocbpohaaDoorRows
import Derived.LaidSub
import Derived.MakeChecks
import Derived.LaidMore
import Derived.Test.YtknnjkhocbpohaaDoorQD01
import Derived.Test.YtknnjkhocbpohaaDoorQD04
namespace Go.Proofs.YtknnjkhocbpohaaDoor
open Go.RowKit
set_option maxRecDepth 100000
abbrev laidL : List (String × DataW Unit) := [("warrantor/ask.rels", Rows.laid_warrantor_ask_rels), ("warrantor/ask.fields", Rows.laid_warrantor_ask_fields), ("warrantor/ask.about", Rows.laid_warrantor_ask_about)]
theorem door_met (os : Os) (args : Array Value) : laidMetH Tryd.prog laidL ((World.doorLaid Tryd.prog 400 os).forCall (fun _ _ => 0) ⟨#[], args, []⟩).memory :=
  laidMetH_of_parts3 (fuel := 8) (laidMet_of_run' 8 (by kernel_rfl) (by kernel_rfl)) (by kernel_rfl) (by kernel_rfl)
theorem map_at {α : Type} (l : List α) (f : α → Value) (d : α) (i : Nat) (hi : i < l.length) : (l.map f).toArray[i]? = some (f (l.getD i d)) := by
  simp [List.getD, hi]
theorem of_laid {W : World} (h : laidMetH Tryd.prog laidL W) : ATab W := by
  rw [MakeChecks.laidMetH_plain _ _ _ (by kernel_rfl)] at h
  have a := laidMet.filter (fun x => x.1 == "warrantor/ask.about") h
  have b := laidMet.filter (fun x => x.1 == "warrantor/ask.fields") h
  have c := laidMet.filter (fun x => x.1 == "warrantor/ask.rels") h
  rw [show laidL.filter (fun x => x.1 == "warrantor/ask.about") = [("warrantor/ask.about", Rows.laid_warrantor_ask_about)] from by rfl] at a
  rw [show laidL.filter (fun x => x.1 == "warrantor/ask.fields") = [("warrantor/ask.fields", Rows.laid_warrantor_ask_fields)] from by rfl] at b
  rw [show laidL.filter (fun x => x.1 == "warrantor/ask.rels") = [("warrantor/ask.rels", Rows.laid_warrantor_ask_rels)] from by rfl] at c
  have ha := laid_cells (g := 0) (t := 48) 4 (aboutL.map (Value.int .i64)) (by kernel_rfl) (by kernel_rfl) (by kernel_rfl) (by rfl) a
  have hb := laid_cells (g := 1) (t := 60) 4 (fieldsL.map (Value.int .i64)) (by kernel_rfl) (by kernel_rfl) (by kernel_rfl) (by rfl) b
  have hc := laid_cells (g := 2) (t := 62) 4 (relsL.map Value.bool) (by kernel_rfl) (by kernel_rfl) (by kernel_rfl) (by rfl) c
  exact ⟨fun i hi => by rw [World.var?_cell (by kernel_rfl) ha i]; exact map_at aboutL _ 0 i hi, fun i hi => by rw [World.var?_cell (by kernel_rfl) hb i]; exact map_at fieldsL _ 0 i hi, fun i hi => by rw [World.var?_cell (by kernel_rfl) hc i]; exact map_at relsL _ false i hi⟩
end Go.Proofs.YtknnjkhocbpohaaDoor
