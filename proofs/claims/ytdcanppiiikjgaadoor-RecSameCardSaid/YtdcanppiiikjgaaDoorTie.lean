/-
  DERIVED. GIVEN WITH THE SEED: THE PROGRAM's TIES (one call each: nine closed facts by the kernel) AND EACH ROW's TIE, after the 31st guide's Derived/Test/Toyas{Tie, Card}.lean. No idea stands in it: it is a product of the set-up. Laid BY PROGRAM, IN A SANDBOX (cutbox-door.mjs). By AI agents, Wed Nov 11 2026. No macro, syntax, notation, axiom, sorry.
-/
import Derived.Test.YtdcanppiiikjgaaDoorRows
import Derived.LaidByTextLater
import Derived.SevenTiedAt
import Derived.LaidSub
import Derived.LaidOnce
namespace Go.Proofs.YtdcanppiiikjgaaDoor
open Go
set_option maxRecDepth 100000
theorem seatTie1 : Tryd.prog.laidByTextLater [("pledge/crc.halves", Rows.laid_pledge_crc_halves), ("pledge/step.words", Rows.laid_pledge_step_words), ("pledge/rec.words", Rows.laid_pledge_rec_words)] [.data, .data, .data] true :=
  Program.laidByTextLater_by_one 24 8 17 (by kernel_rfl) (by kernel_rfl) (by kernel_rfl) (by kernel_rfl) (by kernel_rfl) (by kernel_rfl) (fun _ _ => by kernel_rfl)
theorem noOwnUnsafe : Tryd.pinned.checked.prog.headLifts.contains "ownunsafe" = false := by kernel_rfl
theorem tie : Tryd.prog.laidByTextLater [("pledge/crc.halves", Rows.laid_pledge_crc_halves), ("pledge/step.words", Rows.laid_pledge_step_words), ("pledge/rec.words", Rows.laid_pledge_rec_words)] [.data, .data, .data] true :=
  Program.laidByTextLater.sub seatTie1 ["pledge/crc.halves", "pledge/step.words", "pledge/rec.words"] (by kernel_rfl) (by kernel_rfl)
theorem recBack_row_tie : Rows.recBackRow.laidByTextAt .later Tryd.pinned [.data, .data, .data] true :=
  OpenClaim.laidByTextAt_later rfl rfl tie noOwnUnsafe
theorem tie2 : Tryd.prog.laidByTextLater [("pledge/step.words", Rows.laid_pledge_step_words), ("pledge/rec.words", Rows.laid_pledge_rec_words)] [.data, .data] true :=
  Program.laidByTextLater.sub seatTie1 ["pledge/step.words", "pledge/rec.words"] (by kernel_rfl) (by kernel_rfl)
theorem recSame_row_tie : Rows.recSameRow.laidByTextAt .later Tryd.pinned [.data, .data] true :=
  OpenClaim.laidByTextAt_later rfl rfl tie2 noOwnUnsafe
theorem tie3 : Tryd.prog.laidByTextLater [("pledge/step.words", Rows.laid_pledge_step_words)] [.data] true :=
  Program.laidByTextLater.sub seatTie1 ["pledge/step.words"] (by kernel_rfl) (by kernel_rfl)
theorem progBytes_row_tie : Rows.progBytesRow.laidByTextAt .later Tryd.pinned [.data] true :=
  OpenClaim.laidByTextAt_later rfl rfl tie3 noOwnUnsafe
theorem recBackUpto_row_tie : Rows.recBackUptoRow.laidByTextAt .later Tryd.pinned [.data, .data, .data] true :=
  OpenClaim.laidByTextAt_later rfl rfl tie noOwnUnsafe
theorem recSameUpto_row_tie : Rows.recSameUptoRow.laidByTextAt .later Tryd.pinned [.data, .data] true :=
  OpenClaim.laidByTextAt_later rfl rfl tie2 noOwnUnsafe
theorem progBytesUpto_row_tie : Rows.progBytesUptoRow.laidByTextAt .later Tryd.pinned [.data] true :=
  OpenClaim.laidByTextAt_later rfl rfl tie3 noOwnUnsafe
end Go.Proofs.YtdcanppiiikjgaaDoor
