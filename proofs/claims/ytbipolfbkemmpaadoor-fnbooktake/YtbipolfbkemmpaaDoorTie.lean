/-
  DERIVED. GIVEN WITH THE SEED: THE PROGRAM's TIES (one call each: nine closed facts by the kernel) AND EACH ROW's TIE, after the 31st guide's Derived/Test/Toyas{Tie, Card}.lean. No idea stands in it: it is a product of the set-up. Laid BY PROGRAM, IN A SANDBOX (cutbox-door.mjs). By AI agents, Wed Nov 11 2026. No macro, syntax, notation, axiom, sorry.
-/
import Derived.Test.YtbipolfbkemmpaaDoorRows
import Derived.LaidByTextLater
import Derived.SevenTiedAt
import Derived.LaidSub
import Derived.LaidOnce
namespace Go.Proofs.YtbipolfbkemmpaaDoor
open Go
set_option maxRecDepth 100000
theorem seatTie1 : Tryd.prog.laidByTextLater [("loop.example/hostel/impl.errBookSize", Rows.laid_loop_example_hostel_impl_errBookSize), ("loop.example/hostel/impl.errBookFull", Rows.laid_loop_example_hostel_impl_errBookFull), ("loop.example/hostel/impl.errBookWhere", Rows.laid_loop_example_hostel_impl_errBookWhere), ("loop.example/hostel/impl.errBookWhose", Rows.laid_loop_example_hostel_impl_errBookWhose), ("loop.example/hostel/impl.errBookWhom", Rows.laid_loop_example_hostel_impl_errBookWhom), ("loop.example/hostel/impl.errBookTaken", Rows.laid_loop_example_hostel_impl_errBookTaken), ("loop.example/hostel/impl.errBookKeeps", Rows.laid_loop_example_hostel_impl_errBookKeeps), ("loop.example/hostel/impl.errBookLives", Rows.laid_loop_example_hostel_impl_errBookLives), ("loop.example/hostel/impl.errBookNobody", Rows.laid_loop_example_hostel_impl_errBookNobody), ("loop.example/hostel/impl.errBookMore", Rows.laid_loop_example_hostel_impl_errBookMore), ("loop.example/hostel/impl.errBookWorn", Rows.laid_loop_example_hostel_impl_errBookWorn), ("loop.example/hostel/impl.errBookNone", Rows.laid_loop_example_hostel_impl_errBookNone)] [.sentinel, .sentinel, .sentinel, .sentinel, .sentinel, .sentinel, .sentinel, .sentinel, .sentinel, .sentinel, .sentinel, .sentinel] true :=
  Program.laidByTextLater_by_one 237 8 2 (by kernel_rfl) (by kernel_rfl) (by kernel_rfl) (by kernel_rfl) (by kernel_rfl) (by kernel_rfl) (fun _ _ => by kernel_rfl)
theorem noOwnUnsafe : Tryd.pinned.checked.prog.headLifts.contains "ownunsafe" = false := by kernel_rfl
theorem tie : Tryd.prog.laidByTextLater [("loop.example/hostel/impl.errBookSize", Rows.laid_loop_example_hostel_impl_errBookSize), ("loop.example/hostel/impl.errBookFull", Rows.laid_loop_example_hostel_impl_errBookFull), ("loop.example/hostel/impl.errBookWhere", Rows.laid_loop_example_hostel_impl_errBookWhere), ("loop.example/hostel/impl.errBookWhose", Rows.laid_loop_example_hostel_impl_errBookWhose), ("loop.example/hostel/impl.errBookWhom", Rows.laid_loop_example_hostel_impl_errBookWhom), ("loop.example/hostel/impl.errBookTaken", Rows.laid_loop_example_hostel_impl_errBookTaken), ("loop.example/hostel/impl.errBookKeeps", Rows.laid_loop_example_hostel_impl_errBookKeeps), ("loop.example/hostel/impl.errBookLives", Rows.laid_loop_example_hostel_impl_errBookLives), ("loop.example/hostel/impl.errBookNobody", Rows.laid_loop_example_hostel_impl_errBookNobody), ("loop.example/hostel/impl.errBookMore", Rows.laid_loop_example_hostel_impl_errBookMore), ("loop.example/hostel/impl.errBookWorn", Rows.laid_loop_example_hostel_impl_errBookWorn), ("loop.example/hostel/impl.errBookNone", Rows.laid_loop_example_hostel_impl_errBookNone)] [.sentinel, .sentinel, .sentinel, .sentinel, .sentinel, .sentinel, .sentinel, .sentinel, .sentinel, .sentinel, .sentinel, .sentinel] true :=
  Program.laidByTextLater.sub seatTie1 ["loop.example/hostel/impl.errBookSize", "loop.example/hostel/impl.errBookFull", "loop.example/hostel/impl.errBookWhere", "loop.example/hostel/impl.errBookWhose", "loop.example/hostel/impl.errBookWhom", "loop.example/hostel/impl.errBookTaken", "loop.example/hostel/impl.errBookKeeps", "loop.example/hostel/impl.errBookLives", "loop.example/hostel/impl.errBookNobody", "loop.example/hostel/impl.errBookMore", "loop.example/hostel/impl.errBookWorn", "loop.example/hostel/impl.errBookNone"] (by kernel_rfl) (by kernel_rfl)
theorem fnBookOk_row_tie : Rows.fnBookOkRow.laidByTextAt .later Tryd.pinned [.sentinel, .sentinel, .sentinel, .sentinel, .sentinel, .sentinel, .sentinel, .sentinel, .sentinel, .sentinel, .sentinel, .sentinel] true :=
  OpenClaim.laidByTextAt_later rfl rfl tie noOwnUnsafe
theorem fnBookTake_row_tie : Rows.fnBookTakeRow.laidByTextAt .later Tryd.pinned [.sentinel, .sentinel, .sentinel, .sentinel, .sentinel, .sentinel, .sentinel, .sentinel, .sentinel, .sentinel, .sentinel, .sentinel] true :=
  OpenClaim.laidByTextAt_later rfl rfl tie noOwnUnsafe
theorem fnBookReap_row_tie : Rows.fnBookReapRow.laidByTextAt .later Tryd.pinned [.sentinel, .sentinel, .sentinel, .sentinel, .sentinel, .sentinel, .sentinel, .sentinel, .sentinel, .sentinel, .sentinel, .sentinel] true :=
  OpenClaim.laidByTextAt_later rfl rfl tie noOwnUnsafe
theorem fnBookFull_row_tie : Rows.fnBookFullRow.laidByTextAt .later Tryd.pinned [.sentinel, .sentinel, .sentinel, .sentinel, .sentinel, .sentinel, .sentinel, .sentinel, .sentinel, .sentinel, .sentinel, .sentinel] true :=
  OpenClaim.laidByTextAt_later rfl rfl tie noOwnUnsafe
theorem fnBookHand_row_tie : Rows.fnBookHandRow.laidByTextAt .later Tryd.pinned [.sentinel, .sentinel, .sentinel, .sentinel, .sentinel, .sentinel, .sentinel, .sentinel, .sentinel, .sentinel, .sentinel, .sentinel] true :=
  OpenClaim.laidByTextAt_later rfl rfl tie noOwnUnsafe
theorem fnBookCut_row_tie : Rows.fnBookCutRow.laidByTextAt .later Tryd.pinned [.sentinel, .sentinel, .sentinel, .sentinel, .sentinel, .sentinel, .sentinel, .sentinel, .sentinel, .sentinel, .sentinel, .sentinel] true :=
  OpenClaim.laidByTextAt_later rfl rfl tie noOwnUnsafe
theorem fnBookLast_row_tie : Rows.fnBookLastRow.laidByTextAt .later Tryd.pinned [.sentinel, .sentinel, .sentinel, .sentinel, .sentinel, .sentinel, .sentinel, .sentinel, .sentinel, .sentinel, .sentinel, .sentinel] true :=
  OpenClaim.laidByTextAt_later rfl rfl tie noOwnUnsafe
theorem fnBookOkUpto_row_tie : Rows.fnBookOkUptoRow.laidByTextAt .later Tryd.pinned [.sentinel, .sentinel, .sentinel, .sentinel, .sentinel, .sentinel, .sentinel, .sentinel, .sentinel, .sentinel, .sentinel, .sentinel] true :=
  OpenClaim.laidByTextAt_later rfl rfl tie noOwnUnsafe
theorem fnBookTakeUpto_row_tie : Rows.fnBookTakeUptoRow.laidByTextAt .later Tryd.pinned [.sentinel, .sentinel, .sentinel, .sentinel, .sentinel, .sentinel, .sentinel, .sentinel, .sentinel, .sentinel, .sentinel, .sentinel] true :=
  OpenClaim.laidByTextAt_later rfl rfl tie noOwnUnsafe
theorem fnBookReapUpto_row_tie : Rows.fnBookReapUptoRow.laidByTextAt .later Tryd.pinned [.sentinel, .sentinel, .sentinel, .sentinel, .sentinel, .sentinel, .sentinel, .sentinel, .sentinel, .sentinel, .sentinel, .sentinel] true :=
  OpenClaim.laidByTextAt_later rfl rfl tie noOwnUnsafe
theorem fnBookFullUpto_row_tie : Rows.fnBookFullUptoRow.laidByTextAt .later Tryd.pinned [.sentinel, .sentinel, .sentinel, .sentinel, .sentinel, .sentinel, .sentinel, .sentinel, .sentinel, .sentinel, .sentinel, .sentinel] true :=
  OpenClaim.laidByTextAt_later rfl rfl tie noOwnUnsafe
theorem fnBookHandUpto_row_tie : Rows.fnBookHandUptoRow.laidByTextAt .later Tryd.pinned [.sentinel, .sentinel, .sentinel, .sentinel, .sentinel, .sentinel, .sentinel, .sentinel, .sentinel, .sentinel, .sentinel, .sentinel] true :=
  OpenClaim.laidByTextAt_later rfl rfl tie noOwnUnsafe
theorem fnBookCutUpto_row_tie : Rows.fnBookCutUptoRow.laidByTextAt .later Tryd.pinned [.sentinel, .sentinel, .sentinel, .sentinel, .sentinel, .sentinel, .sentinel, .sentinel, .sentinel, .sentinel, .sentinel, .sentinel] true :=
  OpenClaim.laidByTextAt_later rfl rfl tie noOwnUnsafe
theorem fnBookLastUpto_row_tie : Rows.fnBookLastUptoRow.laidByTextAt .later Tryd.pinned [.sentinel, .sentinel, .sentinel, .sentinel, .sentinel, .sentinel, .sentinel, .sentinel, .sentinel, .sentinel, .sentinel, .sentinel] true :=
  OpenClaim.laidByTextAt_later rfl rfl tie noOwnUnsafe
end Go.Proofs.YtbipolfbkemmpaaDoor
