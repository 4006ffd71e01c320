/-
  DERIVED. GIVEN WITH THE SEED: THE CARDS: each row of YtgbopnlpaabelaaGreatDoorRows.lean that lists a variable, with what it lists TIED to the program's text (the seventh form; the later family's looks); each row that meets fmt, with fmt's text TOLD by the authors' own Lean function (tested against real Go, not proved from fmt's source: count such statements apart). THE CARD IS WHAT COUNTS. Prove the row's statement (the work); the ties are given (YtgbopnlpaabelaaGreatDoorTie.lean); close each card by the builder's one call (the guide's Derived/Test/ToyasCard.lean, 'card_holds'). Laid BY PROGRAM, IN A SANDBOX (cutbox-door.mjs). By AI agents, Wed Nov 11 2026. No macro, syntax, notation, axiom, sorry.
-/
import Derived.Test.YtgbopnlpaabelaaGreatDoorRows
import GoSem.ClaimSeven
namespace Go.Proofs.YtgbopnlpaabelaaGreatDoor
namespace Rows

/-- THE TIED CARD OF 'tributarylaw08.UpdateChanges'. -/
def updateChangesCard : Claim7 := { stood := { row := updateChangesRow, standIns := [], harness := (true, "461238a6d337b152664bba7a66677943a3975b391c21186ca410849add53eb07"), looks := false }, kinds := [], alts := [], laidByText := true, laidKinds := [.data, .data, .data], laidTests := true, laidLooks := .later }
def UpdateChangesCardSaid : Prop := Claim7.holds Tryz.pinned (.plain (OpenSpec.ofChange updateChangesSpec)) updateChangesCard

/-- THE TIED CARD OF 'tributarylaw08.UpdateApplies'. -/
def updateAppliesCard : Claim7 := { stood := { row := updateAppliesRow, standIns := [], harness := (true, "461238a6d337b152664bba7a66677943a3975b391c21186ca410849add53eb07"), looks := false }, kinds := [], alts := [], laidByText := true, laidKinds := [.data, .data, .data], laidTests := true, laidLooks := .later }
def UpdateAppliesCardSaid : Prop := Claim7.holds Tryz.pinned (.plain (OpenSpec.ofChange updateAppliesSpec)) updateAppliesCard

/-- THE TIED CARD OF 'tributarylaw08.UpdateTwice'. -/
def updateTwiceCard : Claim7 := { stood := { row := updateTwiceRow, standIns := [], harness := (true, "461238a6d337b152664bba7a66677943a3975b391c21186ca410849add53eb07"), looks := false }, kinds := [], alts := [], laidByText := true, laidKinds := [.data, .data, .data], laidTests := true, laidLooks := .later }
def UpdateTwiceCardSaid : Prop := Claim7.holds Tryz.pinned (.plain (OpenSpec.ofChange updateTwiceSpec)) updateTwiceCard

/-- THE TIED CARD OF 'tributarylaw08.UpdateUpserts'. -/
def updateUpsertsCard : Claim7 := { stood := { row := updateUpsertsRow, standIns := [], harness := (true, "461238a6d337b152664bba7a66677943a3975b391c21186ca410849add53eb07"), looks := false }, kinds := [], alts := [], laidByText := true, laidKinds := [.data, .data, .data], laidTests := true, laidLooks := .later }
def UpdateUpsertsCardSaid : Prop := Claim7.holds Tryz.pinned (.plain (OpenSpec.ofChange updateUpsertsSpec)) updateUpsertsCard

/-- THE TIED CARD OF 'tributarylaw08.UpdateReplaces'. -/
def updateReplacesCard : Claim7 := { stood := { row := updateReplacesRow, standIns := [], harness := (true, "461238a6d337b152664bba7a66677943a3975b391c21186ca410849add53eb07"), looks := false }, kinds := [], alts := [], laidByText := true, laidKinds := [.data, .data, .data], laidTests := true, laidLooks := .later }
def UpdateReplacesCardSaid : Prop := Claim7.holds Tryz.pinned (.plain (OpenSpec.ofChange updateReplacesSpec)) updateReplacesCard

/-- THE TIED CARD OF 'tributarylaw08.UpdateOrders'. -/
def updateOrdersCard : Claim7 := { stood := { row := updateOrdersRow, standIns := [], harness := (true, "461238a6d337b152664bba7a66677943a3975b391c21186ca410849add53eb07"), looks := false }, kinds := [], alts := [], laidByText := true, laidKinds := [.data, .data, .data], laidTests := true, laidLooks := .later }
def UpdateOrdersCardSaid : Prop := Claim7.holds Tryz.pinned (.plain (OpenSpec.ofChange updateOrdersSpec)) updateOrdersCard

/-- THE SECOND FORM's CARD OF 'tributarylaw08.UpdateChanges'. -/
def updateChangesUptoCard : Claim7 := { stood := { row := updateChangesUptoRow, standIns := [], harness := (true, "461238a6d337b152664bba7a66677943a3975b391c21186ca410849add53eb07"), looks := false }, kinds := [], alts := [], laidByText := true, laidKinds := [.data, .data, .data], laidTests := true, laidLooks := .later }
def UpdateChangesUptoCardSaid : Prop := Claim7.holds Tryz.pinned (.plain (OpenSpec.upto updateChangesSpec)) updateChangesUptoCard

/-- THE SECOND FORM's CARD OF 'tributarylaw08.UpdateApplies'. -/
def updateAppliesUptoCard : Claim7 := { stood := { row := updateAppliesUptoRow, standIns := [], harness := (true, "461238a6d337b152664bba7a66677943a3975b391c21186ca410849add53eb07"), looks := false }, kinds := [], alts := [], laidByText := true, laidKinds := [.data, .data, .data], laidTests := true, laidLooks := .later }
def UpdateAppliesUptoCardSaid : Prop := Claim7.holds Tryz.pinned (.plain (OpenSpec.upto updateAppliesSpec)) updateAppliesUptoCard

/-- THE SECOND FORM's CARD OF 'tributarylaw08.UpdateTwice'. -/
def updateTwiceUptoCard : Claim7 := { stood := { row := updateTwiceUptoRow, standIns := [], harness := (true, "461238a6d337b152664bba7a66677943a3975b391c21186ca410849add53eb07"), looks := false }, kinds := [], alts := [], laidByText := true, laidKinds := [.data, .data, .data], laidTests := true, laidLooks := .later }
def UpdateTwiceUptoCardSaid : Prop := Claim7.holds Tryz.pinned (.plain (OpenSpec.upto updateTwiceSpec)) updateTwiceUptoCard

/-- THE SECOND FORM's CARD OF 'tributarylaw08.UpdateUpserts'. -/
def updateUpsertsUptoCard : Claim7 := { stood := { row := updateUpsertsUptoRow, standIns := [], harness := (true, "461238a6d337b152664bba7a66677943a3975b391c21186ca410849add53eb07"), looks := false }, kinds := [], alts := [], laidByText := true, laidKinds := [.data, .data, .data], laidTests := true, laidLooks := .later }
def UpdateUpsertsUptoCardSaid : Prop := Claim7.holds Tryz.pinned (.plain (OpenSpec.upto updateUpsertsSpec)) updateUpsertsUptoCard

/-- THE SECOND FORM's CARD OF 'tributarylaw08.UpdateReplaces'. -/
def updateReplacesUptoCard : Claim7 := { stood := { row := updateReplacesUptoRow, standIns := [], harness := (true, "461238a6d337b152664bba7a66677943a3975b391c21186ca410849add53eb07"), looks := false }, kinds := [], alts := [], laidByText := true, laidKinds := [.data, .data, .data], laidTests := true, laidLooks := .later }
def UpdateReplacesUptoCardSaid : Prop := Claim7.holds Tryz.pinned (.plain (OpenSpec.upto updateReplacesSpec)) updateReplacesUptoCard

/-- THE SECOND FORM's CARD OF 'tributarylaw08.UpdateOrders'. -/
def updateOrdersUptoCard : Claim7 := { stood := { row := updateOrdersUptoRow, standIns := [], harness := (true, "461238a6d337b152664bba7a66677943a3975b391c21186ca410849add53eb07"), looks := false }, kinds := [], alts := [], laidByText := true, laidKinds := [.data, .data, .data], laidTests := true, laidLooks := .later }
def UpdateOrdersUptoCardSaid : Prop := Claim7.holds Tryz.pinned (.plain (OpenSpec.upto updateOrdersSpec)) updateOrdersUptoCard
end Rows
end Go.Proofs.YtgbopnlpaabelaaGreatDoor
