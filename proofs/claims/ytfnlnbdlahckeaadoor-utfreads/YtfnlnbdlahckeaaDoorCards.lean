/-
  DERIVED. GIVEN WITH THE SEED: THE CARDS: each row of YtfnlnbdlahckeaaDoorRows.lean that lists a variable, with what it lists TIED to the program's text (the seventh form; the later family's looks); each row that meets fmt, with fmt's text TOLD by the authors' own Lean function (tested against real Go, not proved from fmt's source: count such statements apart). THE CARD IS WHAT COUNTS. Prove the row's statement (the work); the ties are given (YtfnlnbdlahckeaaDoorTie.lean); close each card by the builder's one call (the guide's Derived/Test/ToyasCard.lean, 'card_holds'). Laid BY PROGRAM, IN A SANDBOX (cutbox-door.mjs). By AI agents, Wed Nov 11 2026. No macro, syntax, notation, axiom, sorry.
-/
import Derived.Test.YtfnlnbdlahckeaaDoorRows
import GoSem.ClaimSeven
namespace Go.Proofs.YtfnlnbdlahckeaaDoor
namespace Rows

/-- THE TIED CARD OF 'wayfarerlaw11.UtfDecodes'. -/
def utfDecodesCard : Claim7 := { stood := { row := utfDecodesRow, standIns := [], harness := (true, "aea45fc66f6715f62a7e44a75ef5cc2c58ca271749ba2f52c31ed682b6c34a00"), looks := false }, kinds := [], alts := [], laidByText := true, laidKinds := [.data], laidTests := true, laidLooks := .later }
def UtfDecodesCardSaid : Prop := Claim7.holds Tryd.pinned (.plain (OpenSpec.ofChange utfDecodesSpec)) utfDecodesCard

/-- THE TIED CARD OF 'wayfarerlaw11.UtfReads'. -/
def utfReadsCard : Claim7 := { stood := { row := utfReadsRow, standIns := [], harness := (true, "aea45fc66f6715f62a7e44a75ef5cc2c58ca271749ba2f52c31ed682b6c34a00"), looks := false }, kinds := [], alts := [], laidByText := true, laidKinds := [.data], laidTests := true, laidLooks := .later }
def UtfReadsCardSaid : Prop := Claim7.holds Tryd.pinned (.plain (OpenSpec.ofChange utfReadsSpec)) utfReadsCard

/-- THE TIED CARD OF 'wayfarerlaw11.UtfBack'. -/
def utfBackCard : Claim7 := { stood := { row := utfBackRow, standIns := [], harness := (true, "aea45fc66f6715f62a7e44a75ef5cc2c58ca271749ba2f52c31ed682b6c34a00"), looks := false }, kinds := [], alts := [], laidByText := true, laidKinds := [.data], laidTests := true, laidLooks := .later }
def UtfBackCardSaid : Prop := Claim7.holds Tryd.pinned (.plain (OpenSpec.ofChange utfBackSpec)) utfBackCard

/-- THE TIED CARD OF 'wayfarerlaw11.UtfNil'. -/
def utfNilCard : Claim7 := { stood := { row := utfNilRow, standIns := [], harness := (true, "aea45fc66f6715f62a7e44a75ef5cc2c58ca271749ba2f52c31ed682b6c34a00"), looks := false }, kinds := [], alts := [], laidByText := true, laidKinds := [.data], laidTests := true, laidLooks := .later }
def UtfNilCardSaid : Prop := Claim7.holds Tryd.pinned (.plain (OpenSpec.ofChange utfNilSpec)) utfNilCard

/-- THE SECOND FORM's CARD OF 'wayfarerlaw11.UtfDecodes'. -/
def utfDecodesUptoCard : Claim7 := { stood := { row := utfDecodesUptoRow, standIns := [], harness := (true, "aea45fc66f6715f62a7e44a75ef5cc2c58ca271749ba2f52c31ed682b6c34a00"), looks := false }, kinds := [], alts := [], laidByText := true, laidKinds := [.data], laidTests := true, laidLooks := .later }
def UtfDecodesUptoCardSaid : Prop := Claim7.holds Tryd.pinned (.plain (OpenSpec.upto utfDecodesSpec)) utfDecodesUptoCard

/-- THE SECOND FORM's CARD OF 'wayfarerlaw11.UtfReads'. -/
def utfReadsUptoCard : Claim7 := { stood := { row := utfReadsUptoRow, standIns := [], harness := (true, "aea45fc66f6715f62a7e44a75ef5cc2c58ca271749ba2f52c31ed682b6c34a00"), looks := false }, kinds := [], alts := [], laidByText := true, laidKinds := [.data], laidTests := true, laidLooks := .later }
def UtfReadsUptoCardSaid : Prop := Claim7.holds Tryd.pinned (.plain (OpenSpec.upto utfReadsSpec)) utfReadsUptoCard

/-- THE SECOND FORM's CARD OF 'wayfarerlaw11.UtfBack'. -/
def utfBackUptoCard : Claim7 := { stood := { row := utfBackUptoRow, standIns := [], harness := (true, "aea45fc66f6715f62a7e44a75ef5cc2c58ca271749ba2f52c31ed682b6c34a00"), looks := false }, kinds := [], alts := [], laidByText := true, laidKinds := [.data], laidTests := true, laidLooks := .later }
def UtfBackUptoCardSaid : Prop := Claim7.holds Tryd.pinned (.plain (OpenSpec.upto utfBackSpec)) utfBackUptoCard

/-- THE SECOND FORM's CARD OF 'wayfarerlaw11.UtfNil'. -/
def utfNilUptoCard : Claim7 := { stood := { row := utfNilUptoRow, standIns := [], harness := (true, "aea45fc66f6715f62a7e44a75ef5cc2c58ca271749ba2f52c31ed682b6c34a00"), looks := false }, kinds := [], alts := [], laidByText := true, laidKinds := [.data], laidTests := true, laidLooks := .later }
def UtfNilUptoCardSaid : Prop := Claim7.holds Tryd.pinned (.plain (OpenSpec.upto utfNilSpec)) utfNilUptoCard
end Rows
end Go.Proofs.YtfnlnbdlahckeaaDoor
