/-
  DERIVED. GIVEN WITH THE SEED: THE CARDS: each row of YtmolhljgmaoflaaDoorRows.lean that lists a variable, with what it lists TIED to the program's text (the seventh form; the later family's looks); each row that meets fmt, with fmt's text TOLD by the authors' own Lean function (tested against real Go, not proved from fmt's source: count such statements apart). THE CARD IS WHAT COUNTS. Prove the row's statement (the work); the ties are given (YtmolhljgmaoflaaDoorTie.lean); close each card by the builder's one call (the guide's Derived/Test/ToyasCard.lean, 'card_holds'). Laid BY PROGRAM, IN A SANDBOX (cutbox-door.mjs). By AI agents, Wed Nov 11 2026. No macro, syntax, notation, axiom, sorry.
-/
import Derived.Test.YtmolhljgmaoflaaDoorRows
import GoSem.ClaimSeven
namespace Go.Proofs.YtmolhljgmaoflaaDoor
namespace Rows

/-- THE TIED CARD OF 'wayfarerlaw02.OcbSeals'. -/
def ocbSealsCard : Claim7 := { stood := { row := ocbSealsRow, standIns := [], harness := (true, "bf8f6b13663c60ecd0ef01cd8892b18e04991ec34398e0d90c90c19f2bc8a11c"), looks := false }, kinds := [], alts := [], laidByText := true, laidKinds := [.data, .data], laidTests := true, laidLooks := .later }
def OcbSealsCardSaid : Prop := Claim7.holds Tryd.pinned (.plain (OpenSpec.ofChange ocbSealsSpec)) ocbSealsCard

/-- THE TIED CARD OF 'wayfarerlaw02.OcbOpens'. -/
def ocbOpensCard : Claim7 := { stood := { row := ocbOpensRow, standIns := [], harness := (true, "bf8f6b13663c60ecd0ef01cd8892b18e04991ec34398e0d90c90c19f2bc8a11c"), looks := false }, kinds := [], alts := [], laidByText := true, laidKinds := [.data, .data], laidTests := true, laidLooks := .later }
def OcbOpensCardSaid : Prop := Claim7.holds Tryd.pinned (.plain (OpenSpec.ofChange ocbOpensSpec)) ocbOpensCard

/-- THE TIED CARD OF 'wayfarerlaw02.OcbBack'. -/
def ocbBackCard : Claim7 := { stood := { row := ocbBackRow, standIns := [], harness := (true, "bf8f6b13663c60ecd0ef01cd8892b18e04991ec34398e0d90c90c19f2bc8a11c"), looks := false }, kinds := [], alts := [], laidByText := true, laidKinds := [.data, .data], laidTests := true, laidLooks := .later }
def OcbBackCardSaid : Prop := Claim7.holds Tryd.pinned (.plain (OpenSpec.ofChange ocbBackSpec)) ocbBackCard

/-- THE TIED CARD OF 'wayfarerlaw02.OcbOne'. -/
def ocbOneCard : Claim7 := { stood := { row := ocbOneRow, standIns := [], harness := (true, "bf8f6b13663c60ecd0ef01cd8892b18e04991ec34398e0d90c90c19f2bc8a11c"), looks := false }, kinds := [], alts := [], laidByText := true, laidKinds := [.data, .data], laidTests := true, laidLooks := .later }
def OcbOneCardSaid : Prop := Claim7.holds Tryd.pinned (.plain (OpenSpec.ofChange ocbOneSpec)) ocbOneCard

/-- THE TIED CARD OF 'wayfarerlaw02.OcbFresh'. -/
def ocbFreshCard : Claim7 := { stood := { row := ocbFreshRow, standIns := [], harness := (true, "bf8f6b13663c60ecd0ef01cd8892b18e04991ec34398e0d90c90c19f2bc8a11c"), looks := false }, kinds := [], alts := [], laidByText := true, laidKinds := [.data, .data], laidTests := true, laidLooks := .later }
def OcbFreshCardSaid : Prop := Claim7.holds Tryd.pinned (.plain (OpenSpec.ofChange ocbFreshSpec)) ocbFreshCard

/-- THE SECOND FORM's CARD OF 'wayfarerlaw02.OcbSeals'. -/
def ocbSealsUptoCard : Claim7 := { stood := { row := ocbSealsUptoRow, standIns := [], harness := (true, "bf8f6b13663c60ecd0ef01cd8892b18e04991ec34398e0d90c90c19f2bc8a11c"), looks := false }, kinds := [], alts := [], laidByText := true, laidKinds := [.data, .data], laidTests := true, laidLooks := .later }
def OcbSealsUptoCardSaid : Prop := Claim7.holds Tryd.pinned (.plain (OpenSpec.upto ocbSealsSpec)) ocbSealsUptoCard

/-- THE SECOND FORM's CARD OF 'wayfarerlaw02.OcbOpens'. -/
def ocbOpensUptoCard : Claim7 := { stood := { row := ocbOpensUptoRow, standIns := [], harness := (true, "bf8f6b13663c60ecd0ef01cd8892b18e04991ec34398e0d90c90c19f2bc8a11c"), looks := false }, kinds := [], alts := [], laidByText := true, laidKinds := [.data, .data], laidTests := true, laidLooks := .later }
def OcbOpensUptoCardSaid : Prop := Claim7.holds Tryd.pinned (.plain (OpenSpec.upto ocbOpensSpec)) ocbOpensUptoCard

/-- THE SECOND FORM's CARD OF 'wayfarerlaw02.OcbBack'. -/
def ocbBackUptoCard : Claim7 := { stood := { row := ocbBackUptoRow, standIns := [], harness := (true, "bf8f6b13663c60ecd0ef01cd8892b18e04991ec34398e0d90c90c19f2bc8a11c"), looks := false }, kinds := [], alts := [], laidByText := true, laidKinds := [.data, .data], laidTests := true, laidLooks := .later }
def OcbBackUptoCardSaid : Prop := Claim7.holds Tryd.pinned (.plain (OpenSpec.upto ocbBackSpec)) ocbBackUptoCard

/-- THE SECOND FORM's CARD OF 'wayfarerlaw02.OcbOne'. -/
def ocbOneUptoCard : Claim7 := { stood := { row := ocbOneUptoRow, standIns := [], harness := (true, "bf8f6b13663c60ecd0ef01cd8892b18e04991ec34398e0d90c90c19f2bc8a11c"), looks := false }, kinds := [], alts := [], laidByText := true, laidKinds := [.data, .data], laidTests := true, laidLooks := .later }
def OcbOneUptoCardSaid : Prop := Claim7.holds Tryd.pinned (.plain (OpenSpec.upto ocbOneSpec)) ocbOneUptoCard

/-- THE SECOND FORM's CARD OF 'wayfarerlaw02.OcbFresh'. -/
def ocbFreshUptoCard : Claim7 := { stood := { row := ocbFreshUptoRow, standIns := [], harness := (true, "bf8f6b13663c60ecd0ef01cd8892b18e04991ec34398e0d90c90c19f2bc8a11c"), looks := false }, kinds := [], alts := [], laidByText := true, laidKinds := [.data, .data], laidTests := true, laidLooks := .later }
def OcbFreshUptoCardSaid : Prop := Claim7.holds Tryd.pinned (.plain (OpenSpec.upto ocbFreshSpec)) ocbFreshUptoCard
end Rows
end Go.Proofs.YtmolhljgmaoflaaDoor
