/-
  No cell of these rows narrows 'for every input' (looked for: loops, veiled, ifaces, maps, wideKeys, modest, calm, conditions, laid).
  DERIVED. THE GIVEN ROWS OF THIS SEAT. 4 by the template 'for every input the law returns true; each argument reads behind the call as it read before'; 0 by the template 'total and deterministic' (their statements: YtnbonlkmadmpcaaTotals.lean).
  GIVEN WITH THE SEED: the statements are not yours to turn. If you find one false, say at which input.
  Laid BY PROGRAM, IN A SANDBOX (cutbox-rows.mjs): the forced cells as the released guide's own fill.sh prints them over the translation c806640d4edbf073… (all of the seat's roots in one cut). By AI agents, Wed Nov 11 2026. No macro, syntax, notation, axiom, sorry.
-/
import Derived.Test.YtnbonlkmadmpcaaChecked
import GoSem.Claim
import GoSem.ClaimJoined
import GoSem.ClaimMapViews
import Derived.JoinedTies
import Derived.KernelRfl
namespace Go.Proofs.Ytnbonlkmadmpcaa
/- THE CELL 'sum', in the pinned program and in every row, IS THE sha256 OF THE DUMP (.gsa) THAT YtnbonlkmadmpcaaProg.lean LOADS. Nothing in Lean hashes anything: it is a label: what it is worth is what the hold of that sum in a sandbox is worth. -/
noncomputable def Try.pinned : Pinned := { name := "ytnbonlkmadmpcaa", sum := "c806640d4edbf073bb0566f90b188af6144d7610f2dc9b1603306adcc3f97d09", checked := Try.checked }
namespace Rows
def none {H : Type} : Left H := { results := [], args := [] }

/-- 'wayfarerlaw15.GridTurns': WHATEVER THE INPUT: true; the input reads as it did. -/
def gridTurnsSpec : ChangeSpec := { name := "gridTurns", fn := fun _ => fun
  | [d1, d2, d3] => { results := [.lit (.bool true)], args := [d1, d2, d3] }
  | _ => none }
def gridTurnsRow : OpenClaim := { program := "ytnbonlkmadmpcaa", sum := "c806640d4edbf073bb0566f90b188af6144d7610f2dc9b1603306adcc3f97d09", func := "wayfarer/wayfarerlaw15.GridTurns", spec := "gridTurns", unfollowed := true, recurses := true, apart := false }
def GridTurnsSaid : Prop := gridTurnsRow.holds Try.pinned (OpenSpec.ofChange gridTurnsSpec)

/-- ITS FALSE NEIGHBOUR: 'it returns false'. Refute it at one input. -/
def gridTurnsWrong : ChangeSpec := { name := "gridTurns", fn := fun _ => fun
  | [d1, d2, d3] => { results := [.lit (.bool false)], args := [d1, d2, d3] }
  | _ => none }
def GridTurnsWrongFalsely : Prop := gridTurnsRow.holds Try.pinned (OpenSpec.ofChange gridTurnsWrong)

/-- 'wayfarerlaw15.GridStays': WHATEVER THE INPUT: true; the input reads as it did. -/
def gridStaysSpec : ChangeSpec := { name := "gridStays", fn := fun _ => fun
  | [d1, d2] => { results := [.lit (.bool true)], args := [d1, d2] }
  | _ => none }
def gridStaysRow : OpenClaim := { program := "ytnbonlkmadmpcaa", sum := "c806640d4edbf073bb0566f90b188af6144d7610f2dc9b1603306adcc3f97d09", func := "wayfarer/wayfarerlaw15.GridStays", spec := "gridStays", unfollowed := true, recurses := true, apart := false }
def GridStaysSaid : Prop := gridStaysRow.holds Try.pinned (OpenSpec.ofChange gridStaysSpec)

/-- ITS FALSE NEIGHBOUR: 'it returns false'. Refute it at one input. -/
def gridStaysWrong : ChangeSpec := { name := "gridStays", fn := fun _ => fun
  | [d1, d2] => { results := [.lit (.bool false)], args := [d1, d2] }
  | _ => none }
def GridStaysWrongFalsely : Prop := gridStaysRow.holds Try.pinned (OpenSpec.ofChange gridStaysWrong)

/-- 'wayfarerlaw15.GridBack': WHATEVER THE INPUT: true; the input reads as it did. -/
def gridBackSpec : ChangeSpec := { name := "gridBack", fn := fun _ => fun
  | [d1, d2] => { results := [.lit (.bool true)], args := [d1, d2] }
  | _ => none }
def gridBackRow : OpenClaim := { program := "ytnbonlkmadmpcaa", sum := "c806640d4edbf073bb0566f90b188af6144d7610f2dc9b1603306adcc3f97d09", func := "wayfarer/wayfarerlaw15.GridBack", spec := "gridBack", unfollowed := true, recurses := true, apart := false }
def GridBackSaid : Prop := gridBackRow.holds Try.pinned (OpenSpec.ofChange gridBackSpec)

/-- ITS FALSE NEIGHBOUR: 'it returns false'. Refute it at one input. -/
def gridBackWrong : ChangeSpec := { name := "gridBack", fn := fun _ => fun
  | [d1, d2] => { results := [.lit (.bool false)], args := [d1, d2] }
  | _ => none }
def GridBackWrongFalsely : Prop := gridBackRow.holds Try.pinned (OpenSpec.ofChange gridBackWrong)

/-- 'wayfarerlaw15.GridFresh': WHATEVER THE INPUT: true; the input reads as it did. -/
def gridFreshSpec : ChangeSpec := { name := "gridFresh", fn := fun _ => fun
  | [d1, d2] => { results := [.lit (.bool true)], args := [d1, d2] }
  | _ => none }
def gridFreshRow : OpenClaim := { program := "ytnbonlkmadmpcaa", sum := "c806640d4edbf073bb0566f90b188af6144d7610f2dc9b1603306adcc3f97d09", func := "wayfarer/wayfarerlaw15.GridFresh", spec := "gridFresh", unfollowed := true, recurses := true, apart := false }
def GridFreshSaid : Prop := gridFreshRow.holds Try.pinned (OpenSpec.ofChange gridFreshSpec)

/-- ITS FALSE NEIGHBOUR: 'it returns false'. Refute it at one input. -/
def gridFreshWrong : ChangeSpec := { name := "gridFresh", fn := fun _ => fun
  | [d1, d2] => { results := [.lit (.bool false)], args := [d1, d2] }
  | _ => none }
def GridFreshWrongFalsely : Prop := gridFreshRow.holds Try.pinned (OpenSpec.ofChange gridFreshWrong)

/- THE SECOND FORM. 'bulk': how many values and letters a reading holds, each counted each time it is reached (what is shared counts as often as it is met; a slice's spare places count too). A statement '..UptoSaid' is the law's where the arguments, and the package variables that the reading takes, are together of bulk at most 1048576: NARROWER than '..Said'. Prove '..Said' where nothing that the law and all that it calls make is longer than what came in: it says more and counts as full. Else prove '..UptoSaid'. A law counts once. -/
mutual
def uptoBulk {H : Type} : DataW H → Nat
  | .lit (.string bytes) => bytes.length + 1
  | .lit _ => 1
  | .nil => 1
  | .ptr d => uptoBulk d + 1
  | .slice elems spare => uptoBulkAll elems + uptoBulkAll spare + 1
  | .agg parts => uptoBulkAll parts + 1
  | .iface _ d => uptoBulk d + 1
  | .map entries => uptoBulkEntries entries + 1
  | .held _ => 1
def uptoBulkAll {H : Type} : List (DataW H) → Nat
  | [] => 0
  | d :: r => uptoBulk d + uptoBulkAll r
def uptoBulkEntries {H : Type} : List (Lit × DataW H) → Nat
  | [] => 0
  | x :: r => uptoBulkEntry x + uptoBulkEntries r
def uptoBulkEntry {H : Type} : Lit × DataW H → Nat
  | (.string bytes, d) => bytes.length + uptoBulk d + 1
  | (_, d) => uptoBulk d + 1
 end
def uptoSmall : (H : Type) → List (DataW H) → Bool := fun _ ds => decide (uptoBulkAll ds ≤ 1048576)
def OpenSpec.upto (s : _root_.Go.ChangeSpec) : _root_.Go.OpenSpec := { _root_.Go.OpenSpec.ofChange s with cond := some uptoSmall }

/-- 'wayfarerlaw15.GridTurns', WHERE WHAT IT READS IS OF BULK AT MOST 1048576: true; the input reads as it did. -/
def gridTurnsUptoRow : OpenClaim := { program := "ytnbonlkmadmpcaa", sum := "c806640d4edbf073bb0566f90b188af6144d7610f2dc9b1603306adcc3f97d09", func := "wayfarer/wayfarerlaw15.GridTurns", spec := "gridTurns", unfollowed := true, recurses := true, apart := false, narrowed := true }
def GridTurnsUptoSaid : Prop := gridTurnsUptoRow.holds Try.pinned (OpenSpec.upto gridTurnsSpec)

/-- 'wayfarerlaw15.GridStays', WHERE WHAT IT READS IS OF BULK AT MOST 1048576: true; the input reads as it did. -/
def gridStaysUptoRow : OpenClaim := { program := "ytnbonlkmadmpcaa", sum := "c806640d4edbf073bb0566f90b188af6144d7610f2dc9b1603306adcc3f97d09", func := "wayfarer/wayfarerlaw15.GridStays", spec := "gridStays", unfollowed := true, recurses := true, apart := false, narrowed := true }
def GridStaysUptoSaid : Prop := gridStaysUptoRow.holds Try.pinned (OpenSpec.upto gridStaysSpec)

/-- 'wayfarerlaw15.GridBack', WHERE WHAT IT READS IS OF BULK AT MOST 1048576: true; the input reads as it did. -/
def gridBackUptoRow : OpenClaim := { program := "ytnbonlkmadmpcaa", sum := "c806640d4edbf073bb0566f90b188af6144d7610f2dc9b1603306adcc3f97d09", func := "wayfarer/wayfarerlaw15.GridBack", spec := "gridBack", unfollowed := true, recurses := true, apart := false, narrowed := true }
def GridBackUptoSaid : Prop := gridBackUptoRow.holds Try.pinned (OpenSpec.upto gridBackSpec)

/-- 'wayfarerlaw15.GridFresh', WHERE WHAT IT READS IS OF BULK AT MOST 1048576: true; the input reads as it did. -/
def gridFreshUptoRow : OpenClaim := { program := "ytnbonlkmadmpcaa", sum := "c806640d4edbf073bb0566f90b188af6144d7610f2dc9b1603306adcc3f97d09", func := "wayfarer/wayfarerlaw15.GridFresh", spec := "gridFresh", unfollowed := true, recurses := true, apart := false, narrowed := true }
def GridFreshUptoSaid : Prop := gridFreshUptoRow.holds Try.pinned (OpenSpec.upto gridFreshSpec)

end Rows
end Go.Proofs.Ytnbonlkmadmpcaa
