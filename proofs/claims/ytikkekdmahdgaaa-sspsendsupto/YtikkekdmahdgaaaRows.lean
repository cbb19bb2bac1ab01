/-
  No cell of these rows narrows 'for every input' (looked for: loops, veiled, ifaces, maps, wideKeys, modest, calm, conditions, laid).
  DERIVED. THE GIVEN ROWS OF THIS SEAT. 5 by the template 'for every input the law returns true; each argument reads behind the call as it read before'; 0 by the template 'total and deterministic' (their statements: YtikkekdmahdgaaaTotals.lean).
  GIVEN WITH THE SEED: the statements are not yours to turn. If you find one false, say at which input.
  Laid BY PROGRAM, IN A SANDBOX (cutbox-rows.mjs): the forced cells as the released guide's own fill.sh prints them over the translation 233c5d04ca38e2b7… (all of the seat's roots in one cut). By AI agents, Wed Nov 11 2026. No macro, syntax, notation, axiom, sorry.
-/
import Derived.Test.YtikkekdmahdgaaaChecked
import GoSem.Claim
import GoSem.ClaimJoined
import GoSem.ClaimMapViews
import Derived.JoinedTies
import Derived.KernelRfl
namespace Go.Proofs.Ytikkekdmahdgaaa
/- THE CELL 'sum', in the pinned program and in every row, IS THE sha256 OF THE DUMP (.gsa) THAT YtikkekdmahdgaaaProg.lean LOADS. Nothing in Lean hashes anything: it is a label: what it is worth is what the hold of that sum in a sandbox is worth. -/
noncomputable def Try.pinned : Pinned := { name := "ytikkekdmahdgaaa", sum := "233c5d04ca38e2b773bd485905af9316f92dd052630e4af4f71b74c8e0d66dde", checked := Try.checked }
namespace Rows
def none {H : Type} : Left H := { results := [], args := [] }

/-- 'wayfarerlaw23.SspSends': WHATEVER THE INPUT: true; the input reads as it did. -/
def sspSendsSpec : ChangeSpec := { name := "sspSends", fn := fun _ => fun
  | [d1, d2] => { results := [.lit (.bool true)], args := [d1, d2] }
  | _ => none }
def sspSendsRow : OpenClaim := { program := "ytikkekdmahdgaaa", sum := "233c5d04ca38e2b773bd485905af9316f92dd052630e4af4f71b74c8e0d66dde", func := "wayfarer/wayfarerlaw23.SspSends", spec := "sspSends", unfollowed := true, recurses := true, apart := false }
def SspSendsSaid : Prop := sspSendsRow.holds Try.pinned (OpenSpec.ofChange sspSendsSpec)

/-- ITS FALSE NEIGHBOUR: 'it returns false'. Refute it at one input. -/
def sspSendsWrong : ChangeSpec := { name := "sspSends", fn := fun _ => fun
  | [d1, d2] => { results := [.lit (.bool false)], args := [d1, d2] }
  | _ => none }
def SspSendsWrongFalsely : Prop := sspSendsRow.holds Try.pinned (OpenSpec.ofChange sspSendsWrong)

/-- 'wayfarerlaw23.SspTakes': WHATEVER THE INPUT: true; the input reads as it did. -/
def sspTakesSpec : ChangeSpec := { name := "sspTakes", fn := fun _ => fun
  | [d1, d2] => { results := [.lit (.bool true)], args := [d1, d2] }
  | _ => none }
def sspTakesRow : OpenClaim := { program := "ytikkekdmahdgaaa", sum := "233c5d04ca38e2b773bd485905af9316f92dd052630e4af4f71b74c8e0d66dde", func := "wayfarer/wayfarerlaw23.SspTakes", spec := "sspTakes", unfollowed := true, recurses := true, apart := false }
def SspTakesSaid : Prop := sspTakesRow.holds Try.pinned (OpenSpec.ofChange sspTakesSpec)

/-- ITS FALSE NEIGHBOUR: 'it returns false'. Refute it at one input. -/
def sspTakesWrong : ChangeSpec := { name := "sspTakes", fn := fun _ => fun
  | [d1, d2] => { results := [.lit (.bool false)], args := [d1, d2] }
  | _ => none }
def SspTakesWrongFalsely : Prop := sspTakesRow.holds Try.pinned (OpenSpec.ofChange sspTakesWrong)

/-- 'wayfarerlaw23.SspNil': WHATEVER THE INPUT: true; the input reads as it did. -/
def sspNilSpec : ChangeSpec := { name := "sspNil", fn := fun _ => fun
  | [d] => { results := [.lit (.bool true)], args := [d] }
  | _ => none }
def sspNilRow : OpenClaim := { program := "ytikkekdmahdgaaa", sum := "233c5d04ca38e2b773bd485905af9316f92dd052630e4af4f71b74c8e0d66dde", func := "wayfarer/wayfarerlaw23.SspNil", spec := "sspNil", unfollowed := true, recurses := true, apart := false }
def SspNilSaid : Prop := sspNilRow.holds Try.pinned (OpenSpec.ofChange sspNilSpec)

/-- ITS FALSE NEIGHBOUR: 'it returns false'. Refute it at one input. -/
def sspNilWrong : ChangeSpec := { name := "sspNil", fn := fun _ => fun
  | [d] => { results := [.lit (.bool false)], args := [d] }
  | _ => none }
def SspNilWrongFalsely : Prop := sspNilRow.holds Try.pinned (OpenSpec.ofChange sspNilWrong)

/-- 'wayfarerlaw23.SspAlike': WHATEVER THE INPUT: true; the input reads as it did. -/
def sspAlikeSpec : ChangeSpec := { name := "sspAlike", fn := fun _ => fun
  | [d1, d2] => { results := [.lit (.bool true)], args := [d1, d2] }
  | _ => none }
def sspAlikeRow : OpenClaim := { program := "ytikkekdmahdgaaa", sum := "233c5d04ca38e2b773bd485905af9316f92dd052630e4af4f71b74c8e0d66dde", func := "wayfarer/wayfarerlaw23.SspAlike", spec := "sspAlike", unfollowed := true, recurses := true, apart := false }
def SspAlikeSaid : Prop := sspAlikeRow.holds Try.pinned (OpenSpec.ofChange sspAlikeSpec)

/-- ITS FALSE NEIGHBOUR: 'it returns false'. Refute it at one input. -/
def sspAlikeWrong : ChangeSpec := { name := "sspAlike", fn := fun _ => fun
  | [d1, d2] => { results := [.lit (.bool false)], args := [d1, d2] }
  | _ => none }
def SspAlikeWrongFalsely : Prop := sspAlikeRow.holds Try.pinned (OpenSpec.ofChange sspAlikeWrong)

/-- 'wayfarerlaw23.SspEnds': WHATEVER THE INPUT: true; the input reads as it did. -/
def sspEndsSpec : ChangeSpec := { name := "sspEnds", fn := fun _ => fun
  | [d1, d2] => { results := [.lit (.bool true)], args := [d1, d2] }
  | _ => none }
def sspEndsRow : OpenClaim := { program := "ytikkekdmahdgaaa", sum := "233c5d04ca38e2b773bd485905af9316f92dd052630e4af4f71b74c8e0d66dde", func := "wayfarer/wayfarerlaw23.SspEnds", spec := "sspEnds", unfollowed := true, recurses := true, apart := false }
def SspEndsSaid : Prop := sspEndsRow.holds Try.pinned (OpenSpec.ofChange sspEndsSpec)

/-- ITS FALSE NEIGHBOUR: 'it returns false'. Refute it at one input. -/
def sspEndsWrong : ChangeSpec := { name := "sspEnds", fn := fun _ => fun
  | [d1, d2] => { results := [.lit (.bool false)], args := [d1, d2] }
  | _ => none }
def SspEndsWrongFalsely : Prop := sspEndsRow.holds Try.pinned (OpenSpec.ofChange sspEndsWrong)

/- THE SECOND FORM. 'bulk': how many values and letters a reading holds, each counted each time it is reached (what is shared counts as often as it is met; a slice's spare places count too). A statement '..UptoSaid' is the law's where the arguments, and the package variables that the reading takes, are together of bulk at most 1048576: NARROWER than '..Said'. Prove '..Said' where nothing that the law and all that it calls make is longer than what came in: it says more and counts as full. Else prove '..UptoSaid'. A law counts once. -/
mutual
def uptoBulk {H : Type} : DataW H → Nat
  | .lit (.string bytes) => bytes.length + 1
  | .lit _ => 1
  | .nil => 1
  | .ptr d => uptoBulk d + 1
  | .slice elems spare => uptoBulkAll elems + uptoBulkAll spare + 1
  | .agg parts => uptoBulkAll parts + 1
  | .iface _ d => uptoBulk d + 1
  | .map entries => uptoBulkEntries entries + 1
  | .held _ => 1
def uptoBulkAll {H : Type} : List (DataW H) → Nat
  | [] => 0
  | d :: r => uptoBulk d + uptoBulkAll r
def uptoBulkEntries {H : Type} : List (Lit × DataW H) → Nat
  | [] => 0
  | x :: r => uptoBulkEntry x + uptoBulkEntries r
def uptoBulkEntry {H : Type} : Lit × DataW H → Nat
  | (.string bytes, d) => bytes.length + uptoBulk d + 1
  | (_, d) => uptoBulk d + 1
 end
def uptoSmall : (H : Type) → List (DataW H) → Bool := fun _ ds => decide (uptoBulkAll ds ≤ 1048576)
def OpenSpec.upto (s : _root_.Go.ChangeSpec) : _root_.Go.OpenSpec := { _root_.Go.OpenSpec.ofChange s with cond := some uptoSmall }

/-- 'wayfarerlaw23.SspSends', WHERE WHAT IT READS IS OF BULK AT MOST 1048576: true; the input reads as it did. -/
def sspSendsUptoRow : OpenClaim := { program := "ytikkekdmahdgaaa", sum := "233c5d04ca38e2b773bd485905af9316f92dd052630e4af4f71b74c8e0d66dde", func := "wayfarer/wayfarerlaw23.SspSends", spec := "sspSends", unfollowed := true, recurses := true, apart := false, narrowed := true }
def SspSendsUptoSaid : Prop := sspSendsUptoRow.holds Try.pinned (OpenSpec.upto sspSendsSpec)

/-- 'wayfarerlaw23.SspTakes', WHERE WHAT IT READS IS OF BULK AT MOST 1048576: true; the input reads as it did. -/
def sspTakesUptoRow : OpenClaim := { program := "ytikkekdmahdgaaa", sum := "233c5d04ca38e2b773bd485905af9316f92dd052630e4af4f71b74c8e0d66dde", func := "wayfarer/wayfarerlaw23.SspTakes", spec := "sspTakes", unfollowed := true, recurses := true, apart := false, narrowed := true }
def SspTakesUptoSaid : Prop := sspTakesUptoRow.holds Try.pinned (OpenSpec.upto sspTakesSpec)

/-- 'wayfarerlaw23.SspNil', WHERE WHAT IT READS IS OF BULK AT MOST 1048576: true; the input reads as it did. -/
def sspNilUptoRow : OpenClaim := { program := "ytikkekdmahdgaaa", sum := "233c5d04ca38e2b773bd485905af9316f92dd052630e4af4f71b74c8e0d66dde", func := "wayfarer/wayfarerlaw23.SspNil", spec := "sspNil", unfollowed := true, recurses := true, apart := false, narrowed := true }
def SspNilUptoSaid : Prop := sspNilUptoRow.holds Try.pinned (OpenSpec.upto sspNilSpec)

/-- 'wayfarerlaw23.SspAlike', WHERE WHAT IT READS IS OF BULK AT MOST 1048576: true; the input reads as it did. -/
def sspAlikeUptoRow : OpenClaim := { program := "ytikkekdmahdgaaa", sum := "233c5d04ca38e2b773bd485905af9316f92dd052630e4af4f71b74c8e0d66dde", func := "wayfarer/wayfarerlaw23.SspAlike", spec := "sspAlike", unfollowed := true, recurses := true, apart := false, narrowed := true }
def SspAlikeUptoSaid : Prop := sspAlikeUptoRow.holds Try.pinned (OpenSpec.upto sspAlikeSpec)

/-- 'wayfarerlaw23.SspEnds', WHERE WHAT IT READS IS OF BULK AT MOST 1048576: true; the input reads as it did. -/
def sspEndsUptoRow : OpenClaim := { program := "ytikkekdmahdgaaa", sum := "233c5d04ca38e2b773bd485905af9316f92dd052630e4af4f71b74c8e0d66dde", func := "wayfarer/wayfarerlaw23.SspEnds", spec := "sspEnds", unfollowed := true, recurses := true, apart := false, narrowed := true }
def SspEndsUptoSaid : Prop := sspEndsUptoRow.holds Try.pinned (OpenSpec.upto sspEndsSpec)

end Rows
end Go.Proofs.Ytikkekdmahdgaaa
