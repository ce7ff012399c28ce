/-
  No cell of these rows narrows 'for every input' (looked for: loops, veiled, ifaces, maps, wideKeys, modest, calm, conditions, laid).
  DERIVED. THE GIVEN ROWS OF THIS SEAT. 4 by the template 'for every input the law returns true; each argument reads behind the call as it read before'; 0 by the template 'total and deterministic' (their statements: YteihmonafdnicaaTotals.lean).
  GIVEN WITH THE SEED: the statements are not yours to turn. If you find one false, say at which input.
  Laid BY PROGRAM, IN A SANDBOX (cutbox-rows.mjs): the forced cells as the released guide's own fill.sh prints them over the translation f4433da76629856c… (all of the seat's roots in one cut). By AI agents, Wed Nov 11 2026. No macro, syntax, notation, axiom, sorry.
-/
import Derived.Test.YteihmonafdnicaaChecked
import GoSem.Claim
import GoSem.ClaimJoined
import GoSem.ClaimMapViews
import Derived.JoinedTies
import Derived.KernelRfl
namespace Go.Proofs.Yteihmonafdnicaa
/- THE CELL 'sum', in the pinned program and in every row, IS THE sha256 OF THE DUMP (.gsa) THAT YteihmonafdnicaaProg.lean LOADS. Nothing in Lean hashes anything: it is a label: what it is worth is what the hold of that sum in a sandbox is worth. -/
noncomputable def Try.pinned : Pinned := { name := "yteihmonafdnicaa", sum := "f4433da76629856cbee850ae81c2c86ee8cedbe659da055e15a4e808f64b473e", checked := Try.checked }
namespace Rows
def none {H : Type} : Left H := { results := [], args := [] }

/-- 'retconlaw01.WordBytes': WHATEVER THE INPUT: true; the input reads as it did. -/
def wordBytesSpec : ChangeSpec := { name := "wordBytes", fn := fun _ => fun
  | [d] => { results := [.lit (.bool true)], args := [d] }
  | _ => none }
def wordBytesRow : OpenClaim := { program := "yteihmonafdnicaa", sum := "f4433da76629856cbee850ae81c2c86ee8cedbe659da055e15a4e808f64b473e", func := "retcon/retconlaw01.WordBytes", spec := "wordBytes", unfollowed := true, recurses := true, apart := false }
def WordBytesSaid : Prop := wordBytesRow.holds Try.pinned (OpenSpec.ofChange wordBytesSpec)

/-- ITS FALSE NEIGHBOUR: 'it returns false'. Refute it at one input. -/
def wordBytesWrong : ChangeSpec := { name := "wordBytes", fn := fun _ => fun
  | [d] => { results := [.lit (.bool false)], args := [d] }
  | _ => none }
def WordBytesWrongFalsely : Prop := wordBytesRow.holds Try.pinned (OpenSpec.ofChange wordBytesWrong)

/-- 'retconlaw01.WordAsked': WHATEVER THE INPUT: true; the input reads as it did. -/
def wordAskedSpec : ChangeSpec := { name := "wordAsked", fn := fun _ => fun
  | [d1, d2] => { results := [.lit (.bool true)], args := [d1, d2] }
  | _ => none }
def wordAskedRow : OpenClaim := { program := "yteihmonafdnicaa", sum := "f4433da76629856cbee850ae81c2c86ee8cedbe659da055e15a4e808f64b473e", func := "retcon/retconlaw01.WordAsked", spec := "wordAsked", unfollowed := true, recurses := true, apart := false }
def WordAskedSaid : Prop := wordAskedRow.holds Try.pinned (OpenSpec.ofChange wordAskedSpec)

/-- ITS FALSE NEIGHBOUR: 'it returns false'. Refute it at one input. -/
def wordAskedWrong : ChangeSpec := { name := "wordAsked", fn := fun _ => fun
  | [d1, d2] => { results := [.lit (.bool false)], args := [d1, d2] }
  | _ => none }
def WordAskedWrongFalsely : Prop := wordAskedRow.holds Try.pinned (OpenSpec.ofChange wordAskedWrong)

/-- 'retconlaw01.WordKnown': WHATEVER THE INPUT: true; the input reads as it did. -/
def wordKnownSpec : ChangeSpec := { name := "wordKnown", fn := fun _ => fun
  | [] => { results := [.lit (.bool true)], args := [] }
  | _ => none }
def wordKnownRow : OpenClaim := { program := "yteihmonafdnicaa", sum := "f4433da76629856cbee850ae81c2c86ee8cedbe659da055e15a4e808f64b473e", func := "retcon/retconlaw01.WordKnown", spec := "wordKnown", unfollowed := true, recurses := true, apart := false }
def WordKnownSaid : Prop := wordKnownRow.holds Try.pinned (OpenSpec.ofChange wordKnownSpec)

/-- ITS FALSE NEIGHBOUR: 'it returns false'. Refute it at one input. -/
def wordKnownWrong : ChangeSpec := { name := "wordKnown", fn := fun _ => fun
  | [] => { results := [.lit (.bool false)], args := [] }
  | _ => none }
def WordKnownWrongFalsely : Prop := wordKnownRow.holds Try.pinned (OpenSpec.ofChange wordKnownWrong)

/-- 'retconlaw01.WordPassed': WHATEVER THE INPUT: true; the input reads as it did. -/
def wordPassedSpec : ChangeSpec := { name := "wordPassed", fn := fun _ => fun
  | [d1, d2] => { results := [.lit (.bool true)], args := [d1, d2] }
  | _ => none }
def wordPassedRow : OpenClaim := { program := "yteihmonafdnicaa", sum := "f4433da76629856cbee850ae81c2c86ee8cedbe659da055e15a4e808f64b473e", func := "retcon/retconlaw01.WordPassed", spec := "wordPassed", unfollowed := true, recurses := true, apart := false }
def WordPassedSaid : Prop := wordPassedRow.holds Try.pinned (OpenSpec.ofChange wordPassedSpec)

/-- ITS FALSE NEIGHBOUR: 'it returns false'. Refute it at one input. -/
def wordPassedWrong : ChangeSpec := { name := "wordPassed", fn := fun _ => fun
  | [d1, d2] => { results := [.lit (.bool false)], args := [d1, d2] }
  | _ => none }
def WordPassedWrongFalsely : Prop := wordPassedRow.holds Try.pinned (OpenSpec.ofChange wordPassedWrong)

/- THE SECOND FORM. 'bulk': how many values and letters a reading holds, each counted each time it is reached (what is shared counts as often as it is met; a slice's spare places count too). A statement '..UptoSaid' is the law's where the arguments, and the package variables that the reading takes, are together of bulk at most 1048576: NARROWER than '..Said'. Prove '..Said' where nothing that the law and all that it calls make is longer than what came in: it says more and counts as full. Else prove '..UptoSaid'. A law counts once. -/
mutual
def uptoBulk {H : Type} : DataW H → Nat
  | .lit (.string bytes) => bytes.length + 1
  | .lit _ => 1
  | .nil => 1
  | .ptr d => uptoBulk d + 1
  | .slice elems spare => uptoBulkAll elems + uptoBulkAll spare + 1
  | .agg parts => uptoBulkAll parts + 1
  | .iface _ d => uptoBulk d + 1
  | .map entries => uptoBulkEntries entries + 1
  | .held _ => 1
def uptoBulkAll {H : Type} : List (DataW H) → Nat
  | [] => 0
  | d :: r => uptoBulk d + uptoBulkAll r
def uptoBulkEntries {H : Type} : List (Lit × DataW H) → Nat
  | [] => 0
  | x :: r => uptoBulkEntry x + uptoBulkEntries r
def uptoBulkEntry {H : Type} : Lit × DataW H → Nat
  | (.string bytes, d) => bytes.length + uptoBulk d + 1
  | (_, d) => uptoBulk d + 1
 end
def uptoSmall : (H : Type) → List (DataW H) → Bool := fun _ ds => decide (uptoBulkAll ds ≤ 1048576)
def OpenSpec.upto (s : _root_.Go.ChangeSpec) : _root_.Go.OpenSpec := { _root_.Go.OpenSpec.ofChange s with cond := some uptoSmall }

/-- 'retconlaw01.WordBytes', WHERE WHAT IT READS IS OF BULK AT MOST 1048576: true; the input reads as it did. -/
def wordBytesUptoRow : OpenClaim := { program := "yteihmonafdnicaa", sum := "f4433da76629856cbee850ae81c2c86ee8cedbe659da055e15a4e808f64b473e", func := "retcon/retconlaw01.WordBytes", spec := "wordBytes", unfollowed := true, recurses := true, apart := false, narrowed := true }
def WordBytesUptoSaid : Prop := wordBytesUptoRow.holds Try.pinned (OpenSpec.upto wordBytesSpec)

/-- 'retconlaw01.WordAsked', WHERE WHAT IT READS IS OF BULK AT MOST 1048576: true; the input reads as it did. -/
def wordAskedUptoRow : OpenClaim := { program := "yteihmonafdnicaa", sum := "f4433da76629856cbee850ae81c2c86ee8cedbe659da055e15a4e808f64b473e", func := "retcon/retconlaw01.WordAsked", spec := "wordAsked", unfollowed := true, recurses := true, apart := false, narrowed := true }
def WordAskedUptoSaid : Prop := wordAskedUptoRow.holds Try.pinned (OpenSpec.upto wordAskedSpec)

/-- 'retconlaw01.WordKnown', WHERE WHAT IT READS IS OF BULK AT MOST 1048576: true; the input reads as it did. -/
def wordKnownUptoRow : OpenClaim := { program := "yteihmonafdnicaa", sum := "f4433da76629856cbee850ae81c2c86ee8cedbe659da055e15a4e808f64b473e", func := "retcon/retconlaw01.WordKnown", spec := "wordKnown", unfollowed := true, recurses := true, apart := false, narrowed := true }
def WordKnownUptoSaid : Prop := wordKnownUptoRow.holds Try.pinned (OpenSpec.upto wordKnownSpec)

/-- 'retconlaw01.WordPassed', WHERE WHAT IT READS IS OF BULK AT MOST 1048576: true; the input reads as it did. -/
def wordPassedUptoRow : OpenClaim := { program := "yteihmonafdnicaa", sum := "f4433da76629856cbee850ae81c2c86ee8cedbe659da055e15a4e808f64b473e", func := "retcon/retconlaw01.WordPassed", spec := "wordPassed", unfollowed := true, recurses := true, apart := false, narrowed := true }
def WordPassedUptoSaid : Prop := wordPassedUptoRow.holds Try.pinned (OpenSpec.upto wordPassedSpec)

end Rows
end Go.Proofs.Yteihmonafdnicaa
