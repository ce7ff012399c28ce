/-
  No cell of these rows narrows 'for every input' (looked for: loops, veiled, ifaces, maps, wideKeys, modest, calm, conditions, laid).
  DERIVED. THE GIVEN ROWS OF THIS SEAT. 6 by the template 'for every input the law returns true; each argument reads behind the call as it read before'; 0 by the template 'total and deterministic' (their statements: YtcejebelellemaaTotals.lean).
  GIVEN WITH THE SEED: the statements are not yours to turn. If you find one false, say at which input.
  Laid BY PROGRAM, IN A SANDBOX (cutbox-rows.mjs): the forced cells as the released guide's own fill.sh prints them over the translation 87e2661bc000f28c… (all of the seat's roots in one cut). By AI agents, Wed Nov 11 2026. No macro, syntax, notation, axiom, sorry.
-/
import Derived.Test.YtcejebelellemaaChecked
import GoSem.Claim
import GoSem.ClaimJoined
import GoSem.ClaimMapViews
import Derived.JoinedTies
import Derived.KernelRfl
namespace Go.Proofs.Ytcejebelellemaa
/- THE CELL 'sum', in the pinned program and in every row, IS THE sha256 OF THE DUMP (.gsa) THAT YtcejebelellemaaProg.lean LOADS. Nothing in Lean hashes anything: it is a label: what it is worth is what the hold of that sum in a sandbox is worth. -/
noncomputable def Try.pinned : Pinned := { name := "ytcejebelellemaa", sum := "87e2661bc000f28c1fa532f003352101c1fac839b594782ecfcfdfcfc8b190c8", checked := Try.checked }
namespace Rows
def none {H : Type} : Left H := { results := [], args := [] }

/-- 'retconlaw04.KeysSets': WHATEVER THE INPUT: true; the input reads as it did. -/
def keysSetsSpec : ChangeSpec := { name := "keysSets", fn := fun _ => fun
  | [d1, d2, d3] => { results := [.lit (.bool true)], args := [d1, d2, d3] }
  | _ => none }
def keysSetsRow : OpenClaim := { program := "ytcejebelellemaa", sum := "87e2661bc000f28c1fa532f003352101c1fac839b594782ecfcfdfcfc8b190c8", func := "retcon/retconlaw04.KeysSets", spec := "keysSets", unfollowed := true, recurses := true, apart := false }
def KeysSetsSaid : Prop := keysSetsRow.holds Try.pinned (OpenSpec.ofChange keysSetsSpec)

/-- ITS FALSE NEIGHBOUR: 'it returns false'. Refute it at one input. -/
def keysSetsWrong : ChangeSpec := { name := "keysSets", fn := fun _ => fun
  | [d1, d2, d3] => { results := [.lit (.bool false)], args := [d1, d2, d3] }
  | _ => none }
def KeysSetsWrongFalsely : Prop := keysSetsRow.holds Try.pinned (OpenSpec.ofChange keysSetsWrong)

/-- 'retconlaw04.KeysMeets': WHATEVER THE INPUT: true; the input reads as it did. -/
def keysMeetsSpec : ChangeSpec := { name := "keysMeets", fn := fun _ => fun
  | [d1, d2, d3] => { results := [.lit (.bool true)], args := [d1, d2, d3] }
  | _ => none }
def keysMeetsRow : OpenClaim := { program := "ytcejebelellemaa", sum := "87e2661bc000f28c1fa532f003352101c1fac839b594782ecfcfdfcfc8b190c8", func := "retcon/retconlaw04.KeysMeets", spec := "keysMeets", unfollowed := true, recurses := true, apart := false }
def KeysMeetsSaid : Prop := keysMeetsRow.holds Try.pinned (OpenSpec.ofChange keysMeetsSpec)

/-- ITS FALSE NEIGHBOUR: 'it returns false'. Refute it at one input. -/
def keysMeetsWrong : ChangeSpec := { name := "keysMeets", fn := fun _ => fun
  | [d1, d2, d3] => { results := [.lit (.bool false)], args := [d1, d2, d3] }
  | _ => none }
def KeysMeetsWrongFalsely : Prop := keysMeetsRow.holds Try.pinned (OpenSpec.ofChange keysMeetsWrong)

/-- 'retconlaw04.KeysParts': WHATEVER THE INPUT: true; the input reads as it did. -/
def keysPartsSpec : ChangeSpec := { name := "keysParts", fn := fun _ => fun
  | [d1, d2, d3] => { results := [.lit (.bool true)], args := [d1, d2, d3] }
  | _ => none }
def keysPartsRow : OpenClaim := { program := "ytcejebelellemaa", sum := "87e2661bc000f28c1fa532f003352101c1fac839b594782ecfcfdfcfc8b190c8", func := "retcon/retconlaw04.KeysParts", spec := "keysParts", unfollowed := true, recurses := true, apart := false }
def KeysPartsSaid : Prop := keysPartsRow.holds Try.pinned (OpenSpec.ofChange keysPartsSpec)

/-- ITS FALSE NEIGHBOUR: 'it returns false'. Refute it at one input. -/
def keysPartsWrong : ChangeSpec := { name := "keysParts", fn := fun _ => fun
  | [d1, d2, d3] => { results := [.lit (.bool false)], args := [d1, d2, d3] }
  | _ => none }
def KeysPartsWrongFalsely : Prop := keysPartsRow.holds Try.pinned (OpenSpec.ofChange keysPartsWrong)

/-- 'retconlaw04.KeysSorted': WHATEVER THE INPUT: true; the input reads as it did. -/
def keysSortedSpec : ChangeSpec := { name := "keysSorted", fn := fun _ => fun
  | [d1, d2] => { results := [.lit (.bool true)], args := [d1, d2] }
  | _ => none }
def keysSortedRow : OpenClaim := { program := "ytcejebelellemaa", sum := "87e2661bc000f28c1fa532f003352101c1fac839b594782ecfcfdfcfc8b190c8", func := "retcon/retconlaw04.KeysSorted", spec := "keysSorted", unfollowed := true, recurses := true, apart := false }
def KeysSortedSaid : Prop := keysSortedRow.holds Try.pinned (OpenSpec.ofChange keysSortedSpec)

/-- ITS FALSE NEIGHBOUR: 'it returns false'. Refute it at one input. -/
def keysSortedWrong : ChangeSpec := { name := "keysSorted", fn := fun _ => fun
  | [d1, d2] => { results := [.lit (.bool false)], args := [d1, d2] }
  | _ => none }
def KeysSortedWrongFalsely : Prop := keysSortedRow.holds Try.pinned (OpenSpec.ofChange keysSortedWrong)

/-- 'retconlaw04.KeysMet': WHATEVER THE INPUT: true; the input reads as it did. -/
def keysMetSpec : ChangeSpec := { name := "keysMet", fn := fun _ => fun
  | [d1, d2, d3, d4] => { results := [.lit (.bool true)], args := [d1, d2, d3, d4] }
  | _ => none }
def keysMetRow : OpenClaim := { program := "ytcejebelellemaa", sum := "87e2661bc000f28c1fa532f003352101c1fac839b594782ecfcfdfcfc8b190c8", func := "retcon/retconlaw04.KeysMet", spec := "keysMet", unfollowed := true, recurses := true, apart := false }
def KeysMetSaid : Prop := keysMetRow.holds Try.pinned (OpenSpec.ofChange keysMetSpec)

/-- ITS FALSE NEIGHBOUR: 'it returns false'. Refute it at one input. -/
def keysMetWrong : ChangeSpec := { name := "keysMet", fn := fun _ => fun
  | [d1, d2, d3, d4] => { results := [.lit (.bool false)], args := [d1, d2, d3, d4] }
  | _ => none }
def KeysMetWrongFalsely : Prop := keysMetRow.holds Try.pinned (OpenSpec.ofChange keysMetWrong)

/-- 'retconlaw04.KeysKnown': WHATEVER THE INPUT: true; the input reads as it did. -/
def keysKnownSpec : ChangeSpec := { name := "keysKnown", fn := fun _ => fun
  | [] => { results := [.lit (.bool true)], args := [] }
  | _ => none }
def keysKnownRow : OpenClaim := { program := "ytcejebelellemaa", sum := "87e2661bc000f28c1fa532f003352101c1fac839b594782ecfcfdfcfc8b190c8", func := "retcon/retconlaw04.KeysKnown", spec := "keysKnown", unfollowed := true, recurses := true, apart := false }
def KeysKnownSaid : Prop := keysKnownRow.holds Try.pinned (OpenSpec.ofChange keysKnownSpec)

/-- ITS FALSE NEIGHBOUR: 'it returns false'. Refute it at one input. -/
def keysKnownWrong : ChangeSpec := { name := "keysKnown", fn := fun _ => fun
  | [] => { results := [.lit (.bool false)], args := [] }
  | _ => none }
def KeysKnownWrongFalsely : Prop := keysKnownRow.holds Try.pinned (OpenSpec.ofChange keysKnownWrong)

/- THE SECOND FORM. 'bulk': how many values and letters a reading holds, each counted each time it is reached (what is shared counts as often as it is met; a slice's spare places count too). A statement '..UptoSaid' is the law's where the arguments, and the package variables that the reading takes, are together of bulk at most 1048576: NARROWER than '..Said'. Prove '..Said' where nothing that the law and all that it calls make is longer than what came in: it says more and counts as full. Else prove '..UptoSaid'. A law counts once. -/
mutual
def uptoBulk {H : Type} : DataW H → Nat
  | .lit (.string bytes) => bytes.length + 1
  | .lit _ => 1
  | .nil => 1
  | .ptr d => uptoBulk d + 1
  | .slice elems spare => uptoBulkAll elems + uptoBulkAll spare + 1
  | .agg parts => uptoBulkAll parts + 1
  | .iface _ d => uptoBulk d + 1
  | .map entries => uptoBulkEntries entries + 1
  | .held _ => 1
def uptoBulkAll {H : Type} : List (DataW H) → Nat
  | [] => 0
  | d :: r => uptoBulk d + uptoBulkAll r
def uptoBulkEntries {H : Type} : List (Lit × DataW H) → Nat
  | [] => 0
  | x :: r => uptoBulkEntry x + uptoBulkEntries r
def uptoBulkEntry {H : Type} : Lit × DataW H → Nat
  | (.string bytes, d) => bytes.length + uptoBulk d + 1
  | (_, d) => uptoBulk d + 1
 end
def uptoSmall : (H : Type) → List (DataW H) → Bool := fun _ ds => decide (uptoBulkAll ds ≤ 1048576)
def OpenSpec.upto (s : _root_.Go.ChangeSpec) : _root_.Go.OpenSpec := { _root_.Go.OpenSpec.ofChange s with cond := some uptoSmall }

/-- 'retconlaw04.KeysSets', WHERE WHAT IT READS IS OF BULK AT MOST 1048576: true; the input reads as it did. -/
def keysSetsUptoRow : OpenClaim := { program := "ytcejebelellemaa", sum := "87e2661bc000f28c1fa532f003352101c1fac839b594782ecfcfdfcfc8b190c8", func := "retcon/retconlaw04.KeysSets", spec := "keysSets", unfollowed := true, recurses := true, apart := false, narrowed := true }
def KeysSetsUptoSaid : Prop := keysSetsUptoRow.holds Try.pinned (OpenSpec.upto keysSetsSpec)

/-- 'retconlaw04.KeysMeets', WHERE WHAT IT READS IS OF BULK AT MOST 1048576: true; the input reads as it did. -/
def keysMeetsUptoRow : OpenClaim := { program := "ytcejebelellemaa", sum := "87e2661bc000f28c1fa532f003352101c1fac839b594782ecfcfdfcfc8b190c8", func := "retcon/retconlaw04.KeysMeets", spec := "keysMeets", unfollowed := true, recurses := true, apart := false, narrowed := true }
def KeysMeetsUptoSaid : Prop := keysMeetsUptoRow.holds Try.pinned (OpenSpec.upto keysMeetsSpec)

/-- 'retconlaw04.KeysParts', WHERE WHAT IT READS IS OF BULK AT MOST 1048576: true; the input reads as it did. -/
def keysPartsUptoRow : OpenClaim := { program := "ytcejebelellemaa", sum := "87e2661bc000f28c1fa532f003352101c1fac839b594782ecfcfdfcfc8b190c8", func := "retcon/retconlaw04.KeysParts", spec := "keysParts", unfollowed := true, recurses := true, apart := false, narrowed := true }
def KeysPartsUptoSaid : Prop := keysPartsUptoRow.holds Try.pinned (OpenSpec.upto keysPartsSpec)

/-- 'retconlaw04.KeysSorted', WHERE WHAT IT READS IS OF BULK AT MOST 1048576: true; the input reads as it did. -/
def keysSortedUptoRow : OpenClaim := { program := "ytcejebelellemaa", sum := "87e2661bc000f28c1fa532f003352101c1fac839b594782ecfcfdfcfc8b190c8", func := "retcon/retconlaw04.KeysSorted", spec := "keysSorted", unfollowed := true, recurses := true, apart := false, narrowed := true }
def KeysSortedUptoSaid : Prop := keysSortedUptoRow.holds Try.pinned (OpenSpec.upto keysSortedSpec)

/-- 'retconlaw04.KeysMet', WHERE WHAT IT READS IS OF BULK AT MOST 1048576: true; the input reads as it did. -/
def keysMetUptoRow : OpenClaim := { program := "ytcejebelellemaa", sum := "87e2661bc000f28c1fa532f003352101c1fac839b594782ecfcfdfcfc8b190c8", func := "retcon/retconlaw04.KeysMet", spec := "keysMet", unfollowed := true, recurses := true, apart := false, narrowed := true }
def KeysMetUptoSaid : Prop := keysMetUptoRow.holds Try.pinned (OpenSpec.upto keysMetSpec)

/-- 'retconlaw04.KeysKnown', WHERE WHAT IT READS IS OF BULK AT MOST 1048576: true; the input reads as it did. -/
def keysKnownUptoRow : OpenClaim := { program := "ytcejebelellemaa", sum := "87e2661bc000f28c1fa532f003352101c1fac839b594782ecfcfdfcfc8b190c8", func := "retcon/retconlaw04.KeysKnown", spec := "keysKnown", unfollowed := true, recurses := true, apart := false, narrowed := true }
def KeysKnownUptoSaid : Prop := keysKnownUptoRow.holds Try.pinned (OpenSpec.upto keysKnownSpec)

end Rows
end Go.Proofs.Ytcejebelellemaa
