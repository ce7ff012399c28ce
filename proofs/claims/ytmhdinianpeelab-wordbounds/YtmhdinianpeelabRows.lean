/-
  No cell of these rows narrows 'for every input' (looked for: loops, veiled, ifaces, maps, wideKeys, modest, calm, conditions, laid).
  DERIVED. THE GIVEN ROWS OF THIS SEAT. 3 by the template 'for every input the law returns true; each argument reads behind the call as it read before'; 0 by the template 'total and deterministic' (their statements: YtmhdinianpeelabTotals.lean).
  GIVEN WITH THE SEED: the statements are not yours to turn. If you find one false, say at which input.
  Laid BY PROGRAM, IN A SANDBOX (cutbox-rows.mjs): the forced cells as the released guide's own fill.sh prints them over the translation 0b35f97acb9c20ef… (all of the seat's roots in one cut). By AI agents, Wed Nov 11 2026. No macro, syntax, notation, axiom, sorry.
-/
import Derived.Test.YtmhdinianpeelabChecked
import GoSem.Claim
import GoSem.ClaimJoined
import GoSem.ClaimMapViews
import Derived.JoinedTies
import Derived.KernelRfl
namespace Go.Proofs.Ytmhdinianpeelab
/- THE CELL 'sum', in the pinned program and in every row, IS THE sha256 OF THE DUMP (.gsa) THAT YtmhdinianpeelabProg.lean LOADS. Nothing in Lean hashes anything: it is a label: what it is worth is what the hold of that sum in a sandbox is worth. -/
noncomputable def Try.pinned : Pinned := { name := "ytmhdinianpeelab", sum := "0b35f97acb9c20ef0b50b1d8d4f56824baf3a07d2a79d9d89f1f82d21e0d0c1d", checked := Try.checked }
namespace Rows
def none {H : Type} : Left H := { results := [], args := [] }

/-- 'retconlaw01.WordTold': WHATEVER THE INPUT: true; the input reads as it did. -/
def wordToldSpec : ChangeSpec := { name := "wordTold", fn := fun _ => fun
  | [d1, d2] => { results := [.lit (.bool true)], args := [d1, d2] }
  | _ => none }
def wordToldRow : OpenClaim := { program := "ytmhdinianpeelab", sum := "0b35f97acb9c20ef0b50b1d8d4f56824baf3a07d2a79d9d89f1f82d21e0d0c1d", func := "retcon/retconlaw01.WordTold", spec := "wordTold", unfollowed := true, recurses := true, apart := false }
def WordToldSaid : Prop := wordToldRow.holds Try.pinned (OpenSpec.ofChange wordToldSpec)

/-- ITS FALSE NEIGHBOUR: 'it returns false'. Refute it at one input. -/
def wordToldWrong : ChangeSpec := { name := "wordTold", fn := fun _ => fun
  | [d1, d2] => { results := [.lit (.bool false)], args := [d1, d2] }
  | _ => none }
def WordToldWrongFalsely : Prop := wordToldRow.holds Try.pinned (OpenSpec.ofChange wordToldWrong)

/-- 'retconlaw01.WordBounds': WHATEVER THE INPUT: true; the input reads as it did. -/
def wordBoundsSpec : ChangeSpec := { name := "wordBounds", fn := fun _ => fun
  | [d1, d2, d3, d4, d5] => { results := [.lit (.bool true)], args := [d1, d2, d3, d4, d5] }
  | _ => none }
def wordBoundsRow : OpenClaim := { program := "ytmhdinianpeelab", sum := "0b35f97acb9c20ef0b50b1d8d4f56824baf3a07d2a79d9d89f1f82d21e0d0c1d", func := "retcon/retconlaw01.WordBounds", spec := "wordBounds", unfollowed := true, recurses := true, apart := false }
def WordBoundsSaid : Prop := wordBoundsRow.holds Try.pinned (OpenSpec.ofChange wordBoundsSpec)

/-- ITS FALSE NEIGHBOUR: 'it returns false'. Refute it at one input. -/
def wordBoundsWrong : ChangeSpec := { name := "wordBounds", fn := fun _ => fun
  | [d1, d2, d3, d4, d5] => { results := [.lit (.bool false)], args := [d1, d2, d3, d4, d5] }
  | _ => none }
def WordBoundsWrongFalsely : Prop := wordBoundsRow.holds Try.pinned (OpenSpec.ofChange wordBoundsWrong)

/-- 'retconlaw01.WordEight': WHATEVER THE INPUT: true; the input reads as it did. -/
def wordEightSpec : ChangeSpec := { name := "wordEight", fn := fun _ => fun
  | [d1, d2, d3, d4] => { results := [.lit (.bool true)], args := [d1, d2, d3, d4] }
  | _ => none }
def wordEightRow : OpenClaim := { program := "ytmhdinianpeelab", sum := "0b35f97acb9c20ef0b50b1d8d4f56824baf3a07d2a79d9d89f1f82d21e0d0c1d", func := "retcon/retconlaw01.WordEight", spec := "wordEight", unfollowed := true, recurses := true, apart := false }
def WordEightSaid : Prop := wordEightRow.holds Try.pinned (OpenSpec.ofChange wordEightSpec)

/-- ITS FALSE NEIGHBOUR: 'it returns false'. Refute it at one input. -/
def wordEightWrong : ChangeSpec := { name := "wordEight", fn := fun _ => fun
  | [d1, d2, d3, d4] => { results := [.lit (.bool false)], args := [d1, d2, d3, d4] }
  | _ => none }
def WordEightWrongFalsely : Prop := wordEightRow.holds Try.pinned (OpenSpec.ofChange wordEightWrong)

/- THE SECOND FORM. 'bulk': how many values and letters a reading holds, each counted each time it is reached (what is shared counts as often as it is met; a slice's spare places count too). A statement '..UptoSaid' is the law's where the arguments, and the package variables that the reading takes, are together of bulk at most 1048576: NARROWER than '..Said'. Prove '..Said' where nothing that the law and all that it calls make is longer than what came in: it says more and counts as full. Else prove '..UptoSaid'. A law counts once. -/
mutual
def uptoBulk {H : Type} : DataW H → Nat
  | .lit (.string bytes) => bytes.length + 1
  | .lit _ => 1
  | .nil => 1
  | .ptr d => uptoBulk d + 1
  | .slice elems spare => uptoBulkAll elems + uptoBulkAll spare + 1
  | .agg parts => uptoBulkAll parts + 1
  | .iface _ d => uptoBulk d + 1
  | .map entries => uptoBulkEntries entries + 1
  | .held _ => 1
def uptoBulkAll {H : Type} : List (DataW H) → Nat
  | [] => 0
  | d :: r => uptoBulk d + uptoBulkAll r
def uptoBulkEntries {H : Type} : List (Lit × DataW H) → Nat
  | [] => 0
  | x :: r => uptoBulkEntry x + uptoBulkEntries r
def uptoBulkEntry {H : Type} : Lit × DataW H → Nat
  | (.string bytes, d) => bytes.length + uptoBulk d + 1
  | (_, d) => uptoBulk d + 1
 end
def uptoSmall : (H : Type) → List (DataW H) → Bool := fun _ ds => decide (uptoBulkAll ds ≤ 1048576)
def OpenSpec.upto (s : _root_.Go.ChangeSpec) : _root_.Go.OpenSpec := { _root_.Go.OpenSpec.ofChange s with cond := some uptoSmall }

/-- 'retconlaw01.WordTold', WHERE WHAT IT READS IS OF BULK AT MOST 1048576: true; the input reads as it did. -/
def wordToldUptoRow : OpenClaim := { program := "ytmhdinianpeelab", sum := "0b35f97acb9c20ef0b50b1d8d4f56824baf3a07d2a79d9d89f1f82d21e0d0c1d", func := "retcon/retconlaw01.WordTold", spec := "wordTold", unfollowed := true, recurses := true, apart := false, narrowed := true }
def WordToldUptoSaid : Prop := wordToldUptoRow.holds Try.pinned (OpenSpec.upto wordToldSpec)

/-- 'retconlaw01.WordBounds', WHERE WHAT IT READS IS OF BULK AT MOST 1048576: true; the input reads as it did. -/
def wordBoundsUptoRow : OpenClaim := { program := "ytmhdinianpeelab", sum := "0b35f97acb9c20ef0b50b1d8d4f56824baf3a07d2a79d9d89f1f82d21e0d0c1d", func := "retcon/retconlaw01.WordBounds", spec := "wordBounds", unfollowed := true, recurses := true, apart := false, narrowed := true }
def WordBoundsUptoSaid : Prop := wordBoundsUptoRow.holds Try.pinned (OpenSpec.upto wordBoundsSpec)

/-- 'retconlaw01.WordEight', WHERE WHAT IT READS IS OF BULK AT MOST 1048576: true; the input reads as it did. -/
def wordEightUptoRow : OpenClaim := { program := "ytmhdinianpeelab", sum := "0b35f97acb9c20ef0b50b1d8d4f56824baf3a07d2a79d9d89f1f82d21e0d0c1d", func := "retcon/retconlaw01.WordEight", spec := "wordEight", unfollowed := true, recurses := true, apart := false, narrowed := true }
def WordEightUptoSaid : Prop := wordEightUptoRow.holds Try.pinned (OpenSpec.upto wordEightSpec)

end Rows
end Go.Proofs.Ytmhdinianpeelab
