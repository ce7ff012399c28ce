/- ProgTells, part 18 of the road: what the program's functions do, each by its own walk. -/
import Derived.Test.YtojgikaoiegmpaaGreatDoorQ9
import Derived.Test.YtojgikaoiegmpaaGreatDoorQ16
import Derived.Lib.ConvBytes

/- Package hash, the laws' own: named, walked. -/
namespace Go.Proofs.YtojgikaoiegmpaaGreatDoor
open Go.RowKit Go.IntWalk Go.Lib
set_option linter.unusedSimpArgs false
set_option linter.unusedVariables false
set_option maxRecDepth 100000

theorem conv_bytes (s : ByteArray) (w : World) : (convert 9 29 (.string s)).run Tryz.prog w = .ok (.slice (some ⟨w.heap.size, 0, none⟩) s.data.toList.length (grownCap w s.size 0 5)) (bytesWorld w 5 s) := by
  have := Go.Lib.run_convert_string_bytes (P := Tryz.prog) w 9 29 5 s Tryz.underlying9 Tryz.underlying29 Tryz.underlying5
  rw [this, show s.data.toList.length = s.size by rw [Array.length_toList]; rfl]
theorem conv_at (s : ByteArray) (w : World) : BsAt (bytesWorld w 5 s) (some ⟨w.heap.size, 0, none⟩) s.data.toList := by
  refine Or.inr ⟨_, 0, rfl, fun j hj => ?_⟩
  have hj2 : j < s.size := by rw [Array.length_toList] at hj; exact hj
  rw [Nat.zero_add, bytesWorld_cell w 5 s j hj2]
  have hj3 : j < s.data.size := hj2
  simp [List.getD, Array.getElem?_eq_getElem hj3]
theorem conv_fr (s : ByteArray) (w : World) : Fr (fun _ => False) w (bytesWorld w 5 s) := ⟨rfl, rfl, rfl, by rw [bytesWorld_size]; omega, fun k hk _ => bytesWorld_at_old w 5 s k hk⟩

theorem named_empty : (hexL (Sha.sum []) == [101, 51, 98, 48, 99, 52, 52, 50, 57, 56, 102, 99, 49, 99, 49, 52, 57, 97, 102, 98, 102, 52, 99, 56, 57, 57, 54, 102, 98, 57, 50, 52, 50, 55, 97, 101, 52, 49, 101, 52, 54, 52, 57, 98, 57, 51, 52, 99, 97, 52, 57, 53, 57, 57, 49, 98, 55, 56, 53, 50, 98, 56, 53, 53]) = true := by kernel_rfl
theorem named_abc : (hexL (Sha.sum [97, 98, 99]) == [98, 97, 55, 56, 49, 54, 98, 102, 56, 102, 48, 49, 99, 102, 101, 97, 52, 49, 52, 49, 52, 48, 100, 101, 53, 100, 97, 101, 50, 50, 50, 51, 98, 48, 48, 51, 54, 49, 97, 51, 57, 54, 49, 55, 55, 97, 57, 99, 98, 52, 49, 48, 102, 102, 54, 49, 102, 50, 48, 48, 49, 53, 97, 100]) = true := by kernel_rfl

end Go.Proofs.YtojgikaoiegmpaaGreatDoor

/- Package hash, the laws' own: noughts, walked. -/
namespace Go.Proofs.YtojgikaoiegmpaaGreatDoor
open Go.RowKit Go.IntWalk
set_option linter.unusedSimpArgs false
set_option linter.unusedVariables false
set_option maxRecDepth 100000

end Go.Proofs.YtojgikaoiegmpaaGreatDoor

/- Package hash, the laws' own: stops, walked. -/
namespace Go.Proofs.YtojgikaoiegmpaaGreatDoor
open Go.RowKit Go.IntWalk
set_option linter.unusedSimpArgs false
set_option linter.unusedVariables false
set_option maxRecDepth 100000

end Go.Proofs.YtojgikaoiegmpaaGreatDoor

/- Package hash, the laws' own: awake, walked. -/
namespace Go.Proofs.YtojgikaoiegmpaaGreatDoor
open Go.RowKit Go.IntWalk
set_option linter.unusedSimpArgs false
set_option linter.unusedVariables false
set_option maxRecDepth 100000

theorem prs_63 : prs (List.replicate 63 (48 : UInt8)) = (zeros32, 4, 63) := by kernel_rfl

end Go.Proofs.YtojgikaoiegmpaaGreatDoor
