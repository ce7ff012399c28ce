/- Package hash, the laws' own: named, walked. -/
import Derived.Test.YtgnpdnkmhjocjaaDoorSo
import Derived.Test.YtgnpdnkmhjocjaaDoorSk
import Derived.Lib.ConvBytes
namespace Go.Proofs.YtgnpdnkmhjocjaaDoor
open Go.RowKit Go.IntWalk Go.Lib
set_option linter.unusedSimpArgs false
set_option linter.unusedVariables false

theorem conv_bytes (s : ByteArray) (w : World) : (convert 9 27 (.string s)).run Tryd.prog w = .ok (.slice (some ⟨w.heap.size, 0, none⟩) s.data.toList.length (grownCap w s.size 0 5)) (bytesWorld w 5 s) := by
  have := Go.Lib.run_convert_string_bytes (P := Tryd.prog) w 9 27 5 s Tryd.underlying9 Tryd.underlying27 Tryd.underlying5
  rw [this, show s.data.toList.length = s.size by rw [Array.length_toList]; rfl]
theorem conv_at (s : ByteArray) (w : World) : BsAt (bytesWorld w 5 s) (some ⟨w.heap.size, 0, none⟩) s.data.toList := by
  refine Or.inr ⟨_, 0, rfl, fun j hj => ?_⟩
  have hj2 : j < s.size := by rw [Array.length_toList] at hj; exact hj
  rw [Nat.zero_add, bytesWorld_cell w 5 s j hj2]
  have hj3 : j < s.data.size := hj2
  simp [List.getD, Array.getElem?_eq_getElem hj3]
theorem conv_fr (s : ByteArray) (w : World) : Fr (fun _ => False) w (bytesWorld w 5 s) := ⟨rfl, rfl, rfl, by rw [bytesWorld_size]; omega, fun k hk _ => bytesWorld_at_old w 5 s k hk⟩

set_option maxRecDepth 100000 in
set_option maxHeartbeats 4000000 in
theorem hnamed_any (s : ByteArray) (wl : List UInt8) (hs : s.size + 100 ≤ 140737488355328) (w : World) (hG : Glob w) : Calls Tryd.prog 24 #[.string s, .string ⟨wl.toArray⟩] w fun e w' => e = .returned (.bool (hexL (Sha.sum s.data.toList) == wl)) ∧ Fr (fun _ => False) w w' := by
  have hlen : s.data.toList.length = s.size := by rw [Array.length_toList]; rfl
  have hcv := conv_bytes s w
  have HF1 := hideIt (conv_fr s w)
  have hgc : s.data.toList.length ≤ grownCap w s.size 0 5 := by
    rw [hlen]
    exact grownCap_ge w s.size 0 5
  have HS := hideIt (hsum_any (some ⟨w.heap.size, 0, none⟩) (grownCap w s.size 0 5) s.data.toList (bytesWorld w 5 s) (conv_at s w) (fun j hj => by obtain ⟨a, e1, e2⟩ := hj; obtain rfl := Option.some.inj e1; have : w.heap.size = j := e2; rw [bytesWorld_size]; omega) hgc (hG.fr0 HF1.out) (by rw [hlen]; exact hs))
  clear hlen hgc
  have hnl : (Sha.sum s.data.toList).length = 32 := name_len _
  generalize Sha.sum s.data.toList = N at *
  generalize bytesWorld w 5 s = W1 at *
  generalize s.data.toList.length = L at *
  go_enter Tryd.func24, Tryd.ntmps24
  go_wp2_with fail
  refine Calls.mono HS.out ?_
  rintro e w2 ⟨rfl, hF2⟩
  have HF2 := hideIt (HF1.out.trans hF2 (fun _ _ e => e))
  have HT := hideIt (htext_any N hnl w2)
  clear hF2 HS HF1
  go_wp2_with fail
  refine Calls.mono HT.out ?_
  rintro e w3 ⟨rfl, hF3⟩
  have HF3 := hideIt (HF2.out.trans hF3 (fun _ _ e => e))
  clear hF3 HT HF2
  go_wp2_with fail
  go_ret
  exact ⟨rfl, HF3.out⟩

theorem named_empty : (hexL (Sha.sum []) == [101, 51, 98, 48, 99, 52, 52, 50, 57, 56, 102, 99, 49, 99, 49, 52, 57, 97, 102, 98, 102, 52, 99, 56, 57, 57, 54, 102, 98, 57, 50, 52, 50, 55, 97, 101, 52, 49, 101, 52, 54, 52, 57, 98, 57, 51, 52, 99, 97, 52, 57, 53, 57, 57, 49, 98, 55, 56, 53, 50, 98, 56, 53, 53]) = true := by kernel_rfl
theorem named_abc : (hexL (Sha.sum [97, 98, 99]) == [98, 97, 55, 56, 49, 54, 98, 102, 56, 102, 48, 49, 99, 102, 101, 97, 52, 49, 52, 49, 52, 48, 100, 101, 53, 100, 97, 101, 50, 50, 50, 51, 98, 48, 48, 51, 54, 49, 97, 51, 57, 54, 49, 55, 55, 97, 57, 99, 98, 52, 49, 48, 102, 102, 54, 49, 102, 50, 48, 48, 49, 53, 97, 100]) = true := by kernel_rfl

end Go.Proofs.YtgnpdnkmhjocjaaDoor
