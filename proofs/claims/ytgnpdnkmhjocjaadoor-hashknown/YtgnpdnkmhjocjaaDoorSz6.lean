/- SHA-256 of a million letters 'a'. Nothing here speaks of a program. -/
import Derived.Test.YtgnpdnkmhjocjaaDoorSz2
import Derived.Test.YtgnpdnkmhjocjaaDoorSz3
import Derived.Test.YtgnpdnkmhjocjaaDoorSz4
import Derived.Test.YtgnpdnkmhjocjaaDoorSz5
import Derived.Test.YtgnpdnkmhjocjaaDoorSl
namespace Go.Proofs.YtgnpdnkmhjocjaaDoor
namespace Sha
set_option linter.unusedSimpArgs false
set_option linter.unusedVariables false

theorem rep_all : rep (fun s => block s aBlk) 15625 first = ⟨2061136107, 1745259042, 791610055, 2140370626, 1884297759, 3529239238, 671294972, 693152569⟩ := by
  rw [show (15625 : Nat) = 1000 + 1000 + 1000 + 1000 + 1000 + 1000 + 1000 + 1000 + 1000 + 1000 + 1000 + 1000 + 1000 + 1000 + 1000 + 625 from rfl, rep_add, rep_add, rep_add, rep_add, rep_add, rep_add, rep_add, rep_add, rep_add, rep_add, rep_add, rep_add, rep_add, rep_add, rep_add]
  rw [show first = ⟨1779033703, 3144134277, 1013904242, 2773480762, 1359893119, 2600822924, 528734635, 1541459225⟩ from rfl]
  rw [rep_0, rep_1000, rep_2000, rep_3000, rep_4000, rep_5000, rep_6000, rep_7000, rep_8000, rep_9000, rep_10000, rep_11000, rep_12000, rep_13000, rep_14000, rep_15000]
theorem ending_million : ending 1000000 = 128 :: (List.replicate 55 0 ++ bytesOf 8 8000000) := rfl
set_option maxRecDepth 100000 in
theorem hex_million : hexL (name (block ⟨2061136107, 1745259042, 791610055, 2140370626, 1884297759, 3529239238, 671294972, 693152569⟩ (128 :: (List.replicate 55 0 ++ bytesOf 8 8000000)))) = [99, 100, 99, 55, 54, 101, 53, 99, 57, 57, 49, 52, 102, 98, 57, 50, 56, 49, 97, 49, 99, 55, 101, 50, 56, 52, 100, 55, 51, 101, 54, 55, 102, 49, 56, 48, 57, 97, 52, 56, 97, 52, 57, 55, 50, 48, 48, 101, 48, 52, 54, 100, 51, 57, 99, 99, 99, 55, 49, 49, 50, 99, 100, 48] := by kernel_rfl
theorem sum_million (m : List UInt8) (hm : m = List.replicate 1000000 97) : hexL (sum m) = [99, 100, 99, 55, 54, 101, 53, 99, 57, 57, 49, 52, 102, 98, 57, 50, 56, 49, 97, 49, 99, 55, 101, 50, 56, 52, 100, 55, 51, 101, 54, 55, 102, 49, 56, 48, 57, 97, 52, 56, 97, 52, 57, 55, 50, 48, 48, 101, 48, 52, 54, 100, 51, 57, 99, 99, 99, 55, 49, 49, 50, 99, 100, 48] := by
  have hl : m.length = 1000000 := by rw [hm, List.length_replicate]
  have he : (ending m.length).length = 64 := by rw [hl, ending_million]; simp [bytesOf]
  have hml : (message m).length = 1000064 := by unfold message; rw [List.length_append, he, hl]
  have hn : (message m).length / 64 = 15625 + 1 := by rw [hml]
  have hb : blkW block 15625 (message m) first = ⟨2061136107, 1745259042, 791610055, 2140370626, 1884297759, 3529239238, 671294972, 693152569⟩ := by
    unfold message
    rw [blkW_append block 15625 m _ first (by rw [hl]; decide), hm]
    exact (blkW_rep block 97 15625 15625 first (Nat.le_refl _)).trans rep_all
  have hd : ((message m).drop (64 * 15625)).take 64 = ending m.length := by
    unfold message
    rw [List.drop_append_of_le_length (by rw [hl]; decide), List.drop_of_length_le (by rw [hl]; decide), List.nil_append, List.take_of_length_le (by rw [he]; exact Nat.le_refl _)]
  unfold sum
  rw [blocks_blkW, hn, blkW_succ, hb, hd, hl, ending_million]
  exact hex_million

end Sha
end Go.Proofs.YtgnpdnkmhjocjaaDoor
