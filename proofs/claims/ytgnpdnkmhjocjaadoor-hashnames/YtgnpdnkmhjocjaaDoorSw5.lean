/- Package hash, the document's: a message of bytes, walked. -/
import Derived.Test.YtgnpdnkmhjocjaaDoorSw4
namespace Go.Proofs.YtgnpdnkmhjocjaaDoor
open Go.RowKit Go.IntWalk
set_option linter.unusedSimpArgs false
set_option linter.unusedVariables false

/-- Noughts appended to bytes. -/
theorem app_zeros (w : World) (ao : Option Addr) (cap : Nat) (bs : List UInt8) (n : Nat) (hn : n ≤ 1000) (hown : Row w 5 ao cap bs) (hb : bs.length ≤ 100000) :
    ∃ ao' cap' w', (Builtin.append_ #[27, 3] 27 #[.slice ao bs.length cap, .int .i64 (n : Int)]).run Tryd.prog w = .ok (.slice ao' (bs.length + n) cap') w' ∧ Row w' 5 ao' cap' (bs ++ List.replicate n 0) ∧ Fr (blk ao) w w' ∧ (ao' = ao ∨ ao' = some ⟨w.heap.size, 0, none⟩) := by
  obtain ⟨i0, hi, hz0, hz1, hz2⟩ := info_parts Tryd.infoU8
  rw [append_zeros_eq w i0 hi hz0 hz1 hz2 ao bs.length cap n hn (by omega)]
  have hsz : (⟨(List.replicate n (0 : UInt8)).toArray⟩ : ByteArray).size = n := by show (List.replicate n (0 : UInt8)).toArray.size = n; simp
  have hsrc := Src.ofString (P := Tryd.prog) w Tryd.underlying9 ⟨(List.replicate n (0 : UInt8)).toArray⟩
  have hb2 : byteCells (⟨(List.replicate n (0 : UInt8)).toArray⟩ : ByteArray) = bv (List.replicate n 0) := by simp [byteCells, bv]
  rw [hsz, hb2] at hsrc
  have h := app_row w 9 ao cap bs (List.replicate n 0) hown _ (by rw [List.length_replicate]; exact hsrc) (by rw [List.length_replicate]; omega)
  rw [List.length_replicate] at h
  exact h
theorem row_new0 (w : World) (k : Nat) (hk : k = w.heap.size) : Row (w.alloc (.cells #[] 5)) 5 (some ⟨k, 0, none⟩) 0 [] := by
  subst hk
  exact ⟨rfl, Or.inr ⟨w.heap.size, 0, #[], rfl, Nat.zero_le _, heap_alloc_new w _, Nat.le_refl _, Nat.zero_le _, rfl, rfl⟩⟩
theorem nou_eq (n : Nat) (h : n ≤ 100000) : (119 - (n : Int) % 64) % 64 = ((nou n : Nat) : Int) := by unfold nou; omega
theorem len8 (x : Nat) : (Sha.bytesOf 8 x).length = 8 := by simp [Sha.bytesOf]
theorem bytes8_eq (x : Nat) : Sha.bytesOf 8 x = [UInt8.ofNat (x / 72057594037927936 % 256), UInt8.ofNat (x / 281474976710656 % 256), UInt8.ofNat (x / 1099511627776 % 256), UInt8.ofNat (x / 4294967296 % 256), UInt8.ofNat (x / 16777216 % 256), UInt8.ofNat (x / 65536 % 256), UInt8.ofNat (x / 256 % 256), UInt8.ofNat (x % 256)] := by
  simp [Sha.bytesOf, Nat.div_div_eq_div_mul]
theorem cells8 (N : Nat) : (#[.int .u8 ((N : Int) / 72057594037927936 % 256), .int .u8 ((N : Int) / 281474976710656 % 256), .int .u8 ((N : Int) / 1099511627776 % 256), .int .u8 ((N : Int) / 4294967296 % 256), .int .u8 ((N : Int) / 16777216 % 256), .int .u8 ((N : Int) / 65536 % 256), .int .u8 ((N : Int) / 256 % 256), .int .u8 ((N : Int) % 256)] : Array Value) = (bv (Sha.bytesOf 8 N)).toArray := by
  rw [bytes8_eq]
  simp [bv]
theorem message_eq (bs : List UInt8) : Sha.message bs = bs ++ [128] ++ List.replicate (nou bs.length) 0 ++ Sha.bytesOf 8 (bs.length * 8) := by
  unfold Sha.message Sha.ending nou
  simp

/-- Its block, if it has one, is no lower than n. -/
def Own (n : Nat) (ao : Option Addr) : Prop := ∀ i, blk ao i → n ≤ i
theorem own_at (n k : Nat) (h : n ≤ k) : Own n (some ⟨k, 0, none⟩) := fun i e => by
  obtain ⟨a, e1, e2⟩ := e
  obtain rfl := Option.some.inj e1
  have : k = i := e2
  omega
theorem Own.grow {n k : Nat} {ao a2 : Option Addr} (h : Own n ao) (hn : a2 = ao ∨ a2 = some ⟨k, 0, none⟩) (hk : n ≤ k) : Own n a2 := by
  rcases hn with rfl | rfl
  · exact h
  · exact own_at n k hk

set_option maxRecDepth 100000 in
set_option maxHeartbeats 4000000 in
theorem xmessage_any (x : Bt) (w : World) (hx : BtAt w x) (hl : x.bs.length ≤ 4000) : Calls Tryd.prog 29 #[x.val] w fun e w' => ∃ ao' cap', e = .returned (.slice ao' (Sha.message x.bs).length cap') ∧ Row w' 5 ao' cap' (Sha.message x.bs) ∧ Fr (fun _ => False) w w' := by
  obtain ⟨ao, cap, bs⟩ := x
  have hl : bs.length ≤ 4000 := hl
  unfold Bt.val
  show Calls Tryd.prog 29 #[.slice ao bs.length cap] w _
  have f1 : Fr (fun _ => False) w (w.alloc (.cells #[] 5)) := (Fr.refl _ _).alloc _
  obtain ⟨a1, c1, w1, hr1, hrow1, hF1, hn1⟩ := app_row (w.alloc (.cells #[] 5)) 27 (some ⟨w.heap.size, 0, none⟩) 0 [] bs (row_new0 w _ rfl) (.slice ao bs.length cap) (hx.fr f1 (fun _ _ _ e => e)).src (by simp; omega)
  have o0 : Own w.heap.size (some ⟨w.heap.size, 0, none⟩) := own_at _ _ (Nat.le_refl _)
  have G1 := f1.trans hF1 (fun i hi e => by have := o0 i e; omega)
  have o1 := o0.grow hn1 (by simp)
  rw [List.nil_append] at hrow1
  simp only [List.length_nil, Nat.zero_add] at hr1
  have f2 : Fr (fun _ => False) w1 (w1.alloc (.cells #[.int .u8 128] 5)) := (Fr.refl _ _).alloc _
  obtain ⟨a3, c3, w3, hr3, hrow3, hF3, hn3⟩ := app_row (w1.alloc (.cells #[.int .u8 128] 5)) 27 a1 c1 bs [128] (hrow1.alloc _) (.slice (some ⟨w1.heap.size, 0, none⟩) 1 1) ((cells_bs (bs := [128]) (heap_new rfl)).src 1) (by simp; omega)
  have G3 := (G1.trans f2 (fun _ _ e => e)).trans hF3 (fun i hi e => by have := o1 i e; omega)
  have o3 := o1.grow hn3 (by have := G1.size; simp; omega)
  have hl3 : (bs ++ [128]).length = bs.length + 1 := by simp
  simp only [List.length_singleton] at hr3
  obtain ⟨a4, c4, w4, hr4, hrow4, hF4, hn4⟩ := app_zeros w3 a3 c3 (bs ++ [128]) (nou bs.length) (by have : nou bs.length < 64 := Nat.mod_lt _ (by decide); omega) hrow3 (by rw [hl3]; omega)
  have G4 := G3.trans hF4 (fun i hi e => by have := o3 i e; omega)
  have o4 := o3.grow hn4 (by have := G3.size; omega)
  rw [hl3] at hr4
  have hl4 : (bs ++ [128] ++ List.replicate (nou bs.length) 0).length = bs.length + 1 + nou bs.length := by rw [List.length_append, hl3, List.length_replicate]
  obtain ⟨N, hN⟩ : ∃ N, N = bs.length * 8 := ⟨_, rfl⟩
  have hC : (#[.int .u8 ((N : Int) / 72057594037927936 % 256), .int .u8 ((N : Int) / 281474976710656 % 256), .int .u8 ((N : Int) / 1099511627776 % 256), .int .u8 ((N : Int) / 4294967296 % 256), .int .u8 ((N : Int) / 16777216 % 256), .int .u8 ((N : Int) / 65536 % 256), .int .u8 ((N : Int) / 256 % 256), .int .u8 ((N : Int) % 256)] : Array Value) = (bv (Sha.bytesOf 8 N)).toArray := cells8 N
  have f5 : Fr (fun _ => False) w4 (w4.alloc (.cells #[.int .u8 ((N : Int) / 72057594037927936 % 256), .int .u8 ((N : Int) / 281474976710656 % 256), .int .u8 ((N : Int) / 1099511627776 % 256), .int .u8 ((N : Int) / 4294967296 % 256), .int .u8 ((N : Int) / 16777216 % 256), .int .u8 ((N : Int) / 65536 % 256), .int .u8 ((N : Int) / 256 % 256), .int .u8 ((N : Int) % 256)] 5)) := (Fr.refl _ _).alloc _
  have hsrc : Src Tryd.prog 1 27 (.slice (some ⟨w4.heap.size, 0, none⟩) 8 8) (Sha.bytesOf 8 N).length (bv (Sha.bytesOf 8 N)) (w4.alloc (.cells #[.int .u8 ((N : Int) / 72057594037927936 % 256), .int .u8 ((N : Int) / 281474976710656 % 256), .int .u8 ((N : Int) / 1099511627776 % 256), .int .u8 ((N : Int) / 4294967296 % 256), .int .u8 ((N : Int) / 16777216 % 256), .int .u8 ((N : Int) / 65536 % 256), .int .u8 ((N : Int) / 256 % 256), .int .u8 ((N : Int) % 256)] 5)) := by
    have h := (cells_bs (w := w4.alloc (.cells #[.int .u8 ((N : Int) / 72057594037927936 % 256), .int .u8 ((N : Int) / 281474976710656 % 256), .int .u8 ((N : Int) / 1099511627776 % 256), .int .u8 ((N : Int) / 4294967296 % 256), .int .u8 ((N : Int) / 16777216 % 256), .int .u8 ((N : Int) / 65536 % 256), .int .u8 ((N : Int) / 256 % 256), .int .u8 ((N : Int) % 256)] 5)) (b := w4.heap.size) (bs := Sha.bytesOf 8 N) (by rw [hC]; exact heap_new rfl)).src 8
    rw [len8] at h ⊢
    exact h
  obtain ⟨a6, c6, w6, hr6, hrow6, hF6, hn6⟩ := app_row (w4.alloc (.cells #[.int .u8 ((N : Int) / 72057594037927936 % 256), .int .u8 ((N : Int) / 281474976710656 % 256), .int .u8 ((N : Int) / 1099511627776 % 256), .int .u8 ((N : Int) / 4294967296 % 256), .int .u8 ((N : Int) / 16777216 % 256), .int .u8 ((N : Int) / 65536 % 256), .int .u8 ((N : Int) / 256 % 256), .int .u8 ((N : Int) % 256)] 5)) 27 a4 c4 (bs ++ [128] ++ List.replicate (nou bs.length) 0) (Sha.bytesOf 8 N) (hrow4.alloc _) _ hsrc (by rw [hl4, len8]; have : nou bs.length < 64 := Nat.mod_lt _ (by decide); omega)
  have G6 := (G4.trans f5 (fun _ _ e => e)).trans hF6 (fun i hi e => by have := o4 i e; omega)
  rw [hl4, len8] at hr6
  have HR1 := hideIt hr1
  have HR3 := hideIt hr3
  have HR4 := hideIt hr4
  have hnq := nou_eq bs.length (by omega)
  obtain ⟨q, hq⟩ : ∃ q, nou bs.length = q := ⟨_, rfl⟩
  have hM := message_eq bs
  rw [← hN] at hM
  rw [← hM] at hrow6
  have hML : (Sha.message bs).length = bs.length + 1 + nou bs.length + 8 := by rw [hM, List.length_append, hl4, len8]
  rw [hq] at hnq hML
  simp only [hq] at hr6
  have HR6 := hideIt hr6
  simp only [hq] at HR4
  have HQ := hideIt hq
  have HL4 := hideIt hl4
  have hrm : (bs.length : Int).tmod 64 = (bs.length : Int) % 64 := Int.tmod_eq_emod_of_nonneg (by omega)
  have hrm2 : (119 - (bs.length : Int) % 64).tmod 64 = (q : Int) := by rw [Int.tmod_eq_emod_of_nonneg (by omega)]; exact hnq
  have hw1 : IntKind.i64.wrap (119 - (bs.length : Int) % 64) = 119 - (bs.length : Int) % 64 := by rw [IntKind.wrap_i64]; omega
  have hw1b : wrap64 (119 - (bs.length : Int) % 64) = 119 - (bs.length : Int) % 64 := by unfold wrap64; omega
  have hw2 : IntKind.u64.wrap (bs.length : Int) = (bs.length : Int) := by rw [IntKind.wrap_u64]; omega
  have hw3 : IntKind.u64.wrap ((bs.length : Int) * 8) = (N : Int) := by rw [IntKind.wrap_u64, hN]; omega
  have HF6 := hideIt G6
  have HROW := hideIt hrow6
  have HNN := hideIt hN
  have HML := hideIt hML
  clear hr1 hr3 hr4 hrow1 hF1 hn1 G1 o1 f2 hrow3 hF3 hn3 G3 o3 hrow4 hF4 hn4 G4 o4 f1 o0 hl3 hl4 hx hq hN hnq hC f5 hsrc hr6 hrow6 hF6 hn6 G6 hM hML HL4
  go_enter Tryd.func29, Tryd.ntmps29
  go_wp2_with (first | (at_builtin; refine wpList_append_run _ rfl (.tmp 11) (.tmp 12) 27 27 rfl _ _ _ _ rfl rfl HR1.out ?_) | (at_builtin; refine wpList_append_run _ rfl (.tmp 13) (.tmp 14) 27 27 rfl _ _ _ _ rfl rfl HR3.out ?_) | (at_builtin; refine wpList_append_run _ rfl (.tmp 16) (.tmp 17) 27 3 rfl _ _ _ _ rfl rfl HR4.out ?_) | (at_builtin; refine wpList_append_run _ rfl (.tmp 23) (.tmp 47) 27 27 rfl _ _ _ _ rfl rfl HR6.out ?_))
  go_ret
  exact ⟨a6, c6, by rw [HML.out]; rfl, HROW.out, HF6.out⟩

end Go.Proofs.YtgnpdnkmhjocjaaDoor
