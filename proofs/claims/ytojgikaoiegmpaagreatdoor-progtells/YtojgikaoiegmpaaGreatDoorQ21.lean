/- ProgTells, part 21 of the road: what the program's functions do, each by its own walk. -/
import Derived.Test.YtojgikaoiegmpaaGreatDoorQ20
import Derived.Lib.AppendZeros
import Derived.BigQuiet
import Derived.Deep.QuietTactic

/- Rows: noughts appended. -/
namespace Go.Proofs.YtojgikaoiegmpaaGreatDoor
open Go.RowKit Go.IntWalk Go.Lib
set_option linter.unusedSimpArgs false
set_option linter.unusedVariables false
set_option maxRecDepth 100000

theorem append_zeros_eq (w : World) (i : TypeInfo) (hi : Tryz.prog.info? 5 = some i) (hz : i.zero = some (.int .u8 0)) (hs : i.size = 1) (hb : i.bytes = 1) (ao : Option Addr) (len cap n : Nat) (hn : n ≤ 1000) (hl : len ≤ 140737488000000) :
    (Builtin.append_ #[29, 3] 29 #[.slice ao len cap, .int .i64 (n : Int)]).run Tryz.prog w = (Builtin.append_ #[29, 9] 29 #[.slice ao len cap, .string ⟨(List.replicate n (0 : UInt8)).toArray⟩]).run Tryz.prog w := by
  have hw : IntKind.i64.wrap (n : Int) = n := by rw [IntKind.wrap_i64]; omega
  have hneg : ¬ ((n : Int) < 0) := by omega
  have h48i : ¬ (281474976710656 < (n : Int)) := by omega
  have h63 : ¬ (9223372036854775807 < (len : Int) + (n : Int)) := by omega
  obtain ⟨S, hS⟩ : ∃ S : ByteArray, S = ⟨(List.replicate n (0 : UInt8)).toArray⟩ := ⟨_, rfl⟩
  have hsz : S.size = n := by rw [hS]; show (List.replicate n (0 : UInt8)).toArray.size = n; simp
  have hcl : ∀ w, (Builtin.firstCells 1 n (.string S)).run Tryz.prog w = .ok (bv (List.replicate n 0)).toArray w := fun w => by
    have h := (Src.ofString (P := Tryz.prog) w Tryz.underlying9 S).cells
    have hb : byteCells S = bv (List.replicate n 0) := by rw [hS]; simp [byteCells, bv]
    rw [hsz, hb] at h
    exact h
  have hzc : Builtin.zeroCells #[.int .u8 0] n = (bv (List.replicate n 0)).toArray := by
    apply Array.ext'
    simp [Builtin.zeroCells, bv, Nat.mod_one, List.map_const']
  rw [← hS]
  have hz0 : n = 0 → (bv (List.replicate n 0)).toArray = #[] := fun e => by rw [e]; rfl
  clear hS
  generalize (bv (List.replicate n 0)).toArray = Z at *
  have hlen : ∀ w, (Builtin.lenOf (.string S)).run Tryz.prog w = .ok n w := fun w => by simp [Builtin.lenOf, hsz]
  have hzv : ∀ w, (zeroValue 5).run Tryz.prog w = .ok (.int .u8 0) w := fun w => by simp [zeroValue, typeInfo, hi, hz, Sem.run_bind]
  by_cases hroom : len + n ≤ cap
  · simp [-Sem.runT_eq, Builtin.append_, sizeOf, typeInfo, asInt, asIntOf, run_underlying Tryz.underlying29, run_underlying Tryz.underlying3, run_underlying Tryz.underlying9, hi, hs, hb, hw, hneg, h48i, h63, hlen, Sem.run_bind, hcl, hzc, hzv, Value.cells, hroom]
    intro e
    rw [hz0 e]
  · have hgf : ¬ 281474976710656 < Builtin.nextslicecap (len + n) cap := by
      have := growslice_fits (bytes := 1) (show cap < len + n by omega) (by omega)
      omega
    simp [-Sem.runT_eq, Builtin.append_, sizeOf, typeInfo, asInt, asIntOf, run_underlying Tryz.underlying29, run_underlying Tryz.underlying3, run_underlying Tryz.underlying9, hi, hs, hb, hw, hneg, h48i, h63, hlen, Sem.run_bind, hcl, hzc, hzv, Value.cells, hroom, hgf]
    by_cases hn0 : n = 0
    · have hZ := hz0 hn0
      subst hZ
      simp only [if_pos hn0, Array.empty_append]
    · simp only [if_neg hn0]

end Go.Proofs.YtojgikaoiegmpaaGreatDoor

/- Package hash, the document's: a message of bytes, walked. -/
namespace Go.Proofs.YtojgikaoiegmpaaGreatDoor
open Go.RowKit Go.IntWalk
set_option linter.unusedSimpArgs false
set_option linter.unusedVariables false
set_option maxRecDepth 100000

/-- Noughts appended to bytes. -/
theorem app_zeros (w : World) (ao : Option Addr) (cap : Nat) (bs : List UInt8) (n : Nat) (hn : n ≤ 1000) (hown : Row w 5 ao cap bs) (hb : bs.length ≤ 100000) :
    ∃ ao' cap' w', (Builtin.append_ #[29, 3] 29 #[.slice ao bs.length cap, .int .i64 (n : Int)]).run Tryz.prog w = .ok (.slice ao' (bs.length + n) cap') w' ∧ Row w' 5 ao' cap' (bs ++ List.replicate n 0) ∧ Fr (blk ao) w w' ∧ (ao' = ao ∨ ao' = some ⟨w.heap.size, 0, none⟩) := by
  obtain ⟨i0, hi, hz0, hz1, hz2⟩ := info_parts Tryz.infoU8
  rw [append_zeros_eq w i0 hi hz0 hz1 hz2 ao bs.length cap n hn (by omega)]
  have hsz : (⟨(List.replicate n (0 : UInt8)).toArray⟩ : ByteArray).size = n := by show (List.replicate n (0 : UInt8)).toArray.size = n; simp
  have hsrc := Src.ofString (P := Tryz.prog) w Tryz.underlying9 ⟨(List.replicate n (0 : UInt8)).toArray⟩
  have hb2 : byteCells (⟨(List.replicate n (0 : UInt8)).toArray⟩ : ByteArray) = bv (List.replicate n 0) := by simp [byteCells, bv]
  rw [hsz, hb2] at hsrc
  have h := app_row w 9 ao cap bs (List.replicate n 0) hown _ (by rw [List.length_replicate]; exact hsrc) (by rw [List.length_replicate]; omega)
  rw [List.length_replicate] at h
  exact h
theorem row_new0 (w : World) (k : Nat) (hk : k = w.heap.size) : Row (w.alloc (.cells #[] 5)) 5 (some ⟨k, 0, none⟩) 0 [] := by
  subst hk
  exact ⟨rfl, Or.inr ⟨w.heap.size, 0, #[], rfl, Nat.zero_le _, heap_alloc_new w _, Nat.le_refl _, Nat.zero_le _, rfl, rfl⟩⟩
theorem nou_eq (n : Nat) (h : n ≤ 100000) : (119 - (n : Int) % 64) % 64 = ((nou n : Nat) : Int) := by unfold nou; omega
theorem len8 (x : Nat) : (Sha.bytesOf 8 x).length = 8 := by simp [Sha.bytesOf]
theorem bytes8_eq (x : Nat) : Sha.bytesOf 8 x = [UInt8.ofNat (x / 72057594037927936 % 256), UInt8.ofNat (x / 281474976710656 % 256), UInt8.ofNat (x / 1099511627776 % 256), UInt8.ofNat (x / 4294967296 % 256), UInt8.ofNat (x / 16777216 % 256), UInt8.ofNat (x / 65536 % 256), UInt8.ofNat (x / 256 % 256), UInt8.ofNat (x % 256)] := by
  simp [Sha.bytesOf, Nat.div_div_eq_div_mul]
theorem cells8 (N : Nat) : (#[.int .u8 ((N : Int) / 72057594037927936 % 256), .int .u8 ((N : Int) / 281474976710656 % 256), .int .u8 ((N : Int) / 1099511627776 % 256), .int .u8 ((N : Int) / 4294967296 % 256), .int .u8 ((N : Int) / 16777216 % 256), .int .u8 ((N : Int) / 65536 % 256), .int .u8 ((N : Int) / 256 % 256), .int .u8 ((N : Int) % 256)] : Array Value) = (bv (Sha.bytesOf 8 N)).toArray := by
  rw [bytes8_eq]
  simp [bv]
theorem message_eq (bs : List UInt8) : Sha.message bs = bs ++ [128] ++ List.replicate (nou bs.length) 0 ++ Sha.bytesOf 8 (bs.length * 8) := by
  unfold Sha.message Sha.ending nou
  simp

/-- Its block, if it has one, is no lower than n. -/
def Own (n : Nat) (ao : Option Addr) : Prop := ∀ i, blk ao i → n ≤ i
theorem own_at (n k : Nat) (h : n ≤ k) : Own n (some ⟨k, 0, none⟩) := fun i e => by
  obtain ⟨a, e1, e2⟩ := e
  obtain rfl := Option.some.inj e1
  have : k = i := e2
  omega
theorem Own.grow {n k : Nat} {ao a2 : Option Addr} (h : Own n ao) (hn : a2 = ao ∨ a2 = some ⟨k, 0, none⟩) (hk : n ≤ k) : Own n a2 := by
  rcases hn with rfl | rfl
  · exact h
  · exact own_at n k hk

set_option maxRecDepth 100000 in
set_option maxHeartbeats 4000000 in
theorem xmessage_any (x : Bt) (w : World) (hx : BtAt w x) (hl : x.bs.length ≤ 4000) : Calls Tryz.prog 58 #[x.val] w fun e w' => ∃ ao' cap', e = .returned (.slice ao' (Sha.message x.bs).length cap') ∧ Row w' 5 ao' cap' (Sha.message x.bs) ∧ Fr (fun _ => False) w w' := by
  obtain ⟨ao, cap, bs⟩ := x
  have hl : bs.length ≤ 4000 := hl
  unfold Bt.val
  show Calls Tryz.prog 58 #[.slice ao bs.length cap] w _
  have f1 : Fr (fun _ => False) w (w.alloc (.cells #[] 5)) := (Fr.refl _ _).alloc _
  obtain ⟨a1, c1, w1, hr1, hrow1, hF1, hn1⟩ := app_row (w.alloc (.cells #[] 5)) 29 (some ⟨w.heap.size, 0, none⟩) 0 [] bs (row_new0 w _ rfl) (.slice ao bs.length cap) (hx.fr f1 (fun _ _ _ e => e)).src (by simp; omega)
  have o0 : Own w.heap.size (some ⟨w.heap.size, 0, none⟩) := own_at _ _ (Nat.le_refl _)
  have G1 := f1.trans hF1 (fun i hi e => by have := o0 i e; omega)
  have o1 := o0.grow hn1 (by simp)
  rw [List.nil_append] at hrow1
  simp only [List.length_nil, Nat.zero_add] at hr1
  have f2 : Fr (fun _ => False) w1 (w1.alloc (.cells #[.int .u8 128] 5)) := (Fr.refl _ _).alloc _
  obtain ⟨a3, c3, w3, hr3, hrow3, hF3, hn3⟩ := app_row (w1.alloc (.cells #[.int .u8 128] 5)) 29 a1 c1 bs [128] (hrow1.alloc _) (.slice (some ⟨w1.heap.size, 0, none⟩) 1 1) ((cells_bs (bs := [128]) (heap_new rfl)).src 1) (by simp; omega)
  have G3 := (G1.trans f2 (fun _ _ e => e)).trans hF3 (fun i hi e => by have := o1 i e; omega)
  have o3 := o1.grow hn3 (by have := G1.size; simp; omega)
  have hl3 : (bs ++ [128]).length = bs.length + 1 := by simp
  simp only [List.length_singleton] at hr3
  obtain ⟨a4, c4, w4, hr4, hrow4, hF4, hn4⟩ := app_zeros w3 a3 c3 (bs ++ [128]) (nou bs.length) (by have : nou bs.length < 64 := Nat.mod_lt _ (by decide); omega) hrow3 (by rw [hl3]; omega)
  have G4 := G3.trans hF4 (fun i hi e => by have := o3 i e; omega)
  have o4 := o3.grow hn4 (by have := G3.size; omega)
  rw [hl3] at hr4
  have hl4 : (bs ++ [128] ++ List.replicate (nou bs.length) 0).length = bs.length + 1 + nou bs.length := by rw [List.length_append, hl3, List.length_replicate]
  obtain ⟨N, hN⟩ : ∃ N, N = bs.length * 8 := ⟨_, rfl⟩
  have hC : (#[.int .u8 ((N : Int) / 72057594037927936 % 256), .int .u8 ((N : Int) / 281474976710656 % 256), .int .u8 ((N : Int) / 1099511627776 % 256), .int .u8 ((N : Int) / 4294967296 % 256), .int .u8 ((N : Int) / 16777216 % 256), .int .u8 ((N : Int) / 65536 % 256), .int .u8 ((N : Int) / 256 % 256), .int .u8 ((N : Int) % 256)] : Array Value) = (bv (Sha.bytesOf 8 N)).toArray := cells8 N
  have f5 : Fr (fun _ => False) w4 (w4.alloc (.cells #[.int .u8 ((N : Int) / 72057594037927936 % 256), .int .u8 ((N : Int) / 281474976710656 % 256), .int .u8 ((N : Int) / 1099511627776 % 256), .int .u8 ((N : Int) / 4294967296 % 256), .int .u8 ((N : Int) / 16777216 % 256), .int .u8 ((N : Int) / 65536 % 256), .int .u8 ((N : Int) / 256 % 256), .int .u8 ((N : Int) % 256)] 5)) := (Fr.refl _ _).alloc _
  have hsrc : Src Tryz.prog 1 29 (.slice (some ⟨w4.heap.size, 0, none⟩) 8 8) (Sha.bytesOf 8 N).length (bv (Sha.bytesOf 8 N)) (w4.alloc (.cells #[.int .u8 ((N : Int) / 72057594037927936 % 256), .int .u8 ((N : Int) / 281474976710656 % 256), .int .u8 ((N : Int) / 1099511627776 % 256), .int .u8 ((N : Int) / 4294967296 % 256), .int .u8 ((N : Int) / 16777216 % 256), .int .u8 ((N : Int) / 65536 % 256), .int .u8 ((N : Int) / 256 % 256), .int .u8 ((N : Int) % 256)] 5)) := by
    have h := (cells_bs (w := w4.alloc (.cells #[.int .u8 ((N : Int) / 72057594037927936 % 256), .int .u8 ((N : Int) / 281474976710656 % 256), .int .u8 ((N : Int) / 1099511627776 % 256), .int .u8 ((N : Int) / 4294967296 % 256), .int .u8 ((N : Int) / 16777216 % 256), .int .u8 ((N : Int) / 65536 % 256), .int .u8 ((N : Int) / 256 % 256), .int .u8 ((N : Int) % 256)] 5)) (b := w4.heap.size) (bs := Sha.bytesOf 8 N) (by rw [hC]; exact heap_new rfl)).src 8
    rw [len8] at h ⊢
    exact h
  obtain ⟨a6, c6, w6, hr6, hrow6, hF6, hn6⟩ := app_row (w4.alloc (.cells #[.int .u8 ((N : Int) / 72057594037927936 % 256), .int .u8 ((N : Int) / 281474976710656 % 256), .int .u8 ((N : Int) / 1099511627776 % 256), .int .u8 ((N : Int) / 4294967296 % 256), .int .u8 ((N : Int) / 16777216 % 256), .int .u8 ((N : Int) / 65536 % 256), .int .u8 ((N : Int) / 256 % 256), .int .u8 ((N : Int) % 256)] 5)) 29 a4 c4 (bs ++ [128] ++ List.replicate (nou bs.length) 0) (Sha.bytesOf 8 N) (hrow4.alloc _) _ hsrc (by rw [hl4, len8]; have : nou bs.length < 64 := Nat.mod_lt _ (by decide); omega)
  have G6 := (G4.trans f5 (fun _ _ e => e)).trans hF6 (fun i hi e => by have := o4 i e; omega)
  rw [hl4, len8] at hr6
  have HR1 := hideIt hr1
  have HR3 := hideIt hr3
  have HR4 := hideIt hr4
  have hnq := nou_eq bs.length (by omega)
  obtain ⟨q, hq⟩ : ∃ q, nou bs.length = q := ⟨_, rfl⟩
  have hM := message_eq bs
  rw [← hN] at hM
  rw [← hM] at hrow6
  have hML : (Sha.message bs).length = bs.length + 1 + nou bs.length + 8 := by rw [hM, List.length_append, hl4, len8]
  rw [hq] at hnq hML
  simp only [hq] at hr6
  have HR6 := hideIt hr6
  simp only [hq] at HR4
  have HQ := hideIt hq
  have HL4 := hideIt hl4
  have hrm : (bs.length : Int).tmod 64 = (bs.length : Int) % 64 := Int.tmod_eq_emod_of_nonneg (by omega)
  have hrm2 : (119 - (bs.length : Int) % 64).tmod 64 = (q : Int) := by rw [Int.tmod_eq_emod_of_nonneg (by omega)]; exact hnq
  have hw1 : IntKind.i64.wrap (119 - (bs.length : Int) % 64) = 119 - (bs.length : Int) % 64 := by rw [IntKind.wrap_i64]; omega
  have hw1b : wrap64 (119 - (bs.length : Int) % 64) = 119 - (bs.length : Int) % 64 := by unfold wrap64; omega
  have hw2 : IntKind.u64.wrap (bs.length : Int) = (bs.length : Int) := by rw [IntKind.wrap_u64]; omega
  have hw3 : IntKind.u64.wrap ((bs.length : Int) * 8) = (N : Int) := by rw [IntKind.wrap_u64, hN]; omega
  have HF6 := hideIt G6
  have HROW := hideIt hrow6
  have HNN := hideIt hN
  have HML := hideIt hML
  clear hr1 hr3 hr4 hrow1 hF1 hn1 G1 o1 f2 hrow3 hF3 hn3 G3 o3 hrow4 hF4 hn4 G4 o4 f1 o0 hl3 hl4 hx hq hN hnq hC f5 hsrc hr6 hrow6 hF6 hn6 G6 hM hML HL4
  go_enter Tryz.func58, Tryz.ntmps58
  go_wp2_with (first | (at_builtin; refine wpList_append_run _ rfl (.tmp 11) (.tmp 12) 29 29 rfl _ _ _ _ rfl rfl HR1.out ?_) | (at_builtin; refine wpList_append_run _ rfl (.tmp 13) (.tmp 14) 29 29 rfl _ _ _ _ rfl rfl HR3.out ?_) | (at_builtin; refine wpList_append_run _ rfl (.tmp 16) (.tmp 17) 29 3 rfl _ _ _ _ rfl rfl HR4.out ?_) | (at_builtin; refine wpList_append_run _ rfl (.tmp 23) (.tmp 47) 29 29 rfl _ _ _ _ rfl rfl HR6.out ?_))
  go_ret
  exact ⟨a6, c6, by rw [HML.out]; rfl, HROW.out, HF6.out⟩

end Go.Proofs.YtojgikaoiegmpaaGreatDoor

/- Package hash, the document's: the constants, a block's words, walked. -/
namespace Go.Proofs.YtojgikaoiegmpaaGreatDoor
open Go.RowKit Go.IntWalk
set_option linter.unusedSimpArgs false
set_option linter.unusedVariables false
set_option maxRecDepth 100000

theorem uv_append (a b : List Nat) : uv (a ++ b) = uv a ++ uv b := by simp [uv]
/-- A slice of words that lies in memory of its own. -/
def RowU (w : World) (e : TypeId) (ao : Option Addr) (cap : Nat) (bs : List Nat) : Prop := w.ownsRow 0 e 1 (.slice ao bs.length cap) bs.length (uv bs)

theorem RowU.keep {w w' : World} {e : TypeId} {ao : Option Addr} {cap : Nat} {bs : List Nat} (h : RowU w e ao cap bs) (hb : ∀ k, k < w.heap.size → blk ao k → w'.heap[k]? = w.heap[k]?) : RowU w' e ao cap bs := by
  refine ⟨h.1, ?_⟩
  rcases h.2 with hn | ⟨g, c, cur, hv, hg, hh, r⟩
  · exact Or.inl hn
  · refine Or.inr ⟨g, c, cur, hv, hg, ?_, r⟩
    have hlt : g < w.heap.size := (Array.getElem?_eq_some_iff.1 hh).1
    rw [hb g hlt ⟨⟨g, 0, none⟩, by simpa using (Value.slice.inj hv).1, rfl⟩]
    exact hh

theorem RowU.form {w : World} {e : TypeId} {ao : Option Addr} {cap : Nat} {bs : List Nat} (h : RowU w e ao cap bs) :
    (ao = none ∧ bs = [] ∧ cap = 0) ∨ ∃ g cur, ao = some ⟨g, 0, none⟩ ∧ w.heap[g]? = some (.cells cur e (0, 0)) ∧ bs.length ≤ cap ∧ cap ≤ maxLen ∧ cur.size = cap ∧ cur.toList.take bs.length = uv bs := by
  rcases h.2 with ⟨hv, hn⟩ | ⟨g, c, cur, hv, _, hh, h1, h2, h3, h4⟩
  · obtain ⟨rfl, _, rfl⟩ := Value.slice.inj hv
    exact Or.inl ⟨rfl, List.eq_nil_of_length_eq_zero hn, rfl⟩
  · obtain ⟨rfl, _, rfl⟩ := Value.slice.inj hv
    exact Or.inr ⟨g, cur, rfl, hh, h1, h2, by simpa using h3, by simpa using h4⟩

theorem RowU.lt {w : World} {e : TypeId} {ao : Option Addr} {cap : Nat} {bs : List Nat} (h : RowU w e ao cap bs) {k : Nat} (hk : blk ao k) : k < w.heap.size := by
  obtain ⟨a, rfl, rfl⟩ := hk
  rcases h.form with ⟨h0, _⟩ | ⟨g, cur, h0, hh, _⟩
  · cases h0
  · obtain rfl := Option.some.inj h0
    exact (Array.getElem?_eq_some_iff.1 hh).1

/-- append onto words, of whatever is appended: the row is the same, or a new one. -/
theorem append_rowU {P : Program} (w : World) (t tx ty e : TypeId) (i : TypeInfo) (z : Value) (ht : P.underlying t = some (.slice e)) (hi : P.info? e = some i) (hz : i.zero = some z) (hsize : i.size = 1) (hby : i.bytes = 4) (hzs : z.cells.size = 1)
    (ao : Option Addr) (cap : Nat) (bs cs : List Nat) (hown : RowU w e ao cap bs) (x : Value) (hs : Src P 1 tx x cs.length (uv cs) w) (hb : bs.length + cs.length ≤ 100000) :
    ∃ ao' cap' w', (Builtin.append_ #[t, tx] ty #[.slice ao bs.length cap, x]).run P w = .ok (.slice ao' (bs.length + cs.length) cap') w' ∧ RowU w' e ao' cap' (bs ++ cs) ∧ Fr (blk ao) w w' ∧ (ao' = ao ∨ ao' = some ⟨w.heap.size, 0, none⟩) ∧ (ao' = some ⟨w.heap.size, 0, none⟩ → Fr (fun _ => False) w w') := by
  have hm : bs.length + cs.length ≤ maxLen := by unfold maxLen; omega
  have hfr : ∀ (cur : Array Value), Fr (blk ao) w (w.drew.alloc (.cells cur e)) := fun cur => (Fr.refl _ _).drew.alloc _
  have grow : cap < bs.length + cs.length → (Builtin.firstCells i.size bs.length (.slice ao bs.length cap)).run P w.drew = .ok (uv bs).toArray w.drew →
      ∃ ao' cap' w', (Builtin.append_ #[t, tx] ty #[.slice ao bs.length cap, x]).run P w = .ok (.slice ao' (bs.length + cs.length) cap') w' ∧ RowU w' e ao' cap' (bs ++ cs) ∧ Fr (blk ao) w w' ∧ (ao' = ao ∨ ao' = some ⟨w.heap.size, 0, none⟩) ∧ (ao' = some ⟨w.heap.size, 0, none⟩ → Fr (fun _ => False) w w') := by
    intro hlt hold
    have hr := run_append_grow_src (P := P) w t tx ty e i z ht hi hz ao bs.length cap (uv bs) hold x cs.length (uv cs) (by rw [hsize]; exact hs) hlt (by unfold maxLen at hm; omega) (growslice_fits hlt (by rw [hby]; omega))
    refine ⟨_, _, _, hr, ?_, hfr _, Or.inr rfl, fun _ => (Fr.refl _ _).drew.alloc _⟩
    have hge := grownCap_ge w (bs.length + cs.length) cap e
    have hcm := grownCap_le_maxLen w (bs.length + cs.length) cap e hm
    refine ⟨by simp [uv_length], Or.inr ⟨w.heap.size, _, _, by simp, Nat.zero_le _, heap_alloc_new w.drew _, by simpa using hge, hcm, ?_, ?_⟩⟩
    · simp only [Array.size_append, List.size_toArray, size_zeroCells, hzs, List.length_append, uv_length, Nat.mul_one]
      omega
    · simp only [Array.toList_append, Nat.mul_one, uv_append]
      rw [show (bs ++ cs).length = (uv bs ++ uv cs).length by simp [uv_length]]
      exact List.take_left
  rcases hown.form with ⟨rfl, rfl, rfl⟩ | ⟨g, cur, rfl, hg, hle, hcm, hcs, htake⟩
  · by_cases hc : cs = []
    · subst hc
      refine ⟨none, 0, w, ?_, hown, Fr.refl _ _, Or.inl rfl, fun e => by cases e⟩
      exact run_append_nothing (P := P) w t tx ty e i ht hi none 0 0 (Nat.le_refl _) x (by rw [hsize]; exact hs)
    · exact grow (by have := List.length_pos_iff.2 hc; simpa using this) (run_firstCells_none w.drew i.size 0 0 0)
  · by_cases hroom : bs.length + cs.length ≤ cap
    · have hst := run_storeCells_at P g (bs.length * i.size) e (uv cs) 0 cur w hg (by rw [hsize, uv_length, hcs]; omega) (uv_one cs)
      simp only [Nat.add_zero] at hst
      have hcells := hs.cells
      rw [← hsize] at hcells
      refine ⟨some ⟨g, 0, none⟩, cap, w.setRow g (cur.toList.take (bs.length * i.size) ++ uv cs ++ cur.toList.drop (bs.length * i.size + (uv cs).length)).toArray, ?_, ?_, ?_, Or.inl rfl, fun e => by have h1 : g = w.heap.size := (by simpa using e); have h2 := (Array.getElem?_eq_some_iff.1 hg).1; omega⟩
      · rcases hs.kind with ⟨e', hk⟩ | hk <;> simp [Builtin.append_, run_underlying ht, run_underlying hk, sizeOf, typeInfo, hi, hs.len, hroom, hcells, Addr.add_lit, hst]
      · refine ⟨by simp [uv_length], Or.inr ⟨g, cap, _, by simp, Nat.zero_le _, setRow_heap w g cur _ e _ hg, by simpa using hroom, hcm, ?_, ?_⟩⟩
        · simp only [List.size_toArray, List.length_append, List.length_take, List.length_drop, Array.length_toList, uv_length, hsize]
          omega
        · simp only [hsize, Nat.mul_one, htake, uv_append]
          rw [show (bs ++ cs).length = (uv bs ++ uv cs).length by simp [uv_length]]
          exact List.take_left
      · exact ⟨rfl, rfl, rfl, by simp, fun k _ hk => setRow_other w g k _ (fun e => hk ⟨⟨g, 0, none⟩, rfl, by simp [e]⟩)⟩
    · refine grow (by omega) (run_firstCells_some w.drew i.size bs.length ⟨g, 0, none⟩ bs.length cap (uv bs) (by rw [hsize, uv_length]; omega) (fun j u hu => ?_))
      have := hown.cells (g := g) rfl j u hu
      simpa using this

theorem RowU.cell {w : World} {e : TypeId} {g : Nat} {cap : Nat} {bs : List Nat} (h : RowU w e (some ⟨g, 0, none⟩) cap bs) (j : Nat) (hj : j < bs.length) : w.cell? ⟨g, j, none⟩ = some (.int .u32 (bs.getD j 0 : Nat)) := by
  have := World.ownsRow.cellAt h j (by simpa using hj)
  rw [this]
  simp [uv, List.getD, hj]
theorem RowU.alloc {w : World} {e : TypeId} {ao : Option Addr} {cap : Nat} {bs : List Nat} (h : RowU w e ao cap bs) (o : Obj) : RowU (w.alloc o) e ao cap bs := h.keep (fun k hk _ => Below.heap_alloc w o k hk)
theorem RowU.fr0 {w w' : World} {e : TypeId} {ao : Option Addr} {cap : Nat} {bs : List Nat} (h : RowU w e ao cap bs) (hF : Fr (fun _ => False) w w') : RowU w' e ao cap bs := h.keep (fun k hk _ => hF.block k hk (fun e => e))
theorem rowU_nil (w : World) (e : TypeId) : RowU w e none 0 [] := ⟨rfl, Or.inl ⟨rfl, rfl⟩⟩
theorem Tryz.infoU32r : (Tryz.prog.info? 89).map (fun i => (i.zero, i.size, i.bytes)) = some (some (.int .u32 0), 1, 4) := by kernel_rfl
/-- One word appended, which lies in the newest block. -/
theorem app_one (w : World) (ao : Option Addr) (cap : Nat) (bs : List Nat) (v : Nat) (hown : RowU w 89 ao cap bs) (hb : bs.length ≤ 1000) :
    ∃ ao' cap' w', (Builtin.append_ #[93, 93] 93 #[.slice ao bs.length cap, .slice (some ⟨w.heap.size, 0, none⟩) 1 1]).run Tryz.prog (w.alloc (.cells #[.int .u32 (v : Int)] 89)) = .ok (.slice ao' (bs.length + 1) cap') w' ∧ RowU w' 89 ao' cap' (bs ++ [v]) ∧ Fr (blk ao) w w' ∧ (ao' = ao ∨ ao' = some ⟨w.heap.size + 1, 0, none⟩) ∧ (ao' = some ⟨w.heap.size + 1, 0, none⟩ → Fr (fun _ => False) w w') := by
  obtain ⟨i0, hi, hz0, hz1, hz2⟩ := info_parts Tryz.infoU32r
  have hsrc : Src Tryz.prog 1 93 (.slice (some ⟨w.heap.size, 0, none⟩) 1 1) [v].length (uv [v]) (w.alloc (.cells #[.int .u32 (v : Int)] 89)) :=
    Src.ofSlice _ Tryz.underlying93 ⟨w.heap.size, 0, none⟩ 1 1 (uv [v]) (by simp [uv]) (fun j u hu => by
      have hj : j < 1 := by have := (List.getElem?_eq_some_iff.1 hu).1; simpa [uv] using this
      obtain rfl : j = 0 := by omega
      have hu2 : u = .int .u32 (v : Int) := by simpa [uv] using hu.symm
      rw [hu2, Addr.add_lit]
      exact cellOfHeap (heap_new rfl) 0 rfl) (uv_one _)
  obtain ⟨a2, c2, w2, hr, hrow, hF, hn, hf0⟩ := append_rowU (w.alloc (.cells #[.int .u32 (v : Int)] 89)) 93 93 93 89 i0 (.int .u32 0) Tryz.underlying93 hi hz0 hz1 hz2 rfl ao cap bs [v] (hown.alloc _) _ hsrc (by simp; omega)
  refine ⟨a2, c2, w2, hr, hrow, ?_, by simpa using hn, fun e => ((Fr.refl _ w).alloc _).trans (hf0 (by simpa using e)) (fun _ _ e => e)⟩
  exact ((Fr.refl (blk ao) w).alloc _).trans hF (fun _ _ e => e)
namespace Sha
/-- A block's first t words. -/
def so (b : List UInt8) (t : Nat) : List Nat := if t ≤ 16 then (words 16 b).take t else grow (t - 16) (words 16 b)
theorem so_zero (b : List UInt8) : so b 0 = [] := by simp [so]
theorem so_len (b : List UInt8) (t : Nat) (h : t ≤ 64) : (so b t).length = t := by
  unfold so
  split
  · rw [List.length_take, words_len]; omega
  · rw [grow_len, words_len]; omega
theorem so_all (b : List UInt8) : so b 64 = sched b := by simp [so, sched]
theorem so_low (b : List UInt8) (t : Nat) (h : t < 16) : so b (t + 1) = so b t ++ [word ((b.drop (4 * t)).take 4)] := by
  unfold so
  rw [if_pos (by omega), if_pos (by omega), List.take_succ_eq_append_getElem (by rw [words_len]; exact h), words_get]
theorem so_high (b : List UInt8) (t : Nat) (h : 16 ≤ t) (h2 : t < 64) : so b (t + 1) = so b t ++ [add (add (add (loQ ((so b t).getD (t - 2) 0)) ((so b t).getD (t - 7) 0)) (loP ((so b t).getD (t - 15) 0))) ((so b t).getD (t - 16) 0)] := by
  have e : so b t = grow (t - 16) (words 16 b) := by
    unfold so
    split
    · obtain rfl : t = 16 := by omega
      rw [List.take_of_length_le (by rw [words_len]; omega)]
      rfl
    · rfl
  have hl := so_len b t (by omega)
  have e2 : so b (t + 1) = grow (t - 16) (words 16 b) ++ [more (grow (t - 16) (words 16 b))] := by
    unfold so
    rw [if_neg (by omega), show t + 1 - 16 = (t - 16) + 1 by omega, grow_succ]
  rw [e2, ← e]
  unfold more
  rw [hl]
theorem so_lt (b : List UInt8) (t : Nat) : ∀ x ∈ so b t, x < 4294967296 := by
  unfold so
  split
  · exact fun x hx => words_lt 16 b x (List.mem_of_mem_take hx)
  · exact grow_lt _ _ (words_lt 16 b)
end Sha
theorem getD_mem' {l : List Nat} {j : Nat} (h : j < l.length) : l.getD j 0 ∈ l := by simp [List.getD, h]

set_option maxRecDepth 100000 in
set_option maxHeartbeats 4000000 in
theorem xconsts_any (w : World) : Calls Tryz.prog 59 #[] w fun e w' => e = .returned (.slice (some ⟨w.heap.size, 0, none⟩) 64 64) ∧ Words w' w.heap.size 89 Sha.K ∧ Fr (fun _ => False) w w' := by
  go_enter Tryz.func59, Tryz.ntmps59
  go_wp2_with fail
  go_ret
  exact ⟨rfl, heap_new rfl, (Fr.refl _ _).alloc _⟩

end Go.Proofs.YtojgikaoiegmpaaGreatDoor

/- Package hash, the document's: a block's words (schedule), walked. -/
namespace Go.Proofs.YtojgikaoiegmpaaGreatDoor
open Go.RowKit Go.IntWalk
set_option linter.unusedSimpArgs false
set_option linter.unusedVariables false
set_option maxRecDepth 100000

theorem cellFr {w w' : World} {a : Addr} {v : Value} (hF : Fr (fun _ => False) w w') (h : w.cell? a = some v) : w'.cell? a = some v := (World.cell?_of_block (hF.block a.block (block_lt_of_cell h) (fun e => e))).trans h
theorem word_step (b : List UInt8) (t i : Nat) (hl : b.length = 64) (ht : t < 16) (hi : i < 4) : Sha.word ((b.drop (4 * t)).take (i + 1)) = Sha.word ((b.drop (4 * t)).take i) * 256 + (b.getD (4 * t + i) 0).toNat := by
  have h1 : i < (b.drop (4 * t)).length := by rw [List.length_drop]; omega
  rw [List.take_succ_eq_append_getElem h1, Sha.word_snoc]
  have h2 : 4 * t + i < b.length := by omega
  simp [List.getD, h2]
theorem word_small (b : List UInt8) (t i : Nat) (hi : i ≤ 3) : Sha.word ((b.drop (4 * t)).take i) < 16777216 := by
  have h1 := Sha.word_lt ((b.drop (4 * t)).take i)
  have h2 : ((b.drop (4 * t)).take i).length ≤ 3 := Nat.le_trans (List.length_take_le _ _) hi
  have h3 : 256 ^ ((b.drop (4 * t)).take i).length ≤ 256 ^ 3 := Nat.pow_le_pow_right (by decide) h2
  have : (256 : Nat) ^ 3 = 16777216 := by decide
  omega

set_option maxRecDepth 100000 in
set_option maxHeartbeats 8000000 in
theorem xsched_any (ao : Option Addr) (cap : Nat) (b : List UInt8) (hbl : b.length = 64) (w : World) (hB : BsAt w ao b) : Calls Tryz.prog 80 #[.slice ao 64 cap] w fun e w' => ∃ ao' cap', e = .returned (.slice ao' 64 cap') ∧ RowU w' 89 ao' cap' (Sha.sched b) ∧ Fr (fun _ => False) w w' := by
  obtain ⟨g0, off, rfl, hcb⟩ : ∃ g off, ao = some ⟨g, off, none⟩ ∧ ∀ j (h : j < b.length), w.cell? ⟨g, off + j, none⟩ = some (.int .u8 b[j].toNat) := by
    rcases hB with ⟨_, rfl⟩ | h
    · simp at hbl
    · exact h
  have HCB := hideIt (fun W (hF : Fr (fun _ => False) w W) j (h : j < 64) => show W.cell? ⟨g0, off + j, none⟩ = some (.int .u8 ((b.getD j 0).toNat : Int)) from cellFr hF (by
    have h2 : j < b.length := by omega
    have := hcb j h2
    rw [this]
    simp [List.getD, h2]))
  have HBL := hideIt hbl
  clear hB hcb hbl
  go_enter Tryz.func80, Tryz.ntmps80
  go_wp2_with fail
  go_loopw [3, 4] (fun s3 s4 wr => ∃ (t : Nat) (a : Option Addr) (c : Nat) (ws : List Nat), s3 = .slice a t c ∧ s4 = .int .i64 t ∧ t ≤ 64 ∧ Hid (ws = Sha.so b t) ∧ Hid (ws.length = t) ∧ Hid (RowU wr 89 a c ws) ∧ Hid (Own w.heap.size a) ∧ Hid (Fr (fun _ => False) w wr)) (fun _ s4 _ => 64 - (intOf s4).toNat)
  case atStart => exact ⟨0, none, 0, [], rfl, rfl, by omega, hideIt (Sha.so_zero b).symm, hideIt rfl, hideIt (rowU_nil _ _), hideIt (fun i e => by obtain ⟨x, e, _⟩ := e; cases e), hideIt (Fr.refl _ _)⟩
  case round =>
    obtain ⟨t, a, c, ws, rfl, rfl, ht, HW, HL, HR, HO, HF⟩ := hrel
    by_cases hlt : t < 64
    · have h1 : (t : Int) < 64 := by omega
      by_cases hlow : t < 16
      · have h2 : (t : Int) < 16 := by omega
        have HS := hideIt (Sha.so_low b t hlow)
        have HST := hideIt (fun i (hi : i < 4) => word_step b t i HBL.out hlow hi)
        have HSM := hideIt (fun i (hi : i ≤ 3) => word_small b t i hi)
        go_wp2_with fail
        go_loopw [5, 6] (fun s5 s6 wx => ∃ (i x : Nat), s5 = .int .u32 x ∧ s6 = .int .i64 i ∧ i ≤ 4 ∧ Hid (x = Sha.word ((b.drop (4 * t)).take i)) ∧ Hid (wx = wr)) (fun _ s6 _ => 4 - (intOf s6).toNat)
        case atStart => exact ⟨0, 0, rfl, rfl, by omega, hideIt rfl, hideIt rfl⟩
        case round =>
          obtain ⟨i, x, rfl, rfl, hi, HX, HWX⟩ := hrel
          obtain rfl := HWX.out
          by_cases hil : i < 4
          · have h3 : (i : Int) < 4 := by omega
            have hcell := HCB.out _ HF.out (4 * t + i) (by omega)
            have hstep := HST.out i hil
            have hsm := HSM.out i (by omega)
            have hu := (b.getD (4 * t + i) 0).toNat_lt
            rw [← HX.out] at hstep hsm
            generalize (b.getD (4 * t + i) 0).toNat = u at *
            have HX2 := hideIt hstep.symm
            have w1 : IntKind.u32.wrap ((x : Int) * 256) = (((x * 256 : Nat)) : Int) := by rw [IntKind.wrap_u32]; omega
            have w1b : IntKind.u32.wrap (u : Int) = (u : Int) := by rw [IntKind.wrap_u32]; omega
            obtain ⟨y, hy⟩ : ∃ y, x * 256 = y := ⟨_, rfl⟩
            rw [hy] at w1 HX2
            have w2 : IntKind.u32.wrap ((y : Int) + (u : Int)) = ((y + u : Nat) : Int) := by rw [IntKind.wrap_u32]; omega
            obtain ⟨z, hz⟩ : ∃ z, y + u = z := ⟨_, rfl⟩
            rw [hz] at w2 HX2
            have w3 : IntKind.i64.wrap (4 * (t : Int)) = 4 * (t : Int) := by rw [IntKind.wrap_i64]; omega
            have w4 : IntKind.i64.wrap (4 * (t : Int) + (i : Int)) = 4 * (t : Int) + (i : Int) := by rw [IntKind.wrap_i64]; omega
            have n1 : (0 : Int) ≤ 4 * (t : Int) + (i : Int) := by omega
            have n2 : 4 * (t : Int) + (i : Int) < 64 := by omega
            have n3 : (4 * (t : Int) + (i : Int)).toNat = 4 * t + i := by omega
            clear hstep hsm hu hy hz HX HST HSM
            go_wp2_with fail
            go_roundw
            case measure => simp [intOf]; omega
            case rel => exact ⟨i + 1, z, rfl, by go_num, by omega, hideIt HX2.out, hideIt trivial⟩
          · have hi4 : i = 4 := by omega
            have hn4 : ¬ (i : Int) < 4 := by omega
            obtain ⟨a2, c2, w2, hr, hrow, hF2, hn, _⟩ := app_one wr a c ws x HR.out (by rw [HL.out]; omega)
            rw [HL.out] at hr
            have HAP := hideIt hr
            have HW2 := hideIt (show ws ++ [x] = Sha.so b (t + 1) by rw [HS.out, HW.out, HX.out, hi4])
            have HL2 := hideIt (show (ws ++ [x]).length = t + 1 by rw [List.length_append, HL.out]; rfl)
            have HR2 := hideIt hrow
            have HO2 := hideIt (HO.out.grow hn (by have := HF.out.size; omega))
            have HF2 := hideIt (HF.out.trans hF2 (fun i hi e => by have := HO.out i e; omega))
            clear hr hrow hF2 hn HX hi4 HW HR HO HST HSM HS
            go_wp2_with (first | (at_builtin; refine wpList_append_run _ rfl (.tmp 28) (.tmp 30) 93 93 rfl _ _ _ _ rfl rfl HAP.out ?_))
            exact ⟨⟨t + 1, a2, c2, ws ++ [x], rfl, by go_num, by omega, HW2, HL2, HR2, HO2, HF2⟩, by simp [intOf]; omega⟩
      · have h2 : ¬ (t : Int) < 16 := by omega
        have h2b : (16 : Int) ≤ (t : Int) := by omega
        have HS := hideIt (Sha.so_high b t (by omega) hlt)
        have hm : ∀ j, j < t → ws.getD j 0 < 4294967296 := fun j hj => Sha.so_lt b t _ (by rw [← HW.out]; exact getD_mem' (by rw [HL.out]; exact hj))
        rw [← HW.out] at HS
        obtain ⟨g, rfl, hcell⟩ : ∃ g, a = some ⟨g, 0, none⟩ ∧ ∀ j, j < t → wr.cell? ⟨g, j, none⟩ = some (.int .u32 (ws.getD j 0 : Nat)) := by
          rcases HR.out.form with ⟨_, e, _⟩ | ⟨g, cur, e, _⟩
          · have := HL.out; rw [e] at this; simp at this; omega
          · subst e
            exact ⟨g, rfl, fun j hj => HR.out.cell j (by rw [HL.out]; exact hj)⟩
        have k2 := hcell (t - 2) (by omega)
        have k7 := hcell (t - 7) (by omega)
        have k15 := hcell (t - 15) (by omega)
        have k16 := hcell (t - 16) (by omega)
        have l2 := hm (t - 2) (by omega)
        have l15 := hm (t - 15) (by omega)
        have HEX := hideIt (fun W (v : Nat) (c : Nat) (hRW : RowU W 89 (some ⟨g, 0, none⟩) c (ws ++ [v])) j (hj : j < t) => show W.cell? ⟨g, j, none⟩ = some (.int .u32 (ws.getD j 0 : Nat)) by
          have h := hRW.cell j (by rw [List.length_append, HL.out]; simp; omega)
          have hj2 : j < ws.length := by rw [HL.out]; exact hj
          rw [h]
          simp [List.getD, List.getElem?_append_left hj2, hj2])
        have HE2 := hideIt (fun W v c (h : RowU W 89 (some ⟨g, 0, none⟩) c (ws ++ [v])) => HEX.out W v c h (t - 2) (by omega))
        have HE7 := hideIt (fun W v c (h : RowU W 89 (some ⟨g, 0, none⟩) c (ws ++ [v])) => HEX.out W v c h (t - 7) (by omega))
        have HE15 := hideIt (fun W v c (h : RowU W 89 (some ⟨g, 0, none⟩) c (ws ++ [v])) => HEX.out W v c h (t - 15) (by omega))
        have HE16 := hideIt (fun W v c (h : RowU W 89 (some ⟨g, 0, none⟩) c (ws ++ [v])) => HEX.out W v c h (t - 16) (by omega))
        clear HEX
        generalize ws.getD (t - 2) 0 = a2 at *
        generalize ws.getD (t - 7) 0 = a7 at *
        generalize ws.getD (t - 15) 0 = a15 at *
        generalize ws.getD (t - 16) 0 = a16 at *
        have HK := hideIt (fun W (hF : Fr (fun _ => False) wr W) => show W.cell? ⟨g, t - 2, none⟩ = some (.int .u32 (a2 : Int)) ∧ W.cell? ⟨g, t - 7, none⟩ = some (.int .u32 (a7 : Int)) ∧ W.cell? ⟨g, t - 15, none⟩ = some (.int .u32 (a15 : Int)) ∧ W.cell? ⟨g, t - 16, none⟩ = some (.int .u32 (a16 : Int)) from ⟨cellFr hF k2, cellFr hF k7, cellFr hF k15, cellFr hF k16⟩)
        have m2 : (2 : Int) ≤ (t : Int) := by omega
        have m7 : (7 : Int) ≤ (t : Int) := by omega
        have m15 : (15 : Int) ≤ (t : Int) := by omega
        have q2 : IntKind.i64.wrap ((t : Int) - 2) = (t : Int) - 2 := by rw [IntKind.wrap_i64]; omega
        have q7 : IntKind.i64.wrap ((t : Int) - 7) = (t : Int) - 7 := by rw [IntKind.wrap_i64]; omega
        have q15 : IntKind.i64.wrap ((t : Int) - 15) = (t : Int) - 15 := by rw [IntKind.wrap_i64]; omega
        have q16 : IntKind.i64.wrap ((t : Int) - 16) = (t : Int) - 16 := by rw [IntKind.wrap_i64]; omega
        have r2 : ((t : Int) - 2).toNat = t - 2 := by omega
        have z2 : (0 : Int) ≤ (t : Int) - 2 := by omega
        have y2 : (t : Int) - 2 < (t : Int) := by omega
        have r7 : ((t : Int) - 7).toNat = t - 7 := by omega
        have z7 : (0 : Int) ≤ (t : Int) - 7 := by omega
        have y7 : (t : Int) - 7 < (t : Int) := by omega
        have r15 : ((t : Int) - 15).toNat = t - 15 := by omega
        have z15 : (0 : Int) ≤ (t : Int) - 15 := by omega
        have y15 : (t : Int) - 15 < (t : Int) := by omega
        have r16 : ((t : Int) - 16).toNat = t - 16 := by omega
        have z16 : (0 : Int) ≤ (t : Int) - 16 := by omega
        have y16 : (t : Int) - 16 < (t : Int) := by omega
        obtain ⟨lq, hlq⟩ : ∃ q, q = Sha.loQ a2 := ⟨_, rfl⟩
        obtain ⟨lp, hlp⟩ : ∃ q, q = Sha.loP a15 := ⟨_, rfl⟩
        have HTQ := hideIt (fun w => by have := loQ_any a2 l2 w; rw [← hlq] at this; exact this)
        have HTP := hideIt (fun w => by have := loP_any a15 l15 w; rw [← hlp] at this; exact this)
        rw [← hlq, ← hlp] at HS
        clear hlq hlp
        have wr1 := wrap_add lq a7
        obtain ⟨e1, he1⟩ : ∃ q, Sha.add lq a7 = q := ⟨_, rfl⟩
        rw [he1] at wr1 HS
        have wr2 := wrap_add e1 lp
        obtain ⟨e2, he2⟩ : ∃ q, Sha.add e1 lp = q := ⟨_, rfl⟩
        rw [he2] at wr2 HS
        have wr3 := wrap_add e2 a16
        obtain ⟨vv, hvv⟩ : ∃ q, Sha.add e2 a16 = q := ⟨_, rfl⟩
        rw [hvv] at wr3 HS
        clear he1 he2 hvv k2 k7 k15 k16 hm hcell hlt hlow
        go_wp2_with fail
        refine wp_region_held_drew (S := (fun w' => w'.cell? ⟨g, t - 2, none⟩ = some (.int .u32 (a2 : Int)) ∧ w'.cell? ⟨g, t - 7, none⟩ = some (.int .u32 (a7 : Int)) ∧ w'.cell? ⟨g, t - 15, none⟩ = some (.int .u32 (a15 : Int)) ∧ w'.cell? ⟨g, t - 16, none⟩ = some (.int .u32 (a16 : Int)))) (by kernel_rfl) ?_ (fun hHeld => ?_)
        · exact HK.out _ (Fr.refl _ _).drew
        refine wpAnyH_take (i := 0) (v := ?v1) rfl (by kernel_rfl) (by kernel_rfl) (by kernel_rfl) (fun _ _ _ h => h) (Or.inl ⟨by kernel_rfl, ?hy1⟩) (by assumption) ?rest1
        case hy1 => intro w hSw; (try dsimp only at hSw); go_simp; (try with_reducible rfl)
        try simp only [Act.put, List.getElem_toArray, List.getElem_cons_zero, List.getElem_cons_succ, List.setIfInBounds_toArray, List.set_cons_zero, List.set_cons_succ]
        refine wpAnyH_take (i := 1) (v := ?v2) rfl (by kernel_rfl) (by kernel_rfl) (by kernel_rfl) (fun _ _ _ h => h) (Or.inl ⟨by kernel_rfl, ?hy2⟩) (by assumption) ?rest2
        case hy2 => intro w hSw; (try dsimp only at hSw); go_simp; (try with_reducible rfl)
        try simp only [Act.put, List.getElem_toArray, List.getElem_cons_zero, List.getElem_cons_succ, List.setIfInBounds_toArray, List.set_cons_zero, List.set_cons_succ]
        refine wpAnyH_take (i := 2) (v := ?v3) rfl (by kernel_rfl) (by kernel_rfl) (by kernel_rfl) (fun _ _ _ h => h) (Or.inl ⟨by kernel_rfl, ?hy3⟩) (by assumption) ?rest3
        case hy3 => intro w hSw; (try dsimp only at hSw); go_simp; (try with_reducible rfl)
        try simp only [Act.put, List.getElem_toArray, List.getElem_cons_zero, List.getElem_cons_succ, List.setIfInBounds_toArray, List.set_cons_zero, List.set_cons_succ]
        refine wpAnyH_take (i := 3) (v := ?v4) rfl (by kernel_rfl) (by kernel_rfl) (by kernel_rfl) (fun _ _ _ h => h) (Or.inl ⟨by kernel_rfl, ?hy4⟩) (by assumption) ?rest4
        case hy4 => intro w hSw; (try dsimp only at hSw); go_simp; (try with_reducible rfl)
        try simp only [Act.put, List.getElem_toArray, List.getElem_cons_zero, List.getElem_cons_succ, List.setIfInBounds_toArray, List.set_cons_zero, List.set_cons_succ]
        refine wpAnyH_take (i := 4) (v := .pointer (some ⟨g, t - 2, none⟩)) rfl (by kernel_rfl) (by kernel_rfl) (by kernel_rfl) (fun _ _ _ h => h) (Or.inl ⟨by kernel_rfl, fun w0 hSw => by go_simp⟩) (by assumption) ?_
        try simp only [Act.put, List.getElem_toArray, List.getElem_cons_zero, List.getElem_cons_succ, List.setIfInBounds_toArray, List.set_cons_zero, List.set_cons_succ]
        refine wpAnyH_take (i := 5) (v := .int .u32 (a2 : Int)) rfl (by kernel_rfl) (by kernel_rfl) (by kernel_rfl) (fun _ _ _ h => h) (Or.inl ⟨by kernel_rfl, fun w0 hSw => by have hc := hSw.1; go_simp⟩) (by assumption) ?_
        try simp only [Act.put, List.getElem_toArray, List.getElem_cons_zero, List.getElem_cons_succ, List.setIfInBounds_toArray, List.set_cons_zero, List.set_cons_succ]
        refine wpAnyH_take (i := 7) (v := ?v5) rfl (by kernel_rfl) (by kernel_rfl) (by kernel_rfl) (fun _ _ _ h => h) (Or.inl ⟨by kernel_rfl, ?hy5⟩) (by assumption) ?rest5
        case hy5 => intro w hSw; (try dsimp only at hSw); go_simp; (try with_reducible rfl)
        try simp only [Act.put, List.getElem_toArray, List.getElem_cons_zero, List.getElem_cons_succ, List.setIfInBounds_toArray, List.set_cons_zero, List.set_cons_succ]
        refine wpAnyH_take (i := 8) (v := ?v6) rfl (by kernel_rfl) (by kernel_rfl) (by kernel_rfl) (fun _ _ _ h => h) (Or.inl ⟨by kernel_rfl, ?hy6⟩) (by assumption) ?rest6
        case hy6 => intro w hSw; (try dsimp only at hSw); go_simp; (try with_reducible rfl)
        try simp only [Act.put, List.getElem_toArray, List.getElem_cons_zero, List.getElem_cons_succ, List.setIfInBounds_toArray, List.set_cons_zero, List.set_cons_succ]
        refine wpAnyH_take (i := 9) (v := ?v7) rfl (by kernel_rfl) (by kernel_rfl) (by kernel_rfl) (fun _ _ _ h => h) (Or.inl ⟨by kernel_rfl, ?hy7⟩) (by assumption) ?rest7
        case hy7 => intro w hSw; (try dsimp only at hSw); go_simp; (try with_reducible rfl)
        try simp only [Act.put, List.getElem_toArray, List.getElem_cons_zero, List.getElem_cons_succ, List.setIfInBounds_toArray, List.set_cons_zero, List.set_cons_succ]
        refine wpAnyH_take (i := 10) (v := .pointer (some ⟨g, t - 7, none⟩)) rfl (by kernel_rfl) (by kernel_rfl) (by kernel_rfl) (fun _ _ _ h => h) (Or.inl ⟨by kernel_rfl, fun w0 hSw => by go_simp⟩) (by assumption) ?_
        try simp only [Act.put, List.getElem_toArray, List.getElem_cons_zero, List.getElem_cons_succ, List.setIfInBounds_toArray, List.set_cons_zero, List.set_cons_succ]
        refine wpAnyH_take (i := 11) (v := .int .u32 (a7 : Int)) rfl (by kernel_rfl) (by kernel_rfl) (by kernel_rfl) (fun _ _ _ h => h) (Or.inl ⟨by kernel_rfl, fun w0 hSw => by have hc := hSw.2.1; go_simp⟩) (by assumption) ?_
        try simp only [Act.put, List.getElem_toArray, List.getElem_cons_zero, List.getElem_cons_succ, List.setIfInBounds_toArray, List.set_cons_zero, List.set_cons_succ]
        refine wpAnyH_take (i := 13) (v := ?v8) rfl (by kernel_rfl) (by kernel_rfl) (by kernel_rfl) (fun _ _ _ h => h) (Or.inl ⟨by kernel_rfl, ?hy8⟩) (by assumption) ?rest8
        case hy8 => intro w hSw; (try dsimp only at hSw); go_simp; (try with_reducible rfl)
        try simp only [Act.put, List.getElem_toArray, List.getElem_cons_zero, List.getElem_cons_succ, List.setIfInBounds_toArray, List.set_cons_zero, List.set_cons_succ]
        refine wpAnyH_take (i := 14) (v := ?v9) rfl (by kernel_rfl) (by kernel_rfl) (by kernel_rfl) (fun _ _ _ h => h) (Or.inl ⟨by kernel_rfl, ?hy9⟩) (by assumption) ?rest9
        case hy9 => intro w hSw; (try dsimp only at hSw); go_simp; (try with_reducible rfl)
        try simp only [Act.put, List.getElem_toArray, List.getElem_cons_zero, List.getElem_cons_succ, List.setIfInBounds_toArray, List.set_cons_zero, List.set_cons_succ]
        refine wpAnyH_take (i := 15) (v := ?v10) rfl (by kernel_rfl) (by kernel_rfl) (by kernel_rfl) (fun _ _ _ h => h) (Or.inl ⟨by kernel_rfl, ?hy10⟩) (by assumption) ?rest10
        case hy10 => intro w hSw; (try dsimp only at hSw); go_simp; (try with_reducible rfl)
        try simp only [Act.put, List.getElem_toArray, List.getElem_cons_zero, List.getElem_cons_succ, List.setIfInBounds_toArray, List.set_cons_zero, List.set_cons_succ]
        refine wpAnyH_take (i := 16) (v := .pointer (some ⟨g, t - 15, none⟩)) rfl (by kernel_rfl) (by kernel_rfl) (by kernel_rfl) (fun _ _ _ h => h) (Or.inl ⟨by kernel_rfl, fun w0 hSw => by go_simp⟩) (by assumption) ?_
        try simp only [Act.put, List.getElem_toArray, List.getElem_cons_zero, List.getElem_cons_succ, List.setIfInBounds_toArray, List.set_cons_zero, List.set_cons_succ]
        refine wpAnyH_take (i := 17) (v := .int .u32 (a15 : Int)) rfl (by kernel_rfl) (by kernel_rfl) (by kernel_rfl) (fun _ _ _ h => h) (Or.inl ⟨by kernel_rfl, fun w0 hSw => by have hc := hSw.2.2.1; go_simp⟩) (by assumption) ?_
        try simp only [Act.put, List.getElem_toArray, List.getElem_cons_zero, List.getElem_cons_succ, List.setIfInBounds_toArray, List.set_cons_zero, List.set_cons_succ]
        refine wpAnyH_take (i := 20) (v := ?v11) rfl (by kernel_rfl) (by kernel_rfl) (by kernel_rfl) (fun _ _ _ h => h) (Or.inl ⟨by kernel_rfl, ?hy11⟩) (by assumption) ?rest11
        case hy11 => intro w hSw; (try dsimp only at hSw); go_simp; (try with_reducible rfl)
        try simp only [Act.put, List.getElem_toArray, List.getElem_cons_zero, List.getElem_cons_succ, List.setIfInBounds_toArray, List.set_cons_zero, List.set_cons_succ]
        refine wpAnyH_take (i := 21) (v := ?v12) rfl (by kernel_rfl) (by kernel_rfl) (by kernel_rfl) (fun _ _ _ h => h) (Or.inl ⟨by kernel_rfl, ?hy12⟩) (by assumption) ?rest12
        case hy12 => intro w hSw; (try dsimp only at hSw); go_simp; (try with_reducible rfl)
        try simp only [Act.put, List.getElem_toArray, List.getElem_cons_zero, List.getElem_cons_succ, List.setIfInBounds_toArray, List.set_cons_zero, List.set_cons_succ]
        refine wpAnyH_take (i := 22) (v := ?v13) rfl (by kernel_rfl) (by kernel_rfl) (by kernel_rfl) (fun _ _ _ h => h) (Or.inl ⟨by kernel_rfl, ?hy13⟩) (by assumption) ?rest13
        case hy13 => intro w hSw; (try dsimp only at hSw); go_simp; (try with_reducible rfl)
        try simp only [Act.put, List.getElem_toArray, List.getElem_cons_zero, List.getElem_cons_succ, List.setIfInBounds_toArray, List.set_cons_zero, List.set_cons_succ]
        refine wpAnyH_take (i := 23) (v := .pointer (some ⟨g, t - 16, none⟩)) rfl (by kernel_rfl) (by kernel_rfl) (by kernel_rfl) (fun _ _ _ h => h) (Or.inl ⟨by kernel_rfl, fun w0 hSw => by go_simp⟩) (by assumption) ?_
        try simp only [Act.put, List.getElem_toArray, List.getElem_cons_zero, List.getElem_cons_succ, List.setIfInBounds_toArray, List.set_cons_zero, List.set_cons_succ]
        refine wpAnyH_take (i := 24) (v := .int .u32 (a16 : Int)) rfl (by kernel_rfl) (by kernel_rfl) (by kernel_rfl) (fun _ _ _ h => h) (Or.inl ⟨by kernel_rfl, fun w0 hSw => by have hc := hSw.2.2.2; go_simp⟩) (by assumption) ?_
        try simp only [Act.put, List.getElem_toArray, List.getElem_cons_zero, List.getElem_cons_succ, List.setIfInBounds_toArray, List.set_cons_zero, List.set_cons_succ]
        refine wpAnyH_ready (rs := [6]) (by kernel_rfl) (by simp) ?_
        refine AllReadyH.cons rfl (fun K hK => ?_) AllReadyH.nil
        go_simp
        refine Calls.mono (HTQ.out _) ?_
        rintro e wq ⟨rfl, nq, hq⟩
        have hFq : Fr (fun _ => False) wr wq := by rw [hq]; exact (Fr.refl _ _).drew.drewN _
        clear hq
        refine hK.out _ _ ?_ (fun hHeld => ?_)
        · exact HK.out _ hFq
        clear hK K
        try simp only [Act.put, List.getElem_toArray, List.getElem_cons_zero, List.getElem_cons_succ, List.setIfInBounds_toArray, List.set_cons_zero, List.set_cons_succ]
        refine wpAnyH_take (i := 12) (v := .int .u32 (e1 : Int)) rfl (by kernel_rfl) (by kernel_rfl) (by kernel_rfl) (fun _ _ _ h => h) (Or.inl ⟨by kernel_rfl, fun w0 hSw => by go_simp⟩) (by assumption) ?_
        try simp only [Act.put, List.getElem_toArray, List.getElem_cons_zero, List.getElem_cons_succ, List.setIfInBounds_toArray, List.set_cons_zero, List.set_cons_succ]
        refine wpAnyH_ready (rs := [18]) (by kernel_rfl) (by simp) ?_
        refine AllReadyH.cons rfl (fun K hK => ?_) AllReadyH.nil
        go_simp
        refine Calls.mono (HTP.out _) ?_
        rintro e wp ⟨rfl, np, hp⟩
        have hFp : Fr (fun _ => False) wr wp := by rw [hp]; exact hFq.drewN _
        clear hp
        refine hK.out _ _ ?_ (fun hHeld => ?_)
        · exact HK.out _ hFp
        clear hK K
        try simp only [Act.put, List.getElem_toArray, List.getElem_cons_zero, List.getElem_cons_succ, List.setIfInBounds_toArray, List.set_cons_zero, List.set_cons_succ]
        refine wpAnyH_take (i := 19) (v := .int .u32 (e2 : Int)) rfl (by kernel_rfl) (by kernel_rfl) (by kernel_rfl) (fun _ _ _ h => h) (Or.inl ⟨by kernel_rfl, fun w0 hSw => by go_simp⟩) (by assumption) ?_
        try simp only [Act.put, List.getElem_toArray, List.getElem_cons_zero, List.getElem_cons_succ, List.setIfInBounds_toArray, List.set_cons_zero, List.set_cons_succ]
        refine wpAnyH_take (i := 25) (v := .int .u32 (vv : Int)) rfl (by kernel_rfl) (by kernel_rfl) (by kernel_rfl) (fun _ _ _ h => h) (Or.inl ⟨by kernel_rfl, fun w0 hSw => by go_simp⟩) (by assumption) ?_
        try simp only [Act.put, List.getElem_toArray, List.getElem_cons_zero, List.getElem_cons_succ, List.setIfInBounds_toArray, List.set_cons_zero, List.set_cons_succ]
        refine wpAnyH_ready (rs := [26]) (by kernel_rfl) (by simp) ?_
        refine AllReadyH.cons rfl (fun K hK => ?_) AllReadyH.nil
        obtain ⟨a9, c9, w9, hr9, hrow9, hF9, hn9, hz9⟩ := app_one wp (some ⟨g, 0, none⟩) c ws vv (HR.out.fr0 hFp) (by rw [HL.out]; omega)
        rw [HL.out] at hr9
        have HR9 := hideIt hr9
        have HS9 := hideIt (show w9.cell? ⟨g, t - 2, none⟩ = some (.int .u32 (a2 : Int)) ∧ w9.cell? ⟨g, t - 7, none⟩ = some (.int .u32 (a7 : Int)) ∧ w9.cell? ⟨g, t - 15, none⟩ = some (.int .u32 (a15 : Int)) ∧ w9.cell? ⟨g, t - 16, none⟩ = some (.int .u32 (a16 : Int)) by
          rcases hn9 with e | e
          · subst e
            exact ⟨HE2.out _ _ _ hrow9, HE7.out _ _ _ hrow9, HE15.out _ _ _ hrow9, HE16.out _ _ _ hrow9⟩
          · exact HK.out _ (hFp.trans (hz9 e) (fun _ _ e => e)))
        have HFA := hideIt (show Fr (fun _ => False) wr (wp.alloc (.cells #[.int .u32 (vv : Int)] 89)) from hFp.alloc _)
        go_simp
        refine hK.out _ _ ?_ (fun hHeld => ?_)
        · exact HK.out _ HFA.out
        clear hK K
        try simp only [Act.put, List.getElem_toArray, List.getElem_cons_zero, List.getElem_cons_succ, List.setIfInBounds_toArray, List.set_cons_zero, List.set_cons_succ]
        refine wpAnyH_ready (rs := [27]) (by kernel_rfl) (by simp) ?_
        refine AllReadyH.cons rfl (fun K hK => ?_) AllReadyH.nil
        refine step_append_run rfl (.tmp 32) (.tmp 58) 93 93 rfl _ _ _ _ rfl rfl HR9.out ?_
        have HFB := hideIt (show Fr (blk (some ⟨g, 0, none⟩)) wr w9 from (hFp.mono (fun _ e => e.elim)).trans hF9 (fun _ _ e => e))
        refine hK.out _ _ ?_ (fun hHeld => ?_)
        · exact HS9.out
        clear hK K
        try simp only [Act.put, List.getElem_toArray, List.getElem_cons_zero, List.getElem_cons_succ, List.setIfInBounds_toArray, List.set_cons_zero, List.set_cons_succ]
        refine wpAnyH_take (i := 28) (v := ?v14) rfl (by kernel_rfl) (by kernel_rfl) (by kernel_rfl) (fun _ _ _ h => h) (Or.inl ⟨by kernel_rfl, ?hy14⟩) (by assumption) ?rest14
        case hy14 => intro w hSw; (try dsimp only at hSw); go_simp; (try with_reducible rfl)
        try simp only [Act.put, List.getElem_toArray, List.getElem_cons_zero, List.getElem_cons_succ, List.setIfInBounds_toArray, List.set_cons_zero, List.set_cons_succ]
        refine wpAnyH_done (by kernel_rfl) ?_ _
        have HW2 := hideIt (show ws ++ [vv] = Sha.so b (t + 1) by rw [HS.out, HW.out])
        have HL2 := hideIt (show (ws ++ [vv]).length = t + 1 by rw [List.length_append, HL.out]; rfl)
        have HR2 := hideIt hrow9
        have HO2 := hideIt (HO.out.grow hn9 (by have := HF.out.size; have := hFp.size; omega))
        have HF2 := hideIt (HF.out.trans HFB.out (fun i hi e => by have := HO.out i e; omega))
        clear hHeld hr9 hrow9 hF9 hn9 hz9 hFp hFq
        go_wp2_with fail
        exact ⟨⟨t + 1, a9, c9, ws ++ [vv], rfl, by go_num, by omega, HW2, HL2, HR2, HO2, HF2⟩, by simp [intOf]; omega⟩
    · obtain rfl : t = 64 := by omega
      have HS := hideIt (show ws = Sha.sched b by rw [HW.out, Sha.so_all])
      have HR2 := hideIt (by have h := HR.out; rw [HS.out] at h; exact h)
      go_wp2_with fail
      go_ret
      exact ⟨a, c, rfl, HR2.out, HF.out⟩

end Go.Proofs.YtojgikaoiegmpaaGreatDoor

/- Package hash, the document's: a state behind a block, walked. -/
namespace Go.Proofs.YtojgikaoiegmpaaGreatDoor
open Go.RowKit Go.IntWalk
set_option linter.unusedSimpArgs false
set_option linter.unusedVariables false
set_option maxRecDepth 100000

def z8 : Array Value := #[.int .u32 0, .int .u32 0, .int .u32 0, .int .u32 0, .int .u32 0, .int .u32 0, .int .u32 0, .int .u32 0]
set_option maxRecDepth 100000 in
set_option maxHeartbeats 8000000 in
theorem xblock_any (s : Sha.St) (hs : St32 s) (ao : Option Addr) (cap : Nat) (bl : List UInt8) (hbl : bl.length = 64) (kg : Nat) (w : World) (hB : BsAt w ao bl) (hK : Words w kg 89 Sha.K) : Calls Tryz.prog 60 #[.agg (stA s), .slice ao 64 cap, .slice (some ⟨kg, 0, none⟩) 64 64] w fun e w' => e = .returned (.agg (stA (Sha.block s bl))) ∧ Fr (fun _ => False) w w' := by
  obtain ⟨n, hn⟩ : ∃ n, w.heap.size = n := ⟨_, rfl⟩
  have hf0 : Fr (fun _ => False) w ((w.alloc (.cells (stA s) 91)).alloc (.cells #[.int .u32 0, .int .u32 0, .int .u32 0, .int .u32 0, .int .u32 0, .int .u32 0, .int .u32 0, .int .u32 0] 91)) := ((Fr.refl _ w).alloc _).alloc _
  have HF0 := hideIt hf0
  have HA0 := hideIt (show ((w.alloc (.cells (stA s) 91)).alloc (.cells #[.int .u32 0, .int .u32 0, .int .u32 0, .int .u32 0, .int .u32 0, .int .u32 0, .int .u32 0, .int .u32 0] 91)).heap[n]? = some (.cells (stA s) 91 (0, 0)) from heap_old (heap_new hn.symm))
  have HZ0 := hideIt (show ((w.alloc (.cells (stA s) 91)).alloc (.cells #[.int .u32 0, .int .u32 0, .int .u32 0, .int .u32 0, .int .u32 0, .int .u32 0, .int .u32 0, .int .u32 0] 91)).heap[n + 1]? = some (.cells z8 91 (0, 0)) from heap_new (by simp [hn]))
  have HSC := hideIt (xsched_any ao cap bl hbl ((w.alloc (.cells (stA s) 91)).alloc (.cells #[.int .u32 0, .int .u32 0, .int .u32 0, .int .u32 0, .int .u32 0, .int .u32 0, .int .u32 0, .int .u32 0] 91)) (hB.fr hf0 (fun _ _ _ e => e)))
  have HK := hideIt hK
  obtain ⟨ws, hws⟩ : ∃ ws, Sha.sched bl = ws := ⟨_, rfl⟩
  have hlw : ws.length = 64 := by rw [← hws, ← Sha.so_all]; exact Sha.so_len bl 64 (by omega)
  have HBK := hideIt (show Sha.block s bl = Sha.addSt s (Sha.foldW Sha.round Sha.K ws s) by unfold Sha.block Sha.rounds; rw [hws])
  rw [hws] at HSC
  have HIS := hideIt (show (Tryz.prog.info? 91).map (·.size) = some (stA s).toList.length by kernel_rfl)
  have HIA := hideIt (show (Tryz.prog.info? 91).map (·.size) = some (stA s).size by kernel_rfl)
  have HOS := hideIt (stA_one s)
  have HSS := hideIt hs
  have HLW := hideIt hlw
  have HN := hideIt hn
  clear hf0 hB hK hws hs hlw hbl
  go_enter Tryz.func60, Tryz.ntmps60
  go_wp2_with fail
  refine Calls.mono HSC.out ?_
  rintro e w1 ⟨ar, cr, rfl, hrow, hF1⟩
  have HA1 := hideIt ((hF1.block n (Array.getElem?_eq_some_iff.1 HA0.out).1 (fun e => e)).trans HA0.out)
  have HZ1 := hideIt ((hF1.block (n + 1) (Array.getElem?_eq_some_iff.1 HZ0.out).1 (fun e => e)).trans HZ0.out)
  have HK1 := hideIt (HK.out.fr (HF0.out.trans hF1 (fun _ _ e => e)) (fun e => e))
  have HF1 := hideIt (HF0.out.trans hF1 (fun _ _ e => e))
  have HRA := hideIt (rangeOf HA1.out)
  obtain ⟨rg, rfl, hrc⟩ : ∃ g, ar = some ⟨g, 0, none⟩ ∧ ∀ j, j < 64 → w1.cell? ⟨g, j, none⟩ = some (.int .u32 (ws.getD j 0 : Nat)) := by
    rcases hrow.form with ⟨_, e, _⟩ | ⟨g, cur, e, _⟩
    · have := HLW.out; rw [e] at this; simp at this
    · subst e
      exact ⟨g, rfl, fun j hj => hrow.cell j (by rw [HLW.out]; exact hj)⟩
  have HRC := hideIt hrc
  obtain ⟨q, hq⟩ : ∃ q, w1.heap.size = q := ⟨_, rfl⟩
  have hA2 : (w1.alloc (.cells #[.int .u32 0, .int .u32 0, .int .u32 0, .int .u32 0, .int .u32 0, .int .u32 0, .int .u32 0, .int .u32 0] 91)).heap[q]? = some (.cells z8 91 (0, 0)) := heap_new hq.symm
  have HT2 := hideIt (thereNew (w1.alloc (.cells #[.int .u32 0, .int .u32 0, .int .u32 0, .int .u32 0, .int .u32 0, .int .u32 0, .int .u32 0, .int .u32 0] 91)) q z8 91 hA2 (stA s).size rfl)
  have HW2 := hideIt (fun W (h : W = (w1.alloc (.cells #[.int .u32 0, .int .u32 0, .int .u32 0, .int .u32 0, .int .u32 0, .int .u32 0, .int .u32 0, .int .u32 0] 91)).setCells q 0 (stA s).toList) => show W.heap[q]? = some (.cells (stA s) 91 (0, 0)) ∧ Fr (fun _ => False) w1 W by
    subst h
    have hS := store_over (V := stA s) hA2 rfl
    exact ⟨hS.1, ((Fr.refl (fun _ => False) w1).alloc _).trans hS.2 (fun i hi e => by omega)⟩)
  have hnq : n + 1 < q := by rw [← hq]; exact (Array.getElem?_eq_some_iff.1 HZ1.out).1
  have HNQ := hideIt hnq
  have HQ := hideIt hq
  have HKQ := hideIt (show kg < n by rw [← HN.out]; exact (Array.getElem?_eq_some_iff.1 HK.out).1)
  clear hrow hF1 hrc HSC HF0 HA0 HZ0 hA2 HK hnq hn
  generalize hSTA : stA s = sA at HT2 HIA HOS HW2 HRA HIS ⊢
  have HSTA := hideIt hSTA
  clear hSTA
  go_wp2_with (first | (refine wpList_load_mid rfl 91 (.tmp 3) rfl n 0 rfl sA.toList _ HRA.out Tryz.underlying91 rfl HIS.out ?_) | (refine wpList_store_abs rfl 91 (.tmp 8) (.tmp 14) rfl q 0 sA rfl rfl HT2.out HIA.out HOS.out ?_; intro W2 hW2; obtain ⟨hA3, hF3⟩ := HW2.out W2 hW2; have HV3 := hideIt hA3; have HFX := hideIt hF3; clear hW2 HW2 HT2 hA3 hF3))
  have HA2 := hideIt ((HFX.out.block n (Array.getElem?_eq_some_iff.1 HA1.out).1 (fun e => e)).trans HA1.out)
  have HZ2 := hideIt ((HFX.out.block (n + 1) (Array.getElem?_eq_some_iff.1 HZ1.out).1 (fun e => e)).trans HZ1.out)
  have HK2 := hideIt (HK1.out.fr HFX.out (fun e => e))
  have HR2 := hideIt (fun j hj => cellFr HFX.out (HRC.out j hj))
  have HF2 := hideIt (HF1.out.trans HFX.out (fun _ _ e => e))
  have HRG := hideIt (show rg ≠ q by
    have h := block_lt_of_cell (HRC.out 0 (by omega))
    have h2 : rg < w1.heap.size := h
    omega)
  rw [← HSTA.out] at HV3
  clear HFX HA1 HZ1 HK1 HRC HRA HF1 hq
  generalize sA = sB at *
  go_wp2_with fail
  go_loopw [9] (fun s9 wr => ∃ (t : Nat) (v : Sha.St), s9 = .int .i64 t ∧ t ≤ 64 ∧ Hid (v = Sha.foldW Sha.round (Sha.K.take t) (ws.take t) s) ∧ Hid (wr.heap[q]? = some (.cells (stA v) 91 (0, 0))) ∧ Hid (Fr (fun k => k = q) W2 wr)) (fun s9 _ => 64 - (intOf s9).toNat)
  case atStart => exact ⟨0, s, rfl, by omega, hideIt (Sha.foldW_none _ _ _ _ (Or.inl rfl)).symm, HV3, hideIt (Fr.refl _ _)⟩
  case round =>
    clear HV3
    obtain ⟨t, v, rfl, ht, HV, HQV, HF⟩ := hrel
    by_cases hlt : t < 64
    · have h1 : (t : Int) < 64 := by omega
      have hck : wr.cell? ⟨kg, t, none⟩ = some (.int .u32 (Sha.K.getD t 0 : Nat)) := (HK2.out.fr HF.out (by have := HKQ.out; have := HNQ.out; omega)).cell t (by rw [K_len]; exact hlt)
      have hcw : wr.cell? ⟨rg, t, none⟩ = some (.int .u32 (ws.getD t 0 : Nat)) := by
        have h := HR2.out t hlt
        exact (World.cell?_of_block (a := ⟨rg, t, none⟩) (HF.out.block rg (block_lt_of_cell h) HRG.out)).trans h
      have HNV0 := hideIt (show Sha.round v (Sha.K.getD t 0) (ws.getD t 0) = Sha.foldW Sha.round (Sha.K.take (t + 1)) (ws.take (t + 1)) s by rw [Sha.foldW_snoc Sha.round Sha.K ws s t (by rw [K_len]; exact hlt) (by rw [HLW.out]; exact hlt), HV.out])
      have h32 : St32 v := by rw [HV.out]; exact St32.fold _ _ HSS.out
      generalize Sha.K.getD t 0 = kk at *
      generalize ws.getD t 0 = wk at *
      clear HV
      obtain ⟨a, b, c, d, e, f, g, h⟩ := v
      obtain ⟨la, lb, lc, ld, le, lf, lg, lh⟩ := h32
      dsimp only at la lb lc ld le lf lg lh ⊢
      have c0 : wr.cell? ⟨q, 0, none⟩ = some (.int .u32 (a : Int)) := cellOfHeap HQV.out 0 rfl
      have c1 : wr.cell? ⟨q, 1, none⟩ = some (.int .u32 (b : Int)) := cellOfHeap HQV.out 1 rfl
      have c2 : wr.cell? ⟨q, 2, none⟩ = some (.int .u32 (c : Int)) := cellOfHeap HQV.out 2 rfl
      have c3 : wr.cell? ⟨q, 3, none⟩ = some (.int .u32 (d : Int)) := cellOfHeap HQV.out 3 rfl
      have c4 : wr.cell? ⟨q, 4, none⟩ = some (.int .u32 (e : Int)) := cellOfHeap HQV.out 4 rfl
      have c5 : wr.cell? ⟨q, 5, none⟩ = some (.int .u32 (f : Int)) := cellOfHeap HQV.out 5 rfl
      have c6 : wr.cell? ⟨q, 6, none⟩ = some (.int .u32 (g : Int)) := cellOfHeap HQV.out 6 rfl
      have c7 : wr.cell? ⟨q, 7, none⟩ = some (.int .u32 (h : Int)) := cellOfHeap HQV.out 7 rfl
      obtain ⟨qe, hqe⟩ : ∃ q, q = Sha.upE e := ⟨_, rfl⟩
      obtain ⟨qc, hqc⟩ : ∃ q, q = Sha.ch e f g := ⟨_, rfl⟩
      obtain ⟨qa, hqa⟩ : ∃ q, q = Sha.upA a := ⟨_, rfl⟩
      obtain ⟨qm, hqm⟩ : ∃ q, q = Sha.maj a b c := ⟨_, rfl⟩
      have HTE := hideIt (fun w => by have := upE_any e le w; rw [← hqe] at this; exact this)
      have HCH := hideIt (fun w => by have := xch_any e f g le lf lg w; rw [← hqc] at this; exact this)
      have HTA := hideIt (fun w => by have := upA_any a la w; rw [← hqa] at this; exact this)
      have HMJ := hideIt (fun w => by have := xmaj_any a b c la lb lc w; rw [← hqm] at this; exact this)
      have HNV := hideIt (show Sha.round ⟨a, b, c, d, e, f, g, h⟩ kk wk = ⟨Sha.add (Sha.add (Sha.add (Sha.add (Sha.add h qe) qc) kk) wk) (Sha.add qa qm), a, b, c, Sha.add d (Sha.add (Sha.add (Sha.add (Sha.add h qe) qc) kk) wk), e, f, g⟩ by rw [hqe, hqc, hqa, hqm]; unfold Sha.round Sha.tT Sha.tU; rfl)
      clear hqe hqc hqa hqm
      have hsum : (((h : Int) + (qe : Int) + (qc : Int) + (kk : Int)) % 4294967296 + (wk : Int)) % 4294967296 = ((Sha.add (Sha.add (Sha.add (Sha.add h qe) qc) kk) wk : Nat) : Int) := by
        simp only [add_mod]
        omega
      have hsumb : ((h : Int) + (qe : Int) + (qc : Int) + (kk : Int) + (wk : Int)) % 4294967296 = ((Sha.add (Sha.add (Sha.add (Sha.add h qe) qc) kk) wk : Nat) : Int) := by
        simp only [add_mod]
        omega
      have hsum2 : ((qa : Int) + (qm : Int)) % 4294967296 = ((Sha.add qa qm : Nat) : Int) := add_int _ _
      generalize Sha.add (Sha.add (Sha.add (Sha.add h qe) qc) kk) wk = tt at *
      generalize Sha.add qa qm = uu at *
      have hs3 : ((d : Int) + (tt : Int)) % 4294967296 = ((Sha.add d tt : Nat) : Int) := add_int _ _
      have hs4 : ((tt : Int) + (uu : Int)) % 4294967296 = ((Sha.add tt uu : Nat) : Int) := add_int _ _
      obtain ⟨nt, hnt⟩ : ∃ q, Sha.add d tt = q := ⟨_, rfl⟩
      obtain ⟨na, hna⟩ : ∃ q, Sha.add tt uu = q := ⟨_, rfl⟩
      rw [hnt] at hs3 HNV
      rw [hna] at hs4 HNV
      clear hnt hna
      go_wp2_with fail
      go_quiet ((first | (go_at_call 81; exact Calls.quiet_of (HTE.out _)) | (go_at_call 82; exact Calls.quiet_of_same (HCH.out _))))
      rw [hsum]
      clear c4 c5 c6 c7 hck hcw hsum hsumb HTE HCH
      have HQ6 := hideIt (show (wr.drewN nq).heap[q]? = some (.cells (stA ⟨a, b, c, d, e, f, g, h⟩) 91 (0, 0)) from HQV.out)
      have HF6 := hideIt (HF.out.drewN nq)
      have c0 : (wr.drewN nq).cell? ⟨q, 0, none⟩ = some (.int .u32 (a : Int)) := c0
      have c1 : (wr.drewN nq).cell? ⟨q, 1, none⟩ = some (.int .u32 (b : Int)) := c1
      have c2 : (wr.drewN nq).cell? ⟨q, 2, none⟩ = some (.int .u32 (c : Int)) := c2
      clear c3 HQV HF
      generalize wr.drewN nq = W6 at *
      go_wp2_with fail
      go_quiet ((first | (go_at_call 83; exact Calls.quiet_of (HTA.out _)) | (go_at_call 84; exact Calls.quiet_of_same (HMJ.out _))))
      rw [hsum2]
      clear c0 c1 c2 hsum2 HTA HMJ
      have HQ7 := hideIt (show (W6.drewN nq).heap[q]? = some (.cells (stA ⟨a, b, c, d, e, f, g, h⟩) 91 (0, 0)) from HQ6.out)
      have HF7 := hideIt (HF6.out.drewN nq)
      clear HQ6 HF6
      generalize W6.drewN nq = W7 at *
      have c0 : W7.cell? ⟨q, 0, none⟩ = some (.int .u32 (a : Int)) := cellOfHeap HQ7.out 0 rfl
      have c1 : W7.cell? ⟨q, 1, none⟩ = some (.int .u32 (b : Int)) := cellOfHeap HQ7.out 1 rfl
      have c2 : W7.cell? ⟨q, 2, none⟩ = some (.int .u32 (c : Int)) := cellOfHeap HQ7.out 2 rfl
      have c3 : W7.cell? ⟨q, 3, none⟩ = some (.int .u32 (d : Int)) := cellOfHeap HQ7.out 3 rfl
      have c4 : W7.cell? ⟨q, 4, none⟩ = some (.int .u32 (e : Int)) := cellOfHeap HQ7.out 4 rfl
      have c5 : W7.cell? ⟨q, 5, none⟩ = some (.int .u32 (f : Int)) := cellOfHeap HQ7.out 5 rfl
      have c6 : W7.cell? ⟨q, 6, none⟩ = some (.int .u32 (g : Int)) := cellOfHeap HQ7.out 6 rfl
      have HT7 := hideIt (thereNew W7 q _ 91 HQ7.out (#[.int .u32 (na : Int), .int .u32 (a : Int), .int .u32 (b : Int), .int .u32 (c : Int), .int .u32 (nt : Int), .int .u32 (e : Int), .int .u32 (f : Int), .int .u32 (g : Int)] : Array Value).size rfl)
      have HI7 := hideIt (show (Tryz.prog.info? 91).map (·.size) = some (#[.int .u32 (na : Int), .int .u32 (a : Int), .int .u32 (b : Int), .int .u32 (c : Int), .int .u32 (nt : Int), .int .u32 (e : Int), .int .u32 (f : Int), .int .u32 (g : Int)] : Array Value).size by kernel_rfl)
      have HO7 := hideIt (show (#[.int .u32 (na : Int), .int .u32 (a : Int), .int .u32 (b : Int), .int .u32 (c : Int), .int .u32 (nt : Int), .int .u32 (e : Int), .int .u32 (f : Int), .int .u32 (g : Int)] : Array Value).all (·.oneCell') = true by simp [Value.oneCell'])
      have HW7 := hideIt (fun W (h : W = W7.setCells q 0 (#[.int .u32 (na : Int), .int .u32 (a : Int), .int .u32 (b : Int), .int .u32 (c : Int), .int .u32 (nt : Int), .int .u32 (e : Int), .int .u32 (f : Int), .int .u32 (g : Int)] : Array Value).toList) => show W.heap[q]? = some (.cells (stA ⟨na, a, b, c, nt, e, f, g⟩) 91 (0, 0)) ∧ Fr (fun k => k = q) W2 W by
        subst h
        have hS := store_over (V := (#[.int .u32 (na : Int), .int .u32 (a : Int), .int .u32 (b : Int), .int .u32 (c : Int), .int .u32 (nt : Int), .int .u32 (e : Int), .int .u32 (f : Int), .int .u32 (g : Int)] : Array Value)) HQ7.out rfl
        exact ⟨hS.1, HF7.out.trans hS.2 (fun _ _ e => e)⟩)
      go_wp2_with (first | (refine wpList_store_abs rfl 91 (.tmp 8) (.tmp 73) rfl q 0 (#[.int .u32 (na : Int), .int .u32 (a : Int), .int .u32 (b : Int), .int .u32 (c : Int), .int .u32 (nt : Int), .int .u32 (e : Int), .int .u32 (f : Int), .int .u32 (g : Int)]) rfl rfl HT7.out HI7.out HO7.out ?_; intro W8 hW8; obtain ⟨hA8, hF8⟩ := HW7.out W8 hW8; have HV8 := hideIt hA8; have HF8 := hideIt hF8; clear hW8 HW7 HT7 hA8 hF8))
      clear c0 c1 c2 c3 c4 c5 c6
      go_roundw
      case measure => simp [intOf]; omega
      case rel => exact ⟨t + 1, ⟨na, a, b, c, nt, e, f, g⟩, by go_num, by omega, hideIt (by rw [← HNV0.out, HNV.out]), HV8, HF8⟩
    · have ht9 : t = 64 := by omega
      have hn9 : ¬ (t : Int) < 64 := by omega
      have HVF := hideIt (show v = Sha.foldW Sha.round Sha.K ws s by
        have h := HV.out
        rw [ht9, List.take_of_length_le (by rw [K_len]; exact Nat.le_refl _), List.take_of_length_le (by rw [HLW.out]; exact Nat.le_refl _)] at h
        exact h)
      rw [← HVF.out] at HBK
      have hA9 := (HF.out.block n (Array.getElem?_eq_some_iff.1 HA2.out).1 (by have := HNQ.out; omega)).trans HA2.out
      have hZ9 := (HF.out.block (n + 1) (Array.getElem?_eq_some_iff.1 HZ2.out).1 (by have := HNQ.out; omega)).trans HZ2.out
      have HQX := HQV.out
      have HF9 := hideIt (HF2.out.trans HF.out (fun k hk e => by have := HNQ.out; have := HN.out; omega))
      clear HV HVF ht9
      obtain ⟨a, b, c, d, e, f, g, h⟩ := v
      obtain ⟨sa, sb, sc, sd, se, sf, sg, sh⟩ := s
      have p0 : wr.cell? ⟨n, 0, none⟩ = some (.int .u32 (sa : Int)) := cellOfHeap hA9 0 rfl
      have o0 : wr.cell? ⟨q, 0, none⟩ = some (.int .u32 (a : Int)) := cellOfHeap HQX 0 rfl
      have m0 : ((sa : Int) + (a : Int)) % 4294967296 = ((Sha.add sa a : Nat) : Int) := add_int _ _
      obtain ⟨xa, hxa⟩ : ∃ q, Sha.add sa a = q := ⟨_, rfl⟩
      rw [hxa] at m0
      have HXa := hideIt hxa
      clear hxa
      have p1 : wr.cell? ⟨n, 1, none⟩ = some (.int .u32 (sb : Int)) := cellOfHeap hA9 1 rfl
      have o1 : wr.cell? ⟨q, 1, none⟩ = some (.int .u32 (b : Int)) := cellOfHeap HQX 1 rfl
      have m1 : ((sb : Int) + (b : Int)) % 4294967296 = ((Sha.add sb b : Nat) : Int) := add_int _ _
      obtain ⟨xb, hxb⟩ : ∃ q, Sha.add sb b = q := ⟨_, rfl⟩
      rw [hxb] at m1
      have HXb := hideIt hxb
      clear hxb
      have p2 : wr.cell? ⟨n, 2, none⟩ = some (.int .u32 (sc : Int)) := cellOfHeap hA9 2 rfl
      have o2 : wr.cell? ⟨q, 2, none⟩ = some (.int .u32 (c : Int)) := cellOfHeap HQX 2 rfl
      have m2 : ((sc : Int) + (c : Int)) % 4294967296 = ((Sha.add sc c : Nat) : Int) := add_int _ _
      obtain ⟨xc, hxc⟩ : ∃ q, Sha.add sc c = q := ⟨_, rfl⟩
      rw [hxc] at m2
      have HXc := hideIt hxc
      clear hxc
      have p3 : wr.cell? ⟨n, 3, none⟩ = some (.int .u32 (sd : Int)) := cellOfHeap hA9 3 rfl
      have o3 : wr.cell? ⟨q, 3, none⟩ = some (.int .u32 (d : Int)) := cellOfHeap HQX 3 rfl
      have m3 : ((sd : Int) + (d : Int)) % 4294967296 = ((Sha.add sd d : Nat) : Int) := add_int _ _
      obtain ⟨xd, hxd⟩ : ∃ q, Sha.add sd d = q := ⟨_, rfl⟩
      rw [hxd] at m3
      have HXd := hideIt hxd
      clear hxd
      have p4 : wr.cell? ⟨n, 4, none⟩ = some (.int .u32 (se : Int)) := cellOfHeap hA9 4 rfl
      have o4 : wr.cell? ⟨q, 4, none⟩ = some (.int .u32 (e : Int)) := cellOfHeap HQX 4 rfl
      have m4 : ((se : Int) + (e : Int)) % 4294967296 = ((Sha.add se e : Nat) : Int) := add_int _ _
      obtain ⟨xe, hxe⟩ : ∃ q, Sha.add se e = q := ⟨_, rfl⟩
      rw [hxe] at m4
      have HXe := hideIt hxe
      clear hxe
      have p5 : wr.cell? ⟨n, 5, none⟩ = some (.int .u32 (sf : Int)) := cellOfHeap hA9 5 rfl
      have o5 : wr.cell? ⟨q, 5, none⟩ = some (.int .u32 (f : Int)) := cellOfHeap HQX 5 rfl
      have m5 : ((sf : Int) + (f : Int)) % 4294967296 = ((Sha.add sf f : Nat) : Int) := add_int _ _
      obtain ⟨xf, hxf⟩ : ∃ q, Sha.add sf f = q := ⟨_, rfl⟩
      rw [hxf] at m5
      have HXf := hideIt hxf
      clear hxf
      have p6 : wr.cell? ⟨n, 6, none⟩ = some (.int .u32 (sg : Int)) := cellOfHeap hA9 6 rfl
      have o6 : wr.cell? ⟨q, 6, none⟩ = some (.int .u32 (g : Int)) := cellOfHeap HQX 6 rfl
      have m6 : ((sg : Int) + (g : Int)) % 4294967296 = ((Sha.add sg g : Nat) : Int) := add_int _ _
      obtain ⟨xg, hxg⟩ : ∃ q, Sha.add sg g = q := ⟨_, rfl⟩
      rw [hxg] at m6
      have HXg := hideIt hxg
      clear hxg
      have p7 : wr.cell? ⟨n, 7, none⟩ = some (.int .u32 (sh : Int)) := cellOfHeap hA9 7 rfl
      have o7 : wr.cell? ⟨q, 7, none⟩ = some (.int .u32 (h : Int)) := cellOfHeap HQX 7 rfl
      have m7 : ((sh : Int) + (h : Int)) % 4294967296 = ((Sha.add sh h : Nat) : Int) := add_int _ _
      obtain ⟨xh, hxh⟩ : ∃ q, Sha.add sh h = q := ⟨_, rfl⟩
      rw [hxh] at m7
      have HXh := hideIt hxh
      clear hxh
      have HADD := hideIt (show Sha.addSt ⟨sa, sb, sc, sd, se, sf, sg, sh⟩ ⟨a, b, c, d, e, f, g, h⟩ = ⟨xa, xb, xc, xd, xe, xf, xg, xh⟩ by unfold Sha.addSt; rw [HXa.out, HXb.out, HXc.out, HXd.out, HXe.out, HXf.out, HXg.out, HXh.out])
      have HZ9 := hideIt hZ9
      have HTZ := hideIt (thereNew wr (n + 1) _ 91 hZ9 (#[.int .u32 (xa : Int), .int .u32 (xb : Int), .int .u32 (xc : Int), .int .u32 (xd : Int), .int .u32 (xe : Int), .int .u32 (xf : Int), .int .u32 (xg : Int), .int .u32 (xh : Int)] : Array Value).size rfl)
      have HIZ := hideIt (show (Tryz.prog.info? 91).map (·.size) = some (#[.int .u32 (xa : Int), .int .u32 (xb : Int), .int .u32 (xc : Int), .int .u32 (xd : Int), .int .u32 (xe : Int), .int .u32 (xf : Int), .int .u32 (xg : Int), .int .u32 (xh : Int)] : Array Value).size by kernel_rfl)
      have HOZ := hideIt (show (#[.int .u32 (xa : Int), .int .u32 (xb : Int), .int .u32 (xc : Int), .int .u32 (xd : Int), .int .u32 (xe : Int), .int .u32 (xf : Int), .int .u32 (xg : Int), .int .u32 (xh : Int)] : Array Value).all (·.oneCell') = true by simp [Value.oneCell'])
      have HSZ := hideIt (store_over (V := (#[.int .u32 (xa : Int), .int .u32 (xb : Int), .int .u32 (xc : Int), .int .u32 (xd : Int), .int .u32 (xe : Int), .int .u32 (xf : Int), .int .u32 (xg : Int), .int .u32 (xh : Int)] : Array Value)) hZ9 rfl)
      clear hA9 hZ9 HQX
      go_wp2_with (first | (refine wpList_store_abs rfl 91 (.tmp 6) (.tmp 114) rfl (n + 1) 0 (#[.int .u32 (xa : Int), .int .u32 (xb : Int), .int .u32 (xc : Int), .int .u32 (xd : Int), .int .u32 (xe : Int), .int .u32 (xf : Int), .int .u32 (xg : Int), .int .u32 (xh : Int)]) rfl rfl HTZ.out HIZ.out HOZ.out ?_; intro W9 hW9; have HW9 := hideIt hW9; clear hW9))
      refine bodyPost_ret (results_cell_row Tryz.results60 _ _ (n + 1) 91 (#[.int .u32 (xa : Int), .int .u32 (xb : Int), .int .u32 (xc : Int), .int .u32 (xd : Int), .int .u32 (xe : Int), .int .u32 (xf : Int), .int .u32 (xg : Int), .int .u32 (xh : Int)]) (0, 0) _ rfl ?_ Tryz.underlying91 rfl HIZ.out) rfl ⟨?_, ?_⟩
      · rw [HW9.out]
        exact HSZ.out.1
      · rw [HBK.out]
        rw [HADD.out]
        rfl
      · rw [HW9.out]
        exact HF9.out.trans HSZ.out.2 (fun i hi e => by have := HN.out; omega)

end Go.Proofs.YtojgikaoiegmpaaGreatDoor

/- Package hash, the document's: the ID of bytes (Sum), walked. -/
namespace Go.Proofs.YtojgikaoiegmpaaGreatDoor
open Go.RowKit Go.IntWalk
set_option linter.unusedSimpArgs false
set_option linter.unusedVariables false
set_option maxRecDepth 100000

theorem message_len (b : List UInt8) : ∃ n, (Sha.message b).length = 64 * n ∧ 0 < n ∧ 64 * n ≤ b.length + 72 := by
  unfold Sha.message
  rw [List.length_append, ending_len]
  unfold nou
  exact ⟨(b.length + (9 + (119 - b.length % 64) % 64)) / 64, by omega, by omega, by omega⟩
/-- The bytes of word i, the last m of them, and all ahead, are laid. -/
def PIn (s : Sha.St) (i m : Nat) (ds : List UInt8) : Prop := ds.length = 32 ∧ ∀ t, (t < 4 * i ∨ (4 * i + 4 ≤ t + m ∧ t < 4 * i + 4)) → ds.getD t 0 = (Sha.name s).getD t 0
theorem PIn.step {s : Sha.St} {i m : Nat} {ds : List UInt8} (h : PIn s i m ds) (hi : i < 8) (hm : m < 4) (v : UInt8) (hv : v = (Sha.name s).getD (4 * i + (3 - m)) 0) : PIn s i (m + 1) (ds.set (4 * i + (3 - m)) v) := by
  have hl := h.1
  refine ⟨by rw [List.length_set]; exact hl, fun t ht => ?_⟩
  by_cases e : t = 4 * i + (3 - m)
  · subst e
    rw [hv]
    have : 4 * i + (3 - m) < ds.length := by omega
    simp [List.getD, this]
  · have := h.2 t (by omega)
    rw [← this]
    simp [List.getD, List.getElem?_set, Ne.symm e]
theorem PIn.next {s : Sha.St} {i : Nat} {ds : List UInt8} (h : PIn s i 4 ds) : PIn s (i + 1) 0 ds := ⟨h.1, fun t ht => h.2 t (by omega)⟩
theorem PIn.all {s : Sha.St} {ds : List UInt8} (h : PIn s 8 0 ds) : ds = Sha.name s := by
  apply List.ext_getElem
  · rw [h.1, name_len]
  · intro t g1 g2
    have := h.2 t (by rw [name_len] at g2; omega)
    simpa [List.getD, g1, g2] using this

set_option maxRecDepth 100000 in
set_option maxHeartbeats 8000000 in
theorem xsum_any (x : Bt) (w : World) (hx : BtAt w x) (hl : x.bs.length ≤ 4000) : Calls Tryz.prog 35 #[x.val] w fun e w' => e = .returned (.agg (bv (Sha.sum x.bs)).toArray) ∧ Fr (fun _ => False) w w' := by
  obtain ⟨n, hn⟩ : ∃ n, w.heap.size = n := ⟨_, rfl⟩
  obtain ⟨nB, hM, hB0, hBl⟩ := message_len x.bs
  have HSUM := hideIt (show Sha.sum x.bs = Sha.name (Sha.blkW Sha.block nB (Sha.message x.bs) Sha.first) by
    unfold Sha.sum
    rw [blocks_blkW, hM, Nat.mul_div_cancel_left nB (by decide)])
  have hA0 : ((w.alloc (.cells zA 33)).alloc (.cells #[.int .u32 0, .int .u32 0, .int .u32 0, .int .u32 0, .int .u32 0, .int .u32 0, .int .u32 0, .int .u32 0] 91)).heap[n]? = some (.cells zA 33 (0, 0)) := heap_old (heap_new hn.symm)
  have hB0' : ((w.alloc (.cells zA 33)).alloc (.cells #[.int .u32 0, .int .u32 0, .int .u32 0, .int .u32 0, .int .u32 0, .int .u32 0, .int .u32 0, .int .u32 0] 91)).heap[n + 1]? = some (.cells z8 91 (0, 0)) := heap_new (by simp [hn])
  have hf0 : Fr (fun _ => False) w ((w.alloc (.cells zA 33)).alloc (.cells #[.int .u32 0, .int .u32 0, .int .u32 0, .int .u32 0, .int .u32 0, .int .u32 0, .int .u32 0, .int .u32 0] 91)) := ((Fr.refl _ w).alloc _).alloc _
  have HT0 := hideIt (thereNew ((w.alloc (.cells zA 33)).alloc (.cells #[.int .u32 0, .int .u32 0, .int .u32 0, .int .u32 0, .int .u32 0, .int .u32 0, .int .u32 0, .int .u32 0] 91)) (n + 1) z8 91 hB0' (stA Sha.first).size rfl)
  have HI0 := hideIt (show (Tryz.prog.info? 91).map (·.size) = some (stA Sha.first).size by kernel_rfl)
  have HO0 := hideIt (stA_one Sha.first)
  have HW0 := hideIt (fun W (h : W = ((w.alloc (.cells zA 33)).alloc (.cells #[.int .u32 0, .int .u32 0, .int .u32 0, .int .u32 0, .int .u32 0, .int .u32 0, .int .u32 0, .int .u32 0] 91)).setCells (n + 1) 0 (stA Sha.first).toList) => show W.heap[n]? = some (.cells zA 33 (0, 0)) ∧ W.heap[n + 1]? = some (.cells (stA Sha.first) 91 (0, 0)) ∧ Fr (fun _ => False) w W by
    subst h
    have hS := store_over (V := stA Sha.first) hB0' rfl
    exact ⟨(hS.2.block n (Array.getElem?_eq_some_iff.1 hA0).1 (by omega)).trans hA0, hS.1, hf0.trans hS.2 (fun i hi e => by omega)⟩)
  have HX := hideIt hx
  have HL := hideIt hl
  have HN := hideIt hn
  have HML := hideIt hM
  have HB0 := hideIt hB0
  have HBL := hideIt hBl
  have HBF := hideIt (show Tryz.prog.built 91 [(0, .int .u32 1779033703), (1, .int .u32 3144134277), (2, .int .u32 1013904242), (3, .int .u32 2773480762), (4, .int .u32 1359893119), (5, .int .u32 2600822924), (6, .int .u32 528734635), (7, .int .u32 1541459225)] = some (stA Sha.first) by kernel_rfl)
  clear hA0 hB0' hf0 hx hl hM hB0 hBl
  generalize hSF : stA Sha.first = sF at HT0 HI0 HO0 HW0 HBF
  have HSF := hideIt hSF
  clear hSF
  have HMS := hideIt (fun W (hF : Fr (fun _ => False) w W) => xmessage_any x W (HX.out.fr hF (fun _ _ _ e => e)) HL.out)
  unfold Bt.val at HMS ⊢
  go_enter Tryz.func35, Tryz.ntmps35
  go_wp2_with (first | (refine wpList_build_eq rfl 91 _ rfl [(0, .int .u32 1779033703), (1, .int .u32 3144134277), (2, .int .u32 1013904242), (3, .int .u32 2773480762), (4, .int .u32 1359893119), (5, .int .u32 2600822924), (6, .int .u32 528734635), (7, .int .u32 1541459225)] (by simp [Act.eval, Act.put]) sF HBF.out ?_) | (refine wpList_store_abs rfl 91 (.tmp 3) (.tmp 10) rfl (n + 1) 0 sF rfl rfl HT0.out HI0.out HO0.out ?_; intro W1 hW1; obtain ⟨hA1, hB1, hF1⟩ := HW0.out W1 hW1; have HA1 := hideIt hA1; have HB1 := hideIt hB1; have HF1 := hideIt hF1; clear hW1 HW0 HT0 hA1 hB1 hF1))
  clear HBF
  refine Calls.mono (HMS.out _ HF1.out) ?_
  rintro e w2 ⟨am, cm, rfl, hrow, hF2⟩
  have HA2 := hideIt ((hF2.block n (Array.getElem?_eq_some_iff.1 HA1.out).1 (fun e => e)).trans HA1.out)
  have HB2 := hideIt ((hF2.block (n + 1) (Array.getElem?_eq_some_iff.1 HB1.out).1 (fun e => e)).trans HB1.out)
  have HF2 := hideIt (HF1.out.trans hF2 (fun _ _ e => e))
  obtain ⟨M, hMM⟩ : ∃ M, Sha.message x.bs = M := ⟨_, rfl⟩
  rw [hMM] at hrow HML HSUM ⊢
  rw [HML.out]
  have HKC := hideIt (xconsts_any w2)
  obtain ⟨g, rfl, hgc, hcap⟩ : ∃ g, am = some ⟨g, 0, none⟩ ∧ (∀ j (h : j < M.length), w2.cell? ⟨g, j, none⟩ = some (.int .u8 M[j].toNat)) ∧ M.length ≤ cm := by
    rcases hrow.form with ⟨_, e, _⟩ | ⟨g, cur, e, _, hle, _⟩
    · have h1 := HML.out
      have h2 := HB0.out
      rw [e] at h1
      simp at h1
      omega
    · subst e
      exact ⟨g, rfl, fun j hj => hrow.cell j hj, hle⟩
  have HGC := hideIt hgc
  have HCAP := hideIt hcap
  clear hrow hgc hcap hF2 HA1 HB1 HF1 HMS
  go_wp2_with fail
  refine Calls.mono HKC.out ?_
  rintro e w3 ⟨rfl, hK, hF3⟩
  obtain ⟨kg, hkg⟩ : ∃ k, w2.heap.size = k := ⟨_, rfl⟩
  rw [hkg] at hK
  have HA3 := hideIt ((hF3.block n (Array.getElem?_eq_some_iff.1 HA2.out).1 (fun e => e)).trans HA2.out)
  have HB3 := hideIt ((hF3.block (n + 1) (Array.getElem?_eq_some_iff.1 HB2.out).1 (fun e => e)).trans HB2.out)
  have HK3 := hideIt hK
  have HF3 := hideIt (HF2.out.trans hF3 (fun _ _ e => e))
  have HG3 := hideIt (fun j (h : j < M.length) => cellFr hF3 (HGC.out j h))
  have HGN := hideIt (show g ≠ n + 1 by
    intro e
    have h1 := HGC.out 0 (by have := HML.out; have := HB0.out; omega)
    have h2 := cellOfHeap HB2.out 0 (v := (stA Sha.first)[0]'(by decide)) (by rw [← HSF.out]; rfl)
    rw [e, h2] at h1
    simp [stA] at h1)
  have HKN := hideIt (show n + 1 < kg by rw [← hkg]; exact (Array.getElem?_eq_some_iff.1 HB2.out).1)
  rw [← HSF.out] at HB3
  have HKG := hideIt hkg
  clear hK hF3 HKC HA2 HB2 HF2 HGC hMM
  generalize sF = sG at *
  go_wp2_with fail
  go_loopw [4] (fun s4 wr => ∃ (k o r c : Nat), s4 = .slice (some ⟨g, o, none⟩) r c ∧ Hid (r = 64 * (nB - k)) ∧ k ≤ nB ∧ Hid (k < nB → o = 64 * k ∧ r ≤ c) ∧ Hid (wr.heap[n + 1]? = some (.cells (stA (Sha.blkW Sha.block k M Sha.first)) 91 (0, 0))) ∧ Hid (Fr (fun k => k = n + 1) w3 wr)) (fun s4 _ => slLen s4)
  case atStart => exact ⟨0, 0, 64 * nB, cm, rfl, hideIt rfl, by omega, hideIt (fun _ => ⟨rfl, by rw [← HML.out]; exact HCAP.out⟩), HB3, hideIt (Fr.refl _ _)⟩
  case round =>
    clear HB3
    obtain ⟨k, o, r, c, rfl, HRL, hk, HOC, HS, HF⟩ := hrel
    by_cases hlt : k < nB
    · obtain ⟨rfl, hrc⟩ := HOC.out hlt
      have hr := HRL.out
      have hr64 : 64 ≤ r := by omega
      have h1 : (0 : Int) < (r : Int) := by omega
      have h1b : 0 < r := by omega
      have hc64 : (64 : Int) ≤ (c : Int) := by omega
      have hr64i : (64 : Int) ≤ (r : Int) := by omega
      have hc64n : 64 ≤ c := by omega
      have hst : St32 (Sha.blkW Sha.block k M Sha.first) := blkW_all _ St32 (fun s b => St32.block s b) _ _ _ St32.first
      have HBS := hideIt (fun W (hF : Fr (fun i => i = n + 1) w3 W) => show BsAt W (some ⟨g, 64 * k, none⟩) ((M.drop (64 * k)).take 64) from Or.inr ⟨g, 64 * k, rfl, fun j hj => by
        have hj2 : 64 * k + j < M.length := by simp at hj; have := HML.out; omega
        have h := HG3.out (64 * k + j) hj2
        have h2 : W.cell? ⟨g, 64 * k + j, none⟩ = some (.int .u8 M[64 * k + j].toNat) := (World.cell?_of_block (a := ⟨g, 64 * k + j, none⟩) (hF.block g (block_lt_of_cell h) HGN.out)).trans h
        rw [h2]
        simp⟩)
      have HBLK := hideIt (xblock_any (Sha.blkW Sha.block k M Sha.first) hst (some ⟨g, 64 * k, none⟩) c ((M.drop (64 * k)).take 64) (by simp; have := HML.out; omega) kg wr.drew (HBS.out _ HF.out.drew) (HK3.out.fr HF.out.drew (by have := HKN.out; omega)))
      have HNX := hideIt (blkW_succ Sha.block k M Sha.first)
      rw [← HNX.out] at HBLK
      have HRG := hideIt (show wr.drew.rangeAt (n + 1) 0 (stA (Sha.blkW Sha.block k M Sha.first)).toList from rangeOf HS.out)
      generalize Sha.blkW Sha.block k M Sha.first = S at *
      obtain ⟨S2, hS2⟩ : ∃ S2, Sha.blkW Sha.block (k + 1) M Sha.first = S2 := ⟨_, rfl⟩
      rw [hS2] at HBLK HNX
      have HS2 := hideIt hS2
      have HIS := hideIt (show (Tryz.prog.info? 91).map (·.size) = some (stA S).toList.length by kernel_rfl)
      clear hS2 hst HBS hr hrc
      go_wp2_with fail
      refine wp_region_held_drew (S := (fun _ => True)) (by kernel_rfl) ?_ (fun hHeld => ?_)
      · trivial
      refine wpAnyH_take (i := 1) (v := ?v1) rfl (by kernel_rfl) (by kernel_rfl) (by kernel_rfl) (fun _ _ _ h => h) (Or.inl ⟨by kernel_rfl, ?hy1⟩) (by assumption) ?rest1
      case hy1 => intro w hSw; (try dsimp only at hSw); go_simp; (try with_reducible rfl)
      try simp only [Act.put, List.getElem_toArray, List.getElem_cons_zero, List.getElem_cons_succ, List.setIfInBounds_toArray, List.set_cons_zero, List.set_cons_succ]
      refine wpAnyH_take (i := 2) (v := .slice (some ⟨g, 64 * k, none⟩) 64 c) rfl (by kernel_rfl) (by kernel_rfl) (by kernel_rfl) (fun _ _ _ h => h) (Or.inl ⟨by kernel_rfl, fun w0 hSw => by go_simp⟩) (by assumption) ?_
      try simp only [Act.put, List.getElem_toArray, List.getElem_cons_zero, List.getElem_cons_succ, List.setIfInBounds_toArray, List.set_cons_zero, List.set_cons_succ]
      refine wpAnyH_take (i := 3) (v := ?v2) rfl (by kernel_rfl) (by kernel_rfl) (by kernel_rfl) (fun _ _ _ h => h) (Or.inl ⟨by kernel_rfl, ?hy2⟩) (by assumption) ?rest2
      case hy2 => intro w hSw; (try dsimp only at hSw); go_simp; (try with_reducible rfl)
      try simp only [Act.put, List.getElem_toArray, List.getElem_cons_zero, List.getElem_cons_succ, List.setIfInBounds_toArray, List.set_cons_zero, List.set_cons_succ]
      refine wpAnyH_ready (rs := [0]) (by kernel_rfl) (by simp) ?_
      refine AllReadyH.cons rfl (fun K hK => ?_) AllReadyH.nil
      rw [if_pos (by rfl)]
      refine wp_load_mid 91 (.tmp 3) rfl (n + 1) 0 rfl (stA S).toList _ HRG.out Tryz.underlying91 rfl HIS.out ?_
      refine hK.out _ _ ?_ (fun hHeld => ?_)
      · trivial
      clear hK K
      try simp only [Act.put, List.getElem_toArray, List.getElem_cons_zero, List.getElem_cons_succ, List.setIfInBounds_toArray, List.set_cons_zero, List.set_cons_succ]
      refine wpAnyH_ready (rs := [4]) (by kernel_rfl) (by simp) ?_
      refine AllReadyH.cons rfl (fun K hK => ?_) AllReadyH.nil
      go_simp
      refine Calls.mono HBLK.out ?_
      rintro e W4 ⟨rfl, hF4⟩
      have HS4 := hideIt ((hF4.block (n + 1) (Array.getElem?_eq_some_iff.1 HS.out).1 (fun e => e)).trans HS.out)
      have HF4 := hideIt (HF.out.trans ((Fr.refl _ wr).drew.trans hF4 (fun _ _ e => e)) (fun _ _ e => e.elim))
      refine hK.out _ _ ?_ (fun hHeld => ?_)
      · trivial
      clear hK K
      try simp only [Act.put, List.getElem_toArray, List.getElem_cons_zero, List.getElem_cons_succ, List.setIfInBounds_toArray, List.set_cons_zero, List.set_cons_succ]
      refine wpAnyH_ready (rs := [5]) (by kernel_rfl) (by simp) ?_
      refine AllReadyH.cons rfl (fun K hK => ?_) AllReadyH.nil
      rw [if_pos (by rfl)]
      refine wp_store_mid 91 (.tmp 3) (.tmp 21) rfl (n + 1) 0 (stA S2) rfl rfl (thereNew W4 (n + 1) _ 91 HS4.out (stA S2).size rfl) (by kernel_rfl) (stA_one _) ?_
      have HS5 := hideIt (store_over (V := stA S2) HS4.out rfl)
      have HF5 := hideIt (HF4.out.trans HS5.out.2 (fun _ _ e => e))
      have HV5 := hideIt HS5.out.1
      clear HS5
      generalize W4.setCells (n + 1) 0 (stA S2).toList = W5 at *
      refine hK.out _ _ ?_ (fun hHeld => ?_)
      · trivial
      clear hK K
      try simp only [Act.put, List.getElem_toArray, List.getElem_cons_zero, List.getElem_cons_succ, List.setIfInBounds_toArray, List.set_cons_zero, List.set_cons_succ]
      refine wpAnyH_done (by kernel_rfl) ?_ _
      clear hHeld HS4 HF4 hF4 HRG HIS HBLK HS HF
      rw [← HS2.out] at HV5
      by_cases hc : c = 64
      · subst hc
        have hr : r = 64 := by have h2 := HOC.out hlt; omega
        have hkn : k + 1 = nB := by have h2 := HRL.out; omega
        subst hr
        go_wp2_with fail
        exact ⟨⟨k + 1, _, _, _, rfl, hideIt (by omega), by omega, hideIt (fun e => by omega), HV5, HF5⟩, by simp [slLen]⟩
      · have hcn : ¬ (c : Int) = 64 := by omega
        have hcn2 : ¬ 64 = c := by omega
        have hoc := (HOC.out hlt).2
        go_wp2_with fail
        exact ⟨⟨k + 1, 64 * k + 64, r - 64, c - 64, by first | rfl | (congr 1), hideIt (by have := HRL.out; omega), by omega, hideIt (fun e => ⟨by omega, by omega⟩), HV5, HF5⟩, by simp [slLen]; omega⟩
    · obtain rfl : k = nB := by omega
      have hr : r = 0 := by rw [HRL.out]; omega
      have hr0 : ¬ (0 : Int) < (r : Int) := by omega
      clear HOC HRL
      have hS8 := HS.out
      have HFA := hideIt (HF3.out.trans HF.out (fun i hi e => by have := HN.out; omega))
      have HZA := hideIt ((HF.out.block n (Array.getElem?_eq_some_iff.1 HA3.out).1 (by omega)).trans HA3.out)
      have h32 : St32 (Sha.blkW Sha.block k M Sha.first) := blkW_all _ St32 (fun s b => St32.block s b) _ _ _ St32.first
      generalize Sha.blkW Sha.block k M Sha.first = S at *
      have c0 : wr.cell? ⟨n + 1, 0, none⟩ = some (.int .u32 (S.a : Int)) := cellOfHeap hS8 0 rfl
      have c1 : wr.cell? ⟨n + 1, 1, none⟩ = some (.int .u32 (S.b : Int)) := cellOfHeap hS8 1 rfl
      have c2 : wr.cell? ⟨n + 1, 2, none⟩ = some (.int .u32 (S.c : Int)) := cellOfHeap hS8 2 rfl
      have c3 : wr.cell? ⟨n + 1, 3, none⟩ = some (.int .u32 (S.d : Int)) := cellOfHeap hS8 3 rfl
      have c4 : wr.cell? ⟨n + 1, 4, none⟩ = some (.int .u32 (S.e : Int)) := cellOfHeap hS8 4 rfl
      have c5 : wr.cell? ⟨n + 1, 5, none⟩ = some (.int .u32 (S.f : Int)) := cellOfHeap hS8 5 rfl
      have c6 : wr.cell? ⟨n + 1, 6, none⟩ = some (.int .u32 (S.g : Int)) := cellOfHeap hS8 6 rfl
      have c7 : wr.cell? ⟨n + 1, 7, none⟩ = some (.int .u32 (S.h : Int)) := cellOfHeap hS8 7 rfl
      obtain ⟨p, hp⟩ : ∃ p, wr.heap.size = p := ⟨_, rfl⟩
      have HL0 := hideIt (show ((wr.alloc (.cells #[.int .u32 (S.a : Int), .int .u32 (S.b : Int), .int .u32 (S.c : Int), .int .u32 (S.d : Int), .int .u32 (S.e : Int), .int .u32 (S.f : Int), .int .u32 (S.g : Int), .int .u32 (S.h : Int)] 89)).alloc (.cells zA 33)).heap[p]? = some (.cells (uv [S.a, S.b, S.c, S.d, S.e, S.f, S.g, S.h]).toArray 89 (0, 0)) from heap_old (heap_new hp.symm))
      have HD0 := hideIt (show ((wr.alloc (.cells #[.int .u32 (S.a : Int), .int .u32 (S.b : Int), .int .u32 (S.c : Int), .int .u32 (S.d : Int), .int .u32 (S.e : Int), .int .u32 (S.f : Int), .int .u32 (S.g : Int), .int .u32 (S.h : Int)] 89)).alloc (.cells zA 33)).heap[p + 1]? = some (.cells (bv (List.replicate 32 0)).toArray 33 (0, 0)) from heap_new (by simp [hp]))
      have HZ0 := hideIt (show ((wr.alloc (.cells #[.int .u32 (S.a : Int), .int .u32 (S.b : Int), .int .u32 (S.c : Int), .int .u32 (S.d : Int), .int .u32 (S.e : Int), .int .u32 (S.f : Int), .int .u32 (S.g : Int), .int .u32 (S.h : Int)] 89)).alloc (.cells zA 33)).heap[n]? = some (.cells zA 33 (0, 0)) from heap_old (heap_old HZA.out))
      have HF0 := hideIt (show Fr (fun _ => False) w ((wr.alloc (.cells #[.int .u32 (S.a : Int), .int .u32 (S.b : Int), .int .u32 (S.c : Int), .int .u32 (S.d : Int), .int .u32 (S.e : Int), .int .u32 (S.f : Int), .int .u32 (S.g : Int), .int .u32 (S.h : Int)] 89)).alloc (.cells zA 33)) from (HFA.out.alloc _).alloc _)
      have HPN := hideIt (show n < p by rw [← hp]; exact (Array.getElem?_eq_some_iff.1 HZA.out).1)
      have HPI := hideIt (show PIn S 0 0 (List.replicate 32 0) from ⟨by simp, fun t ht => by omega⟩)
      have HST := hideIt (show ∀ t, 0 ≤ t → t < 8 → ([S.a, S.b, S.c, S.d, S.e, S.f, S.g, S.h] : List Nat).getD t 0 = stW S t from fun t _ _ => rfl)
      have HPP := hideIt hp
      have H32 := hideIt h32
      clear hS8 HFA HZA h32 HS HF HK3 HG3 HA3 HF3
      go_wp2_with fail
      clear c0 c1 c2 c3 c4 c5 c6 c7
      go_loopw [8] (fun s8 wx => ∃ (i : Nat) (ds : List UInt8) (ls : List Nat), s8 = .int .i64 i ∧ i ≤ 8 ∧ Hid (PIn S i 0 ds) ∧ Hid (∀ t, i ≤ t → t < 8 → ls.getD t 0 = stW S t) ∧ Hid (ls.length = 8) ∧ Hid (wx.heap[p]? = some (.cells (uv ls).toArray 89 (0, 0))) ∧ Hid (wx.heap[p + 1]? = some (.cells (bv ds).toArray 33 (0, 0))) ∧ Hid (wx.heap[n]? = some (.cells zA 33 (0, 0))) ∧ Hid (Fr (fun _ => False) w wx)) (fun s8 _ => 8 - (intOf s8).toNat)
      case atStart => exact ⟨0, _, _, rfl, by omega, HPI, HST, hideIt rfl, HL0, HD0, HZ0, HF0⟩
      case round =>
        clear HPI HST HL0 HD0 HZ0 HF0
        obtain ⟨i, ds, ls, rfl, hi, HPI, HST, HLN, HLS, HDS, HZS, HFS⟩ := hrel
        by_cases hlt8 : i < 8
        · have hi8 : (i : Int) < 8 := by omega
          have HI0 := hideIt (show ls.getD i 0 = stW S i / 256 ^ 0 by rw [HST.out i (Nat.le_refl _) hlt8]; simp)
          have HS1 := hideIt (show ∀ t, i < t → t < 8 → ls.getD t 0 = stW S t from fun t h1 h2 => HST.out t (by omega) h2)
          clear HST
          go_wp2_with fail
          go_loopw [9] (fun s9 wx => ∃ (m : Nat) (z : Int) (ds : List UInt8) (ls : List Nat), s9 = .int .i64 z ∧ m ≤ 4 ∧ Hid (z = 3 - (m : Int)) ∧ Hid (PIn S i m ds) ∧ Hid (∀ t, i < t → t < 8 → ls.getD t 0 = stW S t) ∧ Hid (ls.getD i 0 = stW S i / 256 ^ m) ∧ Hid (ls.length = 8) ∧ Hid (wx.heap[p]? = some (.cells (uv ls).toArray 89 (0, 0))) ∧ Hid (wx.heap[p + 1]? = some (.cells (bv ds).toArray 33 (0, 0))) ∧ Hid (wx.heap[n]? = some (.cells zA 33 (0, 0))) ∧ Hid (Fr (fun _ => False) w wx)) (fun s9 _ => (intOf s9 + 1).toNat)
          case atStart => exact ⟨0, 3, ds, ls, rfl, by omega, hideIt rfl, HPI, HS1, HI0, HLN, HLS, HDS, HZS, HFS⟩
          case round =>
            clear HPI HS1 HI0 HLN HLS HDS HZS HFS
            obtain ⟨m, z, ds, ls, rfl, hm, HZ, HPI, HS1, HI0, HLN, HLS, HDS, HZS, HFS⟩ := hrel
            by_cases hm4 : m < 4
            · obtain ⟨j, hj⟩ : ∃ j : Nat, 3 - m = j := ⟨_, rfl⟩
              obtain rfl : z = (j : Int) := by rw [HZ.out]; omega
              have hj4 : j < 4 := by omega
              have hyw : ls.getD i 0 < 4294967296 := by
                rw [HI0.out]
                exact Nat.lt_of_le_of_lt (Nat.div_le_self _ _) (stW_lt S H32.out i hlt8)
              have HNG := hideIt (show UInt8.ofNat (ls.getD i 0 % 256) = (Sha.name S).getD (4 * i + (3 - m)) 0 by
                rw [name_get S i (3 - m) hlt8 (by omega), HI0.out, show 3 - (3 - m) = m by omega])
              have HPS := hideIt (HPI.out.step hlt8 hm4 _ HNG.out)
              rw [hj] at HPS
              have cy : wr.cell? ⟨p, i, none⟩ = some (.int .u32 (ls.getD i 0 : Nat)) := cellOfHeap HLS.out i (uv_get ls i (by rw [HLN.out]; exact hlt8))
              have fy := frozen_of_row wr p i _ _ HLS.out
              have hdl := HPI.out.1
              have cd : wr.cell? ⟨p + 1, 4 * i + j, none⟩ = some (.int .u8 ((ds.getD (4 * i + j) 0).toNat : Int)) := cellOfHeap HDS.out (4 * i + j) (by
                have h2 : 4 * i + j < ds.length := by omega
                simp [bv, List.getD, h2])
              have fd := frozen_of_row wr (p + 1) (4 * i + j) _ _ HDS.out
              have HI1 := hideIt (show ls.getD i 0 / 256 = stW S i / 256 ^ (m + 1) by rw [HI0.out, Nat.div_div_eq_div_mul, Nat.pow_succ])
              have HSET := hideIt (uv_set ls i)
              have HGI := hideIt (show ∀ v, (ls.set i v).getD i 0 = v from fun v => by
                have : i < ls.length := by rw [HLN.out]; exact hlt8
                simp [List.getD, this])
              have HGO := hideIt (show ∀ v t, i < t → (ls.set i v).getD t 0 = ls.getD t 0 from fun v t h => by
                simp [List.getD, List.getElem?_set, show ¬ i = t by omega])
              generalize ls.getD i 0 = y at *
              have hvy : (((UInt8.ofNat (y % 256)).toNat : Nat) : Int) = (y : Int) % 256 := by simp
              obtain ⟨v, hv⟩ : ∃ v, UInt8.ofNat (y % 256) = v := ⟨_, rfl⟩
              rw [hv] at hvy HPS
              obtain ⟨yd, hyd⟩ : ∃ d, y / 256 = d := ⟨_, rfl⟩
              rw [hyd] at HI1
              have d1 : (y : Int).tdiv 256 = (yd : Int) := by rw [Int.tdiv_eq_ediv_of_nonneg (by omega)]; omega
              have d1b : (y : Int) / 256 = (yd : Int) := by omega
              have d2 : IntKind.u32.wrap (yd : Int) = (yd : Int) := by rw [IntKind.wrap_u32]; omega
              have H1 := heap_setCell_same wr (p + 1) (4 * i + j) _ _ (.int .u8 ((y : Int) % 256)) HDS.out
              have hse : (bv ds).toArray.setIfInBounds (4 * i + j) (.int .u8 ((y : Int) % 256)) = (bv (ds.set (4 * i + j) v)).toArray := by rw [← hvy]; simp [bv, List.map_set]
              rw [hse] at H1
              have f1 := (Fr.refl (fun k => k = p + 1) wr).setCell (p := ⟨p + 1, 4 * i + j, none⟩) (fun _ => rfl) (.int .u8 ((y : Int) % 256))
              have H1L := (f1.block p (Array.getElem?_eq_some_iff.1 HLS.out).1 (by omega)).trans HLS.out
              have H2 := heap_setCell_same (wr.setCell ⟨p + 1, 4 * i + j, none⟩ (.int .u8 ((y : Int) % 256))) p i _ _ (.int .u32 (yd : Int)) H1L
              rw [HSET.out yd] at H2
              have f2 := (Fr.refl (fun k => k = p) (wr.setCell ⟨p + 1, 4 * i + j, none⟩ (.int .u8 ((y : Int) % 256)))).setCell (p := ⟨p, i, none⟩) (fun _ => rfl) (.int .u32 (yd : Int))
              have H2D := hideIt ((f2.block (p + 1) (Array.getElem?_eq_some_iff.1 H1).1 (by omega)).trans H1)
              have H2L := hideIt H2
              have f12 : Fr (fun k => p ≤ k) wr _ := (f1.mono (fun k e => by omega)).trans (f2.mono (S' := fun k => p ≤ k) (fun k e => by omega)) (fun _ _ e => e)
              have H2Z := hideIt ((f12.block n (Array.getElem?_eq_some_iff.1 HZS.out).1 (by have := HPN.out; omega)).trans HZS.out)
              have H2F := hideIt (HFS.out.trans f12 (fun i hi e => by have := HPN.out; have := HN.out; omega))
              have HS2 := hideIt (show ∀ t, i < t → t < 8 → (ls.set i yd).getD t 0 = stW S t from fun t h1 h2 => by rw [HGO.out yd t h1]; exact HS1.out t h1 h2)
              have HI2 := hideIt (show (ls.set i yd).getD i 0 = stW S i / 256 ^ (m + 1) by rw [HGI.out yd]; exact HI1.out)
              have HL2 := hideIt (show (ls.set i yd).length = 8 by rw [List.length_set]; exact HLN.out)
              have w3 : IntKind.i64.wrap (4 * (i : Int)) = 4 * (i : Int) := by rw [IntKind.wrap_i64]; omega
              have w4 : IntKind.i64.wrap (4 * (i : Int) + (j : Int)) = 4 * (i : Int) + (j : Int) := by rw [IntKind.wrap_i64]; omega
              have w5 : IntKind.i64.wrap ((j : Int) - 1) = (j : Int) - 1 := by rw [IntKind.wrap_i64]; omega
              have n1 : (0 : Int) ≤ 4 * (i : Int) + (j : Int) := by omega
              have n2 : 4 * (i : Int) + (j : Int) < 32 := by omega
              have n3 : (4 * (i : Int) + (j : Int)).toNat = 4 * i + j := by omega
              have cy2 : (wr.setCell ⟨p + 1, 4 * i + j, none⟩ (.int .u8 ((y : Int) % 256))).cell? ⟨p, i, none⟩ = some (.int .u32 (y : Int)) := (World.cell?_of_block (a := ⟨p, i, none⟩) (f1.block p (Array.getElem?_eq_some_iff.1 HLS.out).1 (by omega))).trans cy
              have HZ3 := hideIt (show (j : Int) - 1 = 3 - ((m + 1 : Nat) : Int) by omega)
              clear H1 hse f1 H1L H2 f2 f12 hv hyd hvy hyw HNG HPI HS1 HI0 HLS HDS HZS HFS HSET HGI HGO HI1 hdl hj hj4
              go_wp2_with fail
              exact ⟨⟨m + 1, (j : Int) - 1, _, _, by first | rfl | go_num, by omega, HZ3, HPS, HS2, HI2, HL2, H2L, H2D, H2Z, H2F⟩, by simp [intOf]⟩
            · have hm5 : m = 4 := by omega
              have hz4 : z = -1 := by rw [HZ.out, hm5]; rfl
              subst hz4
              have HP2 := hideIt (show PIn S (i + 1) 0 ds by have h := HPI.out; rw [hm5] at h; exact h.next)
              have HS2 := hideIt (show ∀ t, i + 1 ≤ t → t < 8 → ls.getD t 0 = stW S t from fun t h1 h2 => HS1.out t (by omega) h2)
              clear hm5 HPI HS1 HI0 HZ
              go_wp2_with fail
              exact ⟨⟨i + 1, ds, ls, by go_num, by omega, HP2, HS2, HLN, HLS, HDS, HZS, HFS⟩, by simp [intOf]; omega⟩
        · have hi9 : i = 8 := by omega
          have hni : ¬ (i : Int) < 8 := by omega
          have hds : ds = Sha.name S := by have h := HPI.out; rw [hi9] at h; exact h.all
          subst hds
          have hnl := name_len S
          have HNS := HSUM.out
          generalize hNN : Sha.name S = NN at *
          have HRN := hideIt (show wr.rangeAt (p + 1) 0 (bv NN) from rangeOf HDS.out)
          have HIL := hideIt (show (Tryz.prog.info? 33).map (·.size) = some (bv NN).length by rw [bv_length, hnl]; kernel_rfl)
          have HIA := hideIt (show (Tryz.prog.info? 33).map (·.size) = some (bv NN).toArray.size by rw [List.size_toArray, bv_length, hnl]; kernel_rfl)
          have HTT := hideIt (thereNew wr n zA 33 HZS.out (bv NN).toArray.size (by rw [List.size_toArray, bv_length, hnl]; rfl))
          have HO1 := hideIt (show (bv NN).toArray.all (·.oneCell') = true by simp [bv, Value.oneCell'])
          have HSF2 := hideIt (store_over (V := (bv NN).toArray) HZS.out (by rw [List.size_toArray, bv_length, hnl]; rfl))
          have HNS2 := hideIt HNS
          clear HNS hNN hnl HPI HST HLS HDS HZS hi9
          go_wp2_with (first | (refine wpList_load_mid rfl 33 (.tmp 7) rfl (p + 1) 0 rfl (bv NN) _ HRN.out Tryz.underlying33 rfl HIL.out ?_) | (refine wpList_store_abs rfl 33 (.tmp 2) (.tmp 67) rfl n 0 (bv NN).toArray rfl rfl HTT.out HIA.out HO1.out ?_; intro W9 hW9; have HW9 := hideIt hW9; clear hW9))
          refine bodyPost_ret (results_cell_row Tryz.results35 _ _ n 33 (bv NN).toArray (0, 0) _ rfl ?_ Tryz.underlying33 rfl HIA.out) rfl ⟨by rw [HNS2.out], ?_⟩
          · rw [HW9.out]
            exact HSF2.out.1
          · rw [HW9.out]
            exact HFS.out.trans HSF2.out.2 (fun i hi e => by have := HN.out; omega)

end Go.Proofs.YtojgikaoiegmpaaGreatDoor
