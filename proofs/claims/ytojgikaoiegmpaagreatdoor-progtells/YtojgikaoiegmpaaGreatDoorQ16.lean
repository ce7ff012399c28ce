/- ProgTells, part 16 of the road: what the program's functions do, each by its own walk. -/
import Derived.Test.YtojgikaoiegmpaaGreatDoorQ9
import Derived.Laws.OwnMore
import Derived.Deep.OwnRows

/- Package hash: what stands behind a message (ending). -/
namespace Go.Proofs.YtojgikaoiegmpaaGreatDoor
open Go.RowKit Go.IntWalk
set_option linter.unusedSimpArgs false
set_option linter.unusedVariables false
set_option maxRecDepth 100000

def nou (n : Nat) : Nat := (119 - n % 64) % 64
theorem ending_len (n : Nat) : (Sha.ending n).length = 9 + nou n := by
  unfold Sha.ending nou
  simp [Sha.bytesOf]
  omega
theorem bytes8_get (x i : Nat) (hi : i < 8) : (Sha.bytesOf 8 x).getD (7 - i) 0 = UInt8.ofNat (x / 256 ^ i % 256) := by
  obtain rfl | rfl | rfl | rfl | rfl | rfl | rfl | rfl : i = 0 ∨ i = 1 ∨ i = 2 ∨ i = 3 ∨ i = 4 ∨ i = 5 ∨ i = 6 ∨ i = 7 := by omega
  all_goals simp [Sha.bytesOf, Nat.div_div_eq_div_mul]
theorem ending_get (n i : Nat) (hi : i < 8) : (Sha.ending n).getD (8 + nou n - i) 0 = UInt8.ofNat (n * 8 / 256 ^ i % 256) := by
  rw [← bytes8_get (n * 8) i hi]
  unfold Sha.ending
  rw [show (119 - n % 64) % 64 = nou n from rfl, show 8 + nou n - i = (nou n + (7 - i)) + 1 by omega]
  simp only [List.getD_cons_succ]
  simp [List.getD, List.getElem?_append_right]

/-- Its last bytes are laid. -/
def LaidB (n i : Nat) (ds : List UInt8) : Prop := ds.length = 9 + nou n ∧ ∀ t, t < 9 + nou n → ds.getD t 0 = if 9 + nou n - i ≤ t then (Sha.ending n).getD t 0 else if t = 0 then 128 else 0
theorem LaidB.step {n i : Nat} {ds : List UInt8} (h : LaidB n i ds) (hi : i < 8) (b : UInt8) (hb : b = (Sha.ending n).getD (8 + nou n - i) 0) : LaidB n (i + 1) (ds.set (8 + nou n - i) b) := by
  refine ⟨by rw [List.length_set]; exact h.1, fun t ht => ?_⟩
  have hl := h.1
  by_cases e : t = 8 + nou n - i
  · subst e
    have hlt : 8 + nou n - i < ds.length := by omega
    rw [if_pos (by omega), ← hb]
    simp [List.getD, List.getElem?_set, hlt]
  · have h2 := h.2 t ht
    have e1 : (ds.set (8 + nou n - i) b).getD t 0 = ds.getD t 0 := by simp [List.getD, List.getElem?_set, Ne.symm e]
    rw [e1, h2]
    by_cases hc : 9 + nou n - i ≤ t
    · have h3 : 9 + nou n - (i + 1) ≤ t := by omega
      rw [if_pos hc, if_pos h3]
    · have h3 : ¬ 9 + nou n - (i + 1) ≤ t := by omega
      rw [if_neg hc, if_neg h3]
theorem LaidB.all {n : Nat} {ds : List UInt8} (h : LaidB n 8 ds) : ds = Sha.ending n := by
  apply List.ext_getElem
  · rw [h.1, ending_len]
  · intro t g1 g2
    have h2 := h.2 t (by rw [← h.1]; exact g1)
    have e1 : ds.getD t 0 = ds[t] := by simp [List.getD, g1]
    have e2 : (Sha.ending n).getD t 0 = (Sha.ending n)[t] := by simp [List.getD, g2]
    rw [← e1, ← e2, h2]
    by_cases hc : 9 + nou n - 8 ≤ t
    · rw [if_pos hc]
    · rw [if_neg hc]
      unfold Sha.ending
      by_cases t0 : t = 0
      · subst t0
        rfl
      · obtain ⟨u, rfl⟩ : ∃ u, t = u + 1 := ⟨t - 1, by omega⟩
        have hu : u < nou n := by omega
        rw [if_neg t0, List.getD_cons_succ, show (119 - n % 64) % 64 = nou n from rfl]
        simp [List.getD, List.getElem?_append_left (show u < (List.replicate (nou n) (0 : UInt8)).length by simpa using hu), hu]

end Go.Proofs.YtojgikaoiegmpaaGreatDoor

/- Package hash: what stands behind a message (ending), walked. -/
namespace Go.Proofs.YtojgikaoiegmpaaGreatDoor
open Go.RowKit Go.IntWalk
set_option linter.unusedSimpArgs false
set_option linter.unusedVariables false
set_option maxRecDepth 100000

theorem LaidB.first (n : Nat) : LaidB n 0 ((List.replicate (9 + nou n) 0).set 0 128) := by
  refine ⟨by simp, fun t ht => ?_⟩
  rw [if_neg (by omega)]
  by_cases t0 : t = 0
  · subst t0
    rw [if_pos rfl, show 9 + nou n = (8 + nou n) + 1 by omega, List.replicate_succ]
    rfl
  · rw [if_neg t0]
    simp [List.getD, List.getElem?_set, Ne.symm t0, List.getElem?_replicate, ht]

set_option maxRecDepth 100000 in
set_option maxHeartbeats 4000000 in
theorem ending_any (n : Nat) (hn : n ≤ 140737488355328) (w : World) : Calls Tryz.prog 78 #[.int .i64 (n : Int)] w fun e w' => ∃ L, L = (Sha.ending n).length ∧ e = .returned (.slice (some ⟨w.heap.size, 0, none⟩) L L) ∧ w'.heap[w.heap.size]? = some (.cells (bv (Sha.ending n)).toArray 5 (0, 0)) ∧ Fr (fun _ => False) w w' := by
  obtain ⟨i0, hi, hz0, hz1, hz2⟩ := info_parts Tryz.infoU8
  have hnn : nou n < 64 := Nat.mod_lt _ (by decide)
  have hlen := ending_len n
  have hr1 : IntKind.i64.wrap (119 - (n : Int) % 64) = 119 - (n : Int) % 64 := by rw [IntKind.wrap_i64]; omega
  have hr2 : (119 - (n : Int) % 64).tmod 64 = (nou n : Int) := by
    rw [Int.tmod_eq_emod_of_nonneg (by omega)]
    unfold nou
    omega
  have hr3 : IntKind.i64.wrap (1 + (nou n : Int)) = 1 + (nou n : Int) := by rw [IntKind.wrap_i64]; omega
  have hr4 : IntKind.i64.wrap (1 + (nou n : Int) + 8) = ((9 + nou n : Nat) : Int) := by rw [IntKind.wrap_i64]; omega
  have hmd : madeCells #[.int .u8 0] (9 + nou n) = (bv (List.replicate (9 + nou n) 0)).toArray := by
    apply Array.ext'
    rw [toList_madeCells_one]
    simp [bv]
  have HM0 := hideIt (show (w.alloc (.cells (madeCells #[.int .u8 0] (9 + nou n)) 5)).heap[w.heap.size]? = some (.cells (bv (List.replicate (9 + nou n) 0)).toArray 5 (0, 0)) by rw [hmd]; exact heap_new rfl)
  have HF0 := hideIt (show Fr (fun _ => False) w (w.alloc (.cells (madeCells #[.int .u8 0] (9 + nou n)) 5)) from (Fr.refl _ _).alloc _)
  have HNG := hideIt (fun i (h : i < 8) => ending_get n i h)
  have HFS := hideIt (LaidB.first n)
  have HHL := hideIt hlen
  have HALL := hideIt (fun ds (h : LaidB n 8 ds) => h.all)
  have HSTP := hideIt (fun i ds b (h : LaidB n i ds) (hi : i < 8) (hb : b = (Sha.ending n).getD (8 + nou n - i) 0) => h.step hi b hb)
  have HLLN := hideIt (fun i ds (h : LaidB n i ds) => h.1)
  have hc0 : (w.alloc (.cells (madeCells #[.int .u8 0] (9 + nou n)) 5)).cell? ⟨w.heap.size, 0, none⟩ = some (.int .u8 0) := cellOfHeap HM0.out 0 (by
    have h9 : 0 < 9 + nou n := by omega
    simp [bv, h9])
  have hfz := frozen_of_row _ w.heap.size 0 _ _ HM0.out
  have hs2 : (bv (List.replicate (9 + nou n) 0)).toArray.setIfInBounds 0 (.int .u8 128) = (bv ((List.replicate (9 + nou n) 0).set 0 128)).toArray := by
    have : (.int .u8 128 : Value) = .int .u8 ((128 : UInt8).toNat : Int) := rfl
    rw [this]
    apply Array.ext'
    rw [Array.toList_setIfInBounds]
    unfold bv
    rw [List.map_set]
  have HM1 := hideIt (show (w.alloc (.cells ((madeCells #[.int .u8 0] (9 + nou n)).setIfInBounds 0 (.int .u8 128)) 5)).heap[w.heap.size]? = some (.cells (bv ((List.replicate (9 + nou n) 0).set 0 128)).toArray 5 (0, 0)) by rw [hmd, hs2]; exact heap_new rfl)
  have HF1 := hideIt (show Fr (fun _ => False) w (w.alloc (.cells ((madeCells #[.int .u8 0] (9 + nou n)).setIfInBounds 0 (.int .u8 128)) 5)) from (Fr.refl _ _).alloc _)
  have hq9 : (0 : Int) < ((9 + nou n : Nat) : Int) := by omega
  clear hmd hlen hs2
  generalize nou n = q at *
  go_enter Tryz.func78, Tryz.ntmps78
  go_wp2_with (first | (at_make; refine wpList_make_row _ rfl _ _ 29 rfl 5 i0 (.int .u8 0) Tryz.underlying29 hi hz0 hz1 rfl .i64 .i64 (9 + q) rfl rfl (by rw [hz2]; omega) (by omega) ?_))
  clear hc0 hfz HM0 HF0 hr1 hr2 hr3 hr4 hq9
  go_loopw [20] (fun s20 wr => ∃ (i : Nat) (ds : List UInt8), s20 = .int .i64 i ∧ i ≤ 8 ∧ Hid (LaidB n i ds) ∧ Hid (wr.heap[w.heap.size]? = some (.cells (bv ds).toArray 5 (0, 0))) ∧ Hid (Fr (fun _ => False) w wr)) (fun s20 _ => 8 - (intOf s20).toNat)
  case atStart => exact ⟨0, _, rfl, by omega, HFS, HM1, HF1⟩
  case round =>
    clear HM1 HF1 HFS
    obtain ⟨i, ds, rfl, hi8, HP, HD, HF⟩ := hrel
    by_cases hlt : i < 8
    · have hix0 : (0 : Int) ≤ 8 + (q : Int) - (i : Int) := by omega
      have hix1 : 8 + (q : Int) - (i : Int) < 9 + (q : Int) := by omega
      have hixn : (8 + (q : Int) - (i : Int)).toNat = 8 + q - i := by omega
      have hdl := HLLN.out i ds HP.out
      have hc : wr.cell? ⟨w.heap.size, 8 + q - i, none⟩ = some (.int .u8 ((ds.getD (8 + q - i) 0).toNat : Int)) := cellOfHeap HD.out (8 + q - i) (by
        have hlt2 : 8 + q - i < ds.length := by rw [hdl]; omega
        simp [bv, List.getD, hlt2])
      have hfz := frozen_of_row wr w.heap.size (8 + q - i) _ _ HD.out
      have hv : ((n : Int) * 8) / 2 ^ (8 * i) % 256 = (((Sha.ending n).getD (8 + q - i) 0).toNat : Int) := by
        rw [HNG.out i hlt]
        obtain rfl | rfl | rfl | rfl | rfl | rfl | rfl | rfl : i = 0 ∨ i = 1 ∨ i = 2 ∨ i = 3 ∨ i = 4 ∨ i = 5 ∨ i = 6 ∨ i = 7 := by omega
        all_goals simp <;> omega
      have HLS := hideIt (HSTP.out i ds _ HP.out hlt rfl)
      have HST := hideIt (heap_setCell_same wr w.heap.size (8 + q - i) _ _ (.int .u8 (((Sha.ending n).getD (8 + q - i) 0).toNat : Int)) HD.out)
      have hs2 : (bv ds).toArray.setIfInBounds (8 + q - i) (.int .u8 (((Sha.ending n).getD (8 + q - i) 0).toNat : Int)) = (bv (ds.set (8 + q - i) ((Sha.ending n).getD (8 + q - i) 0))).toArray := by simp [bv, List.map_set]
      have HST := hideIt (by have := HST.out; rw [hs2] at this; exact this)
      have HF2 := hideIt (HF.out.trans ((Fr.refl (fun k => k = w.heap.size) wr).setCell (p := ⟨w.heap.size, 8 + q - i, none⟩) (fun _ => rfl) (.int .u8 (((Sha.ending n).getD (8 + q - i) 0).toNat : Int))) (fun k hk e => by omega))
      clear hs2 hdl
      generalize (Sha.ending n).getD (8 + q - i) 0 = bb at *
      go_wp2_with fail
      exact ⟨⟨i + 1, _, by go_num, by omega, HLS, HST, HF2⟩, by simp [intOf]; omega⟩
    · have hi9 : i = 8 := by omega
      have hds : ds = Sha.ending n := HALL.out ds (by have := HP.out; rwa [hi9] at this)
      have HD2 := hideIt (by have := HD.out; rw [hds] at this; exact this)
      clear HP HD HNG HSTP HLLN HALL
      go_wp2_with fail
      go_ret
      exact ⟨9 + q, HHL.out.symm, rfl, HD2.out, HF.out⟩

end Go.Proofs.YtojgikaoiegmpaaGreatDoor

/- Package hash: the ID of what a digest has (Sum of a digest, and of bytes), walked. -/
namespace Go.Proofs.YtojgikaoiegmpaaGreatDoor
open Go.RowKit Go.IntWalk
set_option linter.unusedSimpArgs false
set_option linter.unusedVariables false
set_option maxRecDepth 100000

def zD : Array Value := #[.bool false, .int .u32 0, .int .u32 0, .int .u32 0, .int .u32 0, .int .u32 0, .int .u32 0, .int .u32 0, .int .u32 0, .int .u8 0, .int .u8 0, .int .u8 0, .int .u8 0, .int .u8 0, .int .u8 0, .int .u8 0, .int .u8 0, .int .u8 0, .int .u8 0, .int .u8 0, .int .u8 0, .int .u8 0, .int .u8 0, .int .u8 0, .int .u8 0, .int .u8 0, .int .u8 0, .int .u8 0, .int .u8 0, .int .u8 0, .int .u8 0, .int .u8 0, .int .u8 0, .int .u8 0, .int .u8 0, .int .u8 0, .int .u8 0, .int .u8 0, .int .u8 0, .int .u8 0, .int .u8 0, .int .u8 0, .int .u8 0, .int .u8 0, .int .u8 0, .int .u8 0, .int .u8 0, .int .u8 0, .int .u8 0, .int .u8 0, .int .u8 0, .int .u8 0, .int .u8 0, .int .u8 0, .int .u8 0, .int .u8 0, .int .u8 0, .int .u8 0, .int .u8 0, .int .u8 0, .int .u8 0, .int .u8 0, .int .u8 0, .int .u8 0, .int .u8 0, .int .u8 0, .int .u8 0, .int .u8 0, .int .u8 0, .int .u8 0, .int .u8 0, .int .u8 0, .int .u8 0, .int .i64 0]
set_option maxRecDepth 100000 in
theorem infoD : (Tryz.prog.info? 114).map (·.zero) = some (some (.agg zD)) := by kernel_rfl
theorem zero_digest (w : World) : (zeroValue 114).run Tryz.prog w = .ok (.agg zD) w := by
  have h := infoD
  cases hq : Tryz.prog.info? 114 with
  | none => simp [hq] at h
  | some i =>
    have hz : i.zero = some (.agg zD) := by simpa [hq] using h
    simp [zeroValue, typeInfo, hq, hz, Sem.run_bind]
theorem cells_bs {w : World} {b : Nat} {bs : List UInt8} (h : w.heap[b]? = some (.cells (bv bs).toArray 5 (0, 0))) : BsAt w (some ⟨b, 0, none⟩) bs :=
  Or.inr ⟨b, 0, rfl, fun j hj => by rw [Nat.zero_add]; exact cellOfHeap h j (by rw [List.getElem?_toArray]; exact bv_get bs j hj)⟩

set_option maxRecDepth 100000 in
set_option maxHeartbeats 4000000 in
theorem dsum_any (p : Nat) (s : Sha.St) (B m : List UInt8) (w : World) (hD : DgAt w p s B m.length) (hH : Has m s B) (hG : Glob w) (hl : m.length + 100 ≤ 140737488355328) :
    Calls Tryz.prog 57 #[.pointer (some ⟨p, 0, none⟩)] w fun e w' => e = .returned (.agg (bv (Sha.sum m)).toArray) ∧ Fr (fun _ => False) w w' := by
  have hw1 : 2 ≤ w.heap.size := by
    have h1 : 1 < w.heap.size := block_lt_of_cell (hG.roots 0 (by omega))
    omega
  have HF1 := hideIt (show Fr (fun _ => False) w (w.alloc (.cells zA 33)) from (Fr.refl _ w).alloc _)
  have HD1 := hideIt (hD.fr HF1.out (fun e => e))
  have HN := hideIt (dnone_some p s B m.length _ HD1.out)
  have HR := hideIt (show (w.alloc (.cells zA 33)).rangeAt p 0 (dgL s B m.length) from rangeOf HD1.out.1)
  have hdl : (dgL s B m.length).length = 74 := by have := dg_len hD; rwa [List.size_toArray] at this
  have HI := hideIt (show (Tryz.prog.info? 114).map (·.size) = some (dgL s B m.length).length by rw [hdl]; kernel_rfl)
  have HIA := hideIt (show (Tryz.prog.info? 114).map (·.size) = some (dgL s B m.length).toArray.size by rw [List.size_toArray, hdl]; kernel_rfl)
  have H1 := hideIt (show (dgL s B m.length).toArray.all (·.oneCell') = true from all_oneCell_toArray (fun v hv => by
    unfold dgL at hv
    simp [stA] at hv
    rcases hv with rfl | rfl | rfl | rfl | rfl | rfl | rfl | rfl | rfl | hv | rfl
    all_goals first | rfl | exact bv_one _ _ hv))
  have HQ := hideIt (show ((w.alloc (.cells zA 33)).alloc (.cells zD 114)).heap[w.heap.size + 1]? = some (.cells zD 114 (0, 0)) from heap_new (by simp))
  have HT := hideIt (thereNew _ (w.heap.size + 1) zD 114 HQ.out (dgL s B m.length).toArray.size (by rw [List.size_toArray, hdl]; rfl))
  have HSO := hideIt (store_over (V := (dgL s B m.length).toArray) HQ.out (by rw [List.size_toArray, hdl]; rfl))
  have HZ0 := hideIt (show ((w.alloc (.cells zA 33)).alloc (.cells zD 114)).heap[w.heap.size]? = some (.cells zA 33 (0, 0)) from heap_old (heap_new rfl))
  have HF2 := hideIt (HF1.out.alloc (.cells zD 114))
  have hplw := hD.lt
  have HP5 := hideIt (fun W5 (h : W5 = ((w.alloc (.cells zA 33)).alloc (.cells zD 114)).setCells (w.heap.size + 1) 0 (dgL s B m.length).toArray.toList) => show DgAt W5 p s B m.length ∧ DgAt W5 (w.heap.size + 1) s B m.length ∧ W5.heap[w.heap.size]? = some (.cells zA 33 (0, 0)) ∧ Fr (fun _ => False) w W5 by
    subst h
    have hfr : Fr (fun _ => False) w (((w.alloc (.cells zA 33)).alloc (.cells zD 114)).setCells (w.heap.size + 1) 0 (dgL s B m.length).toArray.toList) := HF2.out.trans HSO.out.2 (fun i hi e => by omega)
    exact ⟨hD.fr hfr (fun e => e), ⟨HSO.out.1, hD.2⟩, (HSO.out.2.block w.heap.size (Array.getElem?_eq_some_iff.1 HZ0.out).1 (by omega)).trans HZ0.out, hfr⟩)
  have hzd := zero_digest
  have HH := hideIt hH
  have HG := hideIt hG
  clear hD hH hG
  go_enter Tryz.func57, Tryz.ntmps57
  go_wp2_with fail
  refine Calls.mono HN.out ?_
  rintro e w1 ⟨rfl, rfl⟩
  go_wp2_with (first | (refine wpList_load_mid rfl 114 (.tmp 8) rfl p 0 rfl (dgL s B m.length) _ HR.out Tryz.underlying114 rfl HI.out ?_) | (refine wpList_store_abs rfl 114 (.tmp 3) (.tmp 9) rfl (w.heap.size + 1) 0 (dgL s B m.length).toArray rfl rfl HT.out HIA.out H1.out ?_; intro W5 hW5; obtain ⟨hD5, hQ5, hZ5, hF5⟩ := HP5.out W5 hW5; have c73 := hD5.size; have HQ5 := hideIt hQ5; have HZ5 := hideIt hZ5; have HF5 := hideIt hF5; have hsz5 := hF5.size; clear hW5 hD5 hQ5 hZ5 hF5))
  clear c73 HP5 HSO HT HQ H1 HIA HI HR HN HD1 HF1 HF2 HZ0
  refine Calls.mono (ending_any m.length (by omega) W5) ?_
  rintro e w6 ⟨L, hL, rfl, hE, hF6⟩
  subst hL
  have hq6 : w.heap.size + 1 < W5.heap.size := HQ5.out.lt
  have HQ6 := hideIt (HQ5.out.fr hF6 (fun e => e))
  have HZ6 := hideIt ((hF6.block w.heap.size (by omega) (fun e => e)).trans HZ5.out)
  have HF6 := hideIt (HF5.out.trans hF6 (fun _ _ e => e))
  have hel : (Sha.ending m.length).length ≤ 100 := by rw [ending_len]; have : nou m.length < 64 := Nat.mod_lt _ (by decide); omega
  have HWR := hideIt (dwrite_any (w.heap.size + 1) s B m (some ⟨W5.heap.size, 0, none⟩) (Sha.ending m.length).length (Sha.ending m.length) w6 HQ6.out HH.out (cells_bs hE) (fun j hj => by obtain ⟨a, e1, e2⟩ := hj; obtain rfl := Option.some.inj e1; have : W5.heap.size = j := e2; omega) (Nat.le_refl _) (HG.out.fr0 HF6.out) (by omega) (by omega))
  clear hE hF6 HQ5 HZ5 HF5 hq6
  go_wp2_with fail
  refine Calls.mono HWR.out ?_
  rintro e w7 ⟨rfl, s7, B7, hD7, hH7, hF7⟩
  have HI7 := hideIt (show (Tryz.prog.info? 110).map (·.size) = some (stA s7).toList.length by kernel_rfl)
  have HS7 := hideIt (dg_st hD7)
  have HN7 := hideIt (name_any s7 hH7.st32 w7)
  have HZ7 := hideIt ((hF7.block w.heap.size (Array.getElem?_eq_some_iff.1 HZ6.out).1 (by omega)).trans HZ6.out)
  have HF7 := hideIt (HF6.out.trans hF7 (fun i hi e => by omega))
  have HE7 := hideIt hH7.sum
  clear HWR HZ6 HF6 HQ6 hD7 hH7 hF7
  go_wp2_with (first | (refine wpList_load_mid rfl 110 (.tmp 16) rfl (w.heap.size + 1) 1 rfl (stA s7).toList _ HS7.out Tryz.underlying110 rfl HI7.out ?_))
  refine Calls.mono HN7.out ?_
  rintro e w8 ⟨rfl, hF8⟩
  have hnl := name_len s7
  have HZ8 := hideIt ((hF8.block w.heap.size (Array.getElem?_eq_some_iff.1 HZ7.out).1 (fun e => e)).trans HZ7.out)
  have HF8 := hideIt (HF7.out.trans hF8 (fun _ _ e => e))
  clear hF8 HZ7 HF7 HN7 HS7
  rw [HE7.out] at hnl
  rw [HE7.out]
  generalize hN : Sha.sum m = N at *
  have HNN := hideIt hN
  clear hN
  have HIN := hideIt (show (Tryz.prog.info? 33).map (·.size) = some (bv N).toArray.size by rw [List.size_toArray, bv_length, hnl]; kernel_rfl)
  have HTT := hideIt (thereNew w8 w.heap.size zA 33 HZ8.out (bv N).toArray.size (by rw [List.size_toArray, bv_length, hnl]; rfl))
  have HO := hideIt (show (bv N).toArray.all (·.oneCell') = true by simp [bv, Value.oneCell'])
  have HSF := hideIt (store_over (V := (bv N).toArray) HZ8.out (by rw [List.size_toArray, bv_length, hnl]; rfl))
  go_wp2_with (first | (refine wpList_store_abs rfl 33 (.tmp 2) (.tmp 18) rfl w.heap.size 0 (bv N).toArray rfl rfl HTT.out HIN.out HO.out ?_; intro W9 hW9; have HW9 := hideIt hW9; clear hW9))
  refine bodyPost_ret (results_cell_row Tryz.results57 _ _ w.heap.size 33 (bv N).toArray (0, 0) _ rfl ?_ Tryz.underlying33 rfl HIN.out) rfl ⟨by rw [HNN.out], ?_⟩
  · rw [HW9.out]
    exact HSF.out.1
  · rw [HW9.out]
    exact HF8.out.trans HSF.out.2 (fun i hi e => by omega)

set_option maxRecDepth 100000 in
set_option maxHeartbeats 4000000 in
theorem hsum_any (ao : Option Addr) (cap : Nat) (bs : List UInt8) (w : World) (hB : BsAt w ao bs) (hab : ∀ j, blk ao j → j < w.heap.size) (hcap : bs.length ≤ cap) (hG : Glob w) (hl : bs.length + 100 ≤ 140737488355328) :
    Calls Tryz.prog 34 #[.slice ao bs.length cap] w fun e w' => e = .returned (.agg (bv (Sha.sum bs)).toArray) ∧ Fr (fun _ => False) w w' := by
  have hw1 : 2 ≤ w.heap.size := by
    have h1 : 1 < w.heap.size := block_lt_of_cell (hG.roots 0 (by omega))
    omega
  have hf1 : Fr (fun _ => False) w (w.alloc (.cells zA 33)) := (Fr.refl _ w).alloc _
  have HF1 := hideIt hf1
  have HN := hideIt (hnew_any (w.alloc (.cells zA 33)) (hG.fr0 hf1))
  have hs1 : (w.alloc (.cells zA 33)).heap.size = w.heap.size + 1 := by simp
  have HZ1 := hideIt (show (w.alloc (.cells zA 33)).heap[w.heap.size]? = some (.cells zA 33 (0, 0)) from heap_new rfl)
  have HB1 := hideIt (hB.fr hf1 (fun _ _ _ e => e))
  have HAB := hideIt hab
  have HG := hideIt hG
  clear hf1 hB hab hG
  go_enter Tryz.func34, Tryz.ntmps34
  go_wp2_with fail
  refine Calls.mono HN.out ?_
  rintro e w2 ⟨rfl, hD2, hF2⟩
  rw [hs1] at hD2
  have HB2 := hideIt (HB1.out.fr hF2 (fun _ _ _ e => e))
  have HZ2 := hideIt ((hF2.block w.heap.size (by omega) (fun e => e)).trans HZ1.out)
  have HF2 := hideIt (HF1.out.trans hF2 (fun _ _ e => e))
  have HW := hideIt (dwrite_any (w.heap.size + 1) Sha.first zeros64 [] ao cap bs w2 hD2 Has.new HB2.out (fun j hj => by have := HAB.out j hj; omega) hcap (HG.out.fr0 HF2.out) (by omega) (by simp; omega))
  clear HF1 HN HZ1 HB1 HB2 HAB hD2 hF2
  go_wp2_with fail
  refine Calls.mono HW.out ?_
  rintro e w3 ⟨rfl, s3, B3, hD3, hH3, hF3⟩
  rw [List.nil_append] at hH3
  rw [List.length_nil, Nat.zero_add] at hD3
  have HZ3 := hideIt ((hF3.block w.heap.size (Array.getElem?_eq_some_iff.1 HZ2.out).1 (by omega)).trans HZ2.out)
  have HF3 := hideIt (HF2.out.trans hF3 (fun i hi e => by omega))
  have HS := hideIt (dsum_any (w.heap.size + 1) s3 B3 bs w3 hD3 hH3 (HG.out.fr0 HF3.out) hl)
  clear HW HZ2 HF2 hD3 hH3 hF3
  go_wp2_with fail
  refine Calls.mono HS.out ?_
  rintro e w4 ⟨rfl, hF4⟩
  have HZ4 := hideIt ((hF4.block w.heap.size (Array.getElem?_eq_some_iff.1 HZ3.out).1 (fun e => e)).trans HZ3.out)
  have HF4 := hideIt (HF3.out.trans hF4 (fun _ _ e => e))
  have hnl : (Sha.sum bs).length = 32 := name_len _
  clear hF4 HZ3 HF3 HS
  generalize hN : Sha.sum bs = N at *
  have HNN := hideIt hN
  clear hN
  have HIN := hideIt (show (Tryz.prog.info? 33).map (·.size) = some (bv N).toArray.size by rw [List.size_toArray, bv_length, hnl]; kernel_rfl)
  have HTT := hideIt (thereNew w4 w.heap.size zA 33 HZ4.out (bv N).toArray.size (by rw [List.size_toArray, bv_length, hnl]; rfl))
  have HO := hideIt (show (bv N).toArray.all (·.oneCell') = true by simp [bv, Value.oneCell'])
  have HSF := hideIt (store_over (V := (bv N).toArray) HZ4.out (by rw [List.size_toArray, bv_length, hnl]; rfl))
  go_wp2_with (first | (refine wpList_store_abs rfl 33 (.tmp 2) (.tmp 9) rfl w.heap.size 0 (bv N).toArray rfl rfl HTT.out HIN.out HO.out ?_; intro W9 hW9; have HW9 := hideIt hW9; clear hW9))
  refine bodyPost_ret (results_cell_row Tryz.results34 _ _ w.heap.size 33 (bv N).toArray (0, 0) _ rfl ?_ Tryz.underlying33 rfl HIN.out) rfl ⟨by rw [HNN.out], ?_⟩
  · rw [HW9.out]
    exact HSF.out.1
  · rw [HW9.out]
    exact HF4.out.trans HSF.out.2 (fun i hi e => by omega)

end Go.Proofs.YtojgikaoiegmpaaGreatDoor
