/- ProgTells, part 9 of the road: what the program's functions do, each by its own walk. -/
import Derived.Test.YtojgikaoiegmpaaGreatDoorQ6
import Derived.Test.YtojgikaoiegmpaaGreatDoorQ8
import Derived.Test.YtojgikaoiegmpaaGreatDoorQ7
import Derived.Test.YtojgikaoiegmpaaGreatDoorQ5
import Derived.Deep.QuietTactic
import Derived.Deep.MidRow

/- Package hash: a block's words (stretched). -/
namespace Go.Proofs.YtojgikaoiegmpaaGreatDoor
open Go.RowKit Go.IntWalk
set_option linter.unusedSimpArgs false
set_option linter.unusedVariables false
set_option maxRecDepth 100000

/-- A fact that no tactic opens. -/
structure Shut (p : Prop) : Prop where
  out : p

/-- Words, as cells. -/
def uv (ws : List Nat) : List Value := ws.map fun (n : Nat) => Value.int .u32 (n : Int)
theorem uv_length (ws : List Nat) : (uv ws).length = ws.length := by simp [uv]
theorem uv_one (ws : List Nat) : ∀ u ∈ uv ws, u.oneCell' = true := by
  intro u hu
  obtain ⟨_, _, rfl⟩ := List.mem_map.1 hu
  rfl
theorem uv_all (ws : List Nat) : (uv ws).toArray.all (·.oneCell') = true := all_oneCell_toArray (uv_one ws)
theorem uv_get (ws : List Nat) (j : Nat) (h : j < ws.length) : (uv ws).toArray[j]? = some (.int .u32 (ws.getD j 0 : Nat)) := by simp [uv, h]
theorem uv_set (ws : List Nat) (j n : Nat) : (uv ws).toArray.setIfInBounds j (.int .u32 (n : Int)) = (uv (ws.set j n)).toArray := by simp [uv, List.map_set]
/-- An array of words in memory. -/
def Words (w : World) (b : Nat) (t : TypeId) (ws : List Nat) : Prop := w.heap[b]? = some (.cells (uv ws).toArray t (0, 0))
theorem Words.cell {w : World} {b : Nat} {t : TypeId} {ws : List Nat} (h : Words w b t ws) (j : Nat) (hj : j < ws.length) : w.cell? ⟨b, j, none⟩ = some (.int .u32 (ws.getD j 0 : Nat)) := cellOfHeap h j (uv_get ws j hj)
theorem Words.set {w : World} {b : Nat} {t : TypeId} {ws : List Nat} (h : Words w b t ws) (j n : Nat) : Words (w.setCell ⟨b, j, none⟩ (.int .u32 (n : Int))) b t (ws.set j n) := by
  unfold Words
  rw [heap_setCell_same w b j _ t _ h, uv_set]
theorem Words.fr {S : Nat → Prop} {w w' : World} {b : Nat} {t : TypeId} {ws : List Nat} (h : Words w b t ws) (hF : Fr S w w') (hS : ¬ S b) : Words w' b t ws := (hF.block b (Array.getElem?_eq_some_iff.1 h).1 hS).trans h
theorem Words.lt {w : World} {b : Nat} {t : TypeId} {ws : List Nat} (h : Words w b t ws) : b < w.heap.size := (Array.getElem?_eq_some_iff.1 h).1

theorem or_byte (a b : Nat) (ha : a < 16777216) (hb : b < 256) : bits .or .u32 ((a : Int) * 256 % 4294967296) (b : Int) = ((a * 256 + b : Nat) : Int) := by
  rw [show (a : Int) * 256 % 4294967296 = ((a * 256 : Nat) : Int) by omega, u32_or _ _ (by omega) (by omega)]
  have : a * 256 ||| b = a * 256 + b := by
    have := Nat.two_pow_add_eq_or_of_lt (i := 8) (b := b) (by omega) a
    rw [show (2 : Nat) ^ 8 * a = a * 256 by omega] at this
    exact this.symm
  show ((a * 256 ||| b : Nat) : Int) = _
  rw [this]

theorem Tryz.infoBlk : (Tryz.prog.info? 112).map (·.size) = some 64 := by kernel_rfl
theorem Tryz.infoW64 : (Tryz.prog.info? 130).map (·.size) = some 64 := by kernel_rfl

theorem run_add_u32 (w : World) (a b : Nat) : (binOp .add 89 (.int .u32 (a : Int)) (.int .u32 (b : Int))).run Tryz.prog w = .ok (.int .u32 ((Sha.add a b : Nat) : Int)) w := by
  rw [← add_int]
  simp [go_sem, binOp, IntKind.wrap_u32]
theorem run_sub_i64 {P : Program} (w : World) (t : TypeId) (a b : Int) (ht : P.underlying t = some (.int .i64)) (h0 : -9223372036854775808 ≤ a - b) (h1 : a - b ≤ 9223372036854775807) : (binOp .sub t (.int .i64 a) (.int .i64 b)).run P w = .ok (.int .i64 (a - b)) w := by
  have : IntKind.i64.wrap (a - b) = a - b := by rw [IntKind.wrap_i64]; omega
  simp [go_sem, binOp, this]
theorem run_idx_arr {P : Program} (w : World) (t e : TypeId) (n b off k o : Nat) (i : Int) (ht : P.underlying t = some (.array n e)) (hsz : (P.info? e).map (·.size) = some 1) (hi : i = (k : Int)) (hk : k < n) (h2 : 2 ≤ n) (ho : o = off + k) :
    (Instr.indexAt t (.pointer (some ⟨b, off, none⟩)) (.int .i64 i)).run P w = .ok (.pointer (some ⟨b, o, none⟩)) w := by
  subst hi ho
  cases hie : P.info? e with
  | none => simp [hie] at hsz
  | some ie =>
    have h1 : ie.size = 1 := by simpa [hie] using hsz
    have h3 : ¬ n ≤ k := by omega
    have h4 : (0 : Int) ≤ (k : Int) ∧ (k : Int) < (n : Int) := by omega
    simp [Instr.indexAt, Instr.sureAddr, run_underlying ht, asIntOf, h3, h4, sizeOf, typeInfo, hie, h1, Addr.add_lit, go_sem]
section
variable {P : Program} {o : Oper} {a : Act} {w : World}
theorem yields_idx (t : TypeId) (x y : Operand) (ho : o.op = .indexAddr t x y) (v1 v2 : Value) (hx : a.eval x = v1) (hy : a.eval y = v2) {v : Value}
    (hrun : (Instr.indexAt t v1 v2).run P w = .ok v w) : (execOp a.eval o).run P w = .ok (.value v) w := by
  unfold execOp
  simp only [ho, hx, hy, Sem.run_bind, hrun, Result.andThen_ok, Sem.run_pure]
end

theorem cell_set_off (w : World) (b j k : Nat) (v : Value) (h : k ≠ j) : ((w.setCell ⟨b, j, none⟩ v).drew).cell? ⟨b, k, none⟩ = w.cell? ⟨b, k, none⟩ := by
  show (w.setCell ⟨b, j, none⟩ v).cell? ⟨b, k, none⟩ = _
  cases hb : w.heap[b]? with
  | none => simp [World.cell?, World.setCell, hb, Array.getElem?_modify]
  | some o => cases o <;> simp [World.cell?, World.setCell, hb, Array.getElem?_modify, Array.getElem?_setIfInBounds, Ne.symm h]

theorem store_words (w : World) (b : Nat) (t : TypeId) (ws : List Nat) (A : Array Value) (h : w.heap[b]? = some (.cells A t (0, 0))) (hl : ws.length = A.size) : (w.setCells b 0 (uv ws).toArray.toList).heap[b]? = some (.cells (uv ws).toArray t (0, 0)) := by
  have := setCells_full b t (uv ws).toArray.toList w A h (by simp [uv_length, hl])
  simpa using this
theorem wrap_add (a b : Nat) : IntKind.u32.wrap ((a : Int) + (b : Int)) = ((Sha.add a b : Nat) : Int) := by rw [IntKind.wrap_u32, add_int]

/-- Sixty-four words that are 0. -/
def z64w : Array Value := #[.int .u32 0, .int .u32 0, .int .u32 0, .int .u32 0, .int .u32 0, .int .u32 0, .int .u32 0, .int .u32 0, .int .u32 0, .int .u32 0, .int .u32 0, .int .u32 0, .int .u32 0, .int .u32 0, .int .u32 0, .int .u32 0, .int .u32 0, .int .u32 0, .int .u32 0, .int .u32 0, .int .u32 0, .int .u32 0, .int .u32 0, .int .u32 0, .int .u32 0, .int .u32 0, .int .u32 0, .int .u32 0, .int .u32 0, .int .u32 0, .int .u32 0, .int .u32 0, .int .u32 0, .int .u32 0, .int .u32 0, .int .u32 0, .int .u32 0, .int .u32 0, .int .u32 0, .int .u32 0, .int .u32 0, .int .u32 0, .int .u32 0, .int .u32 0, .int .u32 0, .int .u32 0, .int .u32 0, .int .u32 0, .int .u32 0, .int .u32 0, .int .u32 0, .int .u32 0, .int .u32 0, .int .u32 0, .int .u32 0, .int .u32 0, .int .u32 0, .int .u32 0, .int .u32 0, .int .u32 0, .int .u32 0, .int .u32 0, .int .u32 0, .int .u32 0]
theorem z64w_eq (blk : List UInt8) : z64w = (uv (Sha.part blk 0)).toArray := by rw [Sha.part_zero]; rfl
def sw0 (w : World) (blk : List UInt8) : World := ((w.alloc (.cells (bv blk).toArray 112)).alloc (.cells z64w 130)).alloc (.cells z64w 130)

/-- An element of an array that is a value. -/
theorem run_index_arr {P : Program} (w : World) (t e : TypeId) (n k : Nat) (cs : Array Value) (v : Value) (d : TypeDesc) (ht : P.underlying t = some (.array n e)) (he : P.underlying e = some d) (hd : d.isRow = false) (hsz : (P.info? e).map (·.size) = some 1) (hk : k < n) (hv : cs[k]? = some v) :
    (Instr.index t (.agg cs) (.int .i64 (k : Int))).run P w = .ok v w := by
  cases hi : P.info? e with
  | none => simp [hi] at hsz
  | some ie =>
    have h1 : ie.size = 1 := by simpa [hi] using hsz
    have h2 : (0 : Int) ≤ (k : Int) ∧ (k : Int) < (n : Int) := by omega
    have h3 : ¬ n ≤ k := by omega
    cases d <;> simp [TypeDesc.isRow] at hd <;> simp [Instr.index, asIntOf, run_underlying ht, h2, h3, sizeOf, typeInfo, hi, h1, part, isAgg, run_underlying he, hv, go_sem]
theorem Tryz.infoU8s : (Tryz.prog.info? 5).map (·.size) = some 1 := by kernel_rfl
theorem Tryz.infoU32s : (Tryz.prog.info? 89).map (·.size) = some 1 := by kernel_rfl

set_option maxRecDepth 100000 in
set_option maxHeartbeats 3000000 in
theorem stretched_any (blk : List UInt8) (hl : blk.length = 64) (ws : List Nat) (HWS : Shut (Sha.sched blk = ws)) (w : World) :
    Calls Tryz.prog 93 #[.agg (bv blk).toArray] w fun e w' => e = .returned (.agg (uv ws).toArray) ∧ Fr (fun _ => False) w w' := by
  have HI := hideIt (show (Tryz.prog.info? 112).map (·.size) = some (bv blk).length by rw [bv_length, hl]; exact Tryz.infoBlk)
  have HR0 := hideIt (show (sw0 w blk).rangeAt w.heap.size 0 (bv blk) from rangeOf (heap_old (heap_old (heap_new rfl))))
  have F0 : Fr (fun _ => False) w (sw0 w blk) := (((Fr.refl _ w).alloc _).alloc _).alloc _
  have W0 : Words (sw0 w blk) (w.heap.size + 1 + 1) 130 (Sha.part blk 0) := by
    unfold Words
    rw [← z64w_eq blk]
    exact heap_new (by simp)
  have Z0 : (sw0 w blk).heap[w.heap.size + 1]? = some (.cells z64w 130 (0, 0)) := heap_old (heap_new (by simp))
  have HF0 := hideIt F0
  have HW0 := hideIt W0
  have HZ0 := hideIt Z0
  clear F0 W0 Z0
  go_enter Tryz.func93, Tryz.ntmps93
  go_wp2_with (first | (refine wpList_load_mid rfl 112 (.tmp 1) rfl w.heap.size 0 rfl (bv blk) _ HR0.out Tryz.underlying112 rfl HI.out ?_))
  go_loopw [8] (fun i wr => ∃ k : Nat, i = .int .i64 k ∧ k ≤ 64 ∧ Words wr (w.heap.size + 1 + 1) 130 (Sha.part blk k) ∧ Fr (fun _ => False) w wr ∧ wr.heap[w.heap.size + 1]? = some (.cells z64w 130 (0, 0)))
    (fun i _ => 64 - (intOf i).toNat)
  case atStart => exact ⟨0, rfl, by omega, HW0.out, HF0.out, HZ0.out⟩
  case round =>
    obtain ⟨k, rfl, hk, hW, hF, hZ⟩ := hrel
    by_cases hlt : k < 64
    · have hkb : k < blk.length := by omega
      have hs := Sha.part_small blk k hlt
      have hc := hW.cell (k / 4) (by rw [Sha.part_len]; omega)
      have hfz := frozen_of_row wr (w.heap.size + 1 + 1) (k / 4) _ _ hW
      have HSU := hideIt (Sha.part_succ blk k hl hlt)
      have HST := hideIt (hW.set (k / 4) ((Sha.part blk k).getD (k / 4) 0 * 256 + blk[k].toNat))
      have hix : ∀ w, (Instr.index 112 (.agg (bv blk).toArray) (.int .i64 (k : Int))).run Tryz.prog w = .ok (.int .u8 blk[k].toNat) w := fun w => run_index_arr w 112 5 64 k _ _ _ Tryz.underlying112 Tryz.underlying5 rfl Tryz.infoU8s hlt (by simp [bv, hkb])
      have hb := UInt8.toNat_lt blk[k]
      have HOB := hideIt (or_byte ((Sha.part blk k).getD (k / 4) 0) blk[k].toNat hs hb)
      have HF := hideIt hF
      have HZ := hideIt hZ
      clear hF hZ hW hs
      generalize (Sha.part blk k).getD (k / 4) 0 = n at hc HSU HST HOB
      generalize blk[k] = x at hix hb HOB HSU HST
      generalize (bv blk).toArray = V at hix ⊢
      go_wp2_with fail
      rw [HOB.out]
      go_roundw
      case measure => simp [intOf]; omega
      case rel =>
        have hfr : Fr (fun j => j = w.heap.size + 1 + 1) wr (wr.setCell ⟨w.heap.size + 1 + 1, k / 4, none⟩ (.int .u32 ((n * 256 + x.toNat : Nat) : Int))) := (Fr.refl (fun j => j = w.heap.size + 1 + 1) wr).setCell (p := ⟨w.heap.size + 1 + 1, k / 4, none⟩) (fun _ => rfl) _
        exact ⟨k + 1, by go_num, by omega, by rw [HSU.out]; exact HST.out, HF.out.trans hfr (fun i hi e => by omega), (hfr.block _ (by have := (Array.getElem?_eq_some_iff.1 HZ.out).1; exact this) (by omega)).trans HZ.out⟩
    · have hk64 : k = 64 := by omega
      rw [hk64, ← Sha.upto_first blk hl] at hW
      clear hk64
      have HW := hideIt hW
      have HF := hideIt hF
      have HZ := hideIt hZ
      clear hW hF hZ hl HI HR0
      generalize (bv blk).toArray = V
      go_wp2_with fail
      go_loopw [6] (fun i wr => ∃ k : Nat, i = .int .i64 k ∧ 16 ≤ k ∧ k ≤ 64 ∧ Words wr (w.heap.size + 1 + 1) 130 (Sha.upto blk k) ∧ Fr (fun _ => False) w wr ∧ wr.heap[w.heap.size + 1]? = some (.cells z64w 130 (0, 0)))
        (fun i _ => 64 - (intOf i).toNat)
      case atStart => exact ⟨16, rfl, by omega, by omega, HW.out, HF.out, HZ.out⟩
      case round =>
        clear HW HF HZ
        obtain ⟨k, rfl, hk16, hk, hW, hF, hZ⟩ := hrel
        by_cases hlt : k < 64
        · have hln := Sha.upto_len blk k hk16 hk
          have hc2 := hW.cell (k - 2) (by omega)
          have hc7 := hW.cell (k - 7) (by omega)
          have hc15 := hW.cell (k - 15) (by omega)
          have hc16 := hW.cell (k - 16) (by omega)
          have hget : ∀ j, j < 64 → (Sha.upto blk k).getD j 0 < 4294967296 := fun j hj => by
            have hj' : j < (Sha.upto blk k).length := by omega
            simp only [List.getD, List.getElem?_eq_getElem hj', Option.getD_some]
            exact Sha.upto_lt blk k _ (List.getElem_mem hj')
          have l2 := hget (k - 2) (by omega)
          have l15 := hget (k - 15) (by omega)
          have hfz := frozen_of_row wr (w.heap.size + 1 + 1) k _ _ hW
          have hck := hW.cell k (by omega)
          have HSU := hideIt (Sha.upto_succ blk k hk16 hlt)
          have HST := hideIt (hW.set k (Sha.add (Sha.add (Sha.add (Sha.loQ ((Sha.upto blk k).getD (k - 2) 0)) ((Sha.upto blk k).getD (k - 7) 0)) (Sha.loP ((Sha.upto blk k).getD (k - 15) 0))) ((Sha.upto blk k).getD (k - 16) 0)))
          have i2 : ((k : Int) - 2).toNat = k - 2 := by omega
          have i7 : ((k : Int) - 7).toNat = k - 7 := by omega
          have i15 : ((k : Int) - 15).toNat = k - 15 := by omega
          have i16 : ((k : Int) - 16).toNat = k - 16 := by omega
          have k16' : (16 : Int) ≤ (k : Int) := by omega
          have k64' : (k : Int) < 64 := by omega
          have r2 : IntKind.i64.wrap ((k : Int) - 2) = (k : Int) - 2 := by rw [IntKind.wrap_i64]; omega
          have r7 : IntKind.i64.wrap ((k : Int) - 7) = (k : Int) - 7 := by rw [IntKind.wrap_i64]; omega
          have r15 : IntKind.i64.wrap ((k : Int) - 15) = (k : Int) - 15 := by rw [IntKind.wrap_i64]; omega
          have r16 : IntKind.i64.wrap ((k : Int) - 16) = (k : Int) - 16 := by rw [IntKind.wrap_i64]; omega
          have g2 : 0 ≤ (k : Int) - 2 := by omega
          have g7 : 0 ≤ (k : Int) - 7 := by omega
          have g15 : 0 ≤ (k : Int) - 15 := by omega
          have g16 : 0 ≤ (k : Int) - 16 := by omega
          have f2 : (k : Int) - 2 < 64 := by omega
          have f7 : (k : Int) - 7 < 64 := by omega
          have f15 : (k : Int) - 15 < 64 := by omega
          have f16 : (k : Int) - 16 < 64 := by omega
          have HF := hideIt hF
          have HZ := hideIt hZ
          clear hF hZ hget hln
          generalize (Sha.upto blk k).getD (k - 2) 0 = a2 at hc2 l2 HSU HST
          generalize (Sha.upto blk k).getD (k - 7) 0 = a7 at hc7 HSU HST
          generalize (Sha.upto blk k).getD (k - 15) 0 = a15 at hc15 l15 HSU HST
          generalize (Sha.upto blk k).getD (k - 16) 0 = a16 at hc16 HSU HST
          generalize (Sha.upto blk k).getD k 0 = a0 at hck
          clear hW
          have m2 : (2 : Int) ≤ (k : Int) := by omega
          have m7 : (7 : Int) ≤ (k : Int) := by omega
          have m15 : (15 : Int) ≤ (k : Int) := by omega
          have n2 : (k : Int) < 66 := by omega
          have n7 : (k : Int) < 71 := by omega
          have n15 : (k : Int) < 79 := by omega
          have n16 : (k : Int) < 80 := by omega
          have HKP := hideIt (show ∀ v : Value, ((wr.setCell ⟨w.heap.size + 1 + 1, k, none⟩ v).drew).cell? ⟨w.heap.size + 1 + 1, k - 2, none⟩ = some (.int .u32 (a2 : Int)) ∧ ((wr.setCell ⟨w.heap.size + 1 + 1, k, none⟩ v).drew).cell? ⟨w.heap.size + 1 + 1, k - 7, none⟩ = some (.int .u32 (a7 : Int)) ∧ ((wr.setCell ⟨w.heap.size + 1 + 1, k, none⟩ v).drew).cell? ⟨w.heap.size + 1 + 1, k - 15, none⟩ = some (.int .u32 (a15 : Int)) ∧ ((wr.setCell ⟨w.heap.size + 1 + 1, k, none⟩ v).drew).cell? ⟨w.heap.size + 1 + 1, k - 16, none⟩ = some (.int .u32 (a16 : Int)) from fun v =>
            ⟨(cell_set_off wr _ _ _ v (by omega)).trans hc2, (cell_set_off wr _ _ _ v (by omega)).trans hc7, (cell_set_off wr _ _ _ v (by omega)).trans hc15, (cell_set_off wr _ _ _ v (by omega)).trans hc16⟩)
          obtain ⟨q2, hq2⟩ : ∃ q, q = Sha.loQ a2 := ⟨_, rfl⟩
          obtain ⟨p15, hp15⟩ : ∃ q, q = Sha.loP a15 := ⟨_, rfl⟩
          rw [← hq2, ← hp15] at HSU HST
          have HTQ := hideIt (fun w => by have := turnQ_any a2 l2 w; rw [← hq2] at this; exact this)
          have HTP := hideIt (fun w => by have := turnP_any a15 l15 w; rw [← hp15] at this; exact this)
          clear hq2 hp15
          go_wp2_with fail
          go_region_held2 (fun w' => w'.cell? ⟨w.heap.size + 1 + 1, k - 2, none⟩ = some (.int .u32 (a2 : Int)) ∧ w'.cell? ⟨w.heap.size + 1 + 1, k - 7, none⟩ = some (.int .u32 (a7 : Int)) ∧ w'.cell? ⟨w.heap.size + 1 + 1, k - 15, none⟩ = some (.int .u32 (a15 : Int)) ∧ w'.cell? ⟨w.heap.size + 1 + 1, k - 16, none⟩ = some (.int .u32 (a16 : Int)))
            (first | exact HKP.out _ | go_keep)
            (first | (go_at_call 104; refine Calls.mono (HTQ.out _) ?_; rintro e w' ⟨rfl, rfl⟩) | (go_at_call 105; refine Calls.mono (HTP.out _) ?_; rintro e w' ⟨rfl, rfl⟩))
          rw [wrap_add, wrap_add, wrap_add]
          generalize Sha.add (Sha.add (Sha.add q2 a7) p15) a16 = vv at HSU HST ⊢
          go_wp2_with fail
          go_roundw
          case measure => simp [intOf]; omega
          case rel =>
            have hfr : Fr (fun j => j = w.heap.size + 1 + 1) wr ((wr.setCell ⟨w.heap.size + 1 + 1, k, none⟩ (.int .u32 (vv : Int))).drew) := ((Fr.refl (fun j => j = w.heap.size + 1 + 1) wr).setCell (p := ⟨w.heap.size + 1 + 1, k, none⟩) (fun _ => rfl) _).drew
            exact ⟨k + 1, by go_num, by omega, by omega, by rw [HSU.out]; exact HST.out, HF.out.trans hfr (fun i hi e => by omega), (hfr.block _ (by have := (Array.getElem?_eq_some_iff.1 HZ.out).1; exact this) (by omega)).trans HZ.out⟩
        · have hk64 : k = 64 := by omega
          rw [hk64, Sha.upto_last, HWS.out] at hW
          clear hk64
          have hln : ws.length = 64 := by rw [← HWS.out, ← Sha.upto_last]; exact Sha.upto_len blk 64 (by omega) (by omega)
          have HW := hideIt (show wr.rangeAt (w.heap.size + 1 + 1) 0 (uv ws) from rangeOf hW)
          have HIL := hideIt (show (Tryz.prog.info? 130).map (·.size) = some (uv ws).length by rw [uv_length, hln]; exact Tryz.infoW64)
          have HIA := hideIt (show (Tryz.prog.info? 130).map (·.size) = some (uv ws).toArray.size by rw [List.size_toArray, uv_length, hln]; exact Tryz.infoW64)
          have HT := hideIt (thereNew wr (w.heap.size + 1) z64w 130 hZ (uv ws).toArray.size (by rw [List.size_toArray, uv_length, hln]; rfl))
          have H1 := hideIt (uv_all ws)
          have HF := hideIt hF
          have HZ := hideIt hZ
          have HFULL := hideIt (store_words wr (w.heap.size + 1) 130 ws z64w hZ (by rw [hln]; rfl))
          clear hW hF hZ hln HF0 HW0 HZ0
          go_wp2_with (first | (refine wpList_load_mid rfl 130 (.tmp 3) rfl (w.heap.size + 1 + 1) 0 rfl (uv ws) _ HW.out Tryz.underlying130 rfl HIL.out ?_) | (refine wpList_store_abs rfl 130 (.tmp 2) (.tmp 51) rfl (w.heap.size + 1) 0 (uv ws).toArray rfl rfl HT.out HIA.out H1.out ?_; intro W5 hW5; have HW5 := hideIt hW5; clear hW5))
          refine bodyPost_ret (results_cell_row Tryz.results93 _ _ (w.heap.size + 1) 130 (uv ws).toArray (0, 0) _ rfl ?_ Tryz.underlying130 rfl HIA.out) rfl ⟨rfl, ?_⟩
          · rw [HW5.out]
            exact HFULL.out
          · rw [HW5.out]
            exact HF.out.trans (Fr.setCells _ _ _ _) (fun i hi e => by omega)

end Go.Proofs.YtojgikaoiegmpaaGreatDoor

/- Package hash: a state behind one block more (changed). -/
namespace Go.Proofs.YtojgikaoiegmpaaGreatDoor
open Go.RowKit Go.IntWalk
set_option linter.unusedSimpArgs false
set_option linter.unusedVariables false
set_option maxRecDepth 100000

/-- A state's words are words. -/
structure St32 (s : Sha.St) : Prop where
  a : s.a < 4294967296
  b : s.b < 4294967296
  c : s.c < 4294967296
  d : s.d < 4294967296
  e : s.e < 4294967296
  f : s.f < 4294967296
  g : s.g < 4294967296
  h : s.h < 4294967296
theorem St32.first : St32 Sha.first := ⟨by decide, by decide, by decide, by decide, by decide, by decide, by decide, by decide⟩
theorem St32.round {s : Sha.St} (h : St32 s) (k w : Nat) : St32 (Sha.round s k w) := ⟨add_lt _ _, h.a, h.b, h.c, add_lt _ _, h.e, h.f, h.g⟩
theorem St32.fold (ks ws : List Nat) {s : Sha.St} (h : St32 s) : St32 (Sha.foldW Sha.round ks ws s) := Sha.foldW_all Sha.round St32 (fun s k w h => h.round k w) ks ws s h
theorem St32.addSt (s v : Sha.St) : St32 (Sha.addSt s v) := ⟨add_lt _ _, add_lt _ _, add_lt _ _, add_lt _ _, add_lt _ _, add_lt _ _, add_lt _ _, add_lt _ _⟩
theorem St32.block (s : Sha.St) (b : List UInt8) : St32 (Sha.block s b) := St32.addSt _ _

def stA (s : Sha.St) : Array Value := #[.int .u32 (s.a : Int), .int .u32 (s.b : Int), .int .u32 (s.c : Int), .int .u32 (s.d : Int), .int .u32 (s.e : Int), .int .u32 (s.f : Int), .int .u32 (s.g : Int), .int .u32 (s.h : Int)]

/-- The package's variables read as its text lays them. -/
structure Glob (w : World) : Prop where
  first : ∀ j v, (stA Sha.first)[j]? = some v → w.cell? ⟨0, j, none⟩ = some v
  roots : ∀ j (h : j < 64), w.cell? ⟨1, j, none⟩ = some (.int .u32 (Sha.K.getD j 0 : Nat))
theorem Glob.fr {S : Nat → Prop} {w w' : World} (h : Glob w) (hF : Fr S w w') (h0 : ¬ S 0) (h1 : ¬ S 1) : Glob w' := by
  have l0 : 0 < w.heap.size := block_lt_of_cell (h.first 0 _ rfl)
  have l1 : 1 < w.heap.size := block_lt_of_cell (h.roots 0 (by omega))
  exact ⟨fun j v hv => (World.cell?_of_block (a := ⟨0, j, none⟩) (hF.block 0 l0 h0)).trans (h.first j v hv), fun j hj => (World.cell?_of_block (a := ⟨1, j, none⟩) (hF.block 1 l1 h1)).trans (h.roots j hj)⟩
theorem Glob.fr0 {w w' : World} (h : Glob w) (hF : Fr (fun _ => False) w w') : Glob w' := h.fr hF (fun e => e) (fun e => e)
theorem add_mod (a b : Nat) : Sha.add a b = (a + b) % 4294967296 := rfl
theorem K_len : Sha.K.length = 64 := by decide
theorem K_lt : ∀ x ∈ Sha.K, x < 4294967296 := by decide

set_option maxRecDepth 100000 in
set_option maxHeartbeats 4000000 in
theorem changed_any (s : Sha.St) (hs : St32 s) (blk : List UInt8) (hl : blk.length = 64) (w : World) (hG : Glob w) :
    Calls Tryz.prog 77 #[.agg (stA s), .agg (bv blk).toArray] w fun e w' => e = .returned (.agg (stA (Sha.block s blk))) ∧ Fr (fun _ => False) w w' := by
  obtain ⟨ws, hws⟩ : ∃ ws, Sha.sched blk = ws := ⟨_, rfl⟩
  have hlw : ws.length = 64 := by rw [← hws, ← Sha.upto_last]; exact Sha.upto_len blk 64 (by omega) (by omega)
  have HBK := hideIt (show Sha.block s blk = Sha.addSt s (Sha.foldW Sha.round Sha.K ws s) by unfold Sha.block Sha.rounds; rw [hws])
  have HST := hideIt (stretched_any blk hl ws ⟨hws⟩)
  have HI := hideIt (show (Tryz.prog.info? 112).map (·.size) = some (bv blk).length by rw [bv_length, hl]; exact Tryz.infoBlk)
  have hw0 : Fr (fun _ => False) w (((w.alloc (.cells (stA s) 110)).alloc (.cells (bv blk).toArray 112)).alloc (.cells #[.int .u32 0, .int .u32 0, .int .u32 0, .int .u32 0, .int .u32 0, .int .u32 0, .int .u32 0, .int .u32 0] 110)) := (((Fr.refl _ w).alloc _).alloc _).alloc _
  have HR0 := hideIt (show (((w.alloc (.cells (stA s) 110)).alloc (.cells (bv blk).toArray 112)).alloc (.cells #[.int .u32 0, .int .u32 0, .int .u32 0, .int .u32 0, .int .u32 0, .int .u32 0, .int .u32 0, .int .u32 0] 110)).rangeAt (w.heap.size + 1) 0 (bv blk) from rangeOf (heap_old (heap_new (by simp))))
  have HIA := hideIt (show (Tryz.prog.info? 130).map (·.size) = some (uv ws).toArray.size by rw [List.size_toArray, uv_length, hlw]; exact Tryz.infoW64)
  have H1 := hideIt (uv_all ws)
  have HGL := hideIt hG
  have HSS := hideIt hs
  have HF0 := hideIt hw0
  have HA0 := hideIt (show (((w.alloc (.cells (stA s) 110)).alloc (.cells (bv blk).toArray 112)).alloc (.cells #[.int .u32 0, .int .u32 0, .int .u32 0, .int .u32 0, .int .u32 0, .int .u32 0, .int .u32 0, .int .u32 0] 110)).heap[w.heap.size]? = some (.cells (stA s) 110 (0, 0)) from heap_old (heap_old (heap_new rfl)))
  have HZ0 := hideIt (show (((w.alloc (.cells (stA s) 110)).alloc (.cells (bv blk).toArray 112)).alloc (.cells #[.int .u32 0, .int .u32 0, .int .u32 0, .int .u32 0, .int .u32 0, .int .u32 0, .int .u32 0, .int .u32 0] 110)).heap[w.heap.size + 1 + 1]? = some (.cells #[.int .u32 0, .int .u32 0, .int .u32 0, .int .u32 0, .int .u32 0, .int .u32 0, .int .u32 0, .int .u32 0] 110 (0, 0)) from heap_new (by simp))
  clear hw0 hws hG hs
  go_enter Tryz.func77, Tryz.ntmps77
  go_wp2_with (first | (refine wpList_load_mid rfl 112 (.tmp 3) rfl (w.heap.size + 1) 0 rfl (bv blk) _ HR0.out Tryz.underlying112 rfl HI.out ?_))
  refine Calls.mono (HST.out _) ?_
  rintro e w1 ⟨rfl, hF1⟩
  have HF1 := hideIt (HF0.out.trans hF1 (fun _ _ e => e))
  have hA1 := (hF1.block w.heap.size (Array.getElem?_eq_some_iff.1 HA0.out).1 (fun e => e)).trans HA0.out
  have hZ1 := (hF1.block (w.heap.size + 1 + 1) (Array.getElem?_eq_some_iff.1 HZ0.out).1 (fun e => e)).trans HZ0.out
  have hz1 := (Array.getElem?_eq_some_iff.1 hZ1).1
  have HA1 := hideIt hA1
  have HZ1 := hideIt hZ1
  have HT := hideIt (thereNew (w1.alloc (.cells z64w 130)) w1.heap.size z64w 130 (heap_new rfl) (uv ws).toArray.size (by rw [List.size_toArray, uv_length, hlw]; rfl))
  have HFULL := hideIt (store_words (w1.alloc (.cells z64w 130)) w1.heap.size 130 ws z64w (heap_new rfl) (by rw [hlw]; rfl))
  clear hF1 hA1 hZ1 HST HI HR0 HF0 HA0 HZ0
  go_wp2_with (first | (refine wpList_store_abs rfl 130 (.tmp 5) (.tmp 18) rfl w1.heap.size 0 (uv ws).toArray rfl rfl HT.out HIA.out H1.out ?_; intro W5 hW5; have HW5 := hideIt hW5; clear hW5))
  have hF5 : Fr (fun _ => False) w1 W5 := by
    rw [HW5.out]
    exact ((Fr.refl (fun _ => False) w1).alloc (.cells z64w 130)).trans (Fr.setCells _ _ _ _) (fun i hi e => by omega)
  have HW := hideIt (show Words W5 w1.heap.size 130 ws from by unfold Words; rw [HW5.out]; exact HFULL.out)
  have hA5 := (hF5.block w.heap.size (Array.getElem?_eq_some_iff.1 HA1.out).1 (fun e => e)).trans HA1.out
  have HZ5 := hideIt ((hF5.block (w.heap.size + 1 + 1) (Array.getElem?_eq_some_iff.1 HZ1.out).1 (fun e => e)).trans HZ1.out)
  have HF5 := hideIt (HF1.out.trans hF5 (fun _ _ e => e))
  have HG5 := hideIt (HGL.out.fr0 (HF1.out.trans hF5 (fun _ _ e => e)))
  have c0 : W5.cell? ⟨w.heap.size, 0, none⟩ = some (.int .u32 (s.a : Int)) := cellOfHeap hA5 0 rfl
  have c1 : W5.cell? ⟨w.heap.size, 1, none⟩ = some (.int .u32 (s.b : Int)) := cellOfHeap hA5 1 rfl
  have c2 : W5.cell? ⟨w.heap.size, 2, none⟩ = some (.int .u32 (s.c : Int)) := cellOfHeap hA5 2 rfl
  have c3 : W5.cell? ⟨w.heap.size, 3, none⟩ = some (.int .u32 (s.d : Int)) := cellOfHeap hA5 3 rfl
  have c4 : W5.cell? ⟨w.heap.size, 4, none⟩ = some (.int .u32 (s.e : Int)) := cellOfHeap hA5 4 rfl
  have c5 : W5.cell? ⟨w.heap.size, 5, none⟩ = some (.int .u32 (s.f : Int)) := cellOfHeap hA5 5 rfl
  have c6 : W5.cell? ⟨w.heap.size, 6, none⟩ = some (.int .u32 (s.g : Int)) := cellOfHeap hA5 6 rfl
  have c7 : W5.cell? ⟨w.heap.size, 7, none⟩ = some (.int .u32 (s.h : Int)) := cellOfHeap hA5 7 rfl
  have HA5 := hideIt hA5
  clear hA5 hF5 HW5 HFULL HT HA1 HZ1 HF1 HGL
  generalize w1.heap.size = B at *
  go_quiet (fail)
  clear c0 c1 c2 c3 c4 c5 c6 c7
  have HWq := hideIt (show Words (W5.drewN nq) B 130 ws from HW.out)
  have HAq := hideIt (show (W5.drewN nq).heap[w.heap.size]? = _ from HA5.out)
  have HZq := hideIt (show (W5.drewN nq).heap[w.heap.size + 1 + 1]? = _ from HZ5.out)
  have HFq := hideIt (HF5.out.drewN nq)
  have HGq := hideIt (HG5.out.fr0 ((Fr.refl _ _).drewN nq))
  clear HW HA5 HZ5 HF5 HG5
  generalize W5.drewN nq = WQ at *
  go_wp2_with fail
  go_loopw [35, 6, 7, 8, 9, 10, 11, 12, 13] (fun i va vb vc vd ve vf vg vh wr => ∃ (k : Nat) (v : Sha.St), i = .int .i64 k ∧ k ≤ 64 ∧ Hid (v = Sha.foldW Sha.round (Sha.K.take k) (ws.take k) s) ∧ va = .int .u32 (v.a : Int) ∧ vb = .int .u32 (v.b : Int) ∧ vc = .int .u32 (v.c : Int) ∧ vd = .int .u32 (v.d : Int) ∧ ve = .int .u32 (v.e : Int) ∧ vf = .int .u32 (v.f : Int) ∧ vg = .int .u32 (v.g : Int) ∧ vh = .int .u32 (v.h : Int) ∧ Hid (Fr (fun _ => False) WQ wr))
    (fun i _ _ _ _ _ _ _ _ _ => 64 - (intOf i).toNat)
  case atStart => exact ⟨0, s, rfl, by omega, hideIt (Sha.foldW_none _ _ _ _ (Or.inl rfl)).symm, rfl, rfl, rfl, rfl, rfl, rfl, rfl, rfl, hideIt (Fr.refl _ _)⟩
  case round =>
    obtain ⟨k, v, rfl, hk, HV, rfl, rfl, rfl, rfl, rfl, rfl, rfl, rfl, HF⟩ := hrel
    by_cases hlt : k < 64
    · have hck : wr.cell? ⟨1, k, none⟩ = some (.int .u32 (Sha.K.getD k 0 : Nat)) := (HGq.out.fr0 HF.out).roots k hlt
      have hcw : wr.cell? ⟨B, k, none⟩ = some (.int .u32 (ws.getD k 0 : Nat)) := (HWq.out.fr HF.out (fun e => e)).cell k (by omega)
      have k64' : (k : Int) < 64 := by omega
      have HN := hideIt (show Sha.round v (Sha.K.getD k 0) (ws.getD k 0) = Sha.foldW Sha.round (Sha.K.take (k + 1)) (ws.take (k + 1)) s by rw [Sha.foldW_snoc Sha.round Sha.K ws s k (by rw [K_len]; exact hlt) (by omega), HV.out])
      have h32 : St32 v := by rw [HV.out]; exact St32.fold _ _ HSS.out
      generalize Sha.K.getD k 0 = kk at *
      generalize ws.getD k 0 = wk at *
      obtain ⟨a, b, c, d, e, f, g, h⟩ := v
      obtain ⟨la, lb, lc, ld, le, lf, lg, lh⟩ := h32
      dsimp only at la lb lc ld le lf lg lh ⊢
      obtain ⟨qe, hqe⟩ : ∃ q, q = Sha.upE e := ⟨_, rfl⟩
      obtain ⟨qc, hqc⟩ : ∃ q, q = Sha.ch e f g := ⟨_, rfl⟩
      obtain ⟨qa, hqa⟩ : ∃ q, q = Sha.upA a := ⟨_, rfl⟩
      obtain ⟨qm, hqm⟩ : ∃ q, q = Sha.maj a b c := ⟨_, rfl⟩
      have HTE := hideIt (fun w => by have := turnE_any e le w; rw [← hqe] at this; exact this)
      have HCH := hideIt (fun w => by have := ch_any e f g le lf lg w; rw [← hqc] at this; exact this)
      have HTA := hideIt (fun w => by have := turnA_any a la w; rw [← hqa] at this; exact this)
      have HMJ := hideIt (fun w => by have := maj_any a b c la lb lc w; rw [← hqm] at this; exact this)
      have HNV := hideIt (show Sha.round ⟨a, b, c, d, e, f, g, h⟩ kk wk = ⟨Sha.add (Sha.add (Sha.add (Sha.add (Sha.add h qe) qc) kk) wk) (Sha.add qa qm), a, b, c, Sha.add d (Sha.add (Sha.add (Sha.add (Sha.add h qe) qc) kk) wk), e, f, g⟩ by rw [hqe, hqc, hqa, hqm]; unfold Sha.round Sha.tT Sha.tU; rfl)
      clear hqe hqc hqa hqm HV
      have hsum : (((h : Int) + (qe : Int) + (qc : Int) + (kk : Int)) % 4294967296 + (wk : Int)) % 4294967296 = ((Sha.add (Sha.add (Sha.add (Sha.add h qe) qc) kk) wk : Nat) : Int) := by
        simp only [add_mod]
        omega
      have hsum2 : ((qa : Int) + (qm : Int)) % 4294967296 = ((Sha.add qa qm : Nat) : Int) := add_int _ _
      generalize Sha.add (Sha.add (Sha.add (Sha.add h qe) qc) kk) wk = tt at *
      generalize Sha.add qa qm = uu at *
      have hs3 : ((d : Int) + (tt : Int)) % 4294967296 = ((Sha.add d tt : Nat) : Int) := add_int _ _
      have hs4 : ((tt : Int) + (uu : Int)) % 4294967296 = ((Sha.add tt uu : Nat) : Int) := add_int _ _
      generalize Sha.add d tt = dd at *
      generalize Sha.add tt uu = aa at *
      have HS1 := hideIt hsum
      have HS2 := hideIt hsum2
      have HS3 := hideIt hs3
      have HS4 := hideIt hs4
      clear hsum hsum2 hs3 hs4
      go_wp2_with fail
      go_quiet ((first | (go_at_call 94; exact Calls.quiet_of_same (HTE.out _)) | (go_at_call 95; exact Calls.quiet_of_same (HCH.out _))))
      rw [HS1.out]
      have HFR := hideIt (HF.out.drewN nq)
      clear HF hck hcw
      generalize wr.drewN nq = WR at *
      go_wp2_with fail
      refine Calls.mono (HTA.out _) ?_
      rintro e1 w6 ⟨rfl, rfl⟩
      go_wp2_with fail
      refine Calls.mono (HMJ.out _) ?_
      rintro e1 w7 ⟨rfl, rfl⟩
      go_wp2_with fail
      go_roundw
      case measure => simp [intOf]; omega
      case rel =>
        refine ⟨k + 1, ⟨aa, a, b, c, dd, e, f, g⟩, by go_num, by omega, hideIt (HNV.out.symm.trans HN.out), ?_, rfl, rfl, rfl, ?_, rfl, rfl, rfl, HFR⟩
        · exact congrArg (Value.int IntKind.u32) (by have h2 := HS2.out; have h4 := HS4.out; show _ = (aa : Int); omega)
        · exact congrArg (Value.int IntKind.u32) (by have h3 := HS3.out; show _ = (dd : Int); omega)
    · have hk64 : k = 64 := by omega
      have HVV := hideIt (show v = Sha.foldW Sha.round Sha.K ws s by rw [HV.out, hk64, List.take_of_length_le (by rw [K_len]; omega), List.take_of_length_le (by omega)])
      clear HV
      obtain ⟨a, b, c, d, e, f, g, hh⟩ := v
      dsimp only
      have hAr := (HF.out.block w.heap.size (Array.getElem?_eq_some_iff.1 HAq.out).1 (fun e => e)).trans HAq.out
      have c0 : wr.cell? ⟨w.heap.size, 0, none⟩ = some (.int .u32 (s.a : Int)) := cellOfHeap hAr 0 rfl
      have c1 : wr.cell? ⟨w.heap.size, 1, none⟩ = some (.int .u32 (s.b : Int)) := cellOfHeap hAr 1 rfl
      have c2 : wr.cell? ⟨w.heap.size, 2, none⟩ = some (.int .u32 (s.c : Int)) := cellOfHeap hAr 2 rfl
      have c3 : wr.cell? ⟨w.heap.size, 3, none⟩ = some (.int .u32 (s.d : Int)) := cellOfHeap hAr 3 rfl
      have c4 : wr.cell? ⟨w.heap.size, 4, none⟩ = some (.int .u32 (s.e : Int)) := cellOfHeap hAr 4 rfl
      have c5 : wr.cell? ⟨w.heap.size, 5, none⟩ = some (.int .u32 (s.f : Int)) := cellOfHeap hAr 5 rfl
      have c6 : wr.cell? ⟨w.heap.size, 6, none⟩ = some (.int .u32 (s.g : Int)) := cellOfHeap hAr 6 rfl
      have c7 : wr.cell? ⟨w.heap.size, 7, none⟩ = some (.int .u32 (s.h : Int)) := cellOfHeap hAr 7 rfl
      have hZr := (HF.out.block (w.heap.size + 1 + 1) (Array.getElem?_eq_some_iff.1 HZq.out).1 (fun e => e)).trans HZq.out
      have HZr := hideIt hZr
      have HSF := hideIt (store_over (V := #[.int .u32 (((s.a : Int) + (a : Int)) % 4294967296), .int .u32 (((s.b : Int) + (b : Int)) % 4294967296), .int .u32 (((s.c : Int) + (c : Int)) % 4294967296), .int .u32 (((s.d : Int) + (d : Int)) % 4294967296), .int .u32 (((s.e : Int) + (e : Int)) % 4294967296), .int .u32 (((s.f : Int) + (f : Int)) % 4294967296), .int .u32 (((s.g : Int) + (g : Int)) % 4294967296), .int .u32 (((s.h : Int) + (hh : Int)) % 4294967296)]) hZr rfl)
      have HTH := hideIt (thereNew wr (w.heap.size + 1 + 1) _ 110 hZr (#[.int .u32 (((s.a : Int) + (a : Int)) % 4294967296), .int .u32 (((s.b : Int) + (b : Int)) % 4294967296), .int .u32 (((s.c : Int) + (c : Int)) % 4294967296), .int .u32 (((s.d : Int) + (d : Int)) % 4294967296), .int .u32 (((s.e : Int) + (e : Int)) % 4294967296), .int .u32 (((s.f : Int) + (f : Int)) % 4294967296), .int .u32 (((s.g : Int) + (g : Int)) % 4294967296), .int .u32 (((s.h : Int) + (hh : Int)) % 4294967296)] : Array Value).size rfl)
      have HIS := hideIt (show (Tryz.prog.info? 110).map (·.size) = some (#[.int .u32 (((s.a : Int) + (a : Int)) % 4294967296), .int .u32 (((s.b : Int) + (b : Int)) % 4294967296), .int .u32 (((s.c : Int) + (c : Int)) % 4294967296), .int .u32 (((s.d : Int) + (d : Int)) % 4294967296), .int .u32 (((s.e : Int) + (e : Int)) % 4294967296), .int .u32 (((s.f : Int) + (f : Int)) % 4294967296), .int .u32 (((s.g : Int) + (g : Int)) % 4294967296), .int .u32 (((s.h : Int) + (hh : Int)) % 4294967296)] : Array Value).size by kernel_rfl)
      have HON := hideIt (show (#[.int .u32 (((s.a : Int) + (a : Int)) % 4294967296), .int .u32 (((s.b : Int) + (b : Int)) % 4294967296), .int .u32 (((s.c : Int) + (c : Int)) % 4294967296), .int .u32 (((s.d : Int) + (d : Int)) % 4294967296), .int .u32 (((s.e : Int) + (e : Int)) % 4294967296), .int .u32 (((s.f : Int) + (f : Int)) % 4294967296), .int .u32 (((s.g : Int) + (g : Int)) % 4294967296), .int .u32 (((s.h : Int) + (hh : Int)) % 4294967296)] : Array Value).all (·.oneCell') = true by simp [Value.oneCell'])
      have HEQ := hideIt (show (#[.int .u32 (((s.a : Int) + (a : Int)) % 4294967296), .int .u32 (((s.b : Int) + (b : Int)) % 4294967296), .int .u32 (((s.c : Int) + (c : Int)) % 4294967296), .int .u32 (((s.d : Int) + (d : Int)) % 4294967296), .int .u32 (((s.e : Int) + (e : Int)) % 4294967296), .int .u32 (((s.f : Int) + (f : Int)) % 4294967296), .int .u32 (((s.g : Int) + (g : Int)) % 4294967296), .int .u32 (((s.h : Int) + (hh : Int)) % 4294967296)] : Array Value) = stA (Sha.block s blk) by
        rw [HBK.out, ← HVV.out]
        unfold stA Sha.addSt
        rw [add_int, add_int, add_int, add_int, add_int, add_int, add_int, add_int])
      have HFr := hideIt (HFq.out.trans HF.out (fun _ _ e => e))
      clear hAr hZr
      go_wp2_with (first | (refine wpList_store_abs rfl 110 (.tmp 4) (.tmp 107) rfl (w.heap.size + 1 + 1) 0 #[.int .u32 (((s.a : Int) + (a : Int)) % 4294967296), .int .u32 (((s.b : Int) + (b : Int)) % 4294967296), .int .u32 (((s.c : Int) + (c : Int)) % 4294967296), .int .u32 (((s.d : Int) + (d : Int)) % 4294967296), .int .u32 (((s.e : Int) + (e : Int)) % 4294967296), .int .u32 (((s.f : Int) + (f : Int)) % 4294967296), .int .u32 (((s.g : Int) + (g : Int)) % 4294967296), .int .u32 (((s.h : Int) + (hh : Int)) % 4294967296)] rfl rfl HTH.out HIS.out HON.out ?_; intro W6 hW6; have HW6 := hideIt hW6; clear hW6))
      refine bodyPost_ret (results_cell_row Tryz.results77 _ _ (w.heap.size + 1 + 1) 110 #[.int .u32 (((s.a : Int) + (a : Int)) % 4294967296), .int .u32 (((s.b : Int) + (b : Int)) % 4294967296), .int .u32 (((s.c : Int) + (c : Int)) % 4294967296), .int .u32 (((s.d : Int) + (d : Int)) % 4294967296), .int .u32 (((s.e : Int) + (e : Int)) % 4294967296), .int .u32 (((s.f : Int) + (f : Int)) % 4294967296), .int .u32 (((s.g : Int) + (g : Int)) % 4294967296), .int .u32 (((s.h : Int) + (hh : Int)) % 4294967296)] (0, 0) _ rfl ?_ Tryz.underlying110 rfl HIS.out) rfl ⟨by rw [HEQ.out], ?_⟩
      · rw [HW6.out]
        exact HSF.out.1
      · rw [HW6.out]
        exact HFr.out.trans HSF.out.2 (fun i hi e => by omega)

end Go.Proofs.YtojgikaoiegmpaaGreatDoor

/- Package hash: a digest in memory; none, New, Len. -/
namespace Go.Proofs.YtojgikaoiegmpaaGreatDoor
open Go.RowKit Go.IntWalk
set_option linter.unusedSimpArgs false
set_option linter.unusedVariables false
set_option maxRecDepth 100000

/-- A digest's cells: made, the state, the block, the size. -/
def dgL (s : Sha.St) (blk : List UInt8) (n : Nat) : List Value := .bool true :: ((stA s).toList ++ (bv blk ++ [.int .i64 (n : Int)]))
def DgAt (w : World) (p : Nat) (s : Sha.St) (blk : List UInt8) (n : Nat) : Prop := w.heap[p]? = some (.cells (dgL s blk n).toArray 114 (0, 0)) ∧ blk.length = 64
theorem DgAt.lt {w : World} {p : Nat} {s : Sha.St} {blk : List UInt8} {n : Nat} (h : DgAt w p s blk n) : p < w.heap.size := (Array.getElem?_eq_some_iff.1 h.1).1
theorem DgAt.c0 {w : World} {p : Nat} {s : Sha.St} {blk : List UInt8} {n : Nat} (h : DgAt w p s blk n) : w.cell? ⟨p, 0, none⟩ = some (.bool true) := cellOfHeap h.1 0 rfl
theorem DgAt.size {w : World} {p : Nat} {s : Sha.St} {blk : List UInt8} {n : Nat} (h : DgAt w p s blk n) : w.cell? ⟨p, 73, none⟩ = some (.int .i64 (n : Int)) := cellOfHeap h.1 73 (by
  simp only [List.getElem?_toArray, dgL]
  rw [List.getElem?_cons_succ, List.getElem?_append_right (by show 8 ≤ 72; decide), List.getElem?_append_right (by rw [bv_length, h.2]; show 64 ≤ 72 - 8; decide)]
  rw [bv_length, h.2]
  rfl)
theorem DgAt.fr {S : Nat → Prop} {w w' : World} {p : Nat} {s : Sha.St} {blk : List UInt8} {n : Nat} (h : DgAt w p s blk n) (hF : Fr S w w') (hS : ¬ S p) : DgAt w' p s blk n := ⟨(hF.block p h.lt hS).trans h.1, h.2⟩

theorem dnone_some (p : Nat) (s : Sha.St) (blk : List UInt8) (n : Nat) (w : World) (h : DgAt w p s blk n) : Calls Tryz.prog 76 #[.pointer (some ⟨p, 0, none⟩)] w fun e w' => e = .returned (.bool false) ∧ w' = w := by
  have c0 := h.c0
  have hpl := h.lt
  clear h
  go_enter Tryz.func76, Tryz.ntmps76
  go_wp2_with fail
  go_ret
  exact ⟨rfl, rfl⟩


def zeros64 : List UInt8 := List.replicate 64 0
set_option maxRecDepth 100000 in
theorem built_new : Tryz.prog.built 114 [(0, .bool true), (1, .agg (stA Sha.first))] = some (dgL Sha.first zeros64 0).toArray := by kernel_rfl

set_option maxRecDepth 100000 in
set_option maxHeartbeats 1000000 in
theorem hnew_any (w : World) (hG : Glob w) : Calls Tryz.prog 55 #[] w fun e w' => e = .returned (.pointer (some ⟨w.heap.size, 0, none⟩)) ∧ DgAt w' w.heap.size Sha.first zeros64 0 ∧ Fr (fun _ => False) w w' := by
  have g0 := hG.first 0 _ rfl
  have g1 := hG.first 1 _ rfl
  have g2 := hG.first 2 _ rfl
  have g3 := hG.first 3 _ rfl
  have g4 := hG.first 4 _ rfl
  have g5 := hG.first 5 _ rfl
  have g6 := hG.first 6 _ rfl
  have g7 := hG.first 7 _ rfl
  have HL := hideIt (show w.rangeAt 0 0 (stA Sha.first).toList from fun j v hv => by rw [Nat.zero_add]; exact hG.first j v (by simpa using hv))
  have HI := hideIt (show (Tryz.prog.info? 110).map (·.size) = some (stA Sha.first).toList.length by kernel_rfl)
  have HBN := hideIt built_new
  clear hG g0 g1 g2 g3 g4 g5 g6 g7
  go_enter Tryz.func55, Tryz.ntmps55
  go_wp2_with (first | (refine wpList_load_mid rfl 110 (.global 0) rfl 0 0 rfl (stA Sha.first).toList _ HL.out Tryz.underlying110 rfl HI.out ?_) | (refine wpList_build_eq rfl 114 #[(0, .const (.bool true)), (1, .tmp 1)] rfl [(0, .bool true), (1, .agg (stA Sha.first))] (by simp [Act.eval, Act.put]) (dgL Sha.first zeros64 0).toArray HBN.out ?_))
  go_ret
  exact ⟨rfl, ⟨heap_new rfl, by decide⟩, (Fr.refl _ _).alloc _⟩

end Go.Proofs.YtojgikaoiegmpaaGreatDoor

/- Package hash: what a running digest has, on paper. -/
namespace Go.Proofs.YtojgikaoiegmpaaGreatDoor
set_option linter.unusedSimpArgs false
set_option linter.unusedVariables false
set_option maxRecDepth 100000

open Sha (blkW)
theorem blocks_blkW (n : Nat) (l : List UInt8) (s : Sha.St) : Sha.blocks n l s = blkW Sha.block n l s := rfl
theorem blkW_append (f : Sha.St → List UInt8 → Sha.St) (n : Nat) : ∀ (m c : List UInt8) (s : Sha.St), 64 * n ≤ m.length → blkW f n (m ++ c) s = blkW f n m s := by
  induction n with
  | zero => intro m c s _; rfl
  | succ n ih =>
    intro m c s h
    rw [blkW, blkW, List.take_append_of_le_length (by omega), List.drop_append_of_le_length (by omega), ih _ _ _ (by rw [List.length_drop]; omega)]
theorem blkW_succ (f : Sha.St → List UInt8 → Sha.St) (n : Nat) : ∀ (l : List UInt8) (s : Sha.St), blkW f (n + 1) l s = f (blkW f n l s) ((l.drop (64 * n)).take 64) := by
  induction n with
  | zero => intro l s; rfl
  | succ n ih =>
    intro l s
    rw [blkW, ih, blkW, List.drop_drop, show 64 + 64 * n = 64 * (n + 1) by omega]
theorem blkW_all (f : Sha.St → List UInt8 → Sha.St) (P : Sha.St → Prop) (hf : ∀ s b, P (f s b)) (n : Nat) : ∀ (l : List UInt8) (s : Sha.St), P s → P (blkW f n l s) := by
  induction n with
  | zero => intro l s h; exact h
  | succ n ih => intro l s h; rw [blkW]; exact ih _ _ (hf _ _)

/-- A state and a block are those of a digest that has the bytes m. -/
structure Has (m : List UInt8) (s : Sha.St) (blk : List UInt8) : Prop where
  len : blk.length = 64
  st : s = blkW Sha.block (m.length / 64) m Sha.first
  tail : blk.take (m.length % 64) = m.drop (64 * (m.length / 64))
theorem Has.new : Has [] Sha.first zeros64 := ⟨by decide, rfl, rfl⟩
theorem Has.st32 {m : List UInt8} {s : Sha.St} {blk : List UInt8} (h : Has m s blk) : St32 s := by
  rw [h.st]
  exact blkW_all _ St32 (fun s b => St32.block s b) _ _ _ St32.first

/-- A block with bytes laid into it. -/
def over (blk : List UInt8) (r : Nat) (c : List UInt8) : List UInt8 := blk.take r ++ c ++ blk.drop (r + c.length)
theorem over_len (blk : List UInt8) (r : Nat) (c : List UInt8) (hl : blk.length = 64) (h : r + c.length ≤ 64) : (over blk r c).length = 64 := by
  unfold over
  simp
  omega
theorem over_take (blk : List UInt8) (r : Nat) (c : List UInt8) (hl : blk.length = 64) (h : r + c.length ≤ 64) : (over blk r c).take (r + c.length) = blk.take r ++ c := by
  unfold over
  rw [List.take_append_of_le_length (by simp; omega), List.take_of_length_le (by simp; omega)]
theorem Has.put {m : List UInt8} {s : Sha.St} {blk : List UInt8} (h : Has m s blk) (c : List UInt8) (hc : m.length % 64 + c.length < 64) : Has (m ++ c) s (over blk (m.length % 64) c) := by
  have hq : (m ++ c).length / 64 = m.length / 64 := by rw [List.length_append]; omega
  have hr : (m ++ c).length % 64 = m.length % 64 + c.length := by rw [List.length_append]; omega
  refine ⟨over_len _ _ _ h.len (by omega), ?_, ?_⟩
  · rw [hq, blkW_append _ _ _ _ _ (by omega)]
    exact h.st
  · rw [hq, hr, over_take _ _ _ h.len (by omega), h.tail, List.drop_append_of_le_length (by omega)]
theorem Has.full {m : List UInt8} {s : Sha.St} {blk : List UInt8} (h : Has m s blk) (c : List UInt8) (hc : m.length % 64 + c.length = 64) : Has (m ++ c) (Sha.block s (over blk (m.length % 64) c)) (over blk (m.length % 64) c) := by
  have hq : (m ++ c).length / 64 = m.length / 64 + 1 := by rw [List.length_append]; omega
  have hr : (m ++ c).length % 64 = 0 := by rw [List.length_append]; omega
  have ho : over blk (m.length % 64) c = m.drop (64 * (m.length / 64)) ++ c := by
    have h1 := over_take blk (m.length % 64) c h.len (by omega)
    rw [hc, List.take_of_length_le (by rw [over_len _ _ _ h.len (by omega)]; exact Nat.le_refl _), h.tail] at h1
    exact h1
  have hl := over_len blk (m.length % 64) c h.len (by omega)
  refine ⟨hl, ?_, ?_⟩
  · rw [hq, blkW_succ, blkW_append _ _ _ _ _ (by omega), ← h.st, List.drop_append_of_le_length (by omega), ← ho, List.take_of_length_le (by omega)]
  · rw [hq, hr, List.take_zero, List.drop_of_length_le (by rw [List.length_append]; omega)]

/-- The ID of what a digest has, with what ends it. -/
theorem Has.sum {m : List UInt8} {s : Sha.St} {blk : List UInt8} (h : Has (m ++ Sha.ending m.length) s blk) : Sha.name s = Sha.sum m := by
  unfold Sha.sum Sha.message
  rw [blocks_blkW, h.st]

end Go.Proofs.YtojgikaoiegmpaaGreatDoor

/- Package hash: bytes written to a digest (Write), walked. -/
namespace Go.Proofs.YtojgikaoiegmpaaGreatDoor
open Go.RowKit Go.IntWalk
set_option linter.unusedSimpArgs false
set_option linter.unusedVariables false
set_option maxRecDepth 100000

/-- copy, by its run, as one step of a region that draws its order. -/
theorem step_copy_run {P : Program} {ops : Array Oper} {o : Oper} {a : Act} {w : World} {K : Act → World → Prop} {Q : Exit → Act → World → Prop} {E : Prop}
    (hg : o.guard = none) (s x : Operand) (t tx : TypeId) (hop : o.op = Op.call { callee := Callee.builtin Builtin.copy, args := #[s, x], argTypes := #[t, tx] })
    (v y v' : Value) (w' : World) (hs : a.eval s = v) (hx : a.eval x = y) (hrun : (Builtin.copy_ #[t, tx] o.type #[v, y]).run P w = .ok v' w') (hK : K (a.put o.dst v') w') :
    if Region.wanted o (yielded ops a.tmps) = true then Oper.wp P o a w K Q else E := by
  have hw : Region.wanted o (yielded ops a.tmps) = true := by simp [Region.wanted, hg]
  rw [if_pos hw]
  unfold Oper.wp
  simp [execOp, hop, resolve, invoke, builtin, hs, hx, hrun, Result.andThen]
  exact hK

theorem dgL_over (s : Sha.St) (blk c : List UInt8) (n r : Nat) (hl : blk.length = 64) (h : r + c.length ≤ 64) :
    (dgL s blk n).take (9 + r) ++ bv c ++ (dgL s blk n).drop (9 + r + c.length) = dgL s (over blk r c) n := by
  obtain ⟨H, hH⟩ : ∃ H : List Value, H = .bool true :: (stA s).toList := ⟨_, rfl⟩
  obtain ⟨N, hN⟩ : ∃ N : List Value, N = [.int .i64 (n : Int)] := ⟨_, rfl⟩
  have h9 : H.length = 9 := by rw [hH]; rfl
  have e : ∀ b, dgL s b n = H ++ (bv b ++ N) := fun b => by rw [hH, hN]; rfl
  have t1 := List.take_length_add_append (l₁ := H) (l₂ := bv blk ++ N) r
  have t2 := List.drop_length_add_append (l₁ := H) (l₂ := bv blk ++ N) (r + c.length)
  rw [h9] at t1 t2
  rw [e, e, Nat.add_assoc, t1, t2, List.take_append_of_le_length (by rw [bv_length]; omega), List.drop_append_of_le_length (by rw [bv_length]; omega)]
  unfold over
  rw [bv_append, bv_append]
  unfold bv
  rw [List.map_take, List.map_drop]
  simp
theorem dgL_size (s : Sha.St) (blk : List UInt8) (n n' : Nat) (hl : blk.length = 64) : (dgL s blk n).toArray.setIfInBounds 73 (.int .i64 (n' : Int)) = (dgL s blk n').toArray := by
  obtain ⟨H, hH⟩ : ∃ H : List Value, H = (.bool true :: (stA s).toList) ++ bv blk := ⟨_, rfl⟩
  have h9 : H.length = 73 := by rw [hH, List.length_append, bv_length, hl]; rfl
  have e : ∀ n : Nat, dgL s blk n = H ++ [.int .i64 (n : Int)] := fun n => by rw [hH]; unfold dgL; simp
  apply Array.ext'
  rw [Array.toList_setIfInBounds]
  show (dgL s blk n).set 73 _ = dgL s blk n'
  rw [e, e, List.set_append_right _ _ (by omega), h9]
  rfl
theorem dg_state {w : World} {p : Nat} {s : Sha.St} {blk : List UInt8} {n : Nat} (h : DgAt w p s blk n) (s' : Sha.St) : DgAt (w.setCells p 1 (stA s').toList) p s' blk n := by
  obtain ⟨A, h1, h2⟩ := setCells_heap p 114 (stA s').toList 1 w _ h.1 (by show 1 + 8 ≤ (dgL s blk n).toArray.size; rw [List.size_toArray]; unfold dgL; simp [bv_length, h.2, stA])
  refine ⟨?_, h.2⟩
  rw [h1]
  have e : A = (dgL s' blk n).toArray := by
    apply Array.ext'
    rw [h2]
    rfl
  rw [e]
theorem dg_put {w : World} {p : Nat} {s : Sha.St} {blk : List UInt8} {n : Nat} (h : DgAt w p s blk n) (c : List UInt8) (r : Nat) (hr : r + c.length ≤ 64) : DgAt (w.setRow p (dgL s (over blk r c) n).toArray) p s (over blk r c) n :=
  ⟨setRow_heap w p _ _ 114 (0, 0) h.1, over_len blk r c h.2 hr⟩
theorem fr_row (w : World) (p : Nat) (X : Array Value) : Fr (fun k => k = p) w (w.setRow p X) := ⟨rfl, rfl, rfl, by simp, fun j _ hj => setRow_other w p j _ hj⟩
theorem dg_size {w : World} {p : Nat} {s : Sha.St} {blk : List UInt8} {n : Nat} (h : DgAt w p s blk n) (n' : Nat) : DgAt (w.setCell ⟨p, 73, none⟩ (.int .i64 (n' : Int))) p s blk n' := by
  refine ⟨?_, h.2⟩
  rw [heap_setCell_same w p 73 _ _ (.int .i64 (n' : Int)) h.1, dgL_size s blk n n' h.2]
theorem dg_copy {w : World} {p : Nat} {s : Sha.St} {blk : List UInt8} {n : Nat} (h : DgAt w p s blk n) (b off : Nat) (l : List UInt8) (cap r : Nat) (hc : ∀ j (hj : j < l.length), w.cell? ⟨b, off + j, none⟩ = some (.int .u8 l[j].toNat)) (hr : r < 64) (ty : TypeId) (k : Nat) (hk : k = min (64 - r) l.length) :
    (Builtin.copy_ #[29, 29] ty #[.slice (some ⟨p, 9 + r, none⟩) (64 - r) (64 - r), .slice (some ⟨b, off, none⟩) l.length cap]).run Tryz.prog w = .ok (.int .i64 (k : Int)) (w.setRow p (dgL s (over blk r (l.take k)) n).toArray) := by
  have hlen : (bv (l.take k)).length = k := by rw [bv_length, List.length_take]; omega
  have hszD : (dgL s blk n).toArray.size = 74 := by rw [List.size_toArray]; unfold dgL; simp [bv_length, h.2, stA]
  have hrun := run_copy_row (P := Tryz.prog) w 29 29 ty 5 p (9 + r) (64 - r) (64 - r) ⟨b, off, none⟩ l.length cap _ 114 (bv (l.take k)) Tryz.underlying29 Tryz.infoU8s h.1 (by rw [hlen, hk]; exact Nat.min_comm _ _)
    (fun j v hv => by
      have hj : j < (l.take k).length := by have := (List.getElem?_eq_some_iff.1 hv).1; rwa [bv_length] at this
      rw [bv_get _ _ hj] at hv
      obtain rfl := Option.some.inj hv
      rw [Addr.add_lit, List.getElem_take]
      exact hc j (by rw [List.length_take] at hj; omega)) (by rw [hlen, hszD]; omega) (bv_one _)
  rw [hlen] at hrun
  have e := dgL_over s blk (l.take k) n r h.2 (by rw [List.length_take]; omega)
  rw [show (l.take k).length = k by rw [List.length_take]; omega] at e
  rw [show ((dgL s blk n).toArray.toList.take (9 + r) ++ bv (l.take k) ++ (dgL s blk n).toArray.toList.drop (9 + r + k)) = dgL s (over blk r (l.take k)) n from e] at hrun
  exact hrun
theorem bs_drop {w : World} {b off : Nat} {l : List UInt8} (hc : ∀ j (hj : j < l.length), w.cell? ⟨b, off + j, none⟩ = some (.int .u8 l[j].toNat)) (k cap : Nat) (hk : k ≤ l.length) (hcap : l.length ≤ cap) :
    BsAt w (if cap = k then some ⟨b, off, none⟩ else some ⟨b, off + k, none⟩) (l.drop k) := by
  by_cases e : cap = k
  · rw [if_pos e]
    exact Or.inr ⟨b, off, rfl, fun j hj => by rw [List.length_drop] at hj; omega⟩
  · rw [if_neg e]
    exact Or.inr ⟨b, off + k, rfl, fun j hj => by
      rw [List.length_drop] at hj
      rw [List.getElem_drop, Nat.add_assoc]
      exact hc (k + j) (by omega)⟩
theorem dg_len {w : World} {p : Nat} {s : Sha.St} {blk : List UInt8} {n : Nat} (h : DgAt w p s blk n) : (dgL s blk n).toArray.size = 74 := by rw [List.size_toArray]; unfold dgL; simp [bv_length, h.2, stA]
theorem dg_there {w : World} {p : Nat} {s : Sha.St} {blk : List UInt8} {n : Nat} (h : DgAt w p s blk n) (o k : Nat) (hk : o + k ≤ 74) : w.there p o k := fun j hj => by
  rw [cell_of_row w p (o + j) _ _ _ h.1]
  refine ⟨?_, frozen_of_row w p (o + j) _ _ h.1⟩
  have := dg_len h
  simp only [Option.isSome_iff_exists]
  exact ⟨_, Array.getElem?_eq_getElem (by omega)⟩
theorem dg_st {w : World} {p : Nat} {s : Sha.St} {blk : List UInt8} {n : Nat} (h : DgAt w p s blk n) : w.rangeAt p 1 (stA s).toList := fun j v hv => cellOfHeap h.1 (1 + j) (by
  have hj : j < (stA s).toList.length := (List.getElem?_eq_some_iff.1 hv).1
  show (dgL s blk n).toArray[1 + j]? = some v
  rw [List.getElem?_toArray, Nat.add_comm, dgL, List.getElem?_cons_succ, List.getElem?_append_left hj]
  exact hv)
theorem dg_blk {w : World} {p : Nat} {s : Sha.St} {blk : List UInt8} {n : Nat} (h : DgAt w p s blk n) : w.rangeAt p 9 (bv blk) := fun j v hv => cellOfHeap h.1 (9 + j) (by
  have hj : j < (bv blk).length := (List.getElem?_eq_some_iff.1 hv).1
  have h8 : (stA s).toList.length = 8 := rfl
  show (dgL s blk n).toArray[9 + j]? = some v
  rw [List.getElem?_toArray, show 9 + j = (8 + j) + 1 by omega, dgL, List.getElem?_cons_succ, List.getElem?_append_right (by omega), h8, Nat.add_sub_cancel_left, List.getElem?_append_left hj]
  exact hv)
theorem stA_one (s : Sha.St) : (stA s).all (·.oneCell') = true := by simp [stA, Value.oneCell']
def slLen : Value → Nat
  | .slice _ n _ => n
  | _ => 0

set_option maxRecDepth 100000 in
set_option maxHeartbeats 4000000 in
theorem dwrite_any (p : Nat) (s : Sha.St) (B m : List UInt8) (ao : Option Addr) (cap : Nat) (bs : List UInt8) (w : World) (hD : DgAt w p s B m.length) (hH : Has m s B) (hB : BsAt w ao bs) (hap : ∀ j, blk ao j → j ≠ p) (hcap : bs.length ≤ cap) (hG : Glob w) (hp : 2 ≤ p) (hl : m.length + bs.length ≤ 140737488355328) :
    Calls Tryz.prog 56 #[.pointer (some ⟨p, 0, none⟩), .slice ao bs.length cap] w fun e w' => e = .returned (.tuple #[]) ∧ ∃ s' B', DgAt w' p s' B' (m.length + bs.length) ∧ Has (m ++ bs) s' B' ∧ Fr (fun k => k = p) w w' := by
  have HN := hideIt (dnone_some p s B m.length w hD)
  have HD0 := hideIt (show DgAt w p s B (m.length + 0) from hD)
  have HH0 := hideIt (show Has (m ++ bs.take 0) s B by rw [List.take_zero, List.append_nil]; exact hH)
  have HB0 := hideIt (show BsAt w ao (bs.drop 0) from hB)
  have HA0 := hideIt hap
  have HG := hideIt hG
  have HF0 := hideIt (Fr.refl (fun k => k = p) w)
  clear hD hH hB hap hG
  go_enter Tryz.func56, Tryz.ntmps56
  go_wp2_with fail
  refine Calls.mono HN.out ?_
  rintro e w' ⟨rfl, rfl⟩
  go_wp2_with fail
  go_loopw [1] (fun x wr => ∃ (k cp : Nat) (a : Option Addr) (s1 : Sha.St) (B1 : List UInt8), x = .slice a (bs.length - k) cp ∧ k ≤ bs.length ∧ bs.length - k ≤ cp ∧ Hid (DgAt wr p s1 B1 (m.length + k)) ∧ Hid (Has (m ++ bs.take k) s1 B1) ∧ Hid (BsAt wr a (bs.drop k)) ∧ Hid (∀ j, blk a j → j ≠ p) ∧ Hid (Fr (fun k => k = p) w' wr)) (fun x _ => slLen x)
  case atStart => exact ⟨0, cap, ao, s, B, rfl, by omega, hcap, HD0, HH0, HB0, HA0, HF0⟩
  case round =>
    clear HD0 HH0 HB0 HA0 HF0 HN
    obtain ⟨k, cp, a, s1, B1, rfl, hk, hcp, HD, HH, HB, HA, HF⟩ := hrel
    by_cases hlt : k < bs.length
    · obtain ⟨b, off, rfl, hc⟩ : ∃ b off, a = some ⟨b, off, none⟩ ∧ ∀ j (h : j < (bs.drop k).length), wr.cell? ⟨b, off + j, none⟩ = some (.int .u8 (bs.drop k)[j].toNat) := by
        rcases HB.out with ⟨_, e⟩ | hh
        · have := congrArg List.length e
          rw [List.length_drop] at this
          simp at this
          omega
        · exact hh
      have hbp : b ≠ p := HA.out b ⟨_, rfl, rfl⟩
      obtain ⟨rest, hrest⟩ : ∃ rest, bs.drop k = rest := ⟨_, rfl⟩
      have hrl : bs.length - k = rest.length := by rw [← hrest, List.length_drop]
      rw [hrest] at hc
      have hrp : 0 < rest.length := by omega
      rw [hrl] at hcp ⊢
      obtain ⟨N, hNe⟩ : ∃ N, m.length + k = N := ⟨_, rfl⟩
      have HD1 := hideIt (show DgAt wr p s1 B1 N by rw [← hNe]; exact HD.out)
      obtain ⟨r, hr⟩ : ∃ r, N % 64 = r := ⟨_, rfl⟩
      have hr64 : r < 64 := by omega
      have hri : (N : Int) % 64 = (r : Int) := by omega
      have hNb : N + rest.length ≤ 140737488355328 := by omega
      obtain ⟨n, hn⟩ : ∃ n, n = min (64 - r) rest.length := ⟨_, rfl⟩
      have hn1 : 0 < n := by omega
      have hnr : n ≤ rest.length := by omega
      have hn64 : r + n ≤ 64 := by omega
      have HCP := hideIt (dg_copy (HD1.out.fr (Fr.refl (fun _ => False) wr).drew (fun e => e)) b off rest cp r (fun j hj => hc j hj) hr64 3 n hn)
      have HDR := hideIt (bs_drop hc n cp hnr hcp)
      have c73 := HD1.out.size
      have hpl := HD1.out.lt
      have hrt : ((N : Int)).tmod 64 = (r : Int) := by rw [Int.tmod_eq_emod_of_nonneg (by omega)]; exact hri
      have hri0 : (0 : Int) ≤ (r : Int) := by omega
      have hri1 : (r : Int) ≤ 64 := by omega
      have hrne : ¬ 64 = r := by omega
      have hnl : (rest.take n).length = n := by rw [List.length_take]; omega
      have HD2 := hideIt (dg_put (HD1.out.fr (Fr.refl (fun _ => False) wr).drew (fun e => e)) (rest.take n) r (by omega))
      have HC73 := hideIt (HD2.out.size)
      have HF2 := hideIt (HF.out.trans (((Fr.refl (fun k => k = p) wr).drew).trans (fr_row wr.drew p (dgL s1 (over B1 r (rest.take n)) N).toArray) (fun _ _ e => e)) (fun _ _ e => e))
      have HFW := hideIt (((Fr.refl (fun k => k = p) wr).drew).trans (fr_row wr.drew p (dgL s1 (over B1 r (rest.take n)) N).toArray) (fun _ _ e => e))
      have hbk : (m ++ bs.take k).length = N := by rw [List.length_append, List.length_take]; omega
      have HTK := hideIt (show m ++ bs.take (k + n) = (m ++ bs.take k) ++ rest.take n by rw [← hrest, List.take_add, List.append_assoc])
      have HPUT := hideIt (fun (h : r + n < 64) => show Has (m ++ bs.take (k + n)) s1 (over B1 r (rest.take n)) by
        have := HH.out.put (rest.take n) (by rw [hbk, hr, hnl]; omega)
        rwa [hbk, hr, ← HTK.out] at this)
      have HFUL := hideIt (fun (h : r + n = 64) => show Has (m ++ bs.take (k + n)) (Sha.block s1 (over B1 r (rest.take n))) (over B1 r (rest.take n)) by
        have := HH.out.full (rest.take n) (by rw [hbk, hr, hnl]; omega)
        rwa [hbk, hr, ← HTK.out] at this)
      have HS32 := hideIt (show St32 s1 from HH.out.st32)
      have HDK := hideIt (show (bs.drop (k + n)) = rest.drop n by rw [← hrest, List.drop_drop])
      clear hn hc HH HTK HB
      generalize over B1 r (rest.take n) = B2 at *
      go_wp2_with fail
      refine wp_region_held_drew (S := fun w2 => w2.cell? ⟨p, 73, none⟩ = some (.int .i64 (N : Int))) (by kernel_rfl) ?_ (fun hHeld => ?_)
      · exact c73
      refine wpAnyH_take (i := 0) (v := ?v1) rfl (by kernel_rfl) (by kernel_rfl) (by kernel_rfl) (fun _ _ _ h => h) (Or.inl ⟨by rfl, ?hy1⟩) (by assumption) ?rest1
      case hy1 => intro w hSw; (try dsimp only at hSw); go_simp; (try with_reducible rfl)
      try simp only [Act.put, List.getElem_toArray, List.getElem_cons_zero, List.getElem_cons_succ, List.setIfInBounds_toArray, List.set_cons_zero, List.set_cons_succ]
      refine wpAnyH_take (i := 1) (v := ?v2) rfl (by kernel_rfl) (by kernel_rfl) (by kernel_rfl) (fun _ _ _ h => h) (Or.inl ⟨by rfl, ?hy2⟩) (by assumption) ?rest2
      case hy2 => intro w hSw; (try dsimp only at hSw); go_simp; (try with_reducible rfl)
      try simp only [Act.put, List.getElem_toArray, List.getElem_cons_zero, List.getElem_cons_succ, List.setIfInBounds_toArray, List.set_cons_zero, List.set_cons_succ]
      refine wpAnyH_take (i := 2) (v := ?v3) rfl (by kernel_rfl) (by kernel_rfl) (by kernel_rfl) (fun _ _ _ h => h) (Or.inl ⟨by rfl, ?hy3⟩) (by assumption) ?rest3
      case hy3 => intro w hSw; (try dsimp only at hSw); go_simp; (try with_reducible rfl)
      try simp only [Act.put, List.getElem_toArray, List.getElem_cons_zero, List.getElem_cons_succ, List.setIfInBounds_toArray, List.set_cons_zero, List.set_cons_succ]
      refine wpAnyH_take (i := 3) (v := ?v4) rfl (by kernel_rfl) (by kernel_rfl) (by kernel_rfl) (fun _ _ _ h => h) (Or.inl ⟨by rfl, ?hy4⟩) (by assumption) ?rest4
      case hy4 => intro w hSw; (try dsimp only at hSw); go_simp; (try with_reducible rfl)
      try simp only [Act.put, List.getElem_toArray, List.getElem_cons_zero, List.getElem_cons_succ, List.setIfInBounds_toArray, List.set_cons_zero, List.set_cons_succ]
      refine wpAnyH_take (i := 4) (v := ?v5) rfl (by kernel_rfl) (by kernel_rfl) (by kernel_rfl) (fun _ _ _ h => h) (Or.inl ⟨by rfl, ?hy5⟩) (by assumption) ?rest5
      case hy5 => intro w hSw; (try dsimp only at hSw); go_simp; (try with_reducible rfl)
      try simp only [Act.put, List.getElem_toArray, List.getElem_cons_zero, List.getElem_cons_succ, List.setIfInBounds_toArray, List.set_cons_zero, List.set_cons_succ]
      refine wpAnyH_take (i := 5) (v := ?v6) rfl (by kernel_rfl) (by kernel_rfl) (by kernel_rfl) (fun _ _ _ h => h) (Or.inl ⟨by rfl, ?hy6⟩) (by assumption) ?rest6
      case hy6 => intro w hSw; (try dsimp only at hSw); go_simp; (try with_reducible rfl)
      try simp only [Act.put, List.getElem_toArray, List.getElem_cons_zero, List.getElem_cons_succ, List.setIfInBounds_toArray, List.set_cons_zero, List.set_cons_succ]
      refine wpAnyH_take (i := 6) (v := ?v7) rfl (by kernel_rfl) (by kernel_rfl) (by kernel_rfl) (fun _ _ _ h => h) (Or.inl ⟨by rfl, ?hy7⟩) (by assumption) ?rest7
      case hy7 => intro w hSw; (try dsimp only at hSw); go_simp; (try with_reducible rfl)
      try simp only [Act.put, List.getElem_toArray, List.getElem_cons_zero, List.getElem_cons_succ, List.setIfInBounds_toArray, List.set_cons_zero, List.set_cons_succ]
      refine wpAnyH_take (i := 7) (v := ?v8) rfl (by kernel_rfl) (by kernel_rfl) (by kernel_rfl) (fun _ _ _ h => h) (Or.inl ⟨by rfl, ?hy8⟩) (by assumption) ?rest8
      case hy8 => intro w hSw; (try dsimp only at hSw); go_simp; (try with_reducible rfl)
      try simp only [Act.put, List.getElem_toArray, List.getElem_cons_zero, List.getElem_cons_succ, List.setIfInBounds_toArray, List.set_cons_zero, List.set_cons_succ]
      refine wpAnyH_take (i := 8) (v := ?v9) rfl (by kernel_rfl) (by kernel_rfl) (by kernel_rfl) (fun _ _ _ h => h) (Or.inl ⟨by rfl, ?hy9⟩) (by assumption) ?rest9
      case hy9 => intro w hSw; (try dsimp only at hSw); go_simp; (try with_reducible rfl)
      try simp only [Act.put, List.getElem_toArray, List.getElem_cons_zero, List.getElem_cons_succ, List.setIfInBounds_toArray, List.set_cons_zero, List.set_cons_succ]
      refine wpAnyH_take (i := 9) (v := ?v10) rfl (by kernel_rfl) (by kernel_rfl) (by kernel_rfl) (fun _ _ _ h => h) (Or.inl ⟨by rfl, ?hy10⟩) (by assumption) ?rest10
      case hy10 => intro w hSw; (try dsimp only at hSw); go_simp; (try with_reducible rfl)
      try simp only [Act.put, List.getElem_toArray, List.getElem_cons_zero, List.getElem_cons_succ, List.setIfInBounds_toArray, List.set_cons_zero, List.set_cons_succ]
      refine wpAnyH_ready (rs := [10]) (by kernel_rfl) (by simp) ?_
      refine AllReadyH.cons rfl (fun K hK => ?_) AllReadyH.nil
      refine step_copy_run rfl (.tmp 18) (.tmp 19) 29 29 rfl _ _ _ _ rfl rfl HCP.out ?_
      refine hK.out _ _ ?_ (fun hHeld => ?_)
      · exact HC73.out
      clear hK K
      try simp only [Act.put, List.getElem_toArray, List.getElem_cons_zero, List.getElem_cons_succ, List.setIfInBounds_toArray, List.set_cons_zero, List.set_cons_succ]
      refine wpAnyH_take (i := 11) (v := ?v11) rfl (by kernel_rfl) (by kernel_rfl) (by kernel_rfl) (fun _ _ _ h => h) (Or.inl ⟨by rfl, ?hy11⟩) (by assumption) ?rest11
      case hy11 => intro w hSw; (try dsimp only at hSw); go_simp; (try with_reducible rfl)
      try simp only [Act.put, List.getElem_toArray, List.getElem_cons_zero, List.getElem_cons_succ, List.setIfInBounds_toArray, List.set_cons_zero, List.set_cons_succ]
      refine wpAnyH_done (by kernel_rfl) ?_ _
      clear HCP hHeld
      generalize wr.drew.setRow p (dgL s1 B2 N).toArray = W2 at *
      have c73b := HC73.out
      have hNn : (N : Int) + (n : Int) ≤ 9223372036854775807 := by omega
      have hz73 := frozen_of_row W2 p 73 _ _ HD2.out.1
      have hn0 : (0 : Int) ≤ (n : Int) := by omega
      have hNw : IntKind.i64.wrap ((N : Int) + (n : Int)) = (N : Int) + (n : Int) := by rw [IntKind.wrap_i64]; omega
      have HSZ := hideIt (show DgAt (W2.setCell ⟨p, 73, none⟩ (.int .i64 ((N : Int) + (n : Int)))).drew p s1 B2 (N + n) from (dg_size HD2.out (N + n)).fr (Fr.refl (fun _ => False) _).drew (fun e => e))
      have HSF := hideIt (show Fr (fun k => k = p) W2 (W2.setCell ⟨p, 73, none⟩ (.int .i64 ((N : Int) + (n : Int)))).drew from ((Fr.refl (fun k => k = p) W2).setCell (p := ⟨p, 73, none⟩) (fun _ => rfl) _).drew)
      have hnl2 : (n : Int) ≤ (rest.length : Int) := by omega
      have hncp : (n : Int) ≤ (cp : Int) := by omega
      go_wp2_with fail
      refine wp_region_held_drew (S := fun w2 => True) (by kernel_rfl) ?_ (fun hHeld => ?_)
      · trivial
      refine wpAnyH_take (i := 0) (v := ?v12) rfl (by kernel_rfl) (by kernel_rfl) (by kernel_rfl) (fun _ _ _ h => h) (Or.inl ⟨by rfl, ?hy12⟩) (by assumption) ?rest12
      case hy12 => intro w hSw; (try dsimp only at hSw); go_simp; (try with_reducible rfl)
      try simp only [Act.put, List.getElem_toArray, List.getElem_cons_zero, List.getElem_cons_succ, List.setIfInBounds_toArray, List.set_cons_zero, List.set_cons_succ]
      refine wpAnyH_take (i := 1) (v := ?v13) rfl (by kernel_rfl) (by kernel_rfl) (by kernel_rfl) (fun _ _ _ h => h) (Or.inl ⟨by rfl, ?hy13⟩) (by assumption) ?rest13
      case hy13 => intro w hSw; (try dsimp only at hSw); go_simp; (try with_reducible rfl)
      try simp only [Act.put, List.getElem_toArray, List.getElem_cons_zero, List.getElem_cons_succ, List.setIfInBounds_toArray, List.set_cons_zero, List.set_cons_succ]
      refine wpAnyH_take (i := 2) (v := ?v14) rfl (by kernel_rfl) (by kernel_rfl) (by kernel_rfl) (fun _ _ _ h => h) (Or.inl ⟨by rfl, ?hy14⟩) (by assumption) ?rest14
      case hy14 => intro w hSw; (try dsimp only at hSw); go_simp; (try with_reducible rfl)
      try simp only [Act.put, List.getElem_toArray, List.getElem_cons_zero, List.getElem_cons_succ, List.setIfInBounds_toArray, List.set_cons_zero, List.set_cons_succ]
      refine wpAnyH_take (i := 3) (v := ?v15) rfl (by kernel_rfl) (by kernel_rfl) (by kernel_rfl) (fun _ _ _ h => h) (Or.inl ⟨by rfl, ?hy15⟩) (by assumption) ?rest15
      case hy15 => intro w hSw; (try dsimp only at hSw); go_simp; (try with_reducible rfl)
      try simp only [Act.put, List.getElem_toArray, List.getElem_cons_zero, List.getElem_cons_succ, List.setIfInBounds_toArray, List.set_cons_zero, List.set_cons_succ]
      refine wpAnyH_take (i := 4) (v := ?v16) rfl (by kernel_rfl) (by kernel_rfl) (by kernel_rfl) (fun _ _ _ h => h) (Or.inl ⟨by rfl, ?hy16⟩) (by assumption) ?rest16
      case hy16 => intro w hSw; (try dsimp only at hSw); go_simp; (try with_reducible rfl)
      try simp only [Act.put, List.getElem_toArray, List.getElem_cons_zero, List.getElem_cons_succ, List.setIfInBounds_toArray, List.set_cons_zero, List.set_cons_succ]
      refine wpAnyH_take (i := 5) (v := ?v17) rfl (by kernel_rfl) (by kernel_rfl) (by kernel_rfl) (fun _ _ _ h => h) (Or.inl ⟨by rfl, ?hy17⟩) (by assumption) ?rest17
      case hy17 => intro w hSw; (try dsimp only at hSw); go_simp; (try with_reducible rfl)
      try simp only [Act.put, List.getElem_toArray, List.getElem_cons_zero, List.getElem_cons_succ, List.setIfInBounds_toArray, List.set_cons_zero, List.set_cons_succ]
      refine wpAnyH_take (i := 6) (v := ?v18) rfl (by kernel_rfl) (by kernel_rfl) (by kernel_rfl) (fun _ _ _ h => h) (Or.inl ⟨by rfl, ?hy18⟩) (by assumption) ?rest18
      case hy18 => intro w hSw; (try dsimp only at hSw); go_simp; (try with_reducible rfl)
      try simp only [Act.put, List.getElem_toArray, List.getElem_cons_zero, List.getElem_cons_succ, List.setIfInBounds_toArray, List.set_cons_zero, List.set_cons_succ]
      refine wpAnyH_take (i := 8) (v := ?v19) rfl (by kernel_rfl) (by kernel_rfl) (by kernel_rfl) (fun _ _ _ h => h) (Or.inl ⟨by rfl, ?hy19⟩) (by assumption) ?rest19
      case hy19 => intro w hSw; (try dsimp only at hSw); go_simp; (try with_reducible rfl)
      try simp only [Act.put, List.getElem_toArray, List.getElem_cons_zero, List.getElem_cons_succ, List.setIfInBounds_toArray, List.set_cons_zero, List.set_cons_succ]
      refine wpAnyH_take (i := 10) (v := ?v20) rfl (by kernel_rfl) (by kernel_rfl) (by kernel_rfl) (fun _ _ _ h => h) (Or.inl ⟨by rfl, ?hy20⟩) (by assumption) ?rest20
      case hy20 => intro w hSw; (try dsimp only at hSw); go_simp; (try with_reducible rfl)
      try simp only [Act.put, List.getElem_toArray, List.getElem_cons_zero, List.getElem_cons_succ, List.setIfInBounds_toArray, List.set_cons_zero, List.set_cons_succ]
      refine wpAnyH_ready (rs := [7]) (by kernel_rfl) (by simp) ?_
      refine AllReadyH.cons rfl (fun K hK => ?_) AllReadyH.nil
      go_simp
      refine hK.out _ _ ?_ (fun hHeld => ?_)
      · trivial
      clear hK K
      try simp only [Act.put, List.getElem_toArray, List.getElem_cons_zero, List.getElem_cons_succ, List.setIfInBounds_toArray, List.set_cons_zero, List.set_cons_succ]
      refine wpAnyH_take (i := 9) (v := ?v21) rfl (by kernel_rfl) (by kernel_rfl) (by kernel_rfl) (fun _ _ _ h => h) (Or.inl ⟨by rfl, ?hy21⟩) (by assumption) ?rest21
      case hy21 => intro w hSw; (try dsimp only at hSw); go_simp; (try with_reducible rfl)
      try simp only [Act.put, List.getElem_toArray, List.getElem_cons_zero, List.getElem_cons_succ, List.setIfInBounds_toArray, List.set_cons_zero, List.set_cons_succ]
      refine wpAnyH_take (i := 11) (v := ?v22) rfl (by kernel_rfl) (by kernel_rfl) (by kernel_rfl) (fun _ _ _ h => h) (Or.inl ⟨by rfl, ?hy22⟩) (by assumption) ?rest22
      case hy22 => intro w hSw; (try dsimp only at hSw); go_simp; (try with_reducible rfl)
      try simp only [Act.put, List.getElem_toArray, List.getElem_cons_zero, List.getElem_cons_succ, List.setIfInBounds_toArray, List.set_cons_zero, List.set_cons_succ]
      refine wpAnyH_take (i := 12) (v := ?v23) rfl (by kernel_rfl) (by kernel_rfl) (by kernel_rfl) (fun _ _ _ h => h) (Or.inl ⟨by rfl, ?hy23⟩) (by assumption) ?rest23
      case hy23 => intro w hSw; (try dsimp only at hSw); go_simp; (try with_reducible rfl)
      try simp only [Act.put, List.getElem_toArray, List.getElem_cons_zero, List.getElem_cons_succ, List.setIfInBounds_toArray, List.set_cons_zero, List.set_cons_succ]
      refine wpAnyH_ready (rs := [13]) (by kernel_rfl) (by simp) ?_
      refine AllReadyH.cons rfl (fun K hK => ?_) AllReadyH.nil
      go_simp
      refine hK.out _ _ ?_ (fun hHeld => ?_)
      · trivial
      clear hK K
      try simp only [Act.put, List.getElem_toArray, List.getElem_cons_zero, List.getElem_cons_succ, List.setIfInBounds_toArray, List.set_cons_zero, List.set_cons_succ]
      refine wpAnyH_done (by kernel_rfl) ?_ _
      clear hHeld
      generalize (W2.setCell ⟨p, 73, none⟩ (.int .i64 ((N : Int) + (n : Int)))).drew = W3 at *
      have HF3 := hideIt (HF2.out.trans HSF.out (fun _ _ e => e))
      have HDR3 := hideIt ((HDR.out.fr HFW.out (fun j hj e => by
        intro e2
        subst e2
        by_cases hcn : cp = n
        · rw [if_pos hcn] at e
          obtain ⟨a, e1, e3⟩ := e
          obtain rfl := Option.some.inj e1
          exact hbp e3
        · rw [if_neg hcn] at e
          obtain ⟨a, e1, e3⟩ := e
          obtain rfl := Option.some.inj e1
          exact hbp e3)).fr HSF.out (fun j hj e => by
        intro e2
        subst e2
        by_cases hcn : cp = n
        · rw [if_pos hcn] at e
          obtain ⟨a, e1, e3⟩ := e
          obtain rfl := Option.some.inj e1
          exact hbp e3
        · rw [if_neg hcn] at e
          obtain ⟨a, e1, e3⟩ := e
          obtain rfl := Option.some.inj e1
          exact hbp e3))
      have HA2 := hideIt (show ∀ j, blk (if cp = n then some ⟨b, off, none⟩ else some ⟨b, off + n, none⟩) j → j ≠ p by
        intro j e e2
        subst e2
        by_cases hcn : cp = n
        · rw [if_pos hcn] at e
          obtain ⟨a, e1, e3⟩ := e
          obtain rfl := Option.some.inj e1
          exact hbp e3
        · rw [if_neg hcn] at e
          obtain ⟨a, e1, e3⟩ := e
          obtain rfl := Option.some.inj e1
          exact hbp e3)
      generalize (if cp = n then some (⟨b, off, none⟩ : Addr) else some ⟨b, off + n, none⟩) = a2 at *
      have c73c := HSZ.out.size
      have hpl3 := HSZ.out.lt
      clear c73 c73b HC73 hz73 HDR HFW HD2 HD1 HD HF2 HF HA hbp hrt hri0 hri1 hpl HSF
      have HDRR := hideIt (show BsAt W3 a2 (bs.drop (k + n)) by rw [HDK.out]; exact HDR3.out)
      have hrl2 : bs.length - (k + n) = rest.length - n := by omega
      have hkn : k + n ≤ bs.length := by omega
      have hcp2 : bs.length - (k + n) ≤ cp - n := by omega
      have hNk : m.length + (k + n) = N + n := by omega
      by_cases hf : r + n = 64
      · have hq : ((N + n : Nat) : Int).tmod 64 = 0 := by rw [Int.tmod_eq_emod_of_nonneg (by omega)]; omega
        have HHN := hideIt (HFUL.out hf)
        have HD3 := hideIt (HSZ.out.fr (Fr.refl (fun _ => False) W3).drew (fun e => e))
        have HF3 := hideIt (HF3.out.trans (Fr.refl (fun k => k = p) W3).drew (fun _ _ e => e))
        have HBL := hideIt (dg_blk HD3.out)
        have HSL := hideIt (dg_st HD3.out)
        have HIB := hideIt (show (Tryz.prog.info? 112).map (·.size) = some (bv B2).length by rw [bv_length, HD3.out.2]; exact Tryz.infoBlk)
        have HIS := hideIt (show (Tryz.prog.info? 110).map (·.size) = some (stA s1).toList.length by kernel_rfl)
        have HCH := hideIt (changed_any s1 HS32.out B2 HD3.out.2 W3.drew ((HG.out.fr HF3.out (by omega) (by omega))))
        go_wp2_with fail
        refine wp_region_held_drew (S := fun w2 => w2.rangeAt p 9 (bv B2)) (by kernel_rfl) ?_ (fun hHeld => ?_)
        · exact HBL.out
        refine wpAnyH_take (i := 0) (v := ?v24) rfl (by kernel_rfl) (by kernel_rfl) (by kernel_rfl) (fun _ _ _ h => h) (Or.inl ⟨by rfl, ?hy24⟩) (by assumption) ?rest24
        case hy24 => intro w hSw; (try dsimp only at hSw); go_simp; (try with_reducible rfl)
        try simp only [Act.put, List.getElem_toArray, List.getElem_cons_zero, List.getElem_cons_succ, List.setIfInBounds_toArray, List.set_cons_zero, List.set_cons_succ]
        refine wpAnyH_take (i := 1) (v := ?v25) rfl (by kernel_rfl) (by kernel_rfl) (by kernel_rfl) (fun _ _ _ h => h) (Or.inl ⟨by rfl, ?hy25⟩) (by assumption) ?rest25
        case hy25 => intro w hSw; (try dsimp only at hSw); go_simp; (try with_reducible rfl)
        try simp only [Act.put, List.getElem_toArray, List.getElem_cons_zero, List.getElem_cons_succ, List.setIfInBounds_toArray, List.set_cons_zero, List.set_cons_succ]
        refine wpAnyH_take (i := 2) (v := ?v26) rfl (by kernel_rfl) (by kernel_rfl) (by kernel_rfl) (fun _ _ _ h => h) (Or.inl ⟨by rfl, ?hy26⟩) (by assumption) ?rest26
        case hy26 => intro w hSw; (try dsimp only at hSw); go_simp; (try with_reducible rfl)
        try simp only [Act.put, List.getElem_toArray, List.getElem_cons_zero, List.getElem_cons_succ, List.setIfInBounds_toArray, List.set_cons_zero, List.set_cons_succ]
        refine wpAnyH_take (i := 3) (v := ?v27) rfl (by kernel_rfl) (by kernel_rfl) (by kernel_rfl) (fun _ _ _ h => h) (Or.inl ⟨by rfl, ?hy27⟩) (by assumption) ?rest27
        case hy27 => intro w hSw; (try dsimp only at hSw); go_simp; (try with_reducible rfl)
        try simp only [Act.put, List.getElem_toArray, List.getElem_cons_zero, List.getElem_cons_succ, List.setIfInBounds_toArray, List.set_cons_zero, List.set_cons_succ]
        refine wpAnyH_take (i := 5) (v := ?v28) rfl (by kernel_rfl) (by kernel_rfl) (by kernel_rfl) (fun _ _ _ h => h) (Or.inl ⟨by rfl, ?hy28⟩) (by assumption) ?rest28
        case hy28 => intro w hSw; (try dsimp only at hSw); go_simp; (try with_reducible rfl)
        try simp only [Act.put, List.getElem_toArray, List.getElem_cons_zero, List.getElem_cons_succ, List.setIfInBounds_toArray, List.set_cons_zero, List.set_cons_succ]
        refine wpAnyH_take (i := 6) (v := ?v29) rfl (by kernel_rfl) (by kernel_rfl) (by kernel_rfl) (fun _ _ _ h => h) (Or.inl ⟨by rfl, ?hy29⟩) (by assumption) ?rest29
        case hy29 => intro w hSw; (try dsimp only at hSw); go_simp; (try with_reducible rfl)
        try simp only [Act.put, List.getElem_toArray, List.getElem_cons_zero, List.getElem_cons_succ, List.setIfInBounds_toArray, List.set_cons_zero, List.set_cons_succ]
        refine wpAnyH_take (i := 7) (v := ?v30) rfl (by kernel_rfl) (by kernel_rfl) (by kernel_rfl) (fun _ _ _ h => h) (Or.inl ⟨by rfl, ?hy30⟩) (by assumption) ?rest30
        case hy30 => intro w hSw; (try dsimp only at hSw); go_simp; (try with_reducible rfl)
        try simp only [Act.put, List.getElem_toArray, List.getElem_cons_zero, List.getElem_cons_succ, List.setIfInBounds_toArray, List.set_cons_zero, List.set_cons_succ]
        refine wpAnyH_take (i := 8) (v := .agg (bv B2).toArray) rfl (by kernel_rfl) (by kernel_rfl) (by kernel_rfl) (fun _ _ _ h => h) (Or.inl ⟨by rfl, fun w0 hSw => yields_load_mid 112 (.tmp 46) rfl p 9 rfl (bv B2) _ hSw Tryz.underlying112 rfl HIB.out⟩) (by assumption) ?_
        try simp only [Act.put, List.getElem_toArray, List.getElem_cons_zero, List.getElem_cons_succ, List.setIfInBounds_toArray, List.set_cons_zero, List.set_cons_succ]
        refine wpAnyH_ready (rs := [4]) (by kernel_rfl) (by simp) ?_
        refine AllReadyH.cons rfl (fun K hK => ?_) AllReadyH.nil
        rw [if_pos (by rfl)]
        refine wp_load_mid 110 (.tmp 42) rfl p 1 rfl (stA s1).toList _ HSL.out Tryz.underlying110 rfl HIS.out ?_
        refine hK.out _ _ ?_ (fun hHeld => ?_)
        · exact HBL.out
        clear hK K
        try simp only [Act.put, List.getElem_toArray, List.getElem_cons_zero, List.getElem_cons_succ, List.setIfInBounds_toArray, List.set_cons_zero, List.set_cons_succ]
        refine wpAnyH_ready (rs := [9]) (by kernel_rfl) (by simp) ?_
        refine AllReadyH.cons rfl (fun K hK => ?_) AllReadyH.nil
        go_simp
        refine Calls.mono HCH.out ?_
        rintro e W4 ⟨rfl, hF4⟩
        have HD4 := hideIt (HD3.out.fr hF4 (fun e => e))
        have HF4 := hideIt (HF3.out.trans hF4 (fun _ _ e => e.elim))
        have HBL4 := hideIt (dg_blk HD4.out)
        have HST4 := hideIt (dg_state HD4.out (Sha.block s1 B2))
        have HW4 := hideIt hF4
        have HFT4 := hideIt (Fr.setCells W4 p 1 (stA (Sha.block s1 B2)).toList)
        clear hF4
        refine hK.out _ _ ?_ (fun hHeld => ?_)
        · exact HBL4.out
        clear hK K
        try simp only [Act.put, List.getElem_toArray, List.getElem_cons_zero, List.getElem_cons_succ, List.setIfInBounds_toArray, List.set_cons_zero, List.set_cons_succ]
        refine wpAnyH_take (i := 10) (v := ?v31) rfl (by kernel_rfl) (by kernel_rfl) (by kernel_rfl) (fun _ _ _ h => h) (Or.inl ⟨by rfl, ?hy31⟩) (by assumption) ?rest31
        case hy31 => intro w hSw; (try dsimp only at hSw); go_simp; (try with_reducible rfl)
        try simp only [Act.put, List.getElem_toArray, List.getElem_cons_zero, List.getElem_cons_succ, List.setIfInBounds_toArray, List.set_cons_zero, List.set_cons_succ]
        refine wpAnyH_take (i := 11) (v := ?v32) rfl (by kernel_rfl) (by kernel_rfl) (by kernel_rfl) (fun _ _ _ h => h) (Or.inl ⟨by rfl, ?hy32⟩) (by assumption) ?rest32
        case hy32 => intro w hSw; (try dsimp only at hSw); go_simp; (try with_reducible rfl)
        try simp only [Act.put, List.getElem_toArray, List.getElem_cons_zero, List.getElem_cons_succ, List.setIfInBounds_toArray, List.set_cons_zero, List.set_cons_succ]
        refine wpAnyH_ready (rs := [12]) (by kernel_rfl) (by simp) ?_
        refine AllReadyH.cons rfl (fun K hK => ?_) AllReadyH.nil
        rw [if_pos (by rfl)]
        refine wp_store_mid 110 (.tmp 50) (.tmp 48) rfl p 1 (stA (Sha.block s1 B2)) rfl rfl (dg_there HD4.out 1 8 (by omega)) (by kernel_rfl) (stA_one _) ?_
        generalize W4.setCells p 1 (stA (Sha.block s1 B2)).toList = W5 at *
        refine hK.out _ _ ?_ (fun hHeld => ?_)
        · exact dg_blk HST4.out
        clear hK K
        try simp only [Act.put, List.getElem_toArray, List.getElem_cons_zero, List.getElem_cons_succ, List.setIfInBounds_toArray, List.set_cons_zero, List.set_cons_succ]
        refine wpAnyH_done (by kernel_rfl) ?_ _
        clear hHeld
        have HDR5 := hideIt (((HDRR.out.fr (Fr.refl (fun _ => False) W3).drew (fun _ _ _ e => e)).fr HW4.out (fun _ _ _ e => e)).fr HFT4.out (fun j _ e => HA2.out j e))
        have HF5 := hideIt (HF4.out.trans HFT4.out (fun _ _ e => e))
        clear HDRR HDR3 HSZ HD3 HD4 HBL HSL HBL4 HCH HF3 HF4 HFT4 HW4 HG HS32
        go_wp2_with fail
        go_roundw
        case measure => simp [slLen]; omega
        case rel => exact ⟨k + n, cp - n, a2, Sha.block s1 B2, B2, by rw [hrl2], hkn, hcp2, by rw [hNk]; exact HST4, HHN, HDR5, HA2, HF5⟩
      · have hq : ¬ ((N + n : Nat) : Int).tmod 64 = 0 := by rw [Int.tmod_eq_emod_of_nonneg (by omega)]; omega
        have HHN := hideIt (HPUT.out (by omega))
        go_wp2_with fail
        go_roundw
        case measure => simp [slLen]; omega
        case rel => exact ⟨k + n, cp - n, a2, s1, B2, by rw [hrl2], hkn, hcp2, by rw [hNk]; exact HSZ, HHN, HDRR, HA2, HF3⟩
    · have hk9 : k = bs.length := by omega
      subst hk9
      have HH2 := hideIt (show Has (m ++ bs) s1 B1 by have := HH.out; rwa [List.take_length] at this)
      clear HH
      go_wp2_with fail
      go_end0
      exact ⟨rfl, s1, B1, HD.out, HH2.out, HF.out⟩

end Go.Proofs.YtojgikaoiegmpaaGreatDoor

/- Package hash: a state as bytes (name). -/
namespace Go.Proofs.YtojgikaoiegmpaaGreatDoor
open Go.RowKit Go.IntWalk
set_option linter.unusedSimpArgs false
set_option linter.unusedVariables false
set_option maxRecDepth 100000

def stW (s : Sha.St) (k : Nat) : Nat := [s.a, s.b, s.c, s.d, s.e, s.f, s.g, s.h].getD k 0
theorem name_len (s : Sha.St) : (Sha.name s).length = 32 := rfl
theorem name_get (s : Sha.St) (k j : Nat) (hk : k < 8) (hj : j < 4) : (Sha.name s).getD (4 * k + j) 0 = UInt8.ofNat (stW s k / 256 ^ (3 - j) % 256) := by
  obtain rfl | rfl | rfl | rfl : j = 0 ∨ j = 1 ∨ j = 2 ∨ j = 3 := by omega
  all_goals
    obtain rfl | rfl | rfl | rfl | rfl | rfl | rfl | rfl : k = 0 ∨ k = 1 ∨ k = 2 ∨ k = 3 ∨ k = 4 ∨ k = 5 ∨ k = 6 ∨ k = 7 := by omega
    all_goals simp [Sha.name, Sha.bytesOf, stW, Nat.div_div_eq_div_mul]
theorem stW_lt (s : Sha.St) (hs : St32 s) (k : Nat) (hk : k < 8) : stW s k < 4294967296 := by
  obtain rfl | rfl | rfl | rfl | rfl | rfl | rfl | rfl : k = 0 ∨ k = 1 ∨ k = 2 ∨ k = 3 ∨ k = 4 ∨ k = 5 ∨ k = 6 ∨ k = 7 := by omega
  · exact hs.a
  · exact hs.b
  · exact hs.c
  · exact hs.d
  · exact hs.e
  · exact hs.f
  · exact hs.g
  · exact hs.h

/-- A name's first bytes are laid. -/
def Laid (s : Sha.St) (n : Nat) (ds : List UInt8) : Prop := ds.length = 32 ∧ ∀ i, i < n → ds.getD i 0 = (Sha.name s).getD i 0
theorem Laid.step {s : Sha.St} {n : Nat} {ds : List UInt8} (h : Laid s n ds) (hn : n < 32) (b : UInt8) (hb : b = (Sha.name s).getD n 0) : Laid s (n + 1) (ds.set n b) := by
  refine ⟨by rw [List.length_set]; exact h.1, fun i hi => ?_⟩
  have hl := h.1
  by_cases e : i = n
  · subst e
    rw [← hb]
    simp [List.getD, List.getElem?_set, hl, hn]
  · have := h.2 i (by omega)
    rw [← this]
    simp [List.getD, List.getElem?_set, Ne.symm e]
theorem Laid.all {s : Sha.St} {ds : List UInt8} (h : Laid s 32 ds) : ds = Sha.name s := by
  apply List.ext_getElem
  · rw [h.1, name_len]
  · intro i g1 g2
    have := h.2 i (by rw [← h.1]; exact g1)
    simpa [List.getD, g1, g2] using this

set_option maxRecDepth 100000 in
set_option maxHeartbeats 4000000 in
theorem name_any (s : Sha.St) (hs : St32 s) (w : World) : Calls Tryz.prog 79 #[.agg (stA s)] w fun e w' => e = .returned (.agg (bv (Sha.name s)).toArray) ∧ Fr (fun _ => False) w w' := by
  have HF0 := hideIt (show Fr (fun _ => False) w (((w.alloc (.cells (stA s) 110)).alloc (.cells zA 33)).alloc (.cells zA 33)) from (((Fr.refl _ w).alloc _).alloc _).alloc _)
  have HZ0 := hideIt (show (((w.alloc (.cells (stA s) 110)).alloc (.cells zA 33)).alloc (.cells zA 33)).heap[w.heap.size + 1]? = some (.cells zA 33 (0, 0)) from heap_old (heap_new (by simp)))
  have HD0 := hideIt (show (((w.alloc (.cells (stA s) 110)).alloc (.cells zA 33)).alloc (.cells zA 33)).heap[w.heap.size + 1 + 1]? = some (.cells (bv (List.replicate 32 0)).toArray 33 (0, 0)) from heap_new (by simp))
  have HL := hideIt (show (((w.alloc (.cells (stA s) 110)).alloc (.cells zA 33)).alloc (.cells zA 33)).rangeAt w.heap.size 0 (stA s).toList from rangeOf (heap_old (heap_old (heap_new rfl))))
  have HI := hideIt (show (Tryz.prog.info? 110).map (·.size) = some (stA s).toList.length by kernel_rfl)
  have HSS := hideIt hs
  have hix : ∀ (k : Nat) (hk : k < 8) (w : World), (Instr.index 110 (.agg (stA s)) (.int .i64 (k : Int))).run Tryz.prog w = .ok (.int .u32 (stW s k : Nat)) w := fun k hk w => by
    refine run_index_arr w 110 89 8 k _ _ _ Tryz.underlying110 Tryz.underlying89 rfl Tryz.infoU32s hk ?_
    obtain rfl | rfl | rfl | rfl | rfl | rfl | rfl | rfl : k = 0 ∨ k = 1 ∨ k = 2 ∨ k = 3 ∨ k = 4 ∨ k = 5 ∨ k = 6 ∨ k = 7 := by omega
    all_goals rfl
  have HIX := hideIt hix
  clear hix hs
  generalize hV : stA s = V at *
  clear hV
  go_enter Tryz.func79, Tryz.ntmps79
  go_wp2_with (first | (refine wpList_load_mid rfl 110 (.tmp 1) rfl w.heap.size 0 rfl V.toList _ HL.out Tryz.underlying110 rfl HI.out ?_))
  go_loopw [8] (fun i wr => ∃ (k : Nat) (ds : List UInt8), i = .int .i64 k ∧ k ≤ 8 ∧ Hid (Laid s (4 * k) ds) ∧ Hid (wr.heap[w.heap.size + 1 + 1]? = some (.cells (bv ds).toArray 33 (0, 0))) ∧ Hid (wr.heap[w.heap.size + 1]? = some (.cells zA 33 (0, 0))) ∧ Hid (Fr (fun _ => False) w wr))
    (fun i _ => 8 - (intOf i).toNat)
  case atStart => exact ⟨0, List.replicate 32 0, rfl, by omega, hideIt ⟨by simp, fun i hi => by omega⟩, HD0, HZ0, HF0⟩
  case round =>
    clear HD0 HZ0 HF0
    obtain ⟨k, ds, rfl, hk, HP, HD, HZ, HF⟩ := hrel
    by_cases hlt : k < 8
    · have hixk := HIX.out k hlt
      have h32 := stW_lt s HSS.out k hlt
      have HNG := hideIt (fun j (hj : j < 4) => name_get s k j hlt hj)
      generalize stW s k = x at *
      have k8 : (k : Int) < 8 := by omega
      go_wp2_with fail
      go_loopw [12] (fun i wr => ∃ (j : Nat) (ds : List UInt8), i = .int .i64 j ∧ j ≤ 4 ∧ Hid (Laid s (4 * k + j) ds) ∧ Hid (wr.heap[w.heap.size + 1 + 1]? = some (.cells (bv ds).toArray 33 (0, 0))) ∧ Hid (wr.heap[w.heap.size + 1]? = some (.cells zA 33 (0, 0))) ∧ Hid (Fr (fun _ => False) w wr))
        (fun i _ => 4 - (intOf i).toNat)
      case atStart => exact ⟨0, ds, rfl, by omega, HP, HD, HZ, HF⟩
      case round =>
        clear HP HD HZ HF
        obtain ⟨j, ds, rfl, hj, HP, HD, HZ, HF⟩ := hrel
        by_cases hjl : j < 4
        · have hm1 : IntKind.i64.wrap (4 * (k : Int)) = 4 * (k : Int) := by rw [IntKind.wrap_i64]; omega
          have hm2 : IntKind.i64.wrap (4 * (k : Int) + (j : Int)) = 4 * (k : Int) + (j : Int) := by rw [IntKind.wrap_i64]; omega
          have hix0 : (0 : Int) ≤ 4 * (k : Int) + (j : Int) := by omega
          have hix1 : 4 * (k : Int) + (j : Int) < 32 := by omega
          have hixn : (4 * (k : Int) + (j : Int)).toNat = 4 * k + j := by omega
          have hc : wr.cell? ⟨w.heap.size + 1 + 1, 4 * k + j, none⟩ = some (.int .u8 ((ds.getD (4 * k + j) 0).toNat : Int)) := cellOfHeap HD.out (4 * k + j) (by
            have hl := HP.out.1
            have hlt : 4 * k + j < ds.length := by omega
            simp [bv, List.getD, hlt])
          have hfz := frozen_of_row wr (w.heap.size + 1 + 1) (4 * k + j) _ _ HD.out
          have HB := hideIt (HNG.out j hjl)
          have hv : (x : Int) / 2 ^ (8 * (3 - j)) % 256 = (((Sha.name s).getD (4 * k + j) 0).toNat : Int) := by
            rw [HB.out]
            obtain rfl | rfl | rfl | rfl : j = 0 ∨ j = 1 ∨ j = 2 ∨ j = 3 := by omega
            all_goals simp
          have HST := hideIt (heap_setCell_same wr (w.heap.size + 1 + 1) (4 * k + j) _ _ (.int .u8 (((Sha.name s).getD (4 * k + j) 0).toNat : Int)) HD.out)
          have hs2 : (bv ds).toArray.setIfInBounds (4 * k + j) (.int .u8 (((Sha.name s).getD (4 * k + j) 0).toNat : Int)) = (bv (ds.set (4 * k + j) ((Sha.name s).getD (4 * k + j) 0))).toArray := by simp [bv, List.map_set]
          have HST := hideIt (by have := HST.out; rw [hs2] at this; exact this)
          have HLS := hideIt (HP.out.step (by omega) _ rfl)
          have hfr := (Fr.refl (fun i => i = w.heap.size + 1 + 1) wr).setCell (p := ⟨w.heap.size + 1 + 1, 4 * k + j, none⟩) (fun _ => rfl) (.int .u8 (((Sha.name s).getD (4 * k + j) 0).toNat : Int))
          have HZ2 := hideIt ((hfr.block (w.heap.size + 1) (Array.getElem?_eq_some_iff.1 HZ.out).1 (by omega)).trans HZ.out)
          have HF2 := hideIt (HF.out.trans hfr (fun i hi e => by omega))
          have HVV := hideIt hv
          clear hs2 hfr hv HB
          generalize (Sha.name s).getD (4 * k + j) 0 = bb at *
          go_wp2_with fail
          rw [HVV.out]
          exact ⟨⟨j + 1, _, by go_num, by omega, HLS, HST, HZ2, HF2⟩, by simp [intOf]; omega⟩
        · have hj4 : j = 4 := by omega
          have HP2 := hideIt (show Laid s (4 * (k + 1)) ds by have := HP.out; rw [hj4] at this; exact this)
          clear HP
          go_wp2_with fail
          exact ⟨⟨k + 1, ds, by go_num, by omega, HP2, HD, HZ, HF⟩, by simp [intOf]; omega⟩
    · have hk8 : k = 8 := by omega
      have hds : ds = Sha.name s := by have := HP.out; rw [hk8] at this; exact this.all
      subst hds
      have hnl := name_len s
      generalize hN : Sha.name s = N at *
      have HNN := hideIt hN
      clear hN
      have HW := hideIt (show wr.rangeAt (w.heap.size + 1 + 1) 0 (bv N) from rangeOf HD.out)
      have HIL := hideIt (show (Tryz.prog.info? 33).map (·.size) = some (bv N).length by rw [bv_length, hnl]; kernel_rfl)
      have HIA := hideIt (show (Tryz.prog.info? 33).map (·.size) = some (bv N).toArray.size by rw [List.size_toArray, bv_length, hnl]; kernel_rfl)
      have HTT := hideIt (thereNew wr (w.heap.size + 1) zA 33 HZ.out (bv N).toArray.size (by rw [List.size_toArray, bv_length, hnl]; rfl))
      have H1 := hideIt (show (bv N).toArray.all (·.oneCell') = true by simp [bv, Value.oneCell'])
      have HSF := hideIt (store_over (V := (bv N).toArray) HZ.out (by rw [List.size_toArray, bv_length, hnl]; rfl))
      clear HD HZ HP
      go_wp2_with (first | (refine wpList_load_mid rfl 33 (.tmp 3) rfl (w.heap.size + 1 + 1) 0 rfl (bv N) _ HW.out Tryz.underlying33 rfl HIL.out ?_) | (refine wpList_store_abs rfl 33 (.tmp 2) (.tmp 28) rfl (w.heap.size + 1) 0 (bv N).toArray rfl rfl HTT.out HIA.out H1.out ?_; intro W5 hW5; have HW5 := hideIt hW5; clear hW5))
      refine bodyPost_ret (results_cell_row Tryz.results79 _ _ (w.heap.size + 1) 33 (bv N).toArray (0, 0) _ rfl ?_ Tryz.underlying33 rfl HIA.out) rfl ⟨by rw [HNN.out], ?_⟩
      · rw [HW5.out]
        exact HSF.out.1
      · rw [HW5.out]
        exact HF.out.trans HSF.out.2 (fun i hi e => by omega)

end Go.Proofs.YtojgikaoiegmpaaGreatDoor

/- Package hash: the text of a name (Text), walked. -/
namespace Go.Proofs.YtojgikaoiegmpaaGreatDoor
open Go.RowKit Go.IntWalk
set_option linter.unusedSimpArgs false
set_option linter.unusedVariables false
set_option maxRecDepth 100000

def dgs : List UInt8 := [48, 49, 50, 51, 52, 53, 54, 55, 56, 57, 97, 98, 99, 100, 101, 102]
def hexC (k : Nat) : UInt8 := dgs.getD k 0
def hexL (l : List UInt8) : List UInt8 := l.flatMap fun x => [hexC (x.toNat / 16), hexC (x.toNat % 16)]
theorem hexL_cons (x : UInt8) (l : List UInt8) : hexL (x :: l) = hexC (x.toNat / 16) :: hexC (x.toNat % 16) :: hexL l := rfl
theorem hexL_len (l : List UInt8) : (hexL l).length = 2 * l.length := by
  induction l with
  | nil => rfl
  | cons x l ih => rw [hexL_cons]; simp only [List.length_cons]; omega
theorem hexL_get (l : List UInt8) : ∀ i, i < l.length → (hexL l).getD (2 * i) 0 = hexC ((l.getD i 0).toNat / 16) ∧ (hexL l).getD (2 * i + 1) 0 = hexC ((l.getD i 0).toNat % 16) := by
  induction l with
  | nil => intro i h; simp at h
  | cons x l ih =>
    intro i h
    rw [hexL_cons]
    cases i with
    | zero => exact ⟨rfl, rfl⟩
    | succ i =>
      have := ih i (by simpa using h)
      rw [show 2 * (i + 1) = 2 * i + 1 + 1 by omega]
      exact this

/-- A row of bytes is laid up to a place as it shall be. -/
def LaidG (L : List UInt8) (n : Nat) (ds : List UInt8) : Prop := ds.length = L.length ∧ ∀ i, i < n → ds.getD i 0 = L.getD i 0
theorem LaidG.step {L : List UInt8} {n : Nat} {ds : List UInt8} (h : LaidG L n ds) (hn : n < L.length) (b : UInt8) (hb : b = L.getD n 0) : LaidG L (n + 1) (ds.set n b) := by
  refine ⟨by simpa using h.1, fun i hi => ?_⟩
  by_cases e : i = n
  · subst e
    rw [hb]
    have : i < ds.length := by rw [h.1]; exact hn
    simp [List.getD, this]
  · rw [← h.2 i (by omega)]
    simp [List.getD, List.getElem?_set, Ne.symm e]
theorem LaidG.all {L : List UInt8} {ds : List UInt8} (h : LaidG L L.length ds) : ds = L := by
  apply List.ext_getElem h.1
  intro i h1 h2
  have := h.2 i h2
  simpa [List.getD, h1, h2] using this
theorem run_digit (k : Nat) (hk : k < 16) (w : World) : (Instr.index 9 (.string ⟨#[48, 49, 50, 51, 52, 53, 54, 55, 56, 57, 97, 98, 99, 100, 101, 102]⟩) (.int .u8 (k : Int))).run Tryz.prog w = .ok (.int .u8 ((hexC k).toNat : Int)) w := by
  obtain rfl | rfl | rfl | rfl | rfl | rfl | rfl | rfl | rfl | rfl | rfl | rfl | rfl | rfl | rfl | rfl : k = 0 ∨ k = 1 ∨ k = 2 ∨ k = 3 ∨ k = 4 ∨ k = 5 ∨ k = 6 ∨ k = 7 ∨ k = 8 ∨ k = 9 ∨ k = 10 ∨ k = 11 ∨ k = 12 ∨ k = 13 ∨ k = 14 ∨ k = 15 := by omega
  all_goals rfl

theorem yields_index {P : Program} {o : Oper} {a : Act} {w : World} (t : TypeId) (x y : Operand) (ho : o.op = .index t x y) (v1 v2 v : Value) (hx : a.eval x = v1) (hy : a.eval y = v2) (hrun : (Instr.index t v1 v2).run P w = .ok v w) : (execOp a.eval o).run P w = .ok (.value v) w := by
  unfold execOp
  simp only [ho, hx, hy, Sem.run_bind, hrun, Result.andThen_ok, Sem.run_pure]
theorem ids_index (id : List UInt8) (hid : id.length = 32) (i : Nat) (hi : i < 32) (x : UInt8) (hx : id.getD i 0 = x) (w : World) : (Instr.index 33 (.agg (bv id).toArray) (.int .i64 (i : Int))).run Tryz.prog w = .ok (.int .u8 (x.toNat : Int)) w := by
  have hg : (bv id)[i]? = some (.int .u8 (x.toNat : Int)) := by
    rw [bv_get id i (by omega)]
    have : id[i]'(by omega) = x := by rw [← hx]; simp [List.getD, show i < id.length by omega]
    rw [this]
  refine run_index_arr w 33 5 32 i _ _ _ Tryz.underlying33 Tryz.underlying5 rfl Tryz.infoU8s hi ?_
  rw [List.getElem?_toArray]
  exact hg
theorem zeroB (w : World) : (zeroValue 111).run Tryz.prog w = .ok (.agg (bv (List.replicate 64 0)).toArray) w := by
  have h : (Tryz.prog.info? 111).map (·.zero) = some (some (.agg (bv (List.replicate 64 0)).toArray)) := by kernel_rfl
  cases hq : Tryz.prog.info? 111 with
  | none => simp [hq] at h
  | some i =>
    have hz : i.zero = some (.agg (bv (List.replicate 64 0)).toArray) := by simpa [hq] using h
    simp [zeroValue, typeInfo, hq, hz, Sem.run_bind]

end Go.Proofs.YtojgikaoiegmpaaGreatDoor

/- Package hash: digits (digit), walked; what a text is, on paper. -/
namespace Go.Proofs.YtojgikaoiegmpaaGreatDoor
open Go.RowKit Go.IntWalk
set_option linter.unusedSimpArgs false
set_option linter.unusedVariables false
set_option maxRecDepth 100000

def isDg (c : Nat) : Bool := decide (48 ≤ c ∧ c ≤ 57) || decide (97 ≤ c ∧ c ≤ 102)
def dgN (c : Nat) : Nat := if 48 ≤ c ∧ c ≤ 57 then c - 48 else if 97 ≤ c ∧ c ≤ 102 then c - 87 else 0

end Go.Proofs.YtojgikaoiegmpaaGreatDoor

/- Package hash: the name of a text (Parse), walked. -/
namespace Go.Proofs.YtojgikaoiegmpaaGreatDoor
open Go.RowKit Go.IntWalk
set_option linter.unusedSimpArgs false
set_option linter.unusedVariables false
set_option maxRecDepth 100000

theorem results_cell_row2 {P : Program} {fn : Func} {p q : Tmp} {ty tz : TypeId} (h : fn.results = #[.cell p ty, .cell q tz]) (tmps : Array Value) (w : World) (g g2 : Nat) (t t2 : TypeId) (cs cs2 : Array Value) (fr fr2 : Nat × Nat) (d d2 : TypeDesc)
    (hp : tmps.getD p undef = .pointer (some ⟨g, 0, none⟩)) (hg : w.heap[g]? = some (.cells cs t fr))
    (hu : P.underlying ty = some d) (hd : (match d with | .struct _ | .array _ _ => true | _ => false) = true) (hi : (P.info? ty).map (·.size) = some cs.size)
    (hp2 : tmps.getD q undef = .pointer (some ⟨g2, 0, none⟩)) (hg2 : w.heap[g2]? = some (.cells cs2 t2 fr2))
    (hu2 : P.underlying tz = some d2) (hd2 : (match d2 with | .struct _ | .array _ _ => true | _ => false) = true) (hi2 : (P.info? tz).map (·.size) = some cs2.size) :
    (results fn tmps).run P w = .ok (.tuple #[.agg cs, .agg cs2]) w := by
  have hp' : tmps[p]?.getD undef = .pointer (some ⟨g, 0, none⟩) := by simpa using hp
  have hq' : tmps[q]?.getD undef = .pointer (some ⟨g2, 0, none⟩) := by simpa using hp2
  simp [results, h, hp', hq', asAddr, Sem.run_bind, run_loadVar_row w g t ty cs fr d hg hu hd hi, run_loadVar_row w g2 t2 tz cs2 fr2 d2 hg2 hu2 hd2 hi2]

/-- Where a text's digits end. -/
def badAt : List UInt8 → Nat
  | [] => 0
  | c :: l => if isDg c.toNat then badAt l + 1 else 0
theorem badAt_le (l : List UInt8) : badAt l ≤ l.length := by
  induction l with
  | nil => exact Nat.le_refl _
  | cons c l ih => unfold badAt; split <;> simp <;> omega
theorem badAt_bad (l : List UInt8) : ∀ i, i < l.length → (∀ j, j < i → isDg (l.getD j 0).toNat = true) → isDg (l.getD i 0).toNat = false → badAt l = i := by
  induction l with
  | nil => intro i h; simp at h
  | cons c l ih =>
    intro i h ha hb
    cases i with
    | zero =>
      unfold badAt
      have : isDg c.toNat = false := hb
      rw [this]
      rfl
    | succ i =>
      unfold badAt
      have h0 : isDg c.toNat = true := ha 0 (by omega)
      rw [if_pos h0, ih i (by simpa using h) (fun j hj => ha (j + 1) (by omega)) hb]
theorem badAt_all (l : List UInt8) : (∀ j, j < l.length → isDg (l.getD j 0).toNat = true) → badAt l = l.length := by
  induction l with
  | nil => intro _; rfl
  | cons c l ih =>
    intro ha
    unfold badAt
    have h0 : isDg c.toNat = true := ha 0 (by simp)
    rw [if_pos h0, ih (fun j hj => ha (j + 1) (by simpa using hj))]
    rfl
/-- Two digits a byte. -/
def pairV : List UInt8 → List UInt8
  | a :: b :: l => UInt8.ofNat (16 * dgN a.toNat + dgN b.toNat) :: pairV l
  | _ => []
theorem pairV_get : ∀ (n : Nat) (l : List UInt8), l.length = 2 * n → (pairV l).length = n ∧ ∀ i, i < n → (pairV l).getD i 0 = UInt8.ofNat (16 * dgN (l.getD (2 * i) 0).toNat + dgN (l.getD (2 * i + 1) 0).toNat) := by
  intro n
  induction n with
  | zero =>
    intro l h
    obtain rfl := List.length_eq_zero_iff.1 (by simpa using h)
    exact ⟨rfl, fun i hi => by omega⟩
  | succ n ih =>
    intro l h
    match l, h with
    | a :: b :: l, h =>
      have := ih l (by simp at h; omega)
      refine ⟨by rw [pairV]; simp [this.1], fun i hi => ?_⟩
      cases i with
      | zero => rfl
      | succ i =>
        rw [pairV, show 2 * (i + 1) = 2 * i + 1 + 1 by omega]
        exact this.2 i (by omega)
    | [a], h => simp at h; omega
    | [], h => simp at h
theorem dgN_lt (c : Nat) : dgN c < 16 := by unfold dgN; split; omega; split <;> omega
/-- What a text tells: the name, what is wrong, and where. -/
def prs (l : List UInt8) : List UInt8 × Nat × Nat :=
  if badAt l < l.length then (zeros32, 4, badAt l) else if l.length = 64 then (pairV l, 0, 0) else (zeros32, 4, min l.length 64)

end Go.Proofs.YtojgikaoiegmpaaGreatDoor
