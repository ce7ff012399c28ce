/- Package hash: a block's words (stretched). -/
import Derived.Test.YtgnpdnkmhjocjaaDoorSm
import Derived.Test.YtgnpdnkmhjocjaaDoorSb
import Derived.Test.YtgnpdnkmhjocjaaDoorSp
namespace Go.Proofs.YtgnpdnkmhjocjaaDoor
open Go.RowKit Go.IntWalk
set_option linter.unusedSimpArgs false
set_option linter.unusedVariables false

/-- A fact that no tactic opens. -/
structure Shut (p : Prop) : Prop where
  out : p

/-- Words, as cells. -/
def uv (ws : List Nat) : List Value := ws.map fun (n : Nat) => Value.int .u32 (n : Int)
theorem uv_length (ws : List Nat) : (uv ws).length = ws.length := by simp [uv]
theorem uv_one (ws : List Nat) : ∀ u ∈ uv ws, u.oneCell' = true := by
  intro u hu
  obtain ⟨_, _, rfl⟩ := List.mem_map.1 hu
  rfl
theorem uv_all (ws : List Nat) : (uv ws).toArray.all (·.oneCell') = true := all_oneCell_toArray (uv_one ws)
theorem uv_get (ws : List Nat) (j : Nat) (h : j < ws.length) : (uv ws).toArray[j]? = some (.int .u32 (ws.getD j 0 : Nat)) := by simp [uv, h]
theorem uv_set (ws : List Nat) (j n : Nat) : (uv ws).toArray.setIfInBounds j (.int .u32 (n : Int)) = (uv (ws.set j n)).toArray := by simp [uv, List.map_set]
/-- An array of words in memory. -/
def Words (w : World) (b : Nat) (t : TypeId) (ws : List Nat) : Prop := w.heap[b]? = some (.cells (uv ws).toArray t (0, 0))
theorem Words.cell {w : World} {b : Nat} {t : TypeId} {ws : List Nat} (h : Words w b t ws) (j : Nat) (hj : j < ws.length) : w.cell? ⟨b, j, none⟩ = some (.int .u32 (ws.getD j 0 : Nat)) := cellOfHeap h j (uv_get ws j hj)
theorem Words.set {w : World} {b : Nat} {t : TypeId} {ws : List Nat} (h : Words w b t ws) (j n : Nat) : Words (w.setCell ⟨b, j, none⟩ (.int .u32 (n : Int))) b t (ws.set j n) := by
  unfold Words
  rw [heap_setCell_same w b j _ t _ h, uv_set]
theorem Words.fr {S : Nat → Prop} {w w' : World} {b : Nat} {t : TypeId} {ws : List Nat} (h : Words w b t ws) (hF : Fr S w w') (hS : ¬ S b) : Words w' b t ws := (hF.block b (Array.getElem?_eq_some_iff.1 h).1 hS).trans h
theorem Words.lt {w : World} {b : Nat} {t : TypeId} {ws : List Nat} (h : Words w b t ws) : b < w.heap.size := (Array.getElem?_eq_some_iff.1 h).1

theorem or_byte (a b : Nat) (ha : a < 16777216) (hb : b < 256) : bits .or .u32 ((a : Int) * 256 % 4294967296) (b : Int) = ((a * 256 + b : Nat) : Int) := by
  rw [show (a : Int) * 256 % 4294967296 = ((a * 256 : Nat) : Int) by omega, u32_or _ _ (by omega) (by omega)]
  have : a * 256 ||| b = a * 256 + b := by
    have := Nat.two_pow_add_eq_or_of_lt (i := 8) (b := b) (by omega) a
    rw [show (2 : Nat) ^ 8 * a = a * 256 by omega] at this
    exact this.symm
  show ((a * 256 ||| b : Nat) : Int) = _
  rw [this]

theorem Tryd.infoBlk : (Tryd.prog.info? 48).map (·.size) = some 64 := by kernel_rfl
theorem Tryd.infoW64 : (Tryd.prog.info? 68).map (·.size) = some 64 := by kernel_rfl

theorem run_add_u32 (w : World) (a b : Nat) : (binOp .add 44 (.int .u32 (a : Int)) (.int .u32 (b : Int))).run Tryd.prog w = .ok (.int .u32 ((Sha.add a b : Nat) : Int)) w := by
  rw [← add_int]
  simp [go_sem, binOp, IntKind.wrap_u32]
theorem run_sub_i64 {P : Program} (w : World) (t : TypeId) (a b : Int) (ht : P.underlying t = some (.int .i64)) (h0 : -9223372036854775808 ≤ a - b) (h1 : a - b ≤ 9223372036854775807) : (binOp .sub t (.int .i64 a) (.int .i64 b)).run P w = .ok (.int .i64 (a - b)) w := by
  have : IntKind.i64.wrap (a - b) = a - b := by rw [IntKind.wrap_i64]; omega
  simp [go_sem, binOp, this]
theorem run_idx_arr {P : Program} (w : World) (t e : TypeId) (n b off k o : Nat) (i : Int) (ht : P.underlying t = some (.array n e)) (hsz : (P.info? e).map (·.size) = some 1) (hi : i = (k : Int)) (hk : k < n) (h2 : 2 ≤ n) (ho : o = off + k) :
    (Instr.indexAt t (.pointer (some ⟨b, off, none⟩)) (.int .i64 i)).run P w = .ok (.pointer (some ⟨b, o, none⟩)) w := by
  subst hi ho
  cases hie : P.info? e with
  | none => simp [hie] at hsz
  | some ie =>
    have h1 : ie.size = 1 := by simpa [hie] using hsz
    have h3 : ¬ n ≤ k := by omega
    have h4 : (0 : Int) ≤ (k : Int) ∧ (k : Int) < (n : Int) := by omega
    simp [Instr.indexAt, Instr.sureAddr, run_underlying ht, asIntOf, h3, h4, sizeOf, typeInfo, hie, h1, Addr.add_lit, go_sem]
section
variable {P : Program} {o : Oper} {a : Act} {w : World}
theorem yields_idx (t : TypeId) (x y : Operand) (ho : o.op = .indexAddr t x y) (v1 v2 : Value) (hx : a.eval x = v1) (hy : a.eval y = v2) {v : Value}
    (hrun : (Instr.indexAt t v1 v2).run P w = .ok v w) : (execOp a.eval o).run P w = .ok (.value v) w := by
  unfold execOp
  simp only [ho, hx, hy, Sem.run_bind, hrun, Result.andThen_ok, Sem.run_pure]
end

theorem cell_set_off (w : World) (b j k : Nat) (v : Value) (h : k ≠ j) : ((w.setCell ⟨b, j, none⟩ v).drew).cell? ⟨b, k, none⟩ = w.cell? ⟨b, k, none⟩ := by
  show (w.setCell ⟨b, j, none⟩ v).cell? ⟨b, k, none⟩ = _
  cases hb : w.heap[b]? with
  | none => simp [World.cell?, World.setCell, hb, Array.getElem?_modify]
  | some o => cases o <;> simp [World.cell?, World.setCell, hb, Array.getElem?_modify, Array.getElem?_setIfInBounds, Ne.symm h]

theorem store_words (w : World) (b : Nat) (t : TypeId) (ws : List Nat) (A : Array Value) (h : w.heap[b]? = some (.cells A t (0, 0))) (hl : ws.length = A.size) : (w.setCells b 0 (uv ws).toArray.toList).heap[b]? = some (.cells (uv ws).toArray t (0, 0)) := by
  have := setCells_full b t (uv ws).toArray.toList w A h (by simp [uv_length, hl])
  simpa using this
theorem wrap_add (a b : Nat) : IntKind.u32.wrap ((a : Int) + (b : Int)) = ((Sha.add a b : Nat) : Int) := by rw [IntKind.wrap_u32, add_int]

/-- Sixty-four words that are 0. -/
def z64w : Array Value := #[.int .u32 0, .int .u32 0, .int .u32 0, .int .u32 0, .int .u32 0, .int .u32 0, .int .u32 0, .int .u32 0, .int .u32 0, .int .u32 0, .int .u32 0, .int .u32 0, .int .u32 0, .int .u32 0, .int .u32 0, .int .u32 0, .int .u32 0, .int .u32 0, .int .u32 0, .int .u32 0, .int .u32 0, .int .u32 0, .int .u32 0, .int .u32 0, .int .u32 0, .int .u32 0, .int .u32 0, .int .u32 0, .int .u32 0, .int .u32 0, .int .u32 0, .int .u32 0, .int .u32 0, .int .u32 0, .int .u32 0, .int .u32 0, .int .u32 0, .int .u32 0, .int .u32 0, .int .u32 0, .int .u32 0, .int .u32 0, .int .u32 0, .int .u32 0, .int .u32 0, .int .u32 0, .int .u32 0, .int .u32 0, .int .u32 0, .int .u32 0, .int .u32 0, .int .u32 0, .int .u32 0, .int .u32 0, .int .u32 0, .int .u32 0, .int .u32 0, .int .u32 0, .int .u32 0, .int .u32 0, .int .u32 0, .int .u32 0, .int .u32 0, .int .u32 0]
theorem z64w_eq (blk : List UInt8) : z64w = (uv (Sha.part blk 0)).toArray := by rw [Sha.part_zero]; rfl
def sw0 (w : World) (blk : List UInt8) : World := ((w.alloc (.cells (bv blk).toArray 48)).alloc (.cells z64w 68)).alloc (.cells z64w 68)

/-- An element of an array that is a value. -/
theorem run_index_arr {P : Program} (w : World) (t e : TypeId) (n k : Nat) (cs : Array Value) (v : Value) (d : TypeDesc) (ht : P.underlying t = some (.array n e)) (he : P.underlying e = some d) (hd : d.isRow = false) (hsz : (P.info? e).map (·.size) = some 1) (hk : k < n) (hv : cs[k]? = some v) :
    (Instr.index t (.agg cs) (.int .i64 (k : Int))).run P w = .ok v w := by
  cases hi : P.info? e with
  | none => simp [hi] at hsz
  | some ie =>
    have h1 : ie.size = 1 := by simpa [hi] using hsz
    have h2 : (0 : Int) ≤ (k : Int) ∧ (k : Int) < (n : Int) := by omega
    have h3 : ¬ n ≤ k := by omega
    cases d <;> simp [TypeDesc.isRow] at hd <;> simp [Instr.index, asIntOf, run_underlying ht, h2, h3, sizeOf, typeInfo, hi, h1, part, isAgg, run_underlying he, hv, go_sem]
theorem Tryd.infoU8s : (Tryd.prog.info? 5).map (·.size) = some 1 := by kernel_rfl
theorem Tryd.infoU32s : (Tryd.prog.info? 44).map (·.size) = some 1 := by kernel_rfl

set_option maxRecDepth 100000 in
set_option maxHeartbeats 3000000 in
theorem stretched_any (blk : List UInt8) (hl : blk.length = 64) (ws : List Nat) (HWS : Shut (Sha.sched blk = ws)) (w : World) :
    Calls Tryd.prog 37 #[.agg (bv blk).toArray] w fun e w' => e = .returned (.agg (uv ws).toArray) ∧ Fr (fun _ => False) w w' := by
  have HI := hideIt (show (Tryd.prog.info? 48).map (·.size) = some (bv blk).length by rw [bv_length, hl]; exact Tryd.infoBlk)
  have HR0 := hideIt (show (sw0 w blk).rangeAt w.heap.size 0 (bv blk) from rangeOf (heap_old (heap_old (heap_new rfl))))
  have F0 : Fr (fun _ => False) w (sw0 w blk) := (((Fr.refl _ w).alloc _).alloc _).alloc _
  have W0 : Words (sw0 w blk) (w.heap.size + 1 + 1) 68 (Sha.part blk 0) := by
    unfold Words
    rw [← z64w_eq blk]
    exact heap_new (by simp)
  have Z0 : (sw0 w blk).heap[w.heap.size + 1]? = some (.cells z64w 68 (0, 0)) := heap_old (heap_new (by simp))
  have HF0 := hideIt F0
  have HW0 := hideIt W0
  have HZ0 := hideIt Z0
  clear F0 W0 Z0
  go_enter Tryd.func37, Tryd.ntmps37
  go_wp2_with (first | (refine wpList_load_mid rfl 48 (.tmp 1) rfl w.heap.size 0 rfl (bv blk) _ HR0.out Tryd.underlying48 rfl HI.out ?_))
  go_loopw [8] (fun i wr => ∃ k : Nat, i = .int .i64 k ∧ k ≤ 64 ∧ Words wr (w.heap.size + 1 + 1) 68 (Sha.part blk k) ∧ Fr (fun _ => False) w wr ∧ wr.heap[w.heap.size + 1]? = some (.cells z64w 68 (0, 0)))
    (fun i _ => 64 - (intOf i).toNat)
  case atStart => exact ⟨0, rfl, by omega, HW0.out, HF0.out, HZ0.out⟩
  case round =>
    obtain ⟨k, rfl, hk, hW, hF, hZ⟩ := hrel
    by_cases hlt : k < 64
    · have hkb : k < blk.length := by omega
      have hs := Sha.part_small blk k hlt
      have hc := hW.cell (k / 4) (by rw [Sha.part_len]; omega)
      have hfz := frozen_of_row wr (w.heap.size + 1 + 1) (k / 4) _ _ hW
      have HSU := hideIt (Sha.part_succ blk k hl hlt)
      have HST := hideIt (hW.set (k / 4) ((Sha.part blk k).getD (k / 4) 0 * 256 + blk[k].toNat))
      have hix : ∀ w, (Instr.index 48 (.agg (bv blk).toArray) (.int .i64 (k : Int))).run Tryd.prog w = .ok (.int .u8 blk[k].toNat) w := fun w => run_index_arr w 48 5 64 k _ _ _ Tryd.underlying48 Tryd.underlying5 rfl Tryd.infoU8s hlt (by simp [bv, hkb])
      have hb := UInt8.toNat_lt blk[k]
      have HOB := hideIt (or_byte ((Sha.part blk k).getD (k / 4) 0) blk[k].toNat hs hb)
      have HF := hideIt hF
      have HZ := hideIt hZ
      clear hF hZ hW hs
      generalize (Sha.part blk k).getD (k / 4) 0 = n at hc HSU HST HOB
      generalize blk[k] = x at hix hb HOB HSU HST
      generalize (bv blk).toArray = V at hix ⊢
      go_wp2_with fail
      rw [HOB.out]
      go_roundw
      case measure => simp [intOf]; omega
      case rel =>
        have hfr : Fr (fun j => j = w.heap.size + 1 + 1) wr (wr.setCell ⟨w.heap.size + 1 + 1, k / 4, none⟩ (.int .u32 ((n * 256 + x.toNat : Nat) : Int))) := (Fr.refl (fun j => j = w.heap.size + 1 + 1) wr).setCell (p := ⟨w.heap.size + 1 + 1, k / 4, none⟩) (fun _ => rfl) _
        exact ⟨k + 1, by go_num, by omega, by rw [HSU.out]; exact HST.out, HF.out.trans hfr (fun i hi e => by omega), (hfr.block _ (by have := (Array.getElem?_eq_some_iff.1 HZ.out).1; exact this) (by omega)).trans HZ.out⟩
    · have hk64 : k = 64 := by omega
      rw [hk64, ← Sha.upto_first blk hl] at hW
      clear hk64
      have HW := hideIt hW
      have HF := hideIt hF
      have HZ := hideIt hZ
      clear hW hF hZ hl HI HR0
      generalize (bv blk).toArray = V
      go_wp2_with fail
      go_loopw [6] (fun i wr => ∃ k : Nat, i = .int .i64 k ∧ 16 ≤ k ∧ k ≤ 64 ∧ Words wr (w.heap.size + 1 + 1) 68 (Sha.upto blk k) ∧ Fr (fun _ => False) w wr ∧ wr.heap[w.heap.size + 1]? = some (.cells z64w 68 (0, 0)))
        (fun i _ => 64 - (intOf i).toNat)
      case atStart => exact ⟨16, rfl, by omega, by omega, HW.out, HF.out, HZ.out⟩
      case round =>
        clear HW HF HZ
        obtain ⟨k, rfl, hk16, hk, hW, hF, hZ⟩ := hrel
        by_cases hlt : k < 64
        · have hln := Sha.upto_len blk k hk16 hk
          have hc2 := hW.cell (k - 2) (by omega)
          have hc7 := hW.cell (k - 7) (by omega)
          have hc15 := hW.cell (k - 15) (by omega)
          have hc16 := hW.cell (k - 16) (by omega)
          have hget : ∀ j, j < 64 → (Sha.upto blk k).getD j 0 < 4294967296 := fun j hj => by
            have hj' : j < (Sha.upto blk k).length := by omega
            simp only [List.getD, List.getElem?_eq_getElem hj', Option.getD_some]
            exact Sha.upto_lt blk k _ (List.getElem_mem hj')
          have l2 := hget (k - 2) (by omega)
          have l15 := hget (k - 15) (by omega)
          have hfz := frozen_of_row wr (w.heap.size + 1 + 1) k _ _ hW
          have hck := hW.cell k (by omega)
          have HSU := hideIt (Sha.upto_succ blk k hk16 hlt)
          have HST := hideIt (hW.set k (Sha.add (Sha.add (Sha.add (Sha.loQ ((Sha.upto blk k).getD (k - 2) 0)) ((Sha.upto blk k).getD (k - 7) 0)) (Sha.loP ((Sha.upto blk k).getD (k - 15) 0))) ((Sha.upto blk k).getD (k - 16) 0)))
          have i2 : ((k : Int) - 2).toNat = k - 2 := by omega
          have i7 : ((k : Int) - 7).toNat = k - 7 := by omega
          have i15 : ((k : Int) - 15).toNat = k - 15 := by omega
          have i16 : ((k : Int) - 16).toNat = k - 16 := by omega
          have k16' : (16 : Int) ≤ (k : Int) := by omega
          have k64' : (k : Int) < 64 := by omega
          have r2 : IntKind.i64.wrap ((k : Int) - 2) = (k : Int) - 2 := by rw [IntKind.wrap_i64]; omega
          have r7 : IntKind.i64.wrap ((k : Int) - 7) = (k : Int) - 7 := by rw [IntKind.wrap_i64]; omega
          have r15 : IntKind.i64.wrap ((k : Int) - 15) = (k : Int) - 15 := by rw [IntKind.wrap_i64]; omega
          have r16 : IntKind.i64.wrap ((k : Int) - 16) = (k : Int) - 16 := by rw [IntKind.wrap_i64]; omega
          have g2 : 0 ≤ (k : Int) - 2 := by omega
          have g7 : 0 ≤ (k : Int) - 7 := by omega
          have g15 : 0 ≤ (k : Int) - 15 := by omega
          have g16 : 0 ≤ (k : Int) - 16 := by omega
          have f2 : (k : Int) - 2 < 64 := by omega
          have f7 : (k : Int) - 7 < 64 := by omega
          have f15 : (k : Int) - 15 < 64 := by omega
          have f16 : (k : Int) - 16 < 64 := by omega
          have HF := hideIt hF
          have HZ := hideIt hZ
          clear hF hZ hget hln
          generalize (Sha.upto blk k).getD (k - 2) 0 = a2 at hc2 l2 HSU HST
          generalize (Sha.upto blk k).getD (k - 7) 0 = a7 at hc7 HSU HST
          generalize (Sha.upto blk k).getD (k - 15) 0 = a15 at hc15 l15 HSU HST
          generalize (Sha.upto blk k).getD (k - 16) 0 = a16 at hc16 HSU HST
          generalize (Sha.upto blk k).getD k 0 = a0 at hck
          clear hW
          have m2 : (2 : Int) ≤ (k : Int) := by omega
          have m7 : (7 : Int) ≤ (k : Int) := by omega
          have m15 : (15 : Int) ≤ (k : Int) := by omega
          have n2 : (k : Int) < 66 := by omega
          have n7 : (k : Int) < 71 := by omega
          have n15 : (k : Int) < 79 := by omega
          have n16 : (k : Int) < 80 := by omega
          have HKP := hideIt (show ∀ v : Value, ((wr.setCell ⟨w.heap.size + 1 + 1, k, none⟩ v).drew).cell? ⟨w.heap.size + 1 + 1, k - 2, none⟩ = some (.int .u32 (a2 : Int)) ∧ ((wr.setCell ⟨w.heap.size + 1 + 1, k, none⟩ v).drew).cell? ⟨w.heap.size + 1 + 1, k - 7, none⟩ = some (.int .u32 (a7 : Int)) ∧ ((wr.setCell ⟨w.heap.size + 1 + 1, k, none⟩ v).drew).cell? ⟨w.heap.size + 1 + 1, k - 15, none⟩ = some (.int .u32 (a15 : Int)) ∧ ((wr.setCell ⟨w.heap.size + 1 + 1, k, none⟩ v).drew).cell? ⟨w.heap.size + 1 + 1, k - 16, none⟩ = some (.int .u32 (a16 : Int)) from fun v =>
            ⟨(cell_set_off wr _ _ _ v (by omega)).trans hc2, (cell_set_off wr _ _ _ v (by omega)).trans hc7, (cell_set_off wr _ _ _ v (by omega)).trans hc15, (cell_set_off wr _ _ _ v (by omega)).trans hc16⟩)
          obtain ⟨q2, hq2⟩ : ∃ q, q = Sha.loQ a2 := ⟨_, rfl⟩
          obtain ⟨p15, hp15⟩ : ∃ q, q = Sha.loP a15 := ⟨_, rfl⟩
          rw [← hq2, ← hp15] at HSU HST
          have HTQ := hideIt (fun w => by have := turnQ_any a2 l2 w; rw [← hq2] at this; exact this)
          have HTP := hideIt (fun w => by have := turnP_any a15 l15 w; rw [← hp15] at this; exact this)
          clear hq2 hp15
          go_wp2_with fail
          go_region_held2 (fun w' => w'.cell? ⟨w.heap.size + 1 + 1, k - 2, none⟩ = some (.int .u32 (a2 : Int)) ∧ w'.cell? ⟨w.heap.size + 1 + 1, k - 7, none⟩ = some (.int .u32 (a7 : Int)) ∧ w'.cell? ⟨w.heap.size + 1 + 1, k - 15, none⟩ = some (.int .u32 (a15 : Int)) ∧ w'.cell? ⟨w.heap.size + 1 + 1, k - 16, none⟩ = some (.int .u32 (a16 : Int)))
            (first | exact HKP.out _ | go_keep)
            (first | (go_at_call 47; refine Calls.mono (HTQ.out _) ?_; rintro e w' ⟨rfl, rfl⟩) | (go_at_call 48; refine Calls.mono (HTP.out _) ?_; rintro e w' ⟨rfl, rfl⟩))
          rw [wrap_add, wrap_add, wrap_add]
          generalize Sha.add (Sha.add (Sha.add q2 a7) p15) a16 = vv at HSU HST ⊢
          go_wp2_with fail
          go_roundw
          case measure => simp [intOf]; omega
          case rel =>
            have hfr : Fr (fun j => j = w.heap.size + 1 + 1) wr ((wr.setCell ⟨w.heap.size + 1 + 1, k, none⟩ (.int .u32 (vv : Int))).drew) := ((Fr.refl (fun j => j = w.heap.size + 1 + 1) wr).setCell (p := ⟨w.heap.size + 1 + 1, k, none⟩) (fun _ => rfl) _).drew
            exact ⟨k + 1, by go_num, by omega, by omega, by rw [HSU.out]; exact HST.out, HF.out.trans hfr (fun i hi e => by omega), (hfr.block _ (by have := (Array.getElem?_eq_some_iff.1 HZ.out).1; exact this) (by omega)).trans HZ.out⟩
        · have hk64 : k = 64 := by omega
          rw [hk64, Sha.upto_last, HWS.out] at hW
          clear hk64
          have hln : ws.length = 64 := by rw [← HWS.out, ← Sha.upto_last]; exact Sha.upto_len blk 64 (by omega) (by omega)
          have HW := hideIt (show wr.rangeAt (w.heap.size + 1 + 1) 0 (uv ws) from rangeOf hW)
          have HIL := hideIt (show (Tryd.prog.info? 68).map (·.size) = some (uv ws).length by rw [uv_length, hln]; exact Tryd.infoW64)
          have HIA := hideIt (show (Tryd.prog.info? 68).map (·.size) = some (uv ws).toArray.size by rw [List.size_toArray, uv_length, hln]; exact Tryd.infoW64)
          have HT := hideIt (thereNew wr (w.heap.size + 1) z64w 68 hZ (uv ws).toArray.size (by rw [List.size_toArray, uv_length, hln]; rfl))
          have H1 := hideIt (uv_all ws)
          have HF := hideIt hF
          have HZ := hideIt hZ
          have HFULL := hideIt (store_words wr (w.heap.size + 1) 68 ws z64w hZ (by rw [hln]; rfl))
          clear hW hF hZ hln HF0 HW0 HZ0
          go_wp2_with (first | (refine wpList_load_mid rfl 68 (.tmp 3) rfl (w.heap.size + 1 + 1) 0 rfl (uv ws) _ HW.out Tryd.underlying68 rfl HIL.out ?_) | (refine wpList_store_abs rfl 68 (.tmp 2) (.tmp 51) rfl (w.heap.size + 1) 0 (uv ws).toArray rfl rfl HT.out HIA.out H1.out ?_; intro W5 hW5; have HW5 := hideIt hW5; clear hW5))
          refine bodyPost_ret (results_cell_row Tryd.results37 _ _ (w.heap.size + 1) 68 (uv ws).toArray (0, 0) _ rfl ?_ Tryd.underlying68 rfl HIA.out) rfl ⟨rfl, ?_⟩
          · rw [HW5.out]
            exact HFULL.out
          · rw [HW5.out]
            exact HF.out.trans (Fr.setCells _ _ _ _) (fun i hi e => by omega)

end Go.Proofs.YtgnpdnkmhjocjaaDoor
