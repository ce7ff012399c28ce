/- Package hash: bytes written to a digest (Write), walked. -/
import Derived.Test.YtgnpdnkmhjocjaaDoorSh
import Derived.Deep.MidRow
namespace Go.Proofs.YtgnpdnkmhjocjaaDoor
open Go.RowKit Go.IntWalk
set_option linter.unusedSimpArgs false
set_option linter.unusedVariables false

/-- copy, by its run, as one step of a region that draws its order. -/
theorem step_copy_run {P : Program} {ops : Array Oper} {o : Oper} {a : Act} {w : World} {K : Act → World → Prop} {Q : Exit → Act → World → Prop} {E : Prop}
    (hg : o.guard = none) (s x : Operand) (t tx : TypeId) (hop : o.op = Op.call { callee := Callee.builtin Builtin.copy, args := #[s, x], argTypes := #[t, tx] })
    (v y v' : Value) (w' : World) (hs : a.eval s = v) (hx : a.eval x = y) (hrun : (Builtin.copy_ #[t, tx] o.type #[v, y]).run P w = .ok v' w') (hK : K (a.put o.dst v') w') :
    if Region.wanted o (yielded ops a.tmps) = true then Oper.wp P o a w K Q else E := by
  have hw : Region.wanted o (yielded ops a.tmps) = true := by simp [Region.wanted, hg]
  rw [if_pos hw]
  unfold Oper.wp
  simp [execOp, hop, resolve, invoke, builtin, hs, hx, hrun, Result.andThen]
  exact hK

theorem dgL_over (s : Sha.St) (blk c : List UInt8) (n r : Nat) (hl : blk.length = 64) (h : r + c.length ≤ 64) :
    (dgL s blk n).take (9 + r) ++ bv c ++ (dgL s blk n).drop (9 + r + c.length) = dgL s (over blk r c) n := by
  obtain ⟨H, hH⟩ : ∃ H : List Value, H = .bool true :: (stA s).toList := ⟨_, rfl⟩
  obtain ⟨N, hN⟩ : ∃ N : List Value, N = [.int .i64 (n : Int)] := ⟨_, rfl⟩
  have h9 : H.length = 9 := by rw [hH]; rfl
  have e : ∀ b, dgL s b n = H ++ (bv b ++ N) := fun b => by rw [hH, hN]; rfl
  have t1 := List.take_length_add_append (l₁ := H) (l₂ := bv blk ++ N) r
  have t2 := List.drop_length_add_append (l₁ := H) (l₂ := bv blk ++ N) (r + c.length)
  rw [h9] at t1 t2
  rw [e, e, Nat.add_assoc, t1, t2, List.take_append_of_le_length (by rw [bv_length]; omega), List.drop_append_of_le_length (by rw [bv_length]; omega)]
  unfold over
  rw [bv_append, bv_append]
  unfold bv
  rw [List.map_take, List.map_drop]
  simp
theorem dgL_size (s : Sha.St) (blk : List UInt8) (n n' : Nat) (hl : blk.length = 64) : (dgL s blk n).toArray.setIfInBounds 73 (.int .i64 (n' : Int)) = (dgL s blk n').toArray := by
  obtain ⟨H, hH⟩ : ∃ H : List Value, H = (.bool true :: (stA s).toList) ++ bv blk := ⟨_, rfl⟩
  have h9 : H.length = 73 := by rw [hH, List.length_append, bv_length, hl]; rfl
  have e : ∀ n : Nat, dgL s blk n = H ++ [.int .i64 (n : Int)] := fun n => by rw [hH]; unfold dgL; simp
  apply Array.ext'
  rw [Array.toList_setIfInBounds]
  show (dgL s blk n).set 73 _ = dgL s blk n'
  rw [e, e, List.set_append_right _ _ (by omega), h9]
  rfl
theorem dg_state {w : World} {p : Nat} {s : Sha.St} {blk : List UInt8} {n : Nat} (h : DgAt w p s blk n) (s' : Sha.St) : DgAt (w.setCells p 1 (stA s').toList) p s' blk n := by
  obtain ⟨A, h1, h2⟩ := setCells_heap p 50 (stA s').toList 1 w _ h.1 (by show 1 + 8 ≤ (dgL s blk n).toArray.size; rw [List.size_toArray]; unfold dgL; simp [bv_length, h.2, stA])
  refine ⟨?_, h.2⟩
  rw [h1]
  have e : A = (dgL s' blk n).toArray := by
    apply Array.ext'
    rw [h2]
    rfl
  rw [e]
theorem dg_put {w : World} {p : Nat} {s : Sha.St} {blk : List UInt8} {n : Nat} (h : DgAt w p s blk n) (c : List UInt8) (r : Nat) (hr : r + c.length ≤ 64) : DgAt (w.setRow p (dgL s (over blk r c) n).toArray) p s (over blk r c) n :=
  ⟨setRow_heap w p _ _ 50 (0, 0) h.1, over_len blk r c h.2 hr⟩
theorem fr_row (w : World) (p : Nat) (X : Array Value) : Fr (fun k => k = p) w (w.setRow p X) := ⟨rfl, rfl, rfl, by simp, fun j _ hj => setRow_other w p j _ hj⟩
theorem dg_size {w : World} {p : Nat} {s : Sha.St} {blk : List UInt8} {n : Nat} (h : DgAt w p s blk n) (n' : Nat) : DgAt (w.setCell ⟨p, 73, none⟩ (.int .i64 (n' : Int))) p s blk n' := by
  refine ⟨?_, h.2⟩
  rw [heap_setCell_same w p 73 _ _ (.int .i64 (n' : Int)) h.1, dgL_size s blk n n' h.2]
theorem dg_copy {w : World} {p : Nat} {s : Sha.St} {blk : List UInt8} {n : Nat} (h : DgAt w p s blk n) (b off : Nat) (l : List UInt8) (cap r : Nat) (hc : ∀ j (hj : j < l.length), w.cell? ⟨b, off + j, none⟩ = some (.int .u8 l[j].toNat)) (hr : r < 64) (ty : TypeId) (k : Nat) (hk : k = min (64 - r) l.length) :
    (Builtin.copy_ #[27, 27] ty #[.slice (some ⟨p, 9 + r, none⟩) (64 - r) (64 - r), .slice (some ⟨b, off, none⟩) l.length cap]).run Tryd.prog w = .ok (.int .i64 (k : Int)) (w.setRow p (dgL s (over blk r (l.take k)) n).toArray) := by
  have hlen : (bv (l.take k)).length = k := by rw [bv_length, List.length_take]; omega
  have hszD : (dgL s blk n).toArray.size = 74 := by rw [List.size_toArray]; unfold dgL; simp [bv_length, h.2, stA]
  have hrun := run_copy_row (P := Tryd.prog) w 27 27 ty 5 p (9 + r) (64 - r) (64 - r) ⟨b, off, none⟩ l.length cap _ 50 (bv (l.take k)) Tryd.underlying27 Tryd.infoU8s h.1 (by rw [hlen, hk]; exact Nat.min_comm _ _)
    (fun j v hv => by
      have hj : j < (l.take k).length := by have := (List.getElem?_eq_some_iff.1 hv).1; rwa [bv_length] at this
      rw [bv_get _ _ hj] at hv
      obtain rfl := Option.some.inj hv
      rw [Addr.add_lit, List.getElem_take]
      exact hc j (by rw [List.length_take] at hj; omega)) (by rw [hlen, hszD]; omega) (bv_one _)
  rw [hlen] at hrun
  have e := dgL_over s blk (l.take k) n r h.2 (by rw [List.length_take]; omega)
  rw [show (l.take k).length = k by rw [List.length_take]; omega] at e
  rw [show ((dgL s blk n).toArray.toList.take (9 + r) ++ bv (l.take k) ++ (dgL s blk n).toArray.toList.drop (9 + r + k)) = dgL s (over blk r (l.take k)) n from e] at hrun
  exact hrun
theorem bs_drop {w : World} {b off : Nat} {l : List UInt8} (hc : ∀ j (hj : j < l.length), w.cell? ⟨b, off + j, none⟩ = some (.int .u8 l[j].toNat)) (k cap : Nat) (hk : k ≤ l.length) (hcap : l.length ≤ cap) :
    BsAt w (if cap = k then some ⟨b, off, none⟩ else some ⟨b, off + k, none⟩) (l.drop k) := by
  by_cases e : cap = k
  · rw [if_pos e]
    exact Or.inr ⟨b, off, rfl, fun j hj => by rw [List.length_drop] at hj; omega⟩
  · rw [if_neg e]
    exact Or.inr ⟨b, off + k, rfl, fun j hj => by
      rw [List.length_drop] at hj
      rw [List.getElem_drop, Nat.add_assoc]
      exact hc (k + j) (by omega)⟩
theorem dg_len {w : World} {p : Nat} {s : Sha.St} {blk : List UInt8} {n : Nat} (h : DgAt w p s blk n) : (dgL s blk n).toArray.size = 74 := by rw [List.size_toArray]; unfold dgL; simp [bv_length, h.2, stA]
theorem dg_there {w : World} {p : Nat} {s : Sha.St} {blk : List UInt8} {n : Nat} (h : DgAt w p s blk n) (o k : Nat) (hk : o + k ≤ 74) : w.there p o k := fun j hj => by
  rw [cell_of_row w p (o + j) _ _ _ h.1]
  refine ⟨?_, frozen_of_row w p (o + j) _ _ h.1⟩
  have := dg_len h
  simp only [Option.isSome_iff_exists]
  exact ⟨_, Array.getElem?_eq_getElem (by omega)⟩
theorem dg_st {w : World} {p : Nat} {s : Sha.St} {blk : List UInt8} {n : Nat} (h : DgAt w p s blk n) : w.rangeAt p 1 (stA s).toList := fun j v hv => cellOfHeap h.1 (1 + j) (by
  have hj : j < (stA s).toList.length := (List.getElem?_eq_some_iff.1 hv).1
  show (dgL s blk n).toArray[1 + j]? = some v
  rw [List.getElem?_toArray, Nat.add_comm, dgL, List.getElem?_cons_succ, List.getElem?_append_left hj]
  exact hv)
theorem dg_blk {w : World} {p : Nat} {s : Sha.St} {blk : List UInt8} {n : Nat} (h : DgAt w p s blk n) : w.rangeAt p 9 (bv blk) := fun j v hv => cellOfHeap h.1 (9 + j) (by
  have hj : j < (bv blk).length := (List.getElem?_eq_some_iff.1 hv).1
  have h8 : (stA s).toList.length = 8 := rfl
  show (dgL s blk n).toArray[9 + j]? = some v
  rw [List.getElem?_toArray, show 9 + j = (8 + j) + 1 by omega, dgL, List.getElem?_cons_succ, List.getElem?_append_right (by omega), h8, Nat.add_sub_cancel_left, List.getElem?_append_left hj]
  exact hv)
theorem stA_one (s : Sha.St) : (stA s).all (·.oneCell') = true := by simp [stA, Value.oneCell']
def slLen : Value → Nat
  | .slice _ n _ => n
  | _ => 0

set_option maxRecDepth 100000 in
set_option maxHeartbeats 4000000 in
theorem dwrite_any (p : Nat) (s : Sha.St) (B m : List UInt8) (ao : Option Addr) (cap : Nat) (bs : List UInt8) (w : World) (hD : DgAt w p s B m.length) (hH : Has m s B) (hB : BsAt w ao bs) (hap : ∀ j, blk ao j → j ≠ p) (hcap : bs.length ≤ cap) (hG : Glob w) (hp : 2 ≤ p) (hl : m.length + bs.length ≤ 140737488355328) :
    Calls Tryd.prog 14 #[.pointer (some ⟨p, 0, none⟩), .slice ao bs.length cap] w fun e w' => e = .returned (.tuple #[]) ∧ ∃ s' B', DgAt w' p s' B' (m.length + bs.length) ∧ Has (m ++ bs) s' B' ∧ Fr (fun k => k = p) w w' := by
  have HN := hideIt (dnone_some p s B m.length w hD)
  have HD0 := hideIt (show DgAt w p s B (m.length + 0) from hD)
  have HH0 := hideIt (show Has (m ++ bs.take 0) s B by rw [List.take_zero, List.append_nil]; exact hH)
  have HB0 := hideIt (show BsAt w ao (bs.drop 0) from hB)
  have HA0 := hideIt hap
  have HG := hideIt hG
  have HF0 := hideIt (Fr.refl (fun k => k = p) w)
  clear hD hH hB hap hG
  go_enter Tryd.func14, Tryd.ntmps14
  go_wp2_with fail
  refine Calls.mono HN.out ?_
  rintro e w' ⟨rfl, rfl⟩
  go_wp2_with fail
  go_loopw [1] (fun x wr => ∃ (k cp : Nat) (a : Option Addr) (s1 : Sha.St) (B1 : List UInt8), x = .slice a (bs.length - k) cp ∧ k ≤ bs.length ∧ bs.length - k ≤ cp ∧ Hid (DgAt wr p s1 B1 (m.length + k)) ∧ Hid (Has (m ++ bs.take k) s1 B1) ∧ Hid (BsAt wr a (bs.drop k)) ∧ Hid (∀ j, blk a j → j ≠ p) ∧ Hid (Fr (fun k => k = p) w' wr)) (fun x _ => slLen x)
  case atStart => exact ⟨0, cap, ao, s, B, rfl, by omega, hcap, HD0, HH0, HB0, HA0, HF0⟩
  case round =>
    clear HD0 HH0 HB0 HA0 HF0 HN
    obtain ⟨k, cp, a, s1, B1, rfl, hk, hcp, HD, HH, HB, HA, HF⟩ := hrel
    by_cases hlt : k < bs.length
    · obtain ⟨b, off, rfl, hc⟩ : ∃ b off, a = some ⟨b, off, none⟩ ∧ ∀ j (h : j < (bs.drop k).length), wr.cell? ⟨b, off + j, none⟩ = some (.int .u8 (bs.drop k)[j].toNat) := by
        rcases HB.out with ⟨_, e⟩ | hh
        · have := congrArg List.length e
          rw [List.length_drop] at this
          simp at this
          omega
        · exact hh
      have hbp : b ≠ p := HA.out b ⟨_, rfl, rfl⟩
      obtain ⟨rest, hrest⟩ : ∃ rest, bs.drop k = rest := ⟨_, rfl⟩
      have hrl : bs.length - k = rest.length := by rw [← hrest, List.length_drop]
      rw [hrest] at hc
      have hrp : 0 < rest.length := by omega
      rw [hrl] at hcp ⊢
      obtain ⟨N, hNe⟩ : ∃ N, m.length + k = N := ⟨_, rfl⟩
      have HD1 := hideIt (show DgAt wr p s1 B1 N by rw [← hNe]; exact HD.out)
      obtain ⟨r, hr⟩ : ∃ r, N % 64 = r := ⟨_, rfl⟩
      have hr64 : r < 64 := by omega
      have hri : (N : Int) % 64 = (r : Int) := by omega
      have hNb : N + rest.length ≤ 140737488355328 := by omega
      obtain ⟨n, hn⟩ : ∃ n, n = min (64 - r) rest.length := ⟨_, rfl⟩
      have hn1 : 0 < n := by omega
      have hnr : n ≤ rest.length := by omega
      have hn64 : r + n ≤ 64 := by omega
      have HCP := hideIt (dg_copy (HD1.out.fr (Fr.refl (fun _ => False) wr).drew (fun e => e)) b off rest cp r (fun j hj => hc j hj) hr64 3 n hn)
      have HDR := hideIt (bs_drop hc n cp hnr hcp)
      have c73 := HD1.out.size
      have hpl := HD1.out.lt
      have hrt : ((N : Int)).tmod 64 = (r : Int) := by rw [Int.tmod_eq_emod_of_nonneg (by omega)]; exact hri
      have hri0 : (0 : Int) ≤ (r : Int) := by omega
      have hri1 : (r : Int) ≤ 64 := by omega
      have hrne : ¬ 64 = r := by omega
      have hnl : (rest.take n).length = n := by rw [List.length_take]; omega
      have HD2 := hideIt (dg_put (HD1.out.fr (Fr.refl (fun _ => False) wr).drew (fun e => e)) (rest.take n) r (by omega))
      have HC73 := hideIt (HD2.out.size)
      have HF2 := hideIt (HF.out.trans (((Fr.refl (fun k => k = p) wr).drew).trans (fr_row wr.drew p (dgL s1 (over B1 r (rest.take n)) N).toArray) (fun _ _ e => e)) (fun _ _ e => e))
      have HFW := hideIt (((Fr.refl (fun k => k = p) wr).drew).trans (fr_row wr.drew p (dgL s1 (over B1 r (rest.take n)) N).toArray) (fun _ _ e => e))
      have hbk : (m ++ bs.take k).length = N := by rw [List.length_append, List.length_take]; omega
      have HTK := hideIt (show m ++ bs.take (k + n) = (m ++ bs.take k) ++ rest.take n by rw [← hrest, List.take_add, List.append_assoc])
      have HPUT := hideIt (fun (h : r + n < 64) => show Has (m ++ bs.take (k + n)) s1 (over B1 r (rest.take n)) by
        have := HH.out.put (rest.take n) (by rw [hbk, hr, hnl]; omega)
        rwa [hbk, hr, ← HTK.out] at this)
      have HFUL := hideIt (fun (h : r + n = 64) => show Has (m ++ bs.take (k + n)) (Sha.block s1 (over B1 r (rest.take n))) (over B1 r (rest.take n)) by
        have := HH.out.full (rest.take n) (by rw [hbk, hr, hnl]; omega)
        rwa [hbk, hr, ← HTK.out] at this)
      have HS32 := hideIt (show St32 s1 from HH.out.st32)
      have HDK := hideIt (show (bs.drop (k + n)) = rest.drop n by rw [← hrest, List.drop_drop])
      clear hn hc HH HTK HB
      generalize over B1 r (rest.take n) = B2 at *
      go_wp2_with fail
      refine wp_region_held_drew (S := fun w2 => w2.cell? ⟨p, 73, none⟩ = some (.int .i64 (N : Int))) (by kernel_rfl) ?_ (fun hHeld => ?_)
      · exact c73
      refine wpAnyH_take (i := 0) (v := ?v1) rfl (by kernel_rfl) (by kernel_rfl) (by kernel_rfl) (fun _ _ _ h => h) (Or.inl ⟨by rfl, ?hy1⟩) (by assumption) ?rest1
      case hy1 => intro w hSw; (try dsimp only at hSw); go_simp; (try with_reducible rfl)
      try simp only [Act.put, List.getElem_toArray, List.getElem_cons_zero, List.getElem_cons_succ, List.setIfInBounds_toArray, List.set_cons_zero, List.set_cons_succ]
      refine wpAnyH_take (i := 1) (v := ?v2) rfl (by kernel_rfl) (by kernel_rfl) (by kernel_rfl) (fun _ _ _ h => h) (Or.inl ⟨by rfl, ?hy2⟩) (by assumption) ?rest2
      case hy2 => intro w hSw; (try dsimp only at hSw); go_simp; (try with_reducible rfl)
      try simp only [Act.put, List.getElem_toArray, List.getElem_cons_zero, List.getElem_cons_succ, List.setIfInBounds_toArray, List.set_cons_zero, List.set_cons_succ]
      refine wpAnyH_take (i := 2) (v := ?v3) rfl (by kernel_rfl) (by kernel_rfl) (by kernel_rfl) (fun _ _ _ h => h) (Or.inl ⟨by rfl, ?hy3⟩) (by assumption) ?rest3
      case hy3 => intro w hSw; (try dsimp only at hSw); go_simp; (try with_reducible rfl)
      try simp only [Act.put, List.getElem_toArray, List.getElem_cons_zero, List.getElem_cons_succ, List.setIfInBounds_toArray, List.set_cons_zero, List.set_cons_succ]
      refine wpAnyH_take (i := 3) (v := ?v4) rfl (by kernel_rfl) (by kernel_rfl) (by kernel_rfl) (fun _ _ _ h => h) (Or.inl ⟨by rfl, ?hy4⟩) (by assumption) ?rest4
      case hy4 => intro w hSw; (try dsimp only at hSw); go_simp; (try with_reducible rfl)
      try simp only [Act.put, List.getElem_toArray, List.getElem_cons_zero, List.getElem_cons_succ, List.setIfInBounds_toArray, List.set_cons_zero, List.set_cons_succ]
      refine wpAnyH_take (i := 4) (v := ?v5) rfl (by kernel_rfl) (by kernel_rfl) (by kernel_rfl) (fun _ _ _ h => h) (Or.inl ⟨by rfl, ?hy5⟩) (by assumption) ?rest5
      case hy5 => intro w hSw; (try dsimp only at hSw); go_simp; (try with_reducible rfl)
      try simp only [Act.put, List.getElem_toArray, List.getElem_cons_zero, List.getElem_cons_succ, List.setIfInBounds_toArray, List.set_cons_zero, List.set_cons_succ]
      refine wpAnyH_take (i := 5) (v := ?v6) rfl (by kernel_rfl) (by kernel_rfl) (by kernel_rfl) (fun _ _ _ h => h) (Or.inl ⟨by rfl, ?hy6⟩) (by assumption) ?rest6
      case hy6 => intro w hSw; (try dsimp only at hSw); go_simp; (try with_reducible rfl)
      try simp only [Act.put, List.getElem_toArray, List.getElem_cons_zero, List.getElem_cons_succ, List.setIfInBounds_toArray, List.set_cons_zero, List.set_cons_succ]
      refine wpAnyH_take (i := 6) (v := ?v7) rfl (by kernel_rfl) (by kernel_rfl) (by kernel_rfl) (fun _ _ _ h => h) (Or.inl ⟨by rfl, ?hy7⟩) (by assumption) ?rest7
      case hy7 => intro w hSw; (try dsimp only at hSw); go_simp; (try with_reducible rfl)
      try simp only [Act.put, List.getElem_toArray, List.getElem_cons_zero, List.getElem_cons_succ, List.setIfInBounds_toArray, List.set_cons_zero, List.set_cons_succ]
      refine wpAnyH_take (i := 7) (v := ?v8) rfl (by kernel_rfl) (by kernel_rfl) (by kernel_rfl) (fun _ _ _ h => h) (Or.inl ⟨by rfl, ?hy8⟩) (by assumption) ?rest8
      case hy8 => intro w hSw; (try dsimp only at hSw); go_simp; (try with_reducible rfl)
      try simp only [Act.put, List.getElem_toArray, List.getElem_cons_zero, List.getElem_cons_succ, List.setIfInBounds_toArray, List.set_cons_zero, List.set_cons_succ]
      refine wpAnyH_take (i := 8) (v := ?v9) rfl (by kernel_rfl) (by kernel_rfl) (by kernel_rfl) (fun _ _ _ h => h) (Or.inl ⟨by rfl, ?hy9⟩) (by assumption) ?rest9
      case hy9 => intro w hSw; (try dsimp only at hSw); go_simp; (try with_reducible rfl)
      try simp only [Act.put, List.getElem_toArray, List.getElem_cons_zero, List.getElem_cons_succ, List.setIfInBounds_toArray, List.set_cons_zero, List.set_cons_succ]
      refine wpAnyH_take (i := 9) (v := ?v10) rfl (by kernel_rfl) (by kernel_rfl) (by kernel_rfl) (fun _ _ _ h => h) (Or.inl ⟨by rfl, ?hy10⟩) (by assumption) ?rest10
      case hy10 => intro w hSw; (try dsimp only at hSw); go_simp; (try with_reducible rfl)
      try simp only [Act.put, List.getElem_toArray, List.getElem_cons_zero, List.getElem_cons_succ, List.setIfInBounds_toArray, List.set_cons_zero, List.set_cons_succ]
      refine wpAnyH_ready (rs := [10]) (by kernel_rfl) (by simp) ?_
      refine AllReadyH.cons rfl (fun K hK => ?_) AllReadyH.nil
      refine step_copy_run rfl (.tmp 18) (.tmp 19) 27 27 rfl _ _ _ _ rfl rfl HCP.out ?_
      refine hK.out _ _ ?_ (fun hHeld => ?_)
      · exact HC73.out
      clear hK K
      try simp only [Act.put, List.getElem_toArray, List.getElem_cons_zero, List.getElem_cons_succ, List.setIfInBounds_toArray, List.set_cons_zero, List.set_cons_succ]
      refine wpAnyH_take (i := 11) (v := ?v11) rfl (by kernel_rfl) (by kernel_rfl) (by kernel_rfl) (fun _ _ _ h => h) (Or.inl ⟨by rfl, ?hy11⟩) (by assumption) ?rest11
      case hy11 => intro w hSw; (try dsimp only at hSw); go_simp; (try with_reducible rfl)
      try simp only [Act.put, List.getElem_toArray, List.getElem_cons_zero, List.getElem_cons_succ, List.setIfInBounds_toArray, List.set_cons_zero, List.set_cons_succ]
      refine wpAnyH_done (by kernel_rfl) ?_ _
      clear HCP hHeld
      generalize wr.drew.setRow p (dgL s1 B2 N).toArray = W2 at *
      have c73b := HC73.out
      have hNn : (N : Int) + (n : Int) ≤ 9223372036854775807 := by omega
      have hz73 := frozen_of_row W2 p 73 _ _ HD2.out.1
      have hn0 : (0 : Int) ≤ (n : Int) := by omega
      have hNw : IntKind.i64.wrap ((N : Int) + (n : Int)) = (N : Int) + (n : Int) := by rw [IntKind.wrap_i64]; omega
      have HSZ := hideIt (show DgAt (W2.setCell ⟨p, 73, none⟩ (.int .i64 ((N : Int) + (n : Int)))).drew p s1 B2 (N + n) from (dg_size HD2.out (N + n)).fr (Fr.refl (fun _ => False) _).drew (fun e => e))
      have HSF := hideIt (show Fr (fun k => k = p) W2 (W2.setCell ⟨p, 73, none⟩ (.int .i64 ((N : Int) + (n : Int)))).drew from ((Fr.refl (fun k => k = p) W2).setCell (p := ⟨p, 73, none⟩) (fun _ => rfl) _).drew)
      have hnl2 : (n : Int) ≤ (rest.length : Int) := by omega
      have hncp : (n : Int) ≤ (cp : Int) := by omega
      go_wp2_with fail
      refine wp_region_held_drew (S := fun w2 => True) (by kernel_rfl) ?_ (fun hHeld => ?_)
      · trivial
      refine wpAnyH_take (i := 0) (v := ?v12) rfl (by kernel_rfl) (by kernel_rfl) (by kernel_rfl) (fun _ _ _ h => h) (Or.inl ⟨by rfl, ?hy12⟩) (by assumption) ?rest12
      case hy12 => intro w hSw; (try dsimp only at hSw); go_simp; (try with_reducible rfl)
      try simp only [Act.put, List.getElem_toArray, List.getElem_cons_zero, List.getElem_cons_succ, List.setIfInBounds_toArray, List.set_cons_zero, List.set_cons_succ]
      refine wpAnyH_take (i := 1) (v := ?v13) rfl (by kernel_rfl) (by kernel_rfl) (by kernel_rfl) (fun _ _ _ h => h) (Or.inl ⟨by rfl, ?hy13⟩) (by assumption) ?rest13
      case hy13 => intro w hSw; (try dsimp only at hSw); go_simp; (try with_reducible rfl)
      try simp only [Act.put, List.getElem_toArray, List.getElem_cons_zero, List.getElem_cons_succ, List.setIfInBounds_toArray, List.set_cons_zero, List.set_cons_succ]
      refine wpAnyH_take (i := 2) (v := ?v14) rfl (by kernel_rfl) (by kernel_rfl) (by kernel_rfl) (fun _ _ _ h => h) (Or.inl ⟨by rfl, ?hy14⟩) (by assumption) ?rest14
      case hy14 => intro w hSw; (try dsimp only at hSw); go_simp; (try with_reducible rfl)
      try simp only [Act.put, List.getElem_toArray, List.getElem_cons_zero, List.getElem_cons_succ, List.setIfInBounds_toArray, List.set_cons_zero, List.set_cons_succ]
      refine wpAnyH_take (i := 3) (v := ?v15) rfl (by kernel_rfl) (by kernel_rfl) (by kernel_rfl) (fun _ _ _ h => h) (Or.inl ⟨by rfl, ?hy15⟩) (by assumption) ?rest15
      case hy15 => intro w hSw; (try dsimp only at hSw); go_simp; (try with_reducible rfl)
      try simp only [Act.put, List.getElem_toArray, List.getElem_cons_zero, List.getElem_cons_succ, List.setIfInBounds_toArray, List.set_cons_zero, List.set_cons_succ]
      refine wpAnyH_take (i := 4) (v := ?v16) rfl (by kernel_rfl) (by kernel_rfl) (by kernel_rfl) (fun _ _ _ h => h) (Or.inl ⟨by rfl, ?hy16⟩) (by assumption) ?rest16
      case hy16 => intro w hSw; (try dsimp only at hSw); go_simp; (try with_reducible rfl)
      try simp only [Act.put, List.getElem_toArray, List.getElem_cons_zero, List.getElem_cons_succ, List.setIfInBounds_toArray, List.set_cons_zero, List.set_cons_succ]
      refine wpAnyH_take (i := 5) (v := ?v17) rfl (by kernel_rfl) (by kernel_rfl) (by kernel_rfl) (fun _ _ _ h => h) (Or.inl ⟨by rfl, ?hy17⟩) (by assumption) ?rest17
      case hy17 => intro w hSw; (try dsimp only at hSw); go_simp; (try with_reducible rfl)
      try simp only [Act.put, List.getElem_toArray, List.getElem_cons_zero, List.getElem_cons_succ, List.setIfInBounds_toArray, List.set_cons_zero, List.set_cons_succ]
      refine wpAnyH_take (i := 6) (v := ?v18) rfl (by kernel_rfl) (by kernel_rfl) (by kernel_rfl) (fun _ _ _ h => h) (Or.inl ⟨by rfl, ?hy18⟩) (by assumption) ?rest18
      case hy18 => intro w hSw; (try dsimp only at hSw); go_simp; (try with_reducible rfl)
      try simp only [Act.put, List.getElem_toArray, List.getElem_cons_zero, List.getElem_cons_succ, List.setIfInBounds_toArray, List.set_cons_zero, List.set_cons_succ]
      refine wpAnyH_take (i := 8) (v := ?v19) rfl (by kernel_rfl) (by kernel_rfl) (by kernel_rfl) (fun _ _ _ h => h) (Or.inl ⟨by rfl, ?hy19⟩) (by assumption) ?rest19
      case hy19 => intro w hSw; (try dsimp only at hSw); go_simp; (try with_reducible rfl)
      try simp only [Act.put, List.getElem_toArray, List.getElem_cons_zero, List.getElem_cons_succ, List.setIfInBounds_toArray, List.set_cons_zero, List.set_cons_succ]
      refine wpAnyH_take (i := 10) (v := ?v20) rfl (by kernel_rfl) (by kernel_rfl) (by kernel_rfl) (fun _ _ _ h => h) (Or.inl ⟨by rfl, ?hy20⟩) (by assumption) ?rest20
      case hy20 => intro w hSw; (try dsimp only at hSw); go_simp; (try with_reducible rfl)
      try simp only [Act.put, List.getElem_toArray, List.getElem_cons_zero, List.getElem_cons_succ, List.setIfInBounds_toArray, List.set_cons_zero, List.set_cons_succ]
      refine wpAnyH_ready (rs := [7]) (by kernel_rfl) (by simp) ?_
      refine AllReadyH.cons rfl (fun K hK => ?_) AllReadyH.nil
      go_simp
      refine hK.out _ _ ?_ (fun hHeld => ?_)
      · trivial
      clear hK K
      try simp only [Act.put, List.getElem_toArray, List.getElem_cons_zero, List.getElem_cons_succ, List.setIfInBounds_toArray, List.set_cons_zero, List.set_cons_succ]
      refine wpAnyH_take (i := 9) (v := ?v21) rfl (by kernel_rfl) (by kernel_rfl) (by kernel_rfl) (fun _ _ _ h => h) (Or.inl ⟨by rfl, ?hy21⟩) (by assumption) ?rest21
      case hy21 => intro w hSw; (try dsimp only at hSw); go_simp; (try with_reducible rfl)
      try simp only [Act.put, List.getElem_toArray, List.getElem_cons_zero, List.getElem_cons_succ, List.setIfInBounds_toArray, List.set_cons_zero, List.set_cons_succ]
      refine wpAnyH_take (i := 11) (v := ?v22) rfl (by kernel_rfl) (by kernel_rfl) (by kernel_rfl) (fun _ _ _ h => h) (Or.inl ⟨by rfl, ?hy22⟩) (by assumption) ?rest22
      case hy22 => intro w hSw; (try dsimp only at hSw); go_simp; (try with_reducible rfl)
      try simp only [Act.put, List.getElem_toArray, List.getElem_cons_zero, List.getElem_cons_succ, List.setIfInBounds_toArray, List.set_cons_zero, List.set_cons_succ]
      refine wpAnyH_take (i := 12) (v := ?v23) rfl (by kernel_rfl) (by kernel_rfl) (by kernel_rfl) (fun _ _ _ h => h) (Or.inl ⟨by rfl, ?hy23⟩) (by assumption) ?rest23
      case hy23 => intro w hSw; (try dsimp only at hSw); go_simp; (try with_reducible rfl)
      try simp only [Act.put, List.getElem_toArray, List.getElem_cons_zero, List.getElem_cons_succ, List.setIfInBounds_toArray, List.set_cons_zero, List.set_cons_succ]
      refine wpAnyH_ready (rs := [13]) (by kernel_rfl) (by simp) ?_
      refine AllReadyH.cons rfl (fun K hK => ?_) AllReadyH.nil
      go_simp
      refine hK.out _ _ ?_ (fun hHeld => ?_)
      · trivial
      clear hK K
      try simp only [Act.put, List.getElem_toArray, List.getElem_cons_zero, List.getElem_cons_succ, List.setIfInBounds_toArray, List.set_cons_zero, List.set_cons_succ]
      refine wpAnyH_done (by kernel_rfl) ?_ _
      clear hHeld
      generalize (W2.setCell ⟨p, 73, none⟩ (.int .i64 ((N : Int) + (n : Int)))).drew = W3 at *
      have HF3 := hideIt (HF2.out.trans HSF.out (fun _ _ e => e))
      have HDR3 := hideIt ((HDR.out.fr HFW.out (fun j hj e => by
        intro e2
        subst e2
        by_cases hcn : cp = n
        · rw [if_pos hcn] at e
          obtain ⟨a, e1, e3⟩ := e
          obtain rfl := Option.some.inj e1
          exact hbp e3
        · rw [if_neg hcn] at e
          obtain ⟨a, e1, e3⟩ := e
          obtain rfl := Option.some.inj e1
          exact hbp e3)).fr HSF.out (fun j hj e => by
        intro e2
        subst e2
        by_cases hcn : cp = n
        · rw [if_pos hcn] at e
          obtain ⟨a, e1, e3⟩ := e
          obtain rfl := Option.some.inj e1
          exact hbp e3
        · rw [if_neg hcn] at e
          obtain ⟨a, e1, e3⟩ := e
          obtain rfl := Option.some.inj e1
          exact hbp e3))
      have HA2 := hideIt (show ∀ j, blk (if cp = n then some ⟨b, off, none⟩ else some ⟨b, off + n, none⟩) j → j ≠ p by
        intro j e e2
        subst e2
        by_cases hcn : cp = n
        · rw [if_pos hcn] at e
          obtain ⟨a, e1, e3⟩ := e
          obtain rfl := Option.some.inj e1
          exact hbp e3
        · rw [if_neg hcn] at e
          obtain ⟨a, e1, e3⟩ := e
          obtain rfl := Option.some.inj e1
          exact hbp e3)
      generalize (if cp = n then some (⟨b, off, none⟩ : Addr) else some ⟨b, off + n, none⟩) = a2 at *
      have c73c := HSZ.out.size
      have hpl3 := HSZ.out.lt
      clear c73 c73b HC73 hz73 HDR HFW HD2 HD1 HD HF2 HF HA hbp hrt hri0 hri1 hpl HSF
      have HDRR := hideIt (show BsAt W3 a2 (bs.drop (k + n)) by rw [HDK.out]; exact HDR3.out)
      have hrl2 : bs.length - (k + n) = rest.length - n := by omega
      have hkn : k + n ≤ bs.length := by omega
      have hcp2 : bs.length - (k + n) ≤ cp - n := by omega
      have hNk : m.length + (k + n) = N + n := by omega
      by_cases hf : r + n = 64
      · have hq : ((N + n : Nat) : Int).tmod 64 = 0 := by rw [Int.tmod_eq_emod_of_nonneg (by omega)]; omega
        have HHN := hideIt (HFUL.out hf)
        have HD3 := hideIt (HSZ.out.fr (Fr.refl (fun _ => False) W3).drew (fun e => e))
        have HF3 := hideIt (HF3.out.trans (Fr.refl (fun k => k = p) W3).drew (fun _ _ e => e))
        have HBL := hideIt (dg_blk HD3.out)
        have HSL := hideIt (dg_st HD3.out)
        have HIB := hideIt (show (Tryd.prog.info? 48).map (·.size) = some (bv B2).length by rw [bv_length, HD3.out.2]; exact Tryd.infoBlk)
        have HIS := hideIt (show (Tryd.prog.info? 46).map (·.size) = some (stA s1).toList.length by kernel_rfl)
        have HCH := hideIt (changed_any s1 HS32.out B2 HD3.out.2 W3.drew ((HG.out.fr HF3.out (by omega) (by omega))))
        go_wp2_with fail
        refine wp_region_held_drew (S := fun w2 => w2.rangeAt p 9 (bv B2)) (by kernel_rfl) ?_ (fun hHeld => ?_)
        · exact HBL.out
        refine wpAnyH_take (i := 0) (v := ?v24) rfl (by kernel_rfl) (by kernel_rfl) (by kernel_rfl) (fun _ _ _ h => h) (Or.inl ⟨by rfl, ?hy24⟩) (by assumption) ?rest24
        case hy24 => intro w hSw; (try dsimp only at hSw); go_simp; (try with_reducible rfl)
        try simp only [Act.put, List.getElem_toArray, List.getElem_cons_zero, List.getElem_cons_succ, List.setIfInBounds_toArray, List.set_cons_zero, List.set_cons_succ]
        refine wpAnyH_take (i := 1) (v := ?v25) rfl (by kernel_rfl) (by kernel_rfl) (by kernel_rfl) (fun _ _ _ h => h) (Or.inl ⟨by rfl, ?hy25⟩) (by assumption) ?rest25
        case hy25 => intro w hSw; (try dsimp only at hSw); go_simp; (try with_reducible rfl)
        try simp only [Act.put, List.getElem_toArray, List.getElem_cons_zero, List.getElem_cons_succ, List.setIfInBounds_toArray, List.set_cons_zero, List.set_cons_succ]
        refine wpAnyH_take (i := 2) (v := ?v26) rfl (by kernel_rfl) (by kernel_rfl) (by kernel_rfl) (fun _ _ _ h => h) (Or.inl ⟨by rfl, ?hy26⟩) (by assumption) ?rest26
        case hy26 => intro w hSw; (try dsimp only at hSw); go_simp; (try with_reducible rfl)
        try simp only [Act.put, List.getElem_toArray, List.getElem_cons_zero, List.getElem_cons_succ, List.setIfInBounds_toArray, List.set_cons_zero, List.set_cons_succ]
        refine wpAnyH_take (i := 3) (v := ?v27) rfl (by kernel_rfl) (by kernel_rfl) (by kernel_rfl) (fun _ _ _ h => h) (Or.inl ⟨by rfl, ?hy27⟩) (by assumption) ?rest27
        case hy27 => intro w hSw; (try dsimp only at hSw); go_simp; (try with_reducible rfl)
        try simp only [Act.put, List.getElem_toArray, List.getElem_cons_zero, List.getElem_cons_succ, List.setIfInBounds_toArray, List.set_cons_zero, List.set_cons_succ]
        refine wpAnyH_take (i := 5) (v := ?v28) rfl (by kernel_rfl) (by kernel_rfl) (by kernel_rfl) (fun _ _ _ h => h) (Or.inl ⟨by rfl, ?hy28⟩) (by assumption) ?rest28
        case hy28 => intro w hSw; (try dsimp only at hSw); go_simp; (try with_reducible rfl)
        try simp only [Act.put, List.getElem_toArray, List.getElem_cons_zero, List.getElem_cons_succ, List.setIfInBounds_toArray, List.set_cons_zero, List.set_cons_succ]
        refine wpAnyH_take (i := 6) (v := ?v29) rfl (by kernel_rfl) (by kernel_rfl) (by kernel_rfl) (fun _ _ _ h => h) (Or.inl ⟨by rfl, ?hy29⟩) (by assumption) ?rest29
        case hy29 => intro w hSw; (try dsimp only at hSw); go_simp; (try with_reducible rfl)
        try simp only [Act.put, List.getElem_toArray, List.getElem_cons_zero, List.getElem_cons_succ, List.setIfInBounds_toArray, List.set_cons_zero, List.set_cons_succ]
        refine wpAnyH_take (i := 7) (v := ?v30) rfl (by kernel_rfl) (by kernel_rfl) (by kernel_rfl) (fun _ _ _ h => h) (Or.inl ⟨by rfl, ?hy30⟩) (by assumption) ?rest30
        case hy30 => intro w hSw; (try dsimp only at hSw); go_simp; (try with_reducible rfl)
        try simp only [Act.put, List.getElem_toArray, List.getElem_cons_zero, List.getElem_cons_succ, List.setIfInBounds_toArray, List.set_cons_zero, List.set_cons_succ]
        refine wpAnyH_take (i := 8) (v := .agg (bv B2).toArray) rfl (by kernel_rfl) (by kernel_rfl) (by kernel_rfl) (fun _ _ _ h => h) (Or.inl ⟨by rfl, fun w0 hSw => yields_load_mid 48 (.tmp 46) rfl p 9 rfl (bv B2) _ hSw Tryd.underlying48 rfl HIB.out⟩) (by assumption) ?_
        try simp only [Act.put, List.getElem_toArray, List.getElem_cons_zero, List.getElem_cons_succ, List.setIfInBounds_toArray, List.set_cons_zero, List.set_cons_succ]
        refine wpAnyH_ready (rs := [4]) (by kernel_rfl) (by simp) ?_
        refine AllReadyH.cons rfl (fun K hK => ?_) AllReadyH.nil
        rw [if_pos (by rfl)]
        refine wp_load_mid 46 (.tmp 42) rfl p 1 rfl (stA s1).toList _ HSL.out Tryd.underlying46 rfl HIS.out ?_
        refine hK.out _ _ ?_ (fun hHeld => ?_)
        · exact HBL.out
        clear hK K
        try simp only [Act.put, List.getElem_toArray, List.getElem_cons_zero, List.getElem_cons_succ, List.setIfInBounds_toArray, List.set_cons_zero, List.set_cons_succ]
        refine wpAnyH_ready (rs := [9]) (by kernel_rfl) (by simp) ?_
        refine AllReadyH.cons rfl (fun K hK => ?_) AllReadyH.nil
        go_simp
        refine Calls.mono HCH.out ?_
        rintro e W4 ⟨rfl, hF4⟩
        have HD4 := hideIt (HD3.out.fr hF4 (fun e => e))
        have HF4 := hideIt (HF3.out.trans hF4 (fun _ _ e => e.elim))
        have HBL4 := hideIt (dg_blk HD4.out)
        have HST4 := hideIt (dg_state HD4.out (Sha.block s1 B2))
        have HW4 := hideIt hF4
        have HFT4 := hideIt (Fr.setCells W4 p 1 (stA (Sha.block s1 B2)).toList)
        clear hF4
        refine hK.out _ _ ?_ (fun hHeld => ?_)
        · exact HBL4.out
        clear hK K
        try simp only [Act.put, List.getElem_toArray, List.getElem_cons_zero, List.getElem_cons_succ, List.setIfInBounds_toArray, List.set_cons_zero, List.set_cons_succ]
        refine wpAnyH_take (i := 10) (v := ?v31) rfl (by kernel_rfl) (by kernel_rfl) (by kernel_rfl) (fun _ _ _ h => h) (Or.inl ⟨by rfl, ?hy31⟩) (by assumption) ?rest31
        case hy31 => intro w hSw; (try dsimp only at hSw); go_simp; (try with_reducible rfl)
        try simp only [Act.put, List.getElem_toArray, List.getElem_cons_zero, List.getElem_cons_succ, List.setIfInBounds_toArray, List.set_cons_zero, List.set_cons_succ]
        refine wpAnyH_take (i := 11) (v := ?v32) rfl (by kernel_rfl) (by kernel_rfl) (by kernel_rfl) (fun _ _ _ h => h) (Or.inl ⟨by rfl, ?hy32⟩) (by assumption) ?rest32
        case hy32 => intro w hSw; (try dsimp only at hSw); go_simp; (try with_reducible rfl)
        try simp only [Act.put, List.getElem_toArray, List.getElem_cons_zero, List.getElem_cons_succ, List.setIfInBounds_toArray, List.set_cons_zero, List.set_cons_succ]
        refine wpAnyH_ready (rs := [12]) (by kernel_rfl) (by simp) ?_
        refine AllReadyH.cons rfl (fun K hK => ?_) AllReadyH.nil
        rw [if_pos (by rfl)]
        refine wp_store_mid 46 (.tmp 50) (.tmp 48) rfl p 1 (stA (Sha.block s1 B2)) rfl rfl (dg_there HD4.out 1 8 (by omega)) (by kernel_rfl) (stA_one _) ?_
        generalize W4.setCells p 1 (stA (Sha.block s1 B2)).toList = W5 at *
        refine hK.out _ _ ?_ (fun hHeld => ?_)
        · exact dg_blk HST4.out
        clear hK K
        try simp only [Act.put, List.getElem_toArray, List.getElem_cons_zero, List.getElem_cons_succ, List.setIfInBounds_toArray, List.set_cons_zero, List.set_cons_succ]
        refine wpAnyH_done (by kernel_rfl) ?_ _
        clear hHeld
        have HDR5 := hideIt (((HDRR.out.fr (Fr.refl (fun _ => False) W3).drew (fun _ _ _ e => e)).fr HW4.out (fun _ _ _ e => e)).fr HFT4.out (fun j _ e => HA2.out j e))
        have HF5 := hideIt (HF4.out.trans HFT4.out (fun _ _ e => e))
        clear HDRR HDR3 HSZ HD3 HD4 HBL HSL HBL4 HCH HF3 HF4 HFT4 HW4 HG HS32
        go_wp2_with fail
        go_roundw
        case measure => simp [slLen]; omega
        case rel => exact ⟨k + n, cp - n, a2, Sha.block s1 B2, B2, by rw [hrl2], hkn, hcp2, by rw [hNk]; exact HST4, HHN, HDR5, HA2, HF5⟩
      · have hq : ¬ ((N + n : Nat) : Int).tmod 64 = 0 := by rw [Int.tmod_eq_emod_of_nonneg (by omega)]; omega
        have HHN := hideIt (HPUT.out (by omega))
        go_wp2_with fail
        go_roundw
        case measure => simp [slLen]; omega
        case rel => exact ⟨k + n, cp - n, a2, s1, B2, by rw [hrl2], hkn, hcp2, by rw [hNk]; exact HSZ, HHN, HDRR, HA2, HF3⟩
    · have hk9 : k = bs.length := by omega
      subst hk9
      have HH2 := hideIt (show Has (m ++ bs) s1 B1 by have := HH.out; rwa [List.take_length] at this)
      clear HH
      go_wp2_with fail
      go_end0
      exact ⟨rfl, s1, B1, HD.out, HH2.out, HF.out⟩

end Go.Proofs.YtgnpdnkmhjocjaaDoor
