/- The document's own reader (retconref01.Reader): how many bytes the number at its place has. -/
import Derived.Test.YteihmonafdnicaaD2
import Derived.Deep.RegionHeld3
namespace Go.Proofs.Yteihmonafdnicaa
open Go.RowKit Go.IntWalk
set_option linter.unusedSimpArgs false
set_option linter.unusedVariables false

/-- The document's reader in memory: the bytes that came in, its place, its fault. -/
structure YAt (w : World) (p : Nat) (ao : Option Addr) (cap : Nat) (bs : List UInt8) (at_ er ea : Int) : Prop where
  box : w.heap[p]? = some (.cells #[.slice ao bs.length cap, .int .i64 at_, .int .i64 er, .int .i64 ea] 60 (0, 0))
  bytes : BsAt w ao bs

section
variable {w w' : World} {p : Nat} {ao : Option Addr} {cap : Nat} {bs : List UInt8} {at_ er ea : Int}
theorem YAt.lt (h : YAt w p ao cap bs at_ er ea) : p < w.heap.size := (Array.getElem?_eq_some_iff.1 h.box).1
theorem YAt.c0 (h : YAt w p ao cap bs at_ er ea) : w.cell? ⟨p, 0, none⟩ = some (.slice ao bs.length cap) := cellOfHeap h.box 0 rfl
theorem YAt.c1 (h : YAt w p ao cap bs at_ er ea) : w.cell? ⟨p, 1, none⟩ = some (.int .i64 at_) := cellOfHeap h.box 1 rfl
theorem YAt.c2 (h : YAt w p ao cap bs at_ er ea) : w.cell? ⟨p, 2, none⟩ = some (.int .i64 er) := cellOfHeap h.box 2 rfl
theorem YAt.c3 (h : YAt w p ao cap bs at_ er ea) : w.cell? ⟨p, 3, none⟩ = some (.int .i64 ea) := cellOfHeap h.box 3 rfl
theorem YAt.fr {S : Nat → Prop} (h : YAt w p ao cap bs at_ er ea) (hf : Fr S w w') (hp : ¬ S p) (hS : ∀ k, k < w.heap.size → blk ao k → ¬ S k) : YAt w' p ao cap bs at_ er ea :=
  ⟨(hf.block p h.lt hp).trans h.box, h.bytes.fr hf hS⟩
end

/-- What size tells: a number's bytes, or 0 and the fault. -/
def sizeV (len at_ : Int) : Except Nat (Nat × Nat) → Int × Int × Int
  | .error 0 => (0, 4, len)
  | .error 1 => (0, 5, at_)
  | .error _ => (0, 4, at_)
  | .ok (_, k) => (k, 0, 0)

set_option maxRecDepth 100000 in
set_option maxHeartbeats 2000000 in
theorem ysize_any (p : Nat) (ao : Option Addr) (cap : Nat) (bs : List UInt8) (at_ : Nat) (er ea : Int) (w : World) (h : YAt w p ao cap bs at_ er ea) (hat : at_ ≤ bs.length) (hb : bs.length ≤ 140737488355328) :
    Calls Try.prog 68 #[.pointer (some ⟨p, 0, none⟩)] w fun e w' => e = .returned (.tuple #[.int .i64 (sizeV bs.length at_ (scan (bs.drop at_) 0 0)).1, .agg #[.int .i64 (sizeV bs.length at_ (scan (bs.drop at_) 0 0)).2.1, .int .i64 (sizeV bs.length at_ (scan (bs.drop at_) 0 0)).2.2]]) ∧ Fr (fun _ => False) w w' := by
  have c0 := h.c0
  have c1 := h.c1
  have hpl := h.lt
  have HBY := hideIt h.bytes
  obtain ⟨R, hR⟩ : ∃ R, scan (bs.drop at_) 0 0 = R := ⟨_, rfl⟩
  rw [hR]
  have HR := hideIt hR
  clear h hR
  go_enter Try.func68, Try.ntmps68
  go_wp2_with fail
  go_loopw [4] (fun i wr => ∃ j : Nat, i = .int .i64 ((j : Int) + 1) ∧ j ≤ 9 ∧ at_ + j ≤ bs.length + 1 ∧ Hid (if j = 9 then R = .error 1 else ∃ acc, scan (bs.drop (at_ + j)) j acc = R ∧ at_ + j ≤ bs.length) ∧ wr = w.alloc (.cells #[.int .i64 0, .int .i64 0] 58))
    (fun i _ => (10 - intOf i).toNat)
  case atStart => exact ⟨0, rfl, by omega, by omega, hideIt ⟨0, HR.out, hat⟩, rfl⟩
  case round =>
    obtain ⟨j, rfl, hj, hal, HI, rfl⟩ := hrel
    have hF0 : Fr (fun _ => False) w (w.alloc (.cells #[.int .i64 0, .int .i64 0] 58)) := (Fr.refl _ _).alloc _
    by_cases h9 : j = 9
    · have hRe : R = .error 1 := by have := HI.out; rw [if_pos h9] at this; exact this
      subst hRe
      have hj9 : ¬ ((j : Int) + 1 ≤ 9) := by omega
      clear HI HR h9
      go_wp2_with fail
      go_region_held2 (fun w' => w'.cell? ⟨p, 0, none⟩ = some (.slice ao bs.length cap) ∧ w'.cell? ⟨p, 1, none⟩ = some (.int .i64 (at_ : Int))) (go_keep) (fail)
      go_wp2_with fail
      exact bodyPost_ret (v := .tuple #[.int .i64 0, .agg #[.int .i64 5, .int .i64 (at_ : Int)]]) (by simp [results, Try.results68, go_sem]) rfl ⟨rfl, ((Fr.refl _ _).alloc _).drew⟩
    · obtain ⟨acc, hacc, hle⟩ : ∃ acc, scan (bs.drop (at_ + j)) j acc = R ∧ at_ + j ≤ bs.length := by have := HI.out; rw [if_neg h9] at this; exact this
      have hj9 : (j : Int) + 1 ≤ 9 := by omega
      have hidx : (at_ : Int) + ((j : Int) + 1) - 1 = ((at_ + j : Nat) : Int) := by omega
      clear HI
      by_cases hend : at_ + j = bs.length
      · have hRe : R = .error 0 := by rw [← hacc, hend, List.drop_length]; rfl
        subst hRe
        have hge : (bs.length : Int) ≤ ((at_ + j : Nat) : Int) := by omega
        clear HR hacc h9 hend
        go_wp2_with fail
        go_region_held2 (fun w' => w'.cell? ⟨p, 0, none⟩ = some (.slice ao bs.length cap) ∧ w'.cell? ⟨p, 1, none⟩ = some (.int .i64 (at_ : Int))) (go_keep) (fail)
        go_wp2_with fail
        exact bodyPost_ret (v := .tuple #[.int .i64 0, .agg #[.int .i64 4, .int .i64 (bs.length : Int)]]) (by simp [results, Try.results68, go_sem]) rfl ⟨rfl, ((Fr.refl _ _).alloc _).drew⟩
      · have hlt : at_ + j < bs.length := by omega
        have hlt' : ¬ ((bs.length : Int) ≤ ((at_ + j : Nat) : Int)) := by omega
        have hlt2 : ((at_ + j : Nat) : Int) < (bs.length : Int) := by omega
        obtain ⟨b, off, rfl, hcell⟩ : ∃ b off, ao = some ⟨b, off, none⟩ ∧ w.cell? ⟨b, off + (at_ + j), none⟩ = some (.int .u8 (bs[at_ + j].toNat : Int)) := by
          rcases HBY.out with ⟨_, h0⟩ | ⟨b, off, e, hc⟩
          · rw [h0] at hlt
            exact absurd hlt (by simp)
          · exact ⟨b, off, e, hc _ hlt⟩
        have hbl := block_lt_of_cell hcell
        have hdr : bs.drop (at_ + j) = bs[at_ + j] :: bs.drop (at_ + j + 1) := List.drop_eq_getElem_cons hlt
        rw [hdr, scan] at hacc
        have hx := UInt8.toNat_lt bs[at_ + j]
        have HAC := hideIt hacc
        clear hacc hdr
        generalize bs[at_ + j] = x at *
        obtain ⟨xn, hxn⟩ : ∃ xn, x.toNat = xn := ⟨_, rfl⟩
        rw [hxn] at hcell hx HAC
        clear hxn x
        generalize hq : at_ + j = q at *
        clear HR
        by_cases hz : xn = 0 ∧ 0 < j
        · obtain ⟨rfl, hj0⟩ := hz
          have hRe : R = .error 2 := by
            have := HAC.out
            rw [if_neg (by omega), if_pos ⟨rfl, hj0⟩] at this
            exact this.symm
          subst hRe
          have hj1 : (1 : Int) < (j : Int) + 1 := by omega
          clear HAC
          go_wp2_with fail
          go_region_held2 (fun w' => w'.cell? ⟨p, 0, none⟩ = some (.slice (some ⟨b, off, none⟩) bs.length cap) ∧ w'.cell? ⟨p, 1, none⟩ = some (.int .i64 (at_ : Int))) (go_keep) (fail)
          go_wp2_with fail
          exact bodyPost_ret (v := .tuple #[.int .i64 0, .agg #[.int .i64 4, .int .i64 (at_ : Int)]]) (by simp [results, Try.results68, go_sem]) rfl ⟨rfl, ((Fr.refl _ _).alloc _).drew⟩
        · by_cases h128 : xn < 128
          · obtain ⟨m, hRe⟩ : ∃ m, R = .ok (m, j + 1) := by
              have := HAC.out
              rw [if_neg (by omega), if_neg hz, if_pos h128] at this
              exact ⟨_, this.symm⟩
            subst hRe
            have h128' : (xn : Int) < 128 := by omega
            clear HAC
            by_cases hx0 : xn = 0
            · have hx0' : ((xn : Int) == 0) = true := by simpa using hx0
              have hj1 : ¬ ((1 : Int) < (j : Int) + 1) := by omega
              have hj2 : (j : Int) + 1 ≤ 1 := by omega
              have hj3 : decide ((1 : Int) < (j : Int) + 1) = false := by simpa using hj1
              clear hz hx0
              go_wp2_with fail
              exact bodyPost_ret (v := .tuple #[.int .i64 ((j : Int) + 1), .agg #[.int .i64 0, .int .i64 0]]) (by simp [results, Try.results68, go_sem]) rfl ⟨by simp [sizeV], (Fr.refl _ _).alloc _⟩
            · have hx0' : ((xn : Int) == 0) = false := by simpa using hx0
              clear hz hx0
              go_wp2_with fail
              exact bodyPost_ret (v := .tuple #[.int .i64 ((j : Int) + 1), .agg #[.int .i64 0, .int .i64 0]]) (by simp [results, Try.results68, go_sem]) rfl ⟨by simp [sizeV], (Fr.refl _ _).alloc _⟩
          · have hx0' : ((xn : Int) == 0) = false := by
              have : ¬ xn = 0 := by omega
              simpa using this
            have h128' : ¬ ((xn : Int) < 128) := by omega
            have HNX := hideIt (show (if j + 1 = 9 then R = .error 1 else ∃ acc, scan (bs.drop (at_ + (j + 1))) (j + 1) acc = R ∧ at_ + (j + 1) ≤ bs.length) by
              have := HAC.out
              by_cases he : j + 1 = 9
              · rw [if_pos he]
                rw [if_pos ⟨by omega, he⟩] at this
                exact this.symm
              · rw [if_neg he]
                rw [if_neg (by omega), if_neg hz, if_neg h128] at this
                refine ⟨acc + xn % 128 * 128 ^ j, ?_, by omega⟩
                rw [show at_ + (j + 1) = q + 1 by omega]
                exact this)
            clear HAC hz
            go_wp2_with fail
            go_roundw
            case measure => simp [intOf]; omega
            case rel => exact ⟨j + 1, by go_num, by omega, by omega, HNX, trivial⟩

end Go.Proofs.Yteihmonafdnicaa
