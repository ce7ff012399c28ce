/- The writer of package word: what each call does to the world. -/
import Derived.Test.YteihmonafdnicaaA
import Derived.Test.YteihmonafdnicaaM
import Derived.Deep.QuietTactic
import Derived.BigQuiet
import Derived.Deep.RegionHeld3
import Derived.Deep.CutBlock
import Derived.Deep.CutRange
namespace Go.Proofs.Yteihmonafdnicaa
open Go.RowKit Go.IntWalk
set_option linter.unusedSimpArgs false
set_option linter.unusedVariables false

/-- A tape in memory. -/
structure TapeAt (w : World) (t : Nat) (ao : Option Addr) (cap : Nat) (bs : List UInt8) (at_ er ea : Int) : Prop where
  blk : w.heap[t]? = some (.cells #[.slice ao bs.length cap, .int .i64 at_, .int .i64 er, .int .i64 ea] 72 (0, 0))
  row : Row w 5 ao cap bs

/-- A writer in memory: itself, and its tape. -/
structure WAt (w : World) (p t : Nat) (ao : Option Addr) (cap : Nat) (bs : List UInt8) (at_ er ea : Int) : Prop where
  box : w.heap[p]? = some (.cells #[.pointer (some ⟨t, 0, none⟩)] 74 (0, 0))
  tp : TapeAt w t ao cap bs at_ er ea

/-- What a writer's calls may turn. -/
def wset (t : Nat) (ao : Option Addr) (k : Nat) : Prop := k = t ∨ blk ao k

section
variable {w w' : World} {p t : Nat} {ao : Option Addr} {cap : Nat} {bs : List UInt8} {at_ er ea : Int}

theorem TapeAt.lt (h : TapeAt w t ao cap bs at_ er ea) : t < w.heap.size := (Array.getElem?_eq_some_iff.1 h.blk).1
theorem WAt.lt (h : WAt w p t ao cap bs at_ er ea) : p < w.heap.size := (Array.getElem?_eq_some_iff.1 h.box).1
theorem TapeAt.c0 (h : TapeAt w t ao cap bs at_ er ea) : w.cell? ⟨t, 0, none⟩ = some (.slice ao bs.length cap) := by rw [cell_of_row w t 0 _ _ _ h.blk]; rfl
theorem TapeAt.c1 (h : TapeAt w t ao cap bs at_ er ea) : w.cell? ⟨t, 1, none⟩ = some (.int .i64 at_) := by rw [cell_of_row w t 1 _ _ _ h.blk]; rfl
theorem TapeAt.c2 (h : TapeAt w t ao cap bs at_ er ea) : w.cell? ⟨t, 2, none⟩ = some (.int .i64 er) := by rw [cell_of_row w t 2 _ _ _ h.blk]; rfl
theorem TapeAt.c3 (h : TapeAt w t ao cap bs at_ er ea) : w.cell? ⟨t, 3, none⟩ = some (.int .i64 ea) := by rw [cell_of_row w t 3 _ _ _ h.blk]; rfl
theorem TapeAt.fz (h : TapeAt w t ao cap bs at_ er ea) (j : Nat) : w.frozen? ⟨t, j, none⟩ = false := frozen_of_row w t j _ _ h.blk
theorem WAt.c (h : WAt w p t ao cap bs at_ er ea) : w.cell? ⟨p, 0, none⟩ = some (.pointer (some ⟨t, 0, none⟩)) := by rw [cell_of_row w p 0 _ _ _ h.box]; rfl

theorem TapeAt.apart (h : TapeAt w t ao cap bs at_ er ea) : ¬ Go.Proofs.Yteihmonafdnicaa.blk ao t := by
  rintro ⟨a, rfl, hb⟩
  rcases h.row.form with ⟨h0, _⟩ | ⟨g, cur, h0, hh, _⟩
  · cases h0
  · obtain rfl := Option.some.inj h0
    simp only at hb
    subst hb
    have := h.blk.symm.trans hh
    simp at this

theorem TapeAt.keep (h : TapeAt w t ao cap bs at_ er ea) (hb : ∀ k, k < w.heap.size → wset t ao k → w'.heap[k]? = w.heap[k]?) : TapeAt w' t ao cap bs at_ er ea :=
  ⟨(hb t h.lt (Or.inl rfl)).trans h.blk, h.row.keep (fun k hk e => hb k hk (Or.inr e))⟩

theorem WAt.keep (h : WAt w p t ao cap bs at_ er ea) (hp : w'.heap[p]? = w.heap[p]?) (hb : ∀ k, k < w.heap.size → wset t ao k → w'.heap[k]? = w.heap[k]?) : WAt w' p t ao cap bs at_ er ea :=
  ⟨hp.trans h.box, h.tp.keep hb⟩

/-- Where a frame turns nothing of a writer's, it is as it was. -/
theorem WAt.fr {S : Nat → Prop} (h : WAt w p t ao cap bs at_ er ea) (hf : Fr S w w') (hp : ¬ S p) (hS : ∀ k, wset t ao k → ¬ S k) : WAt w' p t ao cap bs at_ er ea :=
  h.keep (hf.block p h.lt hp) (fun k hk e => hf.block k hk (hS k e))

theorem TapeAt.fr {S : Nat → Prop} (h : TapeAt w t ao cap bs at_ er ea) (hf : Fr S w w') (hS : ∀ k, wset t ao k → ¬ S k) : TapeAt w' t ao cap bs at_ er ea :=
  h.keep (fun k hk e => hf.block k hk (hS k e))

theorem WAt.ne (h : WAt w p t ao cap bs at_ er ea) : p ≠ t := by
  rintro rfl
  have := h.box.symm.trans h.tp.blk
  simp at this

theorem WAt.apart (h : WAt w p t ao cap bs at_ er ea) : ¬ Go.Proofs.Yteihmonafdnicaa.blk ao p := by
  rintro ⟨a, rfl, hb⟩
  rcases h.tp.row.form with ⟨h0, _⟩ | ⟨g, cur, h0, hh, _⟩
  · cases h0
  · obtain rfl := Option.some.inj h0
    simp only at hb
    subst hb
    have := h.box.symm.trans hh
    simp at this

theorem WAt.pset (h : WAt w p t ao cap bs at_ er ea) : ¬ wset t ao p := by
  rintro (e | e)
  · exact h.ne e
  · exact h.apart e
end

/-- A number by sevens, at most f bytes and one. -/
def sevensF : Nat → Nat → List UInt8
  | 0, n => [UInt8.ofNat n]
  | f + 1, n => if n < 128 then [UInt8.ofNat n] else UInt8.ofNat (n % 128 + 128) :: sevensF f (n / 128)

theorem sevensF_eq (f : Nat) : ∀ g n, n < 128 ^ (f + 1) → n < 128 ^ (g + 1) → sevensF f n = sevensF g n := by
  induction f with
  | zero =>
    intro g n h _
    cases g with
    | zero => rfl
    | succ g => simp only [sevensF]; rw [if_pos (by omega)]
  | succ f ih =>
    intro g n h h'
    by_cases h1 : n < 128
    · cases g with
      | zero => simp only [sevensF]; rw [if_pos h1]
      | succ g => simp only [sevensF]; rw [if_pos h1, if_pos h1]
    · cases g with
      | zero => omega
      | succ g =>
        simp only [sevensF]
        rw [if_neg h1, if_neg h1, ih g (n / 128) (by rw [Nat.div_lt_iff_lt_mul (by omega)]; rw [Nat.pow_succ] at h; exact h) (by rw [Nat.div_lt_iff_lt_mul (by omega)]; rw [Nat.pow_succ] at h'; exact h')]

/-- A number by sevens. -/
def sevens (n : Nat) : List UInt8 := sevensF n n

theorem lt_pow (n : Nat) : n < 128 ^ (n + 1) := Nat.lt_of_lt_of_le (Nat.lt_pow_self (by decide)) (Nat.pow_le_pow_right (by decide) (Nat.le_succ n))

theorem sevens_lt {n : Nat} (h : n < 128) : sevens n = [UInt8.ofNat n] := by
  unfold sevens
  cases n with
  | zero => rfl
  | succ n => simp only [sevensF]; rw [if_pos h]
theorem sevens_ge {n : Nat} (h : ¬ n < 128) : sevens n = UInt8.ofNat (n % 128 + 128) :: sevens (n / 128) := by
  unfold sevens
  cases n with
  | zero => omega
  | succ n =>
    have e : sevensF (n + 1) (n + 1) = UInt8.ofNat ((n + 1) % 128 + 128) :: sevensF n ((n + 1) / 128) := by simp only [sevensF]; rw [if_neg h]
    rw [e, sevensF_eq n ((n + 1) / 128) ((n + 1) / 128) (by have := lt_pow n; omega) (lt_pow _)]

/-- fail, told in two ways, of which the second is none: a region's walk wants a way that goes on. -/
theorem fail_two (v : Value) (e a : Int) (w : World) : Calls Try.prog 55 #[v, .int .i64 e, .int .i64 a] w fun e' w' => (e' = .panicked (gu e a) ∧ w' = w) ∨ (e' = .returned (.tuple #[]) ∧ w' = w ∧ Hid False) :=
  (fail_any v e a w).mono fun _ _ h => Or.inl h

theorem sevens_pos (n : Nat) : 0 < (sevens n).length := by
  by_cases h : n < 128
  · simp [sevens_lt h]
  · simp [sevens_ge h]

theorem sevens_le (k : Nat) : ∀ n, n < 128 ^ (k + 1) → (sevens n).length ≤ k + 1 := by
  induction k with
  | zero => intro n h; rw [sevens_lt (by omega)]; simp
  | succ k ih =>
    intro n h
    by_cases h1 : n < 128
    · simp [sevens_lt h1]
    · rw [sevens_ge h1]
      have : n / 128 < 128 ^ (k + 1) := by rw [Nat.div_lt_iff_lt_mul (by omega)]; rw [Nat.pow_succ] at h; exact h
      have := ih _ this
      simp only [List.length_cons]
      omega

theorem pow9 : (128 : Nat) ^ (8 + 1) = 9223372036854775808 := by decide
theorem sevens_nine {n : Nat} (h : n ≤ 9223372036854775807) : (sevens n).length ≤ 9 := sevens_le 8 n (by rw [pow9]; omega)

theorem number_neg (p t : Nat) (ao : Option Addr) (cap : Nat) (bs : List UInt8) (at_ er ea n : Int) (w : World) (h : WAt w p t ao cap bs at_ er ea) (hn : n < 0) :
    Calls Try.prog 64 #[.pointer (some ⟨p, 0, none⟩), .int .i64 n] w fun e w' => e = .panicked (gu 5 at_) ∧ ∃ k, w' = w.drewN k := by
  have hc := h.c
  have h1 := h.tp.c1
  go_enter Try.func64, Try.ntmps64
  go_wp2
  go_region_with (go_at_call 55; refine (fail_two _ _ _ _).mono ?_; rintro e w' (⟨rfl, rfl⟩ | ⟨rfl, rfl, hF⟩); exact ⟨rfl, rfl, 1, rfl⟩; skip)
  all_goals exact hF.out.elim

theorem Try.infoU8 : (Try.prog.info? 5).map (fun i => (i.zero, i.size, i.bytes)) = some (some (.int .u8 0), 1, 1) := by kernel_rfl

/-- append of whatever, at this program. -/
theorem app_row (w : World) (tx : TypeId) (ao : Option Addr) (cap : Nat) (bs cs : List UInt8) (hown : Row w 5 ao cap bs) (x : Value) (hs : Src Try.prog 1 tx x cs.length (bv cs) w) (hb : bs.length + cs.length ≤ 140737488355328) :
    ∃ ao' cap' w', (Builtin.append_ #[28, tx] 28 #[.slice ao bs.length cap, x]).run Try.prog w = .ok (.slice ao' (bs.length + cs.length) cap') w' ∧ Row w' 5 ao' cap' (bs ++ cs) ∧ Fr (blk ao) w w' ∧ (ao' = ao ∨ ao' = some ⟨w.heap.size, 0, none⟩) := by
  obtain ⟨i0, hi, hz0, hz1, hz2⟩ := info_parts Try.infoU8
  exact append_row w 28 tx 28 5 i0 (.int .u8 0) Try.underlying28 hi hz0 hz1 hz2 rfl ao cap bs cs hown x hs hb

theorem Row.alloc {w : World} {e : TypeId} {ao : Option Addr} {cap : Nat} {bs : List UInt8} (h : Row w e ao cap bs) (o : Obj) : Row (w.alloc o) e ao cap bs := h.keep (fun k hk _ => Below.heap_alloc w o k hk)
theorem Row.drew {w : World} {e : TypeId} {ao : Option Addr} {cap : Nat} {bs : List UInt8} (h : Row w e ao cap bs) : Row w.drew e ao cap bs := h

/-- One byte, laid and appended. -/
theorem app_byte (wr : World) (ao : Option Addr) (cap : Nat) (bs : List UInt8) (h : Row wr 5 ao cap bs) (x : Int) (b : UInt8) (hx : x = b.toNat) (hb : bs.length + 1 ≤ 140737488355328) :
    ∃ ao' cap' w1, (Builtin.append_ #[28, 28] 28 #[.slice ao bs.length cap, .slice (some ⟨wr.heap.size, 0, none⟩) 1 1]).run Try.prog (wr.alloc (.cells #[.int .u8 x] 5)).drew = .ok (.slice ao' (bs.length + 1) cap') w1 ∧
      Row w1 5 ao' cap' (bs ++ [b]) ∧ Fr (blk ao) wr w1 ∧ (ao' = ao ∨ ∀ k, blk ao' k → wr.heap.size ≤ k) := by
  subst hx
  have hs : Src Try.prog 1 28 (.slice (some ⟨wr.heap.size, 0, none⟩) 1 1) 1 (bv [b]) (wr.alloc (.cells #[.int .u8 b.toNat] 5)).drew := by
    refine Src.ofSlice _ Try.underlying28 ⟨wr.heap.size, 0, none⟩ 1 1 (bv [b]) rfl (fun j u hu => ?_) (bv_one _)
    match j, hu with
    | 0, hu => simp [bv] at hu; subst hu; simp [Addr.add]
  obtain ⟨ao', cap', w1, h1, h2, h3, h4⟩ := app_row (wr.alloc (.cells #[.int .u8 b.toNat] 5)).drew 28 ao cap bs [b] (h.alloc _).drew _ hs hb
  refine ⟨ao', cap', w1, h1, h2, ((Fr.refl (blk ao) wr).alloc _).drew.trans h3 (fun _ _ e => e), ?_⟩
  rcases h4 with h4 | h4
  · exact Or.inl h4
  · refine Or.inr fun k hk => ?_
    obtain ⟨a, e1, e2⟩ := hk
    rw [h4] at e1
    obtain rfl := Option.some.inj e1
    simp at e2
    omega

theorem WAt.stored {w w1 : World} {p t : Nat} {ao ao' : Option Addr} {cap cap' : Nat} {bs bs' : List UInt8} {at_ er ea : Int} (h : WAt w p t ao cap bs at_ er ea) (hf : Fr (blk ao) w w1) (hr : Row w1 5 ao' cap' bs') (hao : ao' = ao ∨ ∀ k, blk ao' k → w.heap.size ≤ k) :
    WAt (w1.setCell ⟨t, 0, none⟩ (.slice ao' bs'.length cap')) p t ao' cap' bs' at_ er ea ∧ Fr (wset t ao) w (w1.setCell ⟨t, 0, none⟩ (.slice ao' bs'.length cap')) := by
  have ht := (hf.block t h.tp.lt h.tp.apart).trans h.tp.blk
  have hne : ∀ k, blk ao' k → k ≠ t := fun k hk e => by
    subst e
    rcases hao with rfl | hao
    · exact h.tp.apart hk
    · have := hao _ hk; have := h.tp.lt; omega
  refine ⟨⟨?_, ?_, ?_⟩, (hf.mono (S' := wset t ao) fun k e => Or.inr e).setCell (fun _ => Or.inl rfl) _⟩
  · rw [heap_setCell_other _ _ _ _ h.ne]
    exact (hf.block p h.lt h.apart).trans h.box
  · rw [heap_setCell_same _ _ _ _ _ _ ht]; rfl
  · exact hr.keep fun k _ e => heap_setCell_other _ _ _ _ (hne k e)

theorem byte_more (m : Nat) (hm : m ≤ 9223372036854775807) : IntKind.u8.wrap (IntKind.i64.wrap ((m : Int).tmod 128 + 128)) = ((UInt8.ofNat (m % 128 + 128)).toNat : Int) := by
  rw [rem_in _ _ (by omega), i64_in _ (by omega), u8_in _ (by omega)]
  simp
  omega

theorem byte_last (m : Nat) (hm : m < 128) : IntKind.u8.wrap (m : Int) = ((UInt8.ofNat m).toNat : Int) := by
  rw [u8_in _ (by omega)]
  simp
  omega

theorem fresh_trans {w wr : World} {a b c : Option Addr} (hs : w.heap.size ≤ wr.heap.size) (h : b = a ∨ ∀ k, blk b k → w.heap.size ≤ k) (h' : c = b ∨ ∀ k, blk c k → wr.heap.size ≤ k) : c = a ∨ ∀ k, blk c k → w.heap.size ≤ k := by
  rcases h' with rfl | h'
  · exact h
  · exact Or.inr fun k hk => Nat.le_trans hs (h' k hk)

theorem wset_trans {w wr w' : World} {t : Nat} {a b : Option Addr} (h : Fr (wset t a) w wr) (hb : b = a ∨ ∀ k, blk b k → w.heap.size ≤ k) (h' : Fr (wset t b) wr w') : Fr (wset t a) w w' := by
  refine h.trans h' fun i hi e => ?_
  rcases e with e | e
  · exact Or.inl e
  · rcases hb with rfl | hb
    · exact Or.inr e
    · have := hb i e; omega

set_option maxRecDepth 100000 in
set_option maxHeartbeats 1000000 in
theorem number_nat (p t : Nat) (ao : Option Addr) (cap : Nat) (bs : List UInt8) (at_ er ea : Int) (n : Nat) (w : World) (h : WAt w p t ao cap bs at_ er ea) (hn : n ≤ 9223372036854775807) (hb : bs.length + 20 ≤ 140737488355328) :
    Calls Try.prog 64 #[.pointer (some ⟨p, 0, none⟩), .int .i64 n] w fun e w' => e = .returned (.tuple #[]) ∧ ∃ ao' cap', WAt w' p t ao' cap' (bs ++ sevens n) at_ er ea ∧ Fr (wset t ao) w w' ∧ (ao' = ao ∨ ∀ k, blk ao' k → w.heap.size ≤ k) := by
  go_enter Try.func64, Try.ntmps64
  go_wp2
  go_loopw [1] (fun x wr => ∃ (m : Nat) (cs : List UInt8) (aor : Option Addr) (capr : Nat), x = .int .i64 m ∧ m ≤ n ∧ cs.length + (sevens m).length ≤ bs.length + 19 ∧ cs ++ sevens m = bs ++ sevens n ∧ WAt wr p t aor capr cs at_ er ea ∧ Fr (wset t ao) w wr ∧ (aor = ao ∨ ∀ k, blk aor k → w.heap.size ≤ k))
    (fun x _ => (intOf x).toNat)
  case atStart => exact ⟨n, bs, ao, cap, rfl, Nat.le_refl _, by have := sevens_nine hn; omega, rfl, h, Fr.refl _ _, Or.inl rfl⟩
  case round =>
    obtain ⟨m, cs, aor, capr, rfl, hm, hlen, hpre, hW, hF, hao⟩ := hrel
    by_cases hge : 128 ≤ m
    · obtain ⟨ao1, cap1, w1, hrun, hrow, hf1, hao1⟩ := app_byte wr aor capr cs hW.tp.row _ _ (byte_more m (by omega)) (by omega)
      have HP : Hid (cs ++ sevens m = bs ++ sevens n) := hpre
      have HR : Hid _ := hrun
      have hst := hW.stored hf1 hrow hao1
      rw [List.length_append, List.length_singleton] at hst
      have hst : Hid _ := hst
      have hc := hW.c
      have h0 := hW.tp.c0
      have hz := hW.tp.fz 0
      have hpl := hW.lt
      have htl := hW.tp.lt
      have hc1 : w1.cell? ⟨p, 0, none⟩ = _ := (World.cell?_of_block (a := ⟨p, 0, none⟩) (hf1.block p hpl hW.apart)).trans hc
      have h01 : w1.cell? ⟨t, 0, none⟩ = _ := (World.cell?_of_block (a := ⟨t, 0, none⟩) (hf1.block t htl hW.tp.apart)).trans h0
      have hz1 : w1.frozen? ⟨t, 0, none⟩ = _ := (World.frozen?_of_block (a := ⟨t, 0, none⟩) (hf1.block t htl hW.tp.apart)).trans hz
      have hne := hW.ne
      have hne' := hW.ne.symm
      clear hpre hrun
      go_wp2
      refine wp_region_held_drew (S := fun w' => w'.cell? ⟨p, 0, none⟩ = some (.pointer (some ⟨t, 0, none⟩))) (by kernel_rfl) ?_ (fun hHeld => ?_)
      · exact hc
      refine wpAnyH_take (i := 0) (v := ?v1) rfl (by kernel_rfl) (by kernel_rfl) (by kernel_rfl) (fun _ _ _ h => h) (Or.inl ⟨by rfl, ?hy1⟩) (by assumption) ?rest1
      case hy1 => intro w hSw; (try dsimp only at hSw); go_simp; (try with_reducible rfl)
      try simp only [Act.put, List.setIfInBounds_toArray, List.set_cons_zero, List.set_cons_succ]
      refine wpAnyH_take (i := 1) (v := ?v2) rfl (by kernel_rfl) (by kernel_rfl) (by kernel_rfl) (fun _ _ _ h => h) (Or.inl ⟨by rfl, ?hy2⟩) (by assumption) ?rest2
      case hy2 => intro w hSw; (try dsimp only at hSw); go_simp; (try with_reducible rfl)
      try simp only [Act.put, List.setIfInBounds_toArray, List.set_cons_zero, List.set_cons_succ]
      refine wpAnyH_take (i := 2) (v := ?v3) rfl (by kernel_rfl) (by kernel_rfl) (by kernel_rfl) (fun _ _ _ h => h) (Or.inl ⟨by rfl, ?hy3⟩) (by assumption) ?rest3
      case hy3 => intro w hSw; (try dsimp only at hSw); go_simp; (try with_reducible rfl)
      try simp only [Act.put, List.setIfInBounds_toArray, List.set_cons_zero, List.set_cons_succ]
      refine wpAnyH_take (i := 3) (v := ?v4) rfl (by kernel_rfl) (by kernel_rfl) (by kernel_rfl) (fun _ _ _ h => h) (Or.inl ⟨by rfl, ?hy4⟩) (by assumption) ?rest4
      case hy4 => intro w hSw; (try dsimp only at hSw); go_simp; (try with_reducible rfl)
      try simp only [Act.put, List.setIfInBounds_toArray, List.set_cons_zero, List.set_cons_succ]
      refine wpAnyH_take (i := 4) (v := ?v5) rfl (by kernel_rfl) (by kernel_rfl) (by kernel_rfl) (fun _ _ _ h => h) (Or.inl ⟨by rfl, ?hy5⟩) (by assumption) ?rest5
      case hy5 => intro w hSw; (try dsimp only at hSw); go_simp; (try with_reducible rfl)
      try simp only [Act.put, List.setIfInBounds_toArray, List.set_cons_zero, List.set_cons_succ]
      refine wpAnyH_take (i := 5) (v := ?v6) rfl (by kernel_rfl) (by kernel_rfl) (by kernel_rfl) (fun _ _ _ h => h) (Or.inl ⟨by rfl, ?hy6⟩) (by assumption) ?rest6
      case hy6 => intro w hSw; (try dsimp only at hSw); go_simp; (try with_reducible rfl)
      try simp only [Act.put, List.setIfInBounds_toArray, List.set_cons_zero, List.set_cons_succ]
      refine wpAnyH_take (i := 6) (v := ?v7) rfl (by kernel_rfl) (by kernel_rfl) (by kernel_rfl) (fun _ _ _ h => h) (Or.inl ⟨by rfl, ?hy7⟩) (by assumption) ?rest7
      case hy7 => intro w hSw; (try dsimp only at hSw); go_simp; (try with_reducible rfl)
      try simp only [Act.put, List.setIfInBounds_toArray, List.set_cons_zero, List.set_cons_succ]
      refine wpAnyH_take (i := 7) (v := ?v8) rfl (by kernel_rfl) (by kernel_rfl) (by kernel_rfl) (fun _ _ _ h => h) (Or.inl ⟨by rfl, ?hy8⟩) (by assumption) ?rest8
      case hy8 => intro w hSw; (try dsimp only at hSw); go_simp; (try with_reducible rfl)
      try simp only [Act.put, List.setIfInBounds_toArray, List.set_cons_zero, List.set_cons_succ]
      refine wpAnyH_take (i := 8) (v := ?v9) rfl (by kernel_rfl) (by kernel_rfl) (by kernel_rfl) (fun _ _ _ h => h) (Or.inl ⟨by rfl, ?hy9⟩) (by assumption) ?rest9
      case hy9 => intro w hSw; (try dsimp only at hSw); go_simp; (try with_reducible rfl)
      try simp only [Act.put, List.setIfInBounds_toArray, List.set_cons_zero, List.set_cons_succ]
      refine wpAnyH_take (i := 9) (v := ?v10) rfl (by kernel_rfl) (by kernel_rfl) (by kernel_rfl) (fun _ _ _ h => h) (Or.inl ⟨by rfl, ?hy10⟩) (by assumption) ?rest10
      case hy10 => intro w hSw; (try dsimp only at hSw); go_simp; (try with_reducible rfl)
      try simp only [Act.put, List.setIfInBounds_toArray, List.set_cons_zero, List.set_cons_succ]
      refine wpAnyH_take (i := 11) (v := ?v11) rfl (by kernel_rfl) (by kernel_rfl) (by kernel_rfl) (fun _ _ _ h => h) (Or.inl ⟨by rfl, ?hy11⟩) (by assumption) ?rest11
      case hy11 => intro w hSw; (try dsimp only at hSw); go_simp; (try with_reducible rfl)
      try simp only [Act.put, List.setIfInBounds_toArray, List.set_cons_zero, List.set_cons_succ]
      refine wpAnyH_take (i := 12) (v := ?v12) rfl (by kernel_rfl) (by kernel_rfl) (by kernel_rfl) (fun _ _ _ h => h) (Or.inl ⟨by rfl, ?hy12⟩) (by assumption) ?rest12
      case hy12 => intro w hSw; (try dsimp only at hSw); go_simp; (try with_reducible rfl)
      try simp only [Act.put, List.setIfInBounds_toArray, List.set_cons_zero, List.set_cons_succ]
      refine wpAnyH_take (i := 13) (v := ?v13) rfl (by kernel_rfl) (by kernel_rfl) (by kernel_rfl) (fun _ _ _ h => h) (Or.inl ⟨by rfl, ?hy13⟩) (by assumption) ?rest13
      case hy13 => intro w hSw; (try dsimp only at hSw); go_simp; (try with_reducible rfl)
      try simp only [Act.put, List.setIfInBounds_toArray, List.set_cons_zero, List.set_cons_succ]
      refine wpAnyH_take (i := 14) (v := ?v14) rfl (by kernel_rfl) (by kernel_rfl) (by kernel_rfl) (fun _ _ _ h => h) (Or.inl ⟨by rfl, ?hy14⟩) (by assumption) ?rest14
      case hy14 => intro w hSw; (try dsimp only at hSw); go_simp; (try with_reducible rfl)
      try simp only [Act.put, List.setIfInBounds_toArray, List.set_cons_zero, List.set_cons_succ]
      refine wpAnyH_ready (rs := [10, 15]) (by kernel_rfl) (by simp) ?_
      refine AllReadyH.cons rfl (fun K hK => ?_) ?_
      · go_simp
        refine hK.out _ _ ?_ (fun hHeld => ?_)
        · exact hc
        clear hK K
        try simp only [Act.put, List.setIfInBounds_toArray, List.set_cons_zero, List.set_cons_succ]
        refine wpAnyH_ready (rs := [15]) (by kernel_rfl) (by simp) ?_
        refine AllReadyH.cons rfl (fun K hK => ?_) AllReadyH.nil
        go_simp
        refine hK.out _ _ ?_ (fun hHeld => ?_)
        · exact cellA hc _
        clear hK K
        try simp only [Act.put, List.setIfInBounds_toArray, List.set_cons_zero, List.set_cons_succ]
        refine wpAnyH_ready (rs := [16]) (by kernel_rfl) (by simp) ?_
        refine AllReadyH.cons rfl (fun K hK => ?_) AllReadyH.nil
        refine step_append_run rfl (.tmp 32) (.tmp 37) 28 28 rfl _ _ _ _ rfl rfl HR.out ?_
        refine hK.out _ _ ?_ (fun hHeld => ?_)
        · exact hc1
        clear hK K
        try simp only [Act.put, List.setIfInBounds_toArray, List.set_cons_zero, List.set_cons_succ]
        refine wpAnyH_take (i := 17) (v := ?v15) rfl (by kernel_rfl) (by kernel_rfl) (by kernel_rfl) (fun _ _ _ h => h) (Or.inl ⟨by rfl, ?hy15⟩) (by assumption) ?rest15
        case hy15 => intro w hSw; (try dsimp only at hSw); go_simp; (try with_reducible rfl)
        try simp only [Act.put, List.setIfInBounds_toArray, List.set_cons_zero, List.set_cons_succ]
        refine wpAnyH_take (i := 18) (v := ?v16) rfl (by kernel_rfl) (by kernel_rfl) (by kernel_rfl) (fun _ _ _ h => h) (Or.inl ⟨by rfl, ?hy16⟩) (by assumption) ?rest16
        case hy16 => intro w hSw; (try dsimp only at hSw); go_simp; (try with_reducible rfl)
        try simp only [Act.put, List.setIfInBounds_toArray, List.set_cons_zero, List.set_cons_succ]
        refine wpAnyH_ready (rs := [19]) (by kernel_rfl) (by simp) ?_
        refine AllReadyH.cons rfl (fun K hK => ?_) AllReadyH.nil
        go_simp
        refine hK.out _ _ ?_ (fun hHeld => ?_)
        · exact hst.out.1.c
        clear hK K
        try simp only [Act.put, List.setIfInBounds_toArray, List.set_cons_zero, List.set_cons_succ]
        refine wpAnyH_done (by kernel_rfl) ?_ _
        go_wp2
        go_roundw
        case measure => simp [intOf]; omega
        case rel => exact ⟨m / 128, cs ++ [UInt8.ofNat (m % 128 + 128)], ao1, cap1, by go_num, by omega, by rw [sevens_ge (by omega)] at hlen; simp at hlen ⊢; omega, by have := HP.out; rw [sevens_ge (by omega)] at this; rw [← this]; simp, hst.out.1, wset_trans hF hao hst.out.2, fresh_trans hF.size hao hao1⟩
      refine AllReadyH.cons rfl (fun K hK => ?_) ?_
      · go_simp
        refine hK.out _ _ ?_ (fun hHeld => ?_)
        · exact cellA hc _
        clear hK K
        try simp only [Act.put, List.setIfInBounds_toArray, List.set_cons_zero, List.set_cons_succ]
        refine wpAnyH_ready (rs := [10]) (by kernel_rfl) (by simp) ?_
        refine AllReadyH.cons rfl (fun K hK => ?_) AllReadyH.nil
        go_simp
        refine hK.out _ _ ?_ (fun hHeld => ?_)
        · exact cellA hc _
        clear hK K
        try simp only [Act.put, List.setIfInBounds_toArray, List.set_cons_zero, List.set_cons_succ]
        refine wpAnyH_ready (rs := [16]) (by kernel_rfl) (by simp) ?_
        refine AllReadyH.cons rfl (fun K hK => ?_) AllReadyH.nil
        refine step_append_run rfl (.tmp 32) (.tmp 37) 28 28 rfl _ _ _ _ rfl rfl HR.out ?_
        refine hK.out _ _ ?_ (fun hHeld => ?_)
        · exact hc1
        clear hK K
        try simp only [Act.put, List.setIfInBounds_toArray, List.set_cons_zero, List.set_cons_succ]
        refine wpAnyH_take (i := 17) (v := ?v17) rfl (by kernel_rfl) (by kernel_rfl) (by kernel_rfl) (fun _ _ _ h => h) (Or.inl ⟨by rfl, ?hy17⟩) (by assumption) ?rest17
        case hy17 => intro w hSw; (try dsimp only at hSw); go_simp; (try with_reducible rfl)
        try simp only [Act.put, List.setIfInBounds_toArray, List.set_cons_zero, List.set_cons_succ]
        refine wpAnyH_take (i := 18) (v := ?v18) rfl (by kernel_rfl) (by kernel_rfl) (by kernel_rfl) (fun _ _ _ h => h) (Or.inl ⟨by rfl, ?hy18⟩) (by assumption) ?rest18
        case hy18 => intro w hSw; (try dsimp only at hSw); go_simp; (try with_reducible rfl)
        try simp only [Act.put, List.setIfInBounds_toArray, List.set_cons_zero, List.set_cons_succ]
        refine wpAnyH_ready (rs := [19]) (by kernel_rfl) (by simp) ?_
        refine AllReadyH.cons rfl (fun K hK => ?_) AllReadyH.nil
        go_simp
        refine hK.out _ _ ?_ (fun hHeld => ?_)
        · exact hst.out.1.c
        clear hK K
        try simp only [Act.put, List.setIfInBounds_toArray, List.set_cons_zero, List.set_cons_succ]
        refine wpAnyH_done (by kernel_rfl) ?_ _
        go_wp2
        go_roundw
        case measure => simp [intOf]; omega
        case rel => exact ⟨m / 128, cs ++ [UInt8.ofNat (m % 128 + 128)], ao1, cap1, by go_num, by omega, by rw [sevens_ge (by omega)] at hlen; simp at hlen ⊢; omega, by have := HP.out; rw [sevens_ge (by omega)] at this; rw [← this]; simp, hst.out.1, wset_trans hF hao hst.out.2, fresh_trans hF.size hao hao1⟩
      exact AllReadyH.nil
    · have hlt : m < 128 := by omega
      obtain ⟨ao1, cap1, w1, hrun, hrow, hf1, hao1⟩ := app_byte wr aor capr cs hW.tp.row _ _ (byte_last m hlt) (by omega)
      have HP : Hid (cs ++ sevens m = bs ++ sevens n) := hpre
      have HR : Hid _ := hrun
      have hst := hW.stored hf1 hrow hao1
      rw [List.length_append, List.length_singleton] at hst
      have hst : Hid _ := hst
      have hc := hW.c
      have h0 := hW.tp.c0
      have hz := hW.tp.fz 0
      have hpl := hW.lt
      have htl := hW.tp.lt
      have hc1 : w1.cell? ⟨p, 0, none⟩ = _ := (World.cell?_of_block (a := ⟨p, 0, none⟩) (hf1.block p hpl hW.apart)).trans hc
      have h01 : w1.cell? ⟨t, 0, none⟩ = _ := (World.cell?_of_block (a := ⟨t, 0, none⟩) (hf1.block t htl hW.tp.apart)).trans h0
      have hz1 : w1.frozen? ⟨t, 0, none⟩ = _ := (World.frozen?_of_block (a := ⟨t, 0, none⟩) (hf1.block t htl hW.tp.apart)).trans hz
      clear hpre hrun
      go_wp2
      refine wp_region_held_drew (S := fun w' => w'.cell? ⟨p, 0, none⟩ = some (.pointer (some ⟨t, 0, none⟩))) (by kernel_rfl) ?_ (fun hHeld => ?_)
      · exact hc
      refine wpAnyH_take (i := 0) (v := ?v19) rfl (by kernel_rfl) (by kernel_rfl) (by kernel_rfl) (fun _ _ _ h => h) (Or.inl ⟨by rfl, ?hy19⟩) (by assumption) ?rest19
      case hy19 => intro w hSw; (try dsimp only at hSw); go_simp; (try with_reducible rfl)
      try simp only [Act.put, List.setIfInBounds_toArray, List.set_cons_zero, List.set_cons_succ]
      refine wpAnyH_take (i := 1) (v := ?v20) rfl (by kernel_rfl) (by kernel_rfl) (by kernel_rfl) (fun _ _ _ h => h) (Or.inl ⟨by rfl, ?hy20⟩) (by assumption) ?rest20
      case hy20 => intro w hSw; (try dsimp only at hSw); go_simp; (try with_reducible rfl)
      try simp only [Act.put, List.setIfInBounds_toArray, List.set_cons_zero, List.set_cons_succ]
      refine wpAnyH_take (i := 2) (v := ?v21) rfl (by kernel_rfl) (by kernel_rfl) (by kernel_rfl) (fun _ _ _ h => h) (Or.inl ⟨by rfl, ?hy21⟩) (by assumption) ?rest21
      case hy21 => intro w hSw; (try dsimp only at hSw); go_simp; (try with_reducible rfl)
      try simp only [Act.put, List.setIfInBounds_toArray, List.set_cons_zero, List.set_cons_succ]
      refine wpAnyH_take (i := 3) (v := ?v22) rfl (by kernel_rfl) (by kernel_rfl) (by kernel_rfl) (fun _ _ _ h => h) (Or.inl ⟨by rfl, ?hy22⟩) (by assumption) ?rest22
      case hy22 => intro w hSw; (try dsimp only at hSw); go_simp; (try with_reducible rfl)
      try simp only [Act.put, List.setIfInBounds_toArray, List.set_cons_zero, List.set_cons_succ]
      refine wpAnyH_take (i := 4) (v := ?v23) rfl (by kernel_rfl) (by kernel_rfl) (by kernel_rfl) (fun _ _ _ h => h) (Or.inl ⟨by rfl, ?hy23⟩) (by assumption) ?rest23
      case hy23 => intro w hSw; (try dsimp only at hSw); go_simp; (try with_reducible rfl)
      try simp only [Act.put, List.setIfInBounds_toArray, List.set_cons_zero, List.set_cons_succ]
      refine wpAnyH_take (i := 5) (v := ?v24) rfl (by kernel_rfl) (by kernel_rfl) (by kernel_rfl) (fun _ _ _ h => h) (Or.inl ⟨by rfl, ?hy24⟩) (by assumption) ?rest24
      case hy24 => intro w hSw; (try dsimp only at hSw); go_simp; (try with_reducible rfl)
      try simp only [Act.put, List.setIfInBounds_toArray, List.set_cons_zero, List.set_cons_succ]
      refine wpAnyH_take (i := 6) (v := ?v25) rfl (by kernel_rfl) (by kernel_rfl) (by kernel_rfl) (fun _ _ _ h => h) (Or.inl ⟨by rfl, ?hy25⟩) (by assumption) ?rest25
      case hy25 => intro w hSw; (try dsimp only at hSw); go_simp; (try with_reducible rfl)
      try simp only [Act.put, List.setIfInBounds_toArray, List.set_cons_zero, List.set_cons_succ]
      refine wpAnyH_take (i := 7) (v := ?v26) rfl (by kernel_rfl) (by kernel_rfl) (by kernel_rfl) (fun _ _ _ h => h) (Or.inl ⟨by rfl, ?hy26⟩) (by assumption) ?rest26
      case hy26 => intro w hSw; (try dsimp only at hSw); go_simp; (try with_reducible rfl)
      try simp only [Act.put, List.setIfInBounds_toArray, List.set_cons_zero, List.set_cons_succ]
      refine wpAnyH_take (i := 8) (v := ?v27) rfl (by kernel_rfl) (by kernel_rfl) (by kernel_rfl) (fun _ _ _ h => h) (Or.inl ⟨by rfl, ?hy27⟩) (by assumption) ?rest27
      case hy27 => intro w hSw; (try dsimp only at hSw); go_simp; (try with_reducible rfl)
      try simp only [Act.put, List.setIfInBounds_toArray, List.set_cons_zero, List.set_cons_succ]
      refine wpAnyH_take (i := 9) (v := ?v28) rfl (by kernel_rfl) (by kernel_rfl) (by kernel_rfl) (fun _ _ _ h => h) (Or.inl ⟨by rfl, ?hy28⟩) (by assumption) ?rest28
      case hy28 => intro w hSw; (try dsimp only at hSw); go_simp; (try with_reducible rfl)
      try simp only [Act.put, List.setIfInBounds_toArray, List.set_cons_zero, List.set_cons_succ]
      refine wpAnyH_take (i := 11) (v := ?v29) rfl (by kernel_rfl) (by kernel_rfl) (by kernel_rfl) (fun _ _ _ h => h) (Or.inl ⟨by rfl, ?hy29⟩) (by assumption) ?rest29
      case hy29 => intro w hSw; (try dsimp only at hSw); go_simp; (try with_reducible rfl)
      try simp only [Act.put, List.setIfInBounds_toArray, List.set_cons_zero, List.set_cons_succ]
      refine wpAnyH_take (i := 12) (v := ?v30) rfl (by kernel_rfl) (by kernel_rfl) (by kernel_rfl) (fun _ _ _ h => h) (Or.inl ⟨by rfl, ?hy30⟩) (by assumption) ?rest30
      case hy30 => intro w hSw; (try dsimp only at hSw); go_simp; (try with_reducible rfl)
      try simp only [Act.put, List.setIfInBounds_toArray, List.set_cons_zero, List.set_cons_succ]
      refine wpAnyH_ready (rs := [10, 13]) (by kernel_rfl) (by simp) ?_
      refine AllReadyH.cons rfl (fun K hK => ?_) ?_
      · go_simp
        refine hK.out _ _ ?_ (fun hHeld => ?_)
        · exact hc
        clear hK K
        try simp only [Act.put, List.setIfInBounds_toArray, List.set_cons_zero, List.set_cons_succ]
        refine wpAnyH_ready (rs := [13]) (by kernel_rfl) (by simp) ?_
        refine AllReadyH.cons rfl (fun K hK => ?_) AllReadyH.nil
        go_simp
        refine hK.out _ _ ?_ (fun hHeld => ?_)
        · exact cellA hc _
        clear hK K
        try simp only [Act.put, List.setIfInBounds_toArray, List.set_cons_zero, List.set_cons_succ]
        refine wpAnyH_ready (rs := [14]) (by kernel_rfl) (by simp) ?_
        refine AllReadyH.cons rfl (fun K hK => ?_) AllReadyH.nil
        refine step_append_run rfl (.tmp 51) (.tmp 54) 28 28 rfl _ _ _ _ rfl rfl HR.out ?_
        refine hK.out _ _ ?_ (fun hHeld => ?_)
        · exact hc1
        clear hK K
        try simp only [Act.put, List.setIfInBounds_toArray, List.set_cons_zero, List.set_cons_succ]
        refine wpAnyH_take (i := 15) (v := ?v31) rfl (by kernel_rfl) (by kernel_rfl) (by kernel_rfl) (fun _ _ _ h => h) (Or.inl ⟨by rfl, ?hy31⟩) (by assumption) ?rest31
        case hy31 => intro w hSw; (try dsimp only at hSw); go_simp; (try with_reducible rfl)
        try simp only [Act.put, List.setIfInBounds_toArray, List.set_cons_zero, List.set_cons_succ]
        refine wpAnyH_take (i := 16) (v := ?v32) rfl (by kernel_rfl) (by kernel_rfl) (by kernel_rfl) (fun _ _ _ h => h) (Or.inl ⟨by rfl, ?hy32⟩) (by assumption) ?rest32
        case hy32 => intro w hSw; (try dsimp only at hSw); go_simp; (try with_reducible rfl)
        try simp only [Act.put, List.setIfInBounds_toArray, List.set_cons_zero, List.set_cons_succ]
        refine wpAnyH_ready (rs := [17]) (by kernel_rfl) (by simp) ?_
        refine AllReadyH.cons rfl (fun K hK => ?_) AllReadyH.nil
        go_simp
        refine hK.out _ _ ?_ (fun hHeld => ?_)
        · exact hst.out.1.c
        clear hK K
        try simp only [Act.put, List.setIfInBounds_toArray, List.set_cons_zero, List.set_cons_succ]
        refine wpAnyH_done (by kernel_rfl) ?_ _
        go_end0
        exact ⟨rfl, ao1, cap1, by have := HP.out; rw [sevens_lt hlt] at this; rw [← this]; exact hst.out.1, wset_trans hF hao hst.out.2, fresh_trans hF.size hao hao1⟩
      refine AllReadyH.cons rfl (fun K hK => ?_) ?_
      · go_simp
        refine hK.out _ _ ?_ (fun hHeld => ?_)
        · exact cellA hc _
        clear hK K
        try simp only [Act.put, List.setIfInBounds_toArray, List.set_cons_zero, List.set_cons_succ]
        refine wpAnyH_ready (rs := [10]) (by kernel_rfl) (by simp) ?_
        refine AllReadyH.cons rfl (fun K hK => ?_) AllReadyH.nil
        go_simp
        refine hK.out _ _ ?_ (fun hHeld => ?_)
        · exact cellA hc _
        clear hK K
        try simp only [Act.put, List.setIfInBounds_toArray, List.set_cons_zero, List.set_cons_succ]
        refine wpAnyH_ready (rs := [14]) (by kernel_rfl) (by simp) ?_
        refine AllReadyH.cons rfl (fun K hK => ?_) AllReadyH.nil
        refine step_append_run rfl (.tmp 51) (.tmp 54) 28 28 rfl _ _ _ _ rfl rfl HR.out ?_
        refine hK.out _ _ ?_ (fun hHeld => ?_)
        · exact hc1
        clear hK K
        try simp only [Act.put, List.setIfInBounds_toArray, List.set_cons_zero, List.set_cons_succ]
        refine wpAnyH_take (i := 15) (v := ?v33) rfl (by kernel_rfl) (by kernel_rfl) (by kernel_rfl) (fun _ _ _ h => h) (Or.inl ⟨by rfl, ?hy33⟩) (by assumption) ?rest33
        case hy33 => intro w hSw; (try dsimp only at hSw); go_simp; (try with_reducible rfl)
        try simp only [Act.put, List.setIfInBounds_toArray, List.set_cons_zero, List.set_cons_succ]
        refine wpAnyH_take (i := 16) (v := ?v34) rfl (by kernel_rfl) (by kernel_rfl) (by kernel_rfl) (fun _ _ _ h => h) (Or.inl ⟨by rfl, ?hy34⟩) (by assumption) ?rest34
        case hy34 => intro w hSw; (try dsimp only at hSw); go_simp; (try with_reducible rfl)
        try simp only [Act.put, List.setIfInBounds_toArray, List.set_cons_zero, List.set_cons_succ]
        refine wpAnyH_ready (rs := [17]) (by kernel_rfl) (by simp) ?_
        refine AllReadyH.cons rfl (fun K hK => ?_) AllReadyH.nil
        go_simp
        refine hK.out _ _ ?_ (fun hHeld => ?_)
        · exact hst.out.1.c
        clear hK K
        try simp only [Act.put, List.setIfInBounds_toArray, List.set_cons_zero, List.set_cons_succ]
        refine wpAnyH_done (by kernel_rfl) ?_ _
        go_end0
        exact ⟨rfl, ao1, cap1, by have := HP.out; rw [sevens_lt hlt] at this; rw [← this]; exact hst.out.1, wset_trans hF hao hst.out.2, fresh_trans hF.size hao hao1⟩
      exact AllReadyH.nil

end Go.Proofs.Yteihmonafdnicaa
