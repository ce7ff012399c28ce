/- ProgTells, part 3 of the road: what the program's functions do, each by its own walk. -/
import Derived.Test.YtojgikaoiegmpaaGreatDoorQ1
import Derived.Test.YtojgikaoiegmpaaGreatDoorQ2
import Derived.Deep.QuietTactic
import Derived.BigQuiet
import Derived.Deep.RegionHeld3
import Derived.Deep.CutBlock
import Derived.Deep.CutRange

/- The writer of package word: what each call does to the world. -/
namespace Go.Proofs.YtojgikaoiegmpaaGreatDoor
open Go.RowKit Go.IntWalk
set_option linter.unusedSimpArgs false
set_option linter.unusedVariables false
set_option maxRecDepth 100000

/-- A tape in memory. -/
structure TapeAt (w : World) (t : Nat) (ao : Option Addr) (cap : Nat) (bs : List UInt8) (at_ er ea : Int) : Prop where
  blk : w.heap[t]? = some (.cells #[.slice ao bs.length cap, .int .i64 at_, .int .i64 er, .int .i64 ea] 105 (0, 0))
  row : Row w 5 ao cap bs

/-- A writer in memory: itself, and its tape. -/
structure WAt (w : World) (p t : Nat) (ao : Option Addr) (cap : Nat) (bs : List UInt8) (at_ er ea : Int) : Prop where
  box : w.heap[p]? = some (.cells #[.pointer (some ⟨t, 0, none⟩)] 107 (0, 0))
  tp : TapeAt w t ao cap bs at_ er ea

/-- What a writer's calls may turn. -/
def wset (t : Nat) (ao : Option Addr) (k : Nat) : Prop := k = t ∨ blk ao k

section
variable {w w' : World} {p t : Nat} {ao : Option Addr} {cap : Nat} {bs : List UInt8} {at_ er ea : Int}

theorem TapeAt.lt (h : TapeAt w t ao cap bs at_ er ea) : t < w.heap.size := (Array.getElem?_eq_some_iff.1 h.blk).1
theorem WAt.lt (h : WAt w p t ao cap bs at_ er ea) : p < w.heap.size := (Array.getElem?_eq_some_iff.1 h.box).1
theorem TapeAt.c0 (h : TapeAt w t ao cap bs at_ er ea) : w.cell? ⟨t, 0, none⟩ = some (.slice ao bs.length cap) := by rw [cell_of_row w t 0 _ _ _ h.blk]; rfl
theorem TapeAt.c1 (h : TapeAt w t ao cap bs at_ er ea) : w.cell? ⟨t, 1, none⟩ = some (.int .i64 at_) := by rw [cell_of_row w t 1 _ _ _ h.blk]; rfl
theorem TapeAt.c2 (h : TapeAt w t ao cap bs at_ er ea) : w.cell? ⟨t, 2, none⟩ = some (.int .i64 er) := by rw [cell_of_row w t 2 _ _ _ h.blk]; rfl
theorem TapeAt.c3 (h : TapeAt w t ao cap bs at_ er ea) : w.cell? ⟨t, 3, none⟩ = some (.int .i64 ea) := by rw [cell_of_row w t 3 _ _ _ h.blk]; rfl
theorem TapeAt.fz (h : TapeAt w t ao cap bs at_ er ea) (j : Nat) : w.frozen? ⟨t, j, none⟩ = false := frozen_of_row w t j _ _ h.blk
theorem WAt.c (h : WAt w p t ao cap bs at_ er ea) : w.cell? ⟨p, 0, none⟩ = some (.pointer (some ⟨t, 0, none⟩)) := by rw [cell_of_row w p 0 _ _ _ h.box]; rfl

theorem TapeAt.apart (h : TapeAt w t ao cap bs at_ er ea) : ¬ Go.Proofs.YtojgikaoiegmpaaGreatDoor.blk ao t := by
  rintro ⟨a, rfl, hb⟩
  rcases h.row.form with ⟨h0, _⟩ | ⟨g, cur, h0, hh, _⟩
  · cases h0
  · obtain rfl := Option.some.inj h0
    simp only at hb
    subst hb
    have := h.blk.symm.trans hh
    simp at this

theorem TapeAt.keep (h : TapeAt w t ao cap bs at_ er ea) (hb : ∀ k, k < w.heap.size → wset t ao k → w'.heap[k]? = w.heap[k]?) : TapeAt w' t ao cap bs at_ er ea :=
  ⟨(hb t h.lt (Or.inl rfl)).trans h.blk, h.row.keep (fun k hk e => hb k hk (Or.inr e))⟩

theorem WAt.keep (h : WAt w p t ao cap bs at_ er ea) (hp : w'.heap[p]? = w.heap[p]?) (hb : ∀ k, k < w.heap.size → wset t ao k → w'.heap[k]? = w.heap[k]?) : WAt w' p t ao cap bs at_ er ea :=
  ⟨hp.trans h.box, h.tp.keep hb⟩

/-- Where a frame turns nothing of a writer's, it is as it was. -/
theorem WAt.fr {S : Nat → Prop} (h : WAt w p t ao cap bs at_ er ea) (hf : Fr S w w') (hp : ¬ S p) (hS : ∀ k, wset t ao k → ¬ S k) : WAt w' p t ao cap bs at_ er ea :=
  h.keep (hf.block p h.lt hp) (fun k hk e => hf.block k hk (hS k e))

theorem TapeAt.fr {S : Nat → Prop} (h : TapeAt w t ao cap bs at_ er ea) (hf : Fr S w w') (hS : ∀ k, wset t ao k → ¬ S k) : TapeAt w' t ao cap bs at_ er ea :=
  h.keep (fun k hk e => hf.block k hk (hS k e))

theorem WAt.ne (h : WAt w p t ao cap bs at_ er ea) : p ≠ t := by
  rintro rfl
  have := h.box.symm.trans h.tp.blk
  simp at this

theorem WAt.apart (h : WAt w p t ao cap bs at_ er ea) : ¬ Go.Proofs.YtojgikaoiegmpaaGreatDoor.blk ao p := by
  rintro ⟨a, rfl, hb⟩
  rcases h.tp.row.form with ⟨h0, _⟩ | ⟨g, cur, h0, hh, _⟩
  · cases h0
  · obtain rfl := Option.some.inj h0
    simp only at hb
    subst hb
    have := h.box.symm.trans hh
    simp at this

theorem WAt.pset (h : WAt w p t ao cap bs at_ er ea) : ¬ wset t ao p := by
  rintro (e | e)
  · exact h.ne e
  · exact h.apart e
end

/-- A number by sevens, at most f bytes and one. -/
def sevensF : Nat → Nat → List UInt8
  | 0, n => [UInt8.ofNat n]
  | f + 1, n => if n < 128 then [UInt8.ofNat n] else UInt8.ofNat (n % 128 + 128) :: sevensF f (n / 128)

theorem sevensF_eq (f : Nat) : ∀ g n, n < 128 ^ (f + 1) → n < 128 ^ (g + 1) → sevensF f n = sevensF g n := by
  induction f with
  | zero =>
    intro g n h _
    cases g with
    | zero => rfl
    | succ g => simp only [sevensF]; rw [if_pos (by omega)]
  | succ f ih =>
    intro g n h h'
    by_cases h1 : n < 128
    · cases g with
      | zero => simp only [sevensF]; rw [if_pos h1]
      | succ g => simp only [sevensF]; rw [if_pos h1, if_pos h1]
    · cases g with
      | zero => omega
      | succ g =>
        simp only [sevensF]
        rw [if_neg h1, if_neg h1, ih g (n / 128) (by rw [Nat.div_lt_iff_lt_mul (by omega)]; rw [Nat.pow_succ] at h; exact h) (by rw [Nat.div_lt_iff_lt_mul (by omega)]; rw [Nat.pow_succ] at h'; exact h')]

/-- A number by sevens. -/
def sevens (n : Nat) : List UInt8 := sevensF n n

theorem lt_pow (n : Nat) : n < 128 ^ (n + 1) := Nat.lt_of_lt_of_le (Nat.lt_pow_self (by decide)) (Nat.pow_le_pow_right (by decide) (Nat.le_succ n))

theorem sevens_lt {n : Nat} (h : n < 128) : sevens n = [UInt8.ofNat n] := by
  unfold sevens
  cases n with
  | zero => rfl
  | succ n => simp only [sevensF]; rw [if_pos h]
theorem sevens_ge {n : Nat} (h : ¬ n < 128) : sevens n = UInt8.ofNat (n % 128 + 128) :: sevens (n / 128) := by
  unfold sevens
  cases n with
  | zero => omega
  | succ n =>
    have e : sevensF (n + 1) (n + 1) = UInt8.ofNat ((n + 1) % 128 + 128) :: sevensF n ((n + 1) / 128) := by simp only [sevensF]; rw [if_neg h]
    rw [e, sevensF_eq n ((n + 1) / 128) ((n + 1) / 128) (by have := lt_pow n; omega) (lt_pow _)]

/-- fail, told in two ways, of which the second is none: a region's walk wants a way that goes on. -/
theorem fail_two (v : Value) (e a : Int) (w : World) : Calls Tryz.prog 91 #[v, .int .i64 e, .int .i64 a] w fun e' w' => (e' = .panicked (gu e a) ∧ w' = w) ∨ (e' = .returned (.tuple #[]) ∧ w' = w ∧ Hid False) :=
  (fail_any v e a w).mono fun _ _ h => Or.inl h

theorem sevens_pos (n : Nat) : 0 < (sevens n).length := by
  by_cases h : n < 128
  · simp [sevens_lt h]
  · simp [sevens_ge h]

theorem sevens_le (k : Nat) : ∀ n, n < 128 ^ (k + 1) → (sevens n).length ≤ k + 1 := by
  induction k with
  | zero => intro n h; rw [sevens_lt (by omega)]; simp
  | succ k ih =>
    intro n h
    by_cases h1 : n < 128
    · simp [sevens_lt h1]
    · rw [sevens_ge h1]
      have : n / 128 < 128 ^ (k + 1) := by rw [Nat.div_lt_iff_lt_mul (by omega)]; rw [Nat.pow_succ] at h; exact h
      have := ih _ this
      simp only [List.length_cons]
      omega

theorem pow9 : (128 : Nat) ^ (8 + 1) = 9223372036854775808 := by decide
theorem sevens_nine {n : Nat} (h : n ≤ 9223372036854775807) : (sevens n).length ≤ 9 := sevens_le 8 n (by rw [pow9]; omega)

theorem number_neg (p t : Nat) (ao : Option Addr) (cap : Nat) (bs : List UInt8) (at_ er ea n : Int) (w : World) (h : WAt w p t ao cap bs at_ er ea) (hn : n < 0) :
    Calls Tryz.prog 73 #[.pointer (some ⟨p, 0, none⟩), .int .i64 n] w fun e w' => e = .panicked (gu 5 at_) ∧ ∃ k, w' = w.drewN k := by
  have hc := h.c
  have h1 := h.tp.c1
  go_enter Tryz.func73, Tryz.ntmps73
  go_wp2
  go_region_with (go_at_call 91; refine (fail_two _ _ _ _).mono ?_; rintro e w' (⟨rfl, rfl⟩ | ⟨rfl, rfl, hF⟩); exact ⟨rfl, rfl, 1, rfl⟩; skip)
  all_goals exact hF.out.elim

theorem Tryz.infoU8 : (Tryz.prog.info? 5).map (fun i => (i.zero, i.size, i.bytes)) = some (some (.int .u8 0), 1, 1) := by kernel_rfl

/-- append of whatever, at this program. -/
theorem app_row (w : World) (tx : TypeId) (ao : Option Addr) (cap : Nat) (bs cs : List UInt8) (hown : Row w 5 ao cap bs) (x : Value) (hs : Src Tryz.prog 1 tx x cs.length (bv cs) w) (hb : bs.length + cs.length ≤ 140737488355328) :
    ∃ ao' cap' w', (Builtin.append_ #[29, tx] 29 #[.slice ao bs.length cap, x]).run Tryz.prog w = .ok (.slice ao' (bs.length + cs.length) cap') w' ∧ Row w' 5 ao' cap' (bs ++ cs) ∧ Fr (blk ao) w w' ∧ (ao' = ao ∨ ao' = some ⟨w.heap.size, 0, none⟩) := by
  obtain ⟨i0, hi, hz0, hz1, hz2⟩ := info_parts Tryz.infoU8
  exact append_row w 29 tx 29 5 i0 (.int .u8 0) Tryz.underlying29 hi hz0 hz1 hz2 rfl ao cap bs cs hown x hs hb

theorem Row.alloc {w : World} {e : TypeId} {ao : Option Addr} {cap : Nat} {bs : List UInt8} (h : Row w e ao cap bs) (o : Obj) : Row (w.alloc o) e ao cap bs := h.keep (fun k hk _ => Below.heap_alloc w o k hk)
theorem Row.drew {w : World} {e : TypeId} {ao : Option Addr} {cap : Nat} {bs : List UInt8} (h : Row w e ao cap bs) : Row w.drew e ao cap bs := h

/-- One byte, laid and appended. -/
theorem app_byte (wr : World) (ao : Option Addr) (cap : Nat) (bs : List UInt8) (h : Row wr 5 ao cap bs) (x : Int) (b : UInt8) (hx : x = b.toNat) (hb : bs.length + 1 ≤ 140737488355328) :
    ∃ ao' cap' w1, (Builtin.append_ #[29, 29] 29 #[.slice ao bs.length cap, .slice (some ⟨wr.heap.size, 0, none⟩) 1 1]).run Tryz.prog (wr.alloc (.cells #[.int .u8 x] 5)).drew = .ok (.slice ao' (bs.length + 1) cap') w1 ∧
      Row w1 5 ao' cap' (bs ++ [b]) ∧ Fr (blk ao) wr w1 ∧ (ao' = ao ∨ ∀ k, blk ao' k → wr.heap.size ≤ k) := by
  subst hx
  have hs : Src Tryz.prog 1 29 (.slice (some ⟨wr.heap.size, 0, none⟩) 1 1) 1 (bv [b]) (wr.alloc (.cells #[.int .u8 b.toNat] 5)).drew := by
    refine Src.ofSlice _ Tryz.underlying29 ⟨wr.heap.size, 0, none⟩ 1 1 (bv [b]) rfl (fun j u hu => ?_) (bv_one _)
    match j, hu with
    | 0, hu => simp [bv] at hu; subst hu; simp [Addr.add]
  obtain ⟨ao', cap', w1, h1, h2, h3, h4⟩ := app_row (wr.alloc (.cells #[.int .u8 b.toNat] 5)).drew 29 ao cap bs [b] (h.alloc _).drew _ hs hb
  refine ⟨ao', cap', w1, h1, h2, ((Fr.refl (blk ao) wr).alloc _).drew.trans h3 (fun _ _ e => e), ?_⟩
  rcases h4 with h4 | h4
  · exact Or.inl h4
  · refine Or.inr fun k hk => ?_
    obtain ⟨a, e1, e2⟩ := hk
    rw [h4] at e1
    obtain rfl := Option.some.inj e1
    simp at e2
    omega

theorem WAt.stored {w w1 : World} {p t : Nat} {ao ao' : Option Addr} {cap cap' : Nat} {bs bs' : List UInt8} {at_ er ea : Int} (h : WAt w p t ao cap bs at_ er ea) (hf : Fr (blk ao) w w1) (hr : Row w1 5 ao' cap' bs') (hao : ao' = ao ∨ ∀ k, blk ao' k → w.heap.size ≤ k) :
    WAt (w1.setCell ⟨t, 0, none⟩ (.slice ao' bs'.length cap')) p t ao' cap' bs' at_ er ea ∧ Fr (wset t ao) w (w1.setCell ⟨t, 0, none⟩ (.slice ao' bs'.length cap')) := by
  have ht := (hf.block t h.tp.lt h.tp.apart).trans h.tp.blk
  have hne : ∀ k, blk ao' k → k ≠ t := fun k hk e => by
    subst e
    rcases hao with rfl | hao
    · exact h.tp.apart hk
    · have := hao _ hk; have := h.tp.lt; omega
  refine ⟨⟨?_, ?_, ?_⟩, (hf.mono (S' := wset t ao) fun k e => Or.inr e).setCell (fun _ => Or.inl rfl) _⟩
  · rw [heap_setCell_other _ _ _ _ h.ne]
    exact (hf.block p h.lt h.apart).trans h.box
  · rw [heap_setCell_same _ _ _ _ _ _ ht]; rfl
  · exact hr.keep fun k _ e => heap_setCell_other _ _ _ _ (hne k e)

theorem byte_more (m : Nat) (hm : m ≤ 9223372036854775807) : IntKind.u8.wrap (IntKind.i64.wrap ((m : Int).tmod 128 + 128)) = ((UInt8.ofNat (m % 128 + 128)).toNat : Int) := by
  rw [rem_in _ _ (by omega), i64_in _ (by omega), u8_in _ (by omega)]
  simp
  omega

theorem byte_last (m : Nat) (hm : m < 128) : IntKind.u8.wrap (m : Int) = ((UInt8.ofNat m).toNat : Int) := by
  rw [u8_in _ (by omega)]
  simp
  omega

theorem fresh_trans {w wr : World} {a b c : Option Addr} (hs : w.heap.size ≤ wr.heap.size) (h : b = a ∨ ∀ k, blk b k → w.heap.size ≤ k) (h' : c = b ∨ ∀ k, blk c k → wr.heap.size ≤ k) : c = a ∨ ∀ k, blk c k → w.heap.size ≤ k := by
  rcases h' with rfl | h'
  · exact h
  · exact Or.inr fun k hk => Nat.le_trans hs (h' k hk)

theorem wset_trans {w wr w' : World} {t : Nat} {a b : Option Addr} (h : Fr (wset t a) w wr) (hb : b = a ∨ ∀ k, blk b k → w.heap.size ≤ k) (h' : Fr (wset t b) wr w') : Fr (wset t a) w w' := by
  refine h.trans h' fun i hi e => ?_
  rcases e with e | e
  · exact Or.inl e
  · rcases hb with rfl | hb
    · exact Or.inr e
    · have := hb i e; omega

set_option maxRecDepth 100000 in
set_option maxHeartbeats 1000000 in
theorem number_nat (p t : Nat) (ao : Option Addr) (cap : Nat) (bs : List UInt8) (at_ er ea : Int) (n : Nat) (w : World) (h : WAt w p t ao cap bs at_ er ea) (hn : n ≤ 9223372036854775807) (hb : bs.length + 20 ≤ 140737488355328) :
    Calls Tryz.prog 73 #[.pointer (some ⟨p, 0, none⟩), .int .i64 n] w fun e w' => e = .returned (.tuple #[]) ∧ ∃ ao' cap', WAt w' p t ao' cap' (bs ++ sevens n) at_ er ea ∧ Fr (wset t ao) w w' ∧ (ao' = ao ∨ ∀ k, blk ao' k → w.heap.size ≤ k) := by
  go_enter Tryz.func73, Tryz.ntmps73
  go_wp2
  go_loopw [1] (fun x wr => ∃ (m : Nat) (cs : List UInt8) (aor : Option Addr) (capr : Nat), x = .int .i64 m ∧ m ≤ n ∧ cs.length + (sevens m).length ≤ bs.length + 19 ∧ cs ++ sevens m = bs ++ sevens n ∧ WAt wr p t aor capr cs at_ er ea ∧ Fr (wset t ao) w wr ∧ (aor = ao ∨ ∀ k, blk aor k → w.heap.size ≤ k))
    (fun x _ => (intOf x).toNat)
  case atStart => exact ⟨n, bs, ao, cap, rfl, Nat.le_refl _, by have := sevens_nine hn; omega, rfl, h, Fr.refl _ _, Or.inl rfl⟩
  case round =>
    obtain ⟨m, cs, aor, capr, rfl, hm, hlen, hpre, hW, hF, hao⟩ := hrel
    by_cases hge : 128 ≤ m
    · obtain ⟨ao1, cap1, w1, hrun, hrow, hf1, hao1⟩ := app_byte wr aor capr cs hW.tp.row _ _ (byte_more m (by omega)) (by omega)
      have HP : Hid (cs ++ sevens m = bs ++ sevens n) := hpre
      have HR : Hid _ := hrun
      have hst := hW.stored hf1 hrow hao1
      rw [List.length_append, List.length_singleton] at hst
      have hst : Hid _ := hst
      have hc := hW.c
      have h0 := hW.tp.c0
      have hz := hW.tp.fz 0
      have hpl := hW.lt
      have htl := hW.tp.lt
      have hc1 : w1.cell? ⟨p, 0, none⟩ = _ := (World.cell?_of_block (a := ⟨p, 0, none⟩) (hf1.block p hpl hW.apart)).trans hc
      have h01 : w1.cell? ⟨t, 0, none⟩ = _ := (World.cell?_of_block (a := ⟨t, 0, none⟩) (hf1.block t htl hW.tp.apart)).trans h0
      have hz1 : w1.frozen? ⟨t, 0, none⟩ = _ := (World.frozen?_of_block (a := ⟨t, 0, none⟩) (hf1.block t htl hW.tp.apart)).trans hz
      have hne := hW.ne
      have hne' := hW.ne.symm
      clear hpre hrun
      go_wp2
      refine wp_region_held_drew (S := fun w' => w'.cell? ⟨p, 0, none⟩ = some (.pointer (some ⟨t, 0, none⟩))) (by kernel_rfl) ?_ (fun hHeld => ?_)
      · exact hc
      refine wpAnyH_take (i := 0) (v := ?v1) rfl (by kernel_rfl) (by kernel_rfl) (by kernel_rfl) (fun _ _ _ h => h) (Or.inl ⟨by rfl, ?hy1⟩) (by assumption) ?rest1
      case hy1 => intro w hSw; (try dsimp only at hSw); go_simp; (try with_reducible rfl)
      try simp only [Act.put, List.setIfInBounds_toArray, List.set_cons_zero, List.set_cons_succ]
      refine wpAnyH_take (i := 1) (v := ?v2) rfl (by kernel_rfl) (by kernel_rfl) (by kernel_rfl) (fun _ _ _ h => h) (Or.inl ⟨by rfl, ?hy2⟩) (by assumption) ?rest2
      case hy2 => intro w hSw; (try dsimp only at hSw); go_simp; (try with_reducible rfl)
      try simp only [Act.put, List.setIfInBounds_toArray, List.set_cons_zero, List.set_cons_succ]
      refine wpAnyH_take (i := 2) (v := ?v3) rfl (by kernel_rfl) (by kernel_rfl) (by kernel_rfl) (fun _ _ _ h => h) (Or.inl ⟨by rfl, ?hy3⟩) (by assumption) ?rest3
      case hy3 => intro w hSw; (try dsimp only at hSw); go_simp; (try with_reducible rfl)
      try simp only [Act.put, List.setIfInBounds_toArray, List.set_cons_zero, List.set_cons_succ]
      refine wpAnyH_take (i := 3) (v := ?v4) rfl (by kernel_rfl) (by kernel_rfl) (by kernel_rfl) (fun _ _ _ h => h) (Or.inl ⟨by rfl, ?hy4⟩) (by assumption) ?rest4
      case hy4 => intro w hSw; (try dsimp only at hSw); go_simp; (try with_reducible rfl)
      try simp only [Act.put, List.setIfInBounds_toArray, List.set_cons_zero, List.set_cons_succ]
      refine wpAnyH_take (i := 4) (v := ?v5) rfl (by kernel_rfl) (by kernel_rfl) (by kernel_rfl) (fun _ _ _ h => h) (Or.inl ⟨by rfl, ?hy5⟩) (by assumption) ?rest5
      case hy5 => intro w hSw; (try dsimp only at hSw); go_simp; (try with_reducible rfl)
      try simp only [Act.put, List.setIfInBounds_toArray, List.set_cons_zero, List.set_cons_succ]
      refine wpAnyH_take (i := 5) (v := ?v6) rfl (by kernel_rfl) (by kernel_rfl) (by kernel_rfl) (fun _ _ _ h => h) (Or.inl ⟨by rfl, ?hy6⟩) (by assumption) ?rest6
      case hy6 => intro w hSw; (try dsimp only at hSw); go_simp; (try with_reducible rfl)
      try simp only [Act.put, List.setIfInBounds_toArray, List.set_cons_zero, List.set_cons_succ]
      refine wpAnyH_take (i := 6) (v := ?v7) rfl (by kernel_rfl) (by kernel_rfl) (by kernel_rfl) (fun _ _ _ h => h) (Or.inl ⟨by rfl, ?hy7⟩) (by assumption) ?rest7
      case hy7 => intro w hSw; (try dsimp only at hSw); go_simp; (try with_reducible rfl)
      try simp only [Act.put, List.setIfInBounds_toArray, List.set_cons_zero, List.set_cons_succ]
      refine wpAnyH_take (i := 7) (v := ?v8) rfl (by kernel_rfl) (by kernel_rfl) (by kernel_rfl) (fun _ _ _ h => h) (Or.inl ⟨by rfl, ?hy8⟩) (by assumption) ?rest8
      case hy8 => intro w hSw; (try dsimp only at hSw); go_simp; (try with_reducible rfl)
      try simp only [Act.put, List.setIfInBounds_toArray, List.set_cons_zero, List.set_cons_succ]
      refine wpAnyH_take (i := 8) (v := ?v9) rfl (by kernel_rfl) (by kernel_rfl) (by kernel_rfl) (fun _ _ _ h => h) (Or.inl ⟨by rfl, ?hy9⟩) (by assumption) ?rest9
      case hy9 => intro w hSw; (try dsimp only at hSw); go_simp; (try with_reducible rfl)
      try simp only [Act.put, List.setIfInBounds_toArray, List.set_cons_zero, List.set_cons_succ]
      refine wpAnyH_take (i := 9) (v := ?v10) rfl (by kernel_rfl) (by kernel_rfl) (by kernel_rfl) (fun _ _ _ h => h) (Or.inl ⟨by rfl, ?hy10⟩) (by assumption) ?rest10
      case hy10 => intro w hSw; (try dsimp only at hSw); go_simp; (try with_reducible rfl)
      try simp only [Act.put, List.setIfInBounds_toArray, List.set_cons_zero, List.set_cons_succ]
      refine wpAnyH_take (i := 11) (v := ?v11) rfl (by kernel_rfl) (by kernel_rfl) (by kernel_rfl) (fun _ _ _ h => h) (Or.inl ⟨by rfl, ?hy11⟩) (by assumption) ?rest11
      case hy11 => intro w hSw; (try dsimp only at hSw); go_simp; (try with_reducible rfl)
      try simp only [Act.put, List.setIfInBounds_toArray, List.set_cons_zero, List.set_cons_succ]
      refine wpAnyH_take (i := 12) (v := ?v12) rfl (by kernel_rfl) (by kernel_rfl) (by kernel_rfl) (fun _ _ _ h => h) (Or.inl ⟨by rfl, ?hy12⟩) (by assumption) ?rest12
      case hy12 => intro w hSw; (try dsimp only at hSw); go_simp; (try with_reducible rfl)
      try simp only [Act.put, List.setIfInBounds_toArray, List.set_cons_zero, List.set_cons_succ]
      refine wpAnyH_take (i := 13) (v := ?v13) rfl (by kernel_rfl) (by kernel_rfl) (by kernel_rfl) (fun _ _ _ h => h) (Or.inl ⟨by rfl, ?hy13⟩) (by assumption) ?rest13
      case hy13 => intro w hSw; (try dsimp only at hSw); go_simp; (try with_reducible rfl)
      try simp only [Act.put, List.setIfInBounds_toArray, List.set_cons_zero, List.set_cons_succ]
      refine wpAnyH_take (i := 14) (v := ?v14) rfl (by kernel_rfl) (by kernel_rfl) (by kernel_rfl) (fun _ _ _ h => h) (Or.inl ⟨by rfl, ?hy14⟩) (by assumption) ?rest14
      case hy14 => intro w hSw; (try dsimp only at hSw); go_simp; (try with_reducible rfl)
      try simp only [Act.put, List.setIfInBounds_toArray, List.set_cons_zero, List.set_cons_succ]
      refine wpAnyH_ready (rs := [10, 15]) (by kernel_rfl) (by simp) ?_
      refine AllReadyH.cons rfl (fun K hK => ?_) ?_
      · go_simp
        refine hK.out _ _ ?_ (fun hHeld => ?_)
        · exact hc
        clear hK K
        try simp only [Act.put, List.setIfInBounds_toArray, List.set_cons_zero, List.set_cons_succ]
        refine wpAnyH_ready (rs := [15]) (by kernel_rfl) (by simp) ?_
        refine AllReadyH.cons rfl (fun K hK => ?_) AllReadyH.nil
        go_simp
        refine hK.out _ _ ?_ (fun hHeld => ?_)
        · exact cellA hc _
        clear hK K
        try simp only [Act.put, List.setIfInBounds_toArray, List.set_cons_zero, List.set_cons_succ]
        refine wpAnyH_ready (rs := [16]) (by kernel_rfl) (by simp) ?_
        refine AllReadyH.cons rfl (fun K hK => ?_) AllReadyH.nil
        refine step_append_run rfl (.tmp 32) (.tmp 37) 29 29 rfl _ _ _ _ rfl rfl HR.out ?_
        refine hK.out _ _ ?_ (fun hHeld => ?_)
        · exact hc1
        clear hK K
        try simp only [Act.put, List.setIfInBounds_toArray, List.set_cons_zero, List.set_cons_succ]
        refine wpAnyH_take (i := 17) (v := ?v15) rfl (by kernel_rfl) (by kernel_rfl) (by kernel_rfl) (fun _ _ _ h => h) (Or.inl ⟨by rfl, ?hy15⟩) (by assumption) ?rest15
        case hy15 => intro w hSw; (try dsimp only at hSw); go_simp; (try with_reducible rfl)
        try simp only [Act.put, List.setIfInBounds_toArray, List.set_cons_zero, List.set_cons_succ]
        refine wpAnyH_take (i := 18) (v := ?v16) rfl (by kernel_rfl) (by kernel_rfl) (by kernel_rfl) (fun _ _ _ h => h) (Or.inl ⟨by rfl, ?hy16⟩) (by assumption) ?rest16
        case hy16 => intro w hSw; (try dsimp only at hSw); go_simp; (try with_reducible rfl)
        try simp only [Act.put, List.setIfInBounds_toArray, List.set_cons_zero, List.set_cons_succ]
        refine wpAnyH_ready (rs := [19]) (by kernel_rfl) (by simp) ?_
        refine AllReadyH.cons rfl (fun K hK => ?_) AllReadyH.nil
        go_simp
        refine hK.out _ _ ?_ (fun hHeld => ?_)
        · exact hst.out.1.c
        clear hK K
        try simp only [Act.put, List.setIfInBounds_toArray, List.set_cons_zero, List.set_cons_succ]
        refine wpAnyH_done (by kernel_rfl) ?_ _
        go_wp2
        go_roundw
        case measure => simp [intOf]; omega
        case rel => exact ⟨m / 128, cs ++ [UInt8.ofNat (m % 128 + 128)], ao1, cap1, by go_num, by omega, by rw [sevens_ge (by omega)] at hlen; simp at hlen ⊢; omega, by have := HP.out; rw [sevens_ge (by omega)] at this; rw [← this]; simp, hst.out.1, wset_trans hF hao hst.out.2, fresh_trans hF.size hao hao1⟩
      refine AllReadyH.cons rfl (fun K hK => ?_) ?_
      · go_simp
        refine hK.out _ _ ?_ (fun hHeld => ?_)
        · exact cellA hc _
        clear hK K
        try simp only [Act.put, List.setIfInBounds_toArray, List.set_cons_zero, List.set_cons_succ]
        refine wpAnyH_ready (rs := [10]) (by kernel_rfl) (by simp) ?_
        refine AllReadyH.cons rfl (fun K hK => ?_) AllReadyH.nil
        go_simp
        refine hK.out _ _ ?_ (fun hHeld => ?_)
        · exact cellA hc _
        clear hK K
        try simp only [Act.put, List.setIfInBounds_toArray, List.set_cons_zero, List.set_cons_succ]
        refine wpAnyH_ready (rs := [16]) (by kernel_rfl) (by simp) ?_
        refine AllReadyH.cons rfl (fun K hK => ?_) AllReadyH.nil
        refine step_append_run rfl (.tmp 32) (.tmp 37) 29 29 rfl _ _ _ _ rfl rfl HR.out ?_
        refine hK.out _ _ ?_ (fun hHeld => ?_)
        · exact hc1
        clear hK K
        try simp only [Act.put, List.setIfInBounds_toArray, List.set_cons_zero, List.set_cons_succ]
        refine wpAnyH_take (i := 17) (v := ?v17) rfl (by kernel_rfl) (by kernel_rfl) (by kernel_rfl) (fun _ _ _ h => h) (Or.inl ⟨by rfl, ?hy17⟩) (by assumption) ?rest17
        case hy17 => intro w hSw; (try dsimp only at hSw); go_simp; (try with_reducible rfl)
        try simp only [Act.put, List.setIfInBounds_toArray, List.set_cons_zero, List.set_cons_succ]
        refine wpAnyH_take (i := 18) (v := ?v18) rfl (by kernel_rfl) (by kernel_rfl) (by kernel_rfl) (fun _ _ _ h => h) (Or.inl ⟨by rfl, ?hy18⟩) (by assumption) ?rest18
        case hy18 => intro w hSw; (try dsimp only at hSw); go_simp; (try with_reducible rfl)
        try simp only [Act.put, List.setIfInBounds_toArray, List.set_cons_zero, List.set_cons_succ]
        refine wpAnyH_ready (rs := [19]) (by kernel_rfl) (by simp) ?_
        refine AllReadyH.cons rfl (fun K hK => ?_) AllReadyH.nil
        go_simp
        refine hK.out _ _ ?_ (fun hHeld => ?_)
        · exact hst.out.1.c
        clear hK K
        try simp only [Act.put, List.setIfInBounds_toArray, List.set_cons_zero, List.set_cons_succ]
        refine wpAnyH_done (by kernel_rfl) ?_ _
        go_wp2
        go_roundw
        case measure => simp [intOf]; omega
        case rel => exact ⟨m / 128, cs ++ [UInt8.ofNat (m % 128 + 128)], ao1, cap1, by go_num, by omega, by rw [sevens_ge (by omega)] at hlen; simp at hlen ⊢; omega, by have := HP.out; rw [sevens_ge (by omega)] at this; rw [← this]; simp, hst.out.1, wset_trans hF hao hst.out.2, fresh_trans hF.size hao hao1⟩
      exact AllReadyH.nil
    · have hlt : m < 128 := by omega
      obtain ⟨ao1, cap1, w1, hrun, hrow, hf1, hao1⟩ := app_byte wr aor capr cs hW.tp.row _ _ (byte_last m hlt) (by omega)
      have HP : Hid (cs ++ sevens m = bs ++ sevens n) := hpre
      have HR : Hid _ := hrun
      have hst := hW.stored hf1 hrow hao1
      rw [List.length_append, List.length_singleton] at hst
      have hst : Hid _ := hst
      have hc := hW.c
      have h0 := hW.tp.c0
      have hz := hW.tp.fz 0
      have hpl := hW.lt
      have htl := hW.tp.lt
      have hc1 : w1.cell? ⟨p, 0, none⟩ = _ := (World.cell?_of_block (a := ⟨p, 0, none⟩) (hf1.block p hpl hW.apart)).trans hc
      have h01 : w1.cell? ⟨t, 0, none⟩ = _ := (World.cell?_of_block (a := ⟨t, 0, none⟩) (hf1.block t htl hW.tp.apart)).trans h0
      have hz1 : w1.frozen? ⟨t, 0, none⟩ = _ := (World.frozen?_of_block (a := ⟨t, 0, none⟩) (hf1.block t htl hW.tp.apart)).trans hz
      clear hpre hrun
      go_wp2
      refine wp_region_held_drew (S := fun w' => w'.cell? ⟨p, 0, none⟩ = some (.pointer (some ⟨t, 0, none⟩))) (by kernel_rfl) ?_ (fun hHeld => ?_)
      · exact hc
      refine wpAnyH_take (i := 0) (v := ?v19) rfl (by kernel_rfl) (by kernel_rfl) (by kernel_rfl) (fun _ _ _ h => h) (Or.inl ⟨by rfl, ?hy19⟩) (by assumption) ?rest19
      case hy19 => intro w hSw; (try dsimp only at hSw); go_simp; (try with_reducible rfl)
      try simp only [Act.put, List.setIfInBounds_toArray, List.set_cons_zero, List.set_cons_succ]
      refine wpAnyH_take (i := 1) (v := ?v20) rfl (by kernel_rfl) (by kernel_rfl) (by kernel_rfl) (fun _ _ _ h => h) (Or.inl ⟨by rfl, ?hy20⟩) (by assumption) ?rest20
      case hy20 => intro w hSw; (try dsimp only at hSw); go_simp; (try with_reducible rfl)
      try simp only [Act.put, List.setIfInBounds_toArray, List.set_cons_zero, List.set_cons_succ]
      refine wpAnyH_take (i := 2) (v := ?v21) rfl (by kernel_rfl) (by kernel_rfl) (by kernel_rfl) (fun _ _ _ h => h) (Or.inl ⟨by rfl, ?hy21⟩) (by assumption) ?rest21
      case hy21 => intro w hSw; (try dsimp only at hSw); go_simp; (try with_reducible rfl)
      try simp only [Act.put, List.setIfInBounds_toArray, List.set_cons_zero, List.set_cons_succ]
      refine wpAnyH_take (i := 3) (v := ?v22) rfl (by kernel_rfl) (by kernel_rfl) (by kernel_rfl) (fun _ _ _ h => h) (Or.inl ⟨by rfl, ?hy22⟩) (by assumption) ?rest22
      case hy22 => intro w hSw; (try dsimp only at hSw); go_simp; (try with_reducible rfl)
      try simp only [Act.put, List.setIfInBounds_toArray, List.set_cons_zero, List.set_cons_succ]
      refine wpAnyH_take (i := 4) (v := ?v23) rfl (by kernel_rfl) (by kernel_rfl) (by kernel_rfl) (fun _ _ _ h => h) (Or.inl ⟨by rfl, ?hy23⟩) (by assumption) ?rest23
      case hy23 => intro w hSw; (try dsimp only at hSw); go_simp; (try with_reducible rfl)
      try simp only [Act.put, List.setIfInBounds_toArray, List.set_cons_zero, List.set_cons_succ]
      refine wpAnyH_take (i := 5) (v := ?v24) rfl (by kernel_rfl) (by kernel_rfl) (by kernel_rfl) (fun _ _ _ h => h) (Or.inl ⟨by rfl, ?hy24⟩) (by assumption) ?rest24
      case hy24 => intro w hSw; (try dsimp only at hSw); go_simp; (try with_reducible rfl)
      try simp only [Act.put, List.setIfInBounds_toArray, List.set_cons_zero, List.set_cons_succ]
      refine wpAnyH_take (i := 6) (v := ?v25) rfl (by kernel_rfl) (by kernel_rfl) (by kernel_rfl) (fun _ _ _ h => h) (Or.inl ⟨by rfl, ?hy25⟩) (by assumption) ?rest25
      case hy25 => intro w hSw; (try dsimp only at hSw); go_simp; (try with_reducible rfl)
      try simp only [Act.put, List.setIfInBounds_toArray, List.set_cons_zero, List.set_cons_succ]
      refine wpAnyH_take (i := 7) (v := ?v26) rfl (by kernel_rfl) (by kernel_rfl) (by kernel_rfl) (fun _ _ _ h => h) (Or.inl ⟨by rfl, ?hy26⟩) (by assumption) ?rest26
      case hy26 => intro w hSw; (try dsimp only at hSw); go_simp; (try with_reducible rfl)
      try simp only [Act.put, List.setIfInBounds_toArray, List.set_cons_zero, List.set_cons_succ]
      refine wpAnyH_take (i := 8) (v := ?v27) rfl (by kernel_rfl) (by kernel_rfl) (by kernel_rfl) (fun _ _ _ h => h) (Or.inl ⟨by rfl, ?hy27⟩) (by assumption) ?rest27
      case hy27 => intro w hSw; (try dsimp only at hSw); go_simp; (try with_reducible rfl)
      try simp only [Act.put, List.setIfInBounds_toArray, List.set_cons_zero, List.set_cons_succ]
      refine wpAnyH_take (i := 9) (v := ?v28) rfl (by kernel_rfl) (by kernel_rfl) (by kernel_rfl) (fun _ _ _ h => h) (Or.inl ⟨by rfl, ?hy28⟩) (by assumption) ?rest28
      case hy28 => intro w hSw; (try dsimp only at hSw); go_simp; (try with_reducible rfl)
      try simp only [Act.put, List.setIfInBounds_toArray, List.set_cons_zero, List.set_cons_succ]
      refine wpAnyH_take (i := 11) (v := ?v29) rfl (by kernel_rfl) (by kernel_rfl) (by kernel_rfl) (fun _ _ _ h => h) (Or.inl ⟨by rfl, ?hy29⟩) (by assumption) ?rest29
      case hy29 => intro w hSw; (try dsimp only at hSw); go_simp; (try with_reducible rfl)
      try simp only [Act.put, List.setIfInBounds_toArray, List.set_cons_zero, List.set_cons_succ]
      refine wpAnyH_take (i := 12) (v := ?v30) rfl (by kernel_rfl) (by kernel_rfl) (by kernel_rfl) (fun _ _ _ h => h) (Or.inl ⟨by rfl, ?hy30⟩) (by assumption) ?rest30
      case hy30 => intro w hSw; (try dsimp only at hSw); go_simp; (try with_reducible rfl)
      try simp only [Act.put, List.setIfInBounds_toArray, List.set_cons_zero, List.set_cons_succ]
      refine wpAnyH_ready (rs := [10, 13]) (by kernel_rfl) (by simp) ?_
      refine AllReadyH.cons rfl (fun K hK => ?_) ?_
      · go_simp
        refine hK.out _ _ ?_ (fun hHeld => ?_)
        · exact hc
        clear hK K
        try simp only [Act.put, List.setIfInBounds_toArray, List.set_cons_zero, List.set_cons_succ]
        refine wpAnyH_ready (rs := [13]) (by kernel_rfl) (by simp) ?_
        refine AllReadyH.cons rfl (fun K hK => ?_) AllReadyH.nil
        go_simp
        refine hK.out _ _ ?_ (fun hHeld => ?_)
        · exact cellA hc _
        clear hK K
        try simp only [Act.put, List.setIfInBounds_toArray, List.set_cons_zero, List.set_cons_succ]
        refine wpAnyH_ready (rs := [14]) (by kernel_rfl) (by simp) ?_
        refine AllReadyH.cons rfl (fun K hK => ?_) AllReadyH.nil
        refine step_append_run rfl (.tmp 51) (.tmp 54) 29 29 rfl _ _ _ _ rfl rfl HR.out ?_
        refine hK.out _ _ ?_ (fun hHeld => ?_)
        · exact hc1
        clear hK K
        try simp only [Act.put, List.setIfInBounds_toArray, List.set_cons_zero, List.set_cons_succ]
        refine wpAnyH_take (i := 15) (v := ?v31) rfl (by kernel_rfl) (by kernel_rfl) (by kernel_rfl) (fun _ _ _ h => h) (Or.inl ⟨by rfl, ?hy31⟩) (by assumption) ?rest31
        case hy31 => intro w hSw; (try dsimp only at hSw); go_simp; (try with_reducible rfl)
        try simp only [Act.put, List.setIfInBounds_toArray, List.set_cons_zero, List.set_cons_succ]
        refine wpAnyH_take (i := 16) (v := ?v32) rfl (by kernel_rfl) (by kernel_rfl) (by kernel_rfl) (fun _ _ _ h => h) (Or.inl ⟨by rfl, ?hy32⟩) (by assumption) ?rest32
        case hy32 => intro w hSw; (try dsimp only at hSw); go_simp; (try with_reducible rfl)
        try simp only [Act.put, List.setIfInBounds_toArray, List.set_cons_zero, List.set_cons_succ]
        refine wpAnyH_ready (rs := [17]) (by kernel_rfl) (by simp) ?_
        refine AllReadyH.cons rfl (fun K hK => ?_) AllReadyH.nil
        go_simp
        refine hK.out _ _ ?_ (fun hHeld => ?_)
        · exact hst.out.1.c
        clear hK K
        try simp only [Act.put, List.setIfInBounds_toArray, List.set_cons_zero, List.set_cons_succ]
        refine wpAnyH_done (by kernel_rfl) ?_ _
        go_end0
        exact ⟨rfl, ao1, cap1, by have := HP.out; rw [sevens_lt hlt] at this; rw [← this]; exact hst.out.1, wset_trans hF hao hst.out.2, fresh_trans hF.size hao hao1⟩
      refine AllReadyH.cons rfl (fun K hK => ?_) ?_
      · go_simp
        refine hK.out _ _ ?_ (fun hHeld => ?_)
        · exact cellA hc _
        clear hK K
        try simp only [Act.put, List.setIfInBounds_toArray, List.set_cons_zero, List.set_cons_succ]
        refine wpAnyH_ready (rs := [10]) (by kernel_rfl) (by simp) ?_
        refine AllReadyH.cons rfl (fun K hK => ?_) AllReadyH.nil
        go_simp
        refine hK.out _ _ ?_ (fun hHeld => ?_)
        · exact cellA hc _
        clear hK K
        try simp only [Act.put, List.setIfInBounds_toArray, List.set_cons_zero, List.set_cons_succ]
        refine wpAnyH_ready (rs := [14]) (by kernel_rfl) (by simp) ?_
        refine AllReadyH.cons rfl (fun K hK => ?_) AllReadyH.nil
        refine step_append_run rfl (.tmp 51) (.tmp 54) 29 29 rfl _ _ _ _ rfl rfl HR.out ?_
        refine hK.out _ _ ?_ (fun hHeld => ?_)
        · exact hc1
        clear hK K
        try simp only [Act.put, List.setIfInBounds_toArray, List.set_cons_zero, List.set_cons_succ]
        refine wpAnyH_take (i := 15) (v := ?v33) rfl (by kernel_rfl) (by kernel_rfl) (by kernel_rfl) (fun _ _ _ h => h) (Or.inl ⟨by rfl, ?hy33⟩) (by assumption) ?rest33
        case hy33 => intro w hSw; (try dsimp only at hSw); go_simp; (try with_reducible rfl)
        try simp only [Act.put, List.setIfInBounds_toArray, List.set_cons_zero, List.set_cons_succ]
        refine wpAnyH_take (i := 16) (v := ?v34) rfl (by kernel_rfl) (by kernel_rfl) (by kernel_rfl) (fun _ _ _ h => h) (Or.inl ⟨by rfl, ?hy34⟩) (by assumption) ?rest34
        case hy34 => intro w hSw; (try dsimp only at hSw); go_simp; (try with_reducible rfl)
        try simp only [Act.put, List.setIfInBounds_toArray, List.set_cons_zero, List.set_cons_succ]
        refine wpAnyH_ready (rs := [17]) (by kernel_rfl) (by simp) ?_
        refine AllReadyH.cons rfl (fun K hK => ?_) AllReadyH.nil
        go_simp
        refine hK.out _ _ ?_ (fun hHeld => ?_)
        · exact hst.out.1.c
        clear hK K
        try simp only [Act.put, List.setIfInBounds_toArray, List.set_cons_zero, List.set_cons_succ]
        refine wpAnyH_done (by kernel_rfl) ?_ _
        go_end0
        exact ⟨rfl, ao1, cap1, by have := HP.out; rw [sevens_lt hlt] at this; rw [← this]; exact hst.out.1, wset_trans hF hao hst.out.2, fresh_trans hF.size hao hao1⟩
      exact AllReadyH.nil

end Go.Proofs.YtojgikaoiegmpaaGreatDoor

/- The writer's methods, by what they leave of it. -/
namespace Go.Proofs.YtojgikaoiegmpaaGreatDoor
open Go.RowKit Go.IntWalk
set_option linter.unusedSimpArgs false
set_option linter.unusedVariables false
set_option maxRecDepth 100000

theorem stepEnd_of {S : Nat → Prop} {w2 w' : World} {t : Nat} {ao : Option Addr} {cap : Nat} {bs : List UInt8} {at_ er ea : Int} {e : Ending} (hT : TapeAt w' t ao cap bs at_ er ea) (hF : Fr S (boxed w2 t).drew w') (hS : ¬ S w2.heap.size) (hlt : t < w2.heap.size)
    (he : (∃ n, e = .returned (.int .i64 n)) ∨ ∃ er a, e = .panicked (gu er a)) : StepEnd w2.heap.size t e w' := by
  have hsz : (boxed w2 t).drew.heap.size = w2.heap.size + 1 := by simp [boxed]
  have hb : (boxed w2 t).drew.heap[w2.heap.size]? = some (.cells #[.pointer (some ⟨t, 0, none⟩)] 103 (0, 0)) := heap_alloc_new w2 _
  have hb' := (hF.block w2.heap.size (by rw [hsz]; omega) hS).trans hb
  refine ⟨by rw [cell_of_row w' _ 0 _ _ _ hb']; rfl, ⟨_, _, _, hT.c1, hT.c2, hT.c3⟩, hT.fz 1, hT.fz 2, hT.fz 3, ?_, hlt, he⟩
  have := hF.size
  omega

/-- A writer, by what it has written, and whether a number below 0 was among it. -/
def WOk (w : World) (p t : Nat) (ao : Option Addr) (cap : Nat) (s : List UInt8 × Bool) : Prop := ∃ at_ ea, WAt w p t ao cap s.1 at_ (if s.2 then 5 else 0) ea

def wInt (n : Int) (s : List UInt8 × Bool) : List UInt8 × Bool := if s.2 then s else if n < 0 then (s.1, true) else (s.1 ++ sevens n.toNat, false)
def wText (x : List UInt8) (s : List UInt8 × Bool) : List UInt8 × Bool := if s.2 then s else (s.1 ++ (sevens x.length ++ x), false)
def wID (x : List UInt8) (s : List UInt8 × Bool) : List UInt8 × Bool := if s.2 then s else (s.1 ++ x, false)

theorem new_any (w : World) : Calls Tryz.prog 46 #[] w fun e w' => e = .returned (.pointer (some ⟨w.heap.size + 1, 0, none⟩)) ∧ WOk w' (w.heap.size + 1) w.heap.size none 0 ([], false) ∧ Fr (fun _ => False) w w' ∧ w'.heap.size = w.heap.size + 2 := by
  go_enter Tryz.func46, Tryz.ntmps46
  go_wp2
  go_ret
  refine ⟨rfl, ⟨0, 0, ⟨?_, ?_, World.ownsRow_nil _ _ _ _⟩⟩, ((Fr.refl _ _).alloc _).alloc _, by simp⟩
  · exact heap_alloc2_new w _ _
  · exact heap_alloc2_old w _ _

theorem wint1_neg (p t a b : Nat) (ao : Option Addr) (cap : Nat) (bs : List UInt8) (at_ er ea n : Int) (w : World) (h : WAt w p t ao cap bs at_ er ea) (hneg : n < 0)
    (ha : w.cell? ⟨a, 0, none⟩ = some (.pointer (some ⟨p, 0, none⟩))) (hbn : w.cell? ⟨b, 0, none⟩ = some (.int .i64 n)) :
    Calls Tryz.prog 72 #[.pointer (some ⟨a, 0, none⟩), .pointer (some ⟨b, 0, none⟩)] w fun e w' => e = .panicked (gu 5 at_) ∧ ∃ k, w' = w.drewN k := by
  go_enter Tryz.func72, Tryz.ntmps72
  go_wp2_with (go_at_call 73; refine (number_neg p t ao cap bs at_ er ea n w h hneg).mono ?_; rintro e w' ⟨rfl, k, rfl⟩)
  exact ⟨rfl, rfl, k, rfl⟩

theorem wint1_nat (p t a b : Nat) (ao : Option Addr) (cap : Nat) (bs : List UInt8) (at_ er ea : Int) (n : Nat) (w : World) (h : WAt w p t ao cap bs at_ er ea) (hn : n ≤ 9223372036854775807) (hb : bs.length + 20 ≤ 140737488355328)
    (ha : w.cell? ⟨a, 0, none⟩ = some (.pointer (some ⟨p, 0, none⟩))) (hbn : w.cell? ⟨b, 0, none⟩ = some (.int .i64 n)) (hS : ¬ wset t ao a) (hal : a < w.heap.size) :
    Calls Tryz.prog 72 #[.pointer (some ⟨a, 0, none⟩), .pointer (some ⟨b, 0, none⟩)] w fun e w' =>
      e = .returned (.int .i64 (bs ++ sevens n).length) ∧ ∃ ao' cap', WAt w' p t ao' cap' (bs ++ sevens n) at_ er ea ∧ Fr (wset t ao) w w' ∧ (ao' = ao ∨ ∀ k, blk ao' k → w.heap.size ≤ k) := by
  have HN := number_nat p t ao cap bs at_ er ea n w h hn hb
  generalize bs ++ sevens n = cs at HN ⊢
  go_enter Tryz.func72, Tryz.ntmps72
  go_wp2_with fail
  refine HN.mono ?_
  rintro e w' ⟨rfl, ao', cap', hW', hF, hao⟩
  have ha' : w'.cell? ⟨a, 0, none⟩ = _ := (World.cell?_of_block (a := ⟨a, 0, none⟩) (hF.block a hal hS)).trans ha
  have hc := hW'.c
  have h0 := hW'.tp.c0
  clear hbn HN
  go_wp2_with fail
  go_ret
  exact ⟨rfl, ao', cap', hW', hF, hao⟩

/-- A variable that holds a writer, and one that holds what is to be written, and the one of do: the writer stands as it did. -/
theorem WAt.boxes {w : World} {p t : Nat} {ao : Option Addr} {cap : Nat} {bs : List UInt8} {at_ er ea : Int} (h : WAt w p t ao cap bs at_ er ea) (o1 o2 : Obj) : WAt (boxed ((w.alloc o1).alloc o2) t).drew p t ao cap bs at_ er ea :=
  h.fr ((((Fr.refl (fun _ => False) w).alloc o1).alloc o2).alloc _).drew (fun e => e) (fun _ _ e => e)

/-- What a call of a writer leaves of it. -/
def WPost (w : World) (p t : Nat) (ao : Option Addr) (s : List UInt8 × Bool) (w' : World) : Prop :=
  ∃ ao' cap', WOk w' p t ao' cap' s ∧ Fr (wset t ao) w w' ∧ (ao' = ao ∨ ∀ k, blk ao' k → w.heap.size ≤ k)

/-- The world in which a writer's step is handed to do. -/
def wboxes (w : World) (p : Nat) (o : Obj) : World := (w.alloc (.cells #[.pointer (some ⟨p, 0, none⟩)] 69)).alloc o

theorem wint_via (p t : Nat) (n : Int) (w : World) (R : World → Prop) (hc : w.cell? ⟨p, 0, none⟩ = some (.pointer (some ⟨t, 0, none⟩))) (hpl : p < w.heap.size)
    (hdo : Calls Tryz.prog 71 #[.pointer (some ⟨t, 0, none⟩), .func (.func 72) #[] #[.pointer (some ⟨w.heap.size, 0, none⟩), .pointer (some ⟨w.heap.size + 1, 0, none⟩)]] (wboxes w p (.cells #[.int .i64 n] 3)) fun e w' => e = .returned (.tuple #[]) ∧ R w') :
    Calls Tryz.prog 47 #[.pointer (some ⟨p, 0, none⟩), .int .i64 n] w fun e w' => e = .returned (.tuple #[]) ∧ R w' := by
  have hmf : ∀ (fn : Fn) (first cap : Array Value) (w : World), (Instr.makeFunc fn first cap).run Tryz.prog w = .ok (.func fn first cap) w := fun _ _ _ _ => rfl
  have HD := hideIt hdo
  clear hdo
  go_enter Tryz.func47, Tryz.ntmps47
  go_wp2_with (go_at_call 70; refine (wnone_some p t _ ?_).mono ?_; go_simp; rintro e w' ⟨rfl, rfl⟩)
  refine Calls.mono HD.out ?_
  rintro e w' ⟨rfl, hr⟩
  have HR := hideIt hr
  clear hr
  go_wp2_with fail
  go_end0
  exact ⟨rfl, HR.out⟩

theorem wtext_via (p t : Nat) (x : ByteArray) (w : World) (R : World → Prop) (hc : w.cell? ⟨p, 0, none⟩ = some (.pointer (some ⟨t, 0, none⟩))) (hpl : p < w.heap.size)
    (hdo : Calls Tryz.prog 71 #[.pointer (some ⟨t, 0, none⟩), .func (.func 92) #[] #[.pointer (some ⟨w.heap.size, 0, none⟩), .pointer (some ⟨w.heap.size + 1, 0, none⟩)]] (wboxes w p (.cells #[.string x] 9)) fun e w' => e = .returned (.tuple #[]) ∧ R w') :
    Calls Tryz.prog 75 #[.pointer (some ⟨p, 0, none⟩), .string x] w fun e w' => e = .returned (.tuple #[]) ∧ R w' := by
  have hmf : ∀ (fn : Fn) (first cap : Array Value) (w : World), (Instr.makeFunc fn first cap).run Tryz.prog w = .ok (.func fn first cap) w := fun _ _ _ _ => rfl
  have HD := hideIt hdo
  clear hdo
  go_enter Tryz.func75, Tryz.ntmps75
  go_wp2_with (go_at_call 70; refine (wnone_some p t _ ?_).mono ?_; go_simp; rintro e w' ⟨rfl, rfl⟩)
  refine Calls.mono HD.out ?_
  rintro e w' ⟨rfl, hr⟩
  have HR := hideIt hr
  clear hr
  go_wp2_with fail
  go_end0
  exact ⟨rfl, HR.out⟩

theorem WAt.inBoxes {w : World} {p t : Nat} {ao : Option Addr} {cap : Nat} {bs : List UInt8} {at_ er ea : Int} (h : WAt w p t ao cap bs at_ er ea) (o : Obj) : WAt (wboxes w p o) p t ao cap bs at_ er ea :=
  h.fr (((Fr.refl (fun _ => False) w).alloc _).alloc _) (fun e => e) (fun _ _ e => e)

theorem TapeAt.moved {w : World} {t : Nat} {ao : Option Addr} {cap : Nat} {bs : List UInt8} {at_ er ea : Int} (h : TapeAt w t ao cap bs at_ er ea) (n : Int) : TapeAt (w.setCell ⟨t, 1, none⟩ (.int .i64 n)) t ao cap bs n er ea := by
  refine ⟨?_, h.row.keep fun k _ e => heap_setCell_other _ _ _ _ (fun e' => h.apart (by subst e'; exact e))⟩
  rw [heap_setCell_same _ _ _ _ _ _ h.blk]; rfl

theorem TapeAt.faulted {w : World} {t : Nat} {ao : Option Addr} {cap : Nat} {bs : List UInt8} {at_ er ea : Int} (h : TapeAt w t ao cap bs at_ er ea) (e a : Int) (o : Obj) : TapeAt (((w.setCell ⟨t, 2, none⟩ (.int .i64 e)).setCell ⟨t, 3, none⟩ (.int .i64 a)).alloc o) t ao cap bs at_ e a := by
  have h1 : TapeAt (w.setCell ⟨t, 2, none⟩ (.int .i64 e)) t ao cap bs at_ e ea := by
    refine ⟨?_, h.row.keep fun k _ e => heap_setCell_other _ _ _ _ (fun e' => h.apart (by subst e'; exact e))⟩
    rw [heap_setCell_same _ _ _ _ _ _ h.blk]; rfl
  have h2 : TapeAt ((w.setCell ⟨t, 2, none⟩ (.int .i64 e)).setCell ⟨t, 3, none⟩ (.int .i64 a)) t ao cap bs at_ e a := by
    refine ⟨?_, h1.row.keep fun k _ e => heap_setCell_other _ _ _ _ (fun e' => h.apart (by subst e'; exact e))⟩
    rw [heap_setCell_same _ _ _ _ _ _ h1.blk]; rfl
  exact h2.fr ((Fr.refl (fun _ => False) _).alloc o) (fun _ _ e => e)

theorem Fr.moved (w : World) (t : Nat) (v : Value) : Fr (fun k => k = t) w (w.setCell ⟨t, 1, none⟩ v) := (Fr.refl (fun k => k = t) w).setCell (fun _ => rfl) _
theorem Fr.faulted (w : World) (t : Nat) (u v : Value) (o : Obj) : Fr (fun k => k = t) w (((w.setCell ⟨t, 2, none⟩ u).setCell ⟨t, 3, none⟩ v).alloc o) := (((Fr.refl (fun k => k = t) w).setCell (fun _ => rfl) _).setCell (fun _ => rfl) _).alloc o

theorem WAt.moved {w : World} {p t : Nat} {ao : Option Addr} {cap : Nat} {bs : List UInt8} {at_ er ea : Int} (h : WAt w p t ao cap bs at_ er ea) (n : Int) : WAt (w.setCell ⟨t, 1, none⟩ (.int .i64 n)) p t ao cap bs n er ea :=
  ⟨((Fr.moved w t _).block p h.lt h.ne).trans h.box, h.tp.moved n⟩
theorem WAt.faulted {w : World} {p t : Nat} {ao : Option Addr} {cap : Nat} {bs : List UInt8} {at_ er ea : Int} (h : WAt w p t ao cap bs at_ er ea) (e a : Int) (o : Obj) : WAt (((w.setCell ⟨t, 2, none⟩ (.int .i64 e)).setCell ⟨t, 3, none⟩ (.int .i64 a)).alloc o) p t ao cap bs at_ e a :=
  ⟨((Fr.faulted w t _ _ o).block p h.lt h.ne).trans h.box, h.tp.faulted e a o⟩

theorem wboxes_size (w : World) (p : Nat) (o : Obj) : (wboxes w p o).heap.size = w.heap.size + 2 := by simp [wboxes]
theorem boxed_size (w : World) (t : Nat) : (boxed w t).drew.heap.size = w.heap.size + 1 := by simp [boxed]
theorem Fr.wboxes (w : World) (p : Nat) (o : Obj) (S : Nat → Prop) : Fr S w (Go.Proofs.YtojgikaoiegmpaaGreatDoor.wboxes w p o) := ((Fr.refl S w).alloc _).alloc _
theorem Fr.boxed (w : World) (t : Nat) (S : Nat → Prop) : Fr S w (Go.Proofs.YtojgikaoiegmpaaGreatDoor.boxed w t).drew := ((Fr.refl S w).alloc _).drew

theorem cell_box1 (w : World) (p : Nat) (o : Obj) (t : Nat) : (boxed (wboxes w p o) t).drew.cell? ⟨w.heap.size, 0, none⟩ = some (.pointer (some ⟨p, 0, none⟩)) := by
  show (((w.alloc _).alloc _).alloc _).cell? _ = _
  rw [World.cell?_alloc_past _ _ _ (by simp; omega), World.cell?_alloc_past _ _ _ (by simp), World.cell?_alloc_at _ _ _ _ rfl]
  rfl

theorem cell_box2 (w : World) (p : Nat) (cs : Array Value) (T : TypeId) (t i : Nat) : (boxed (wboxes w p (.cells cs T)) t).drew.cell? ⟨w.heap.size + 1, i, none⟩ = cs[i]? := by
  show (((w.alloc _).alloc _).alloc _).cell? _ = _
  rw [World.cell?_alloc_past _ _ _ (by simp), World.cell?_alloc_at _ _ _ _ (by simp)]

/-- do over a writer's step that goes well. -/
theorem wdo_ok (f p t : Nat) (o : Obj) (ao : Option Addr) (cap : Nat) (bs cs : List UInt8) (at_ ea : Int) (w : World) (h : WAt w p t ao cap bs at_ 0 ea)
    (hcf : ∀ w' : World, (callFunc f #[.pointer (some ⟨w.heap.size, 0, none⟩), .pointer (some ⟨w.heap.size + 1, 0, none⟩)]).run Tryz.prog w' = .ok (.enter f #[.pointer (some ⟨w.heap.size, 0, none⟩), .pointer (some ⟨w.heap.size + 1, 0, none⟩)]) w')
    (hstep : Calls Tryz.prog f #[.pointer (some ⟨w.heap.size, 0, none⟩), .pointer (some ⟨w.heap.size + 1, 0, none⟩)] (boxed (wboxes w p o) t).drew fun e w' =>
      e = .returned (.int .i64 cs.length) ∧ ∃ ao' cap', WAt w' p t ao' cap' cs at_ 0 ea ∧ Fr (wset t ao) (boxed (wboxes w p o) t).drew w' ∧ (ao' = ao ∨ ∀ k, blk ao' k → (boxed (wboxes w p o) t).drew.heap.size ≤ k)) :
    Calls Tryz.prog 71 #[.pointer (some ⟨t, 0, none⟩), .func (.func f) #[] #[.pointer (some ⟨w.heap.size, 0, none⟩), .pointer (some ⟨w.heap.size + 1, 0, none⟩)]] (wboxes w p o) fun e w' => e = .returned (.tuple #[]) ∧ WPost w p t ao (cs, false) w' := by
  have hb := h.inBoxes o
  have hlt := h.tp.lt
  have hplt := h.lt
  have hrlt : ∀ k, blk ao k → k < w.heap.size := fun k e => h.tp.row.lt e
  refine do_step t f _ (wboxes w p o) _ _ hb.tp.c2 hb.tp.lt hcf hstep ?_ ?_ ?_
  · rintro e w' ⟨rfl, ao', cap', hW, hF, hao⟩
    refine stepEnd_of hW.tp hF ?_ hb.tp.lt (Or.inl ⟨_, rfl⟩)
    rw [wboxes_size]
    rintro (e | e)
    · omega
    · have := hrlt _ e; omega
  · rintro n w2 ⟨he, ao', cap', hW, hF, hao⟩
    obtain rfl : n = cs.length := by simpa using he
    refine ⟨rfl, ao', cap', ⟨_, _, hW.moved _⟩, ?_, ?_⟩
    · refine (((Fr.wboxes w p o _).trans (Fr.boxed _ t (fun _ => False)) (fun _ _ e => e.elim)).trans hF (fun _ _ e => e)).trans (Fr.moved _ t _) (fun i _ e => Or.inl e)
    · rcases hao with e | hao
      · exact Or.inl e
      · exact Or.inr fun k hk => by have := hao k hk; rw [boxed_size, wboxes_size] at this; omega
  · rintro er a w2 ⟨he, _⟩
    cases he

/-- do over a writer's step that gives up. -/
theorem wdo_bad (f p t : Nat) (o : Obj) (ao : Option Addr) (cap : Nat) (bs : List UInt8) (at_ ea : Int) (w : World) (h : WAt w p t ao cap bs at_ 0 ea)
    (hcf : ∀ w' : World, (callFunc f #[.pointer (some ⟨w.heap.size, 0, none⟩), .pointer (some ⟨w.heap.size + 1, 0, none⟩)]).run Tryz.prog w' = .ok (.enter f #[.pointer (some ⟨w.heap.size, 0, none⟩), .pointer (some ⟨w.heap.size + 1, 0, none⟩)]) w')
    (hstep : Calls Tryz.prog f #[.pointer (some ⟨w.heap.size, 0, none⟩), .pointer (some ⟨w.heap.size + 1, 0, none⟩)] (boxed (wboxes w p o) t).drew fun e w' => e = .panicked (gu 5 at_) ∧ ∃ k, w' = (boxed (wboxes w p o) t).drew.drewN k) :
    Calls Tryz.prog 71 #[.pointer (some ⟨t, 0, none⟩), .func (.func f) #[] #[.pointer (some ⟨w.heap.size, 0, none⟩), .pointer (some ⟨w.heap.size + 1, 0, none⟩)]] (wboxes w p o) fun e w' => e = .returned (.tuple #[]) ∧ WPost w p t ao (bs, true) w' := by
  have hb := h.inBoxes o
  have hF0 : ∀ (k : Nat), Fr (fun _ => False) w ((boxed (wboxes w p o) t).drew.drewN k) := fun k => ((Fr.wboxes w p o _).trans (Fr.boxed _ t (fun _ => False)) (fun _ _ e => e.elim)).drewN k
  have hW : ∀ (k : Nat), WAt ((boxed (wboxes w p o) t).drew.drewN k) p t ao cap bs at_ 0 ea := fun k => h.fr (hF0 k) (fun e => e) (fun _ _ e => e)
  refine do_step t f _ (wboxes w p o) _ _ hb.tp.c2 hb.tp.lt hcf hstep ?_ ?_ ?_
  · rintro e w' ⟨rfl, k, rfl⟩
    exact stepEnd_of (hW k).tp ((Fr.refl (fun _ => False) _).drewN k) (fun e => e) hb.tp.lt (Or.inr ⟨_, _, rfl⟩)
  · rintro n w2 ⟨he, _⟩
    cases he
  · rintro er a w2 ⟨he, k, rfl⟩
    obtain ⟨rfl, rfl⟩ : 5 = er ∧ at_ = a := by simpa [gu, eq_comm] using he
    exact ⟨rfl, ao, cap, ⟨_, _, (hW k).faulted _ _ _⟩, ((hF0 k).mono (fun _ e => e.elim)).trans (Fr.faulted _ t _ _ _) (fun i _ e => Or.inl e), Or.inl rfl⟩

/-- do over a writer that has a fault. -/
theorem wdo_shut (p t : Nat) (fv : Value) (o : Obj) (ao : Option Addr) (cap : Nat) (bs : List UInt8) (at_ ea : Int) (w : World) (h : WAt w p t ao cap bs at_ 5 ea) :
    Calls Tryz.prog 71 #[.pointer (some ⟨t, 0, none⟩), fv] (wboxes w p o) fun e w' => e = .returned (.tuple #[]) ∧ WPost w p t ao (bs, true) w' := by
  have hb := h.inBoxes o
  refine (do_shut t fv (wboxes w p o) 5 hb.tp.c2 (by decide) hb.tp.lt).mono ?_
  rintro e w' ⟨rfl, rfl⟩
  have hF : Fr (fun _ => False) w (boxed (wboxes w p o) t) := (Fr.wboxes w p o _).alloc _
  exact ⟨rfl, ao, cap, ⟨_, _, h.fr hF (fun e => e) (fun _ _ e => e)⟩, hF.mono (fun _ e => e.elim), Or.inl rfl⟩

theorem wint_any (p t : Nat) (ao : Option Addr) (cap : Nat) (s : List UInt8 × Bool) (n : Int) (w : World) (h : WOk w p t ao cap s) (hn : n ≤ 9223372036854775807) (hb : s.1.length + 20 ≤ 140737488355328) :
    Calls Tryz.prog 47 #[.pointer (some ⟨p, 0, none⟩), .int .i64 n] w fun e w' => e = .returned (.tuple #[]) ∧ WPost w p t ao (wInt n s) w' := by
  obtain ⟨at_, ea, hW⟩ := h
  obtain ⟨bs, bad⟩ := s
  refine wint_via p t n w _ hW.c hW.lt ?_
  have hlt := hW.tp.lt
  have hrlt : ∀ k, blk ao k → k < w.heap.size := fun k e => hW.tp.row.lt e
  cases bad with
  | true => exact wdo_shut p t _ _ ao cap bs at_ ea w hW
  | false =>
    have hB := hW.boxes (.cells #[.pointer (some ⟨p, 0, none⟩)] 69) (.cells #[.int .i64 n] 3)
    by_cases hneg : n < 0
    · rw [show wInt n (bs, false) = (bs, true) by simp [wInt, hneg]]
      exact wdo_bad 72 p t _ ao cap bs at_ ea w hW (fun _ => by kernel_rfl) (wint1_neg p t _ _ ao cap bs at_ 0 ea n _ hB hneg (cell_box1 w p _ t) (cell_box2 w p _ _ t 0))
    · obtain ⟨m, rfl⟩ : ∃ m : Nat, n = m := ⟨n.toNat, by omega⟩
      rw [show wInt m (bs, false) = (bs ++ sevens m, false) by simp [wInt]]
      refine wdo_ok 72 p t _ ao cap bs _ at_ ea w hW (fun _ => by kernel_rfl) (wint1_nat p t _ _ ao cap bs at_ 0 ea m _ hB (by omega) hb (cell_box1 w p _ t) (cell_box2 w p _ _ t 0) ?_ ?_)
      · rintro (e | e)
        · omega
        · have := hrlt _ e; omega
      · rw [boxed_size, wboxes_size]; omega

end Go.Proofs.YtojgikaoiegmpaaGreatDoor

/- Bytes that are cloned, compared; what a writer tells. -/
namespace Go.Proofs.YtojgikaoiegmpaaGreatDoor
open Go.RowKit Go.IntWalk
set_option linter.unusedSimpArgs false
set_option linter.unusedVariables false
set_option maxRecDepth 100000

/-- A slice's bytes, wherever they lie. -/
def BsAt (w : World) (ao : Option Addr) (bs : List UInt8) : Prop :=
  (ao = none ∧ bs = []) ∨ ∃ b off, ao = some ⟨b, off, none⟩ ∧ ∀ j (h : j < bs.length), w.cell? ⟨b, off + j, none⟩ = some (.int .u8 bs[j].toNat)

theorem Row.bs {w : World} {e : TypeId} {ao : Option Addr} {cap : Nat} {bs : List UInt8} (h : Row w e ao cap bs) : BsAt w ao bs := by
  rcases h.form with ⟨rfl, rfl, _⟩ | ⟨g, cur, rfl, _⟩
  · exact Or.inl ⟨rfl, rfl⟩
  · exact Or.inr ⟨g, 0, rfl, fun j hj => by rw [Nat.zero_add]; exact h.cell j hj⟩

theorem BsAt.keep {w w' : World} {ao : Option Addr} {bs : List UInt8} (h : BsAt w ao bs) (hb : ∀ k, k < w.heap.size → blk ao k → w'.heap[k]? = w.heap[k]?) : BsAt w' ao bs := by
  rcases h with h | ⟨b, off, rfl, hc⟩
  · exact Or.inl h
  · refine Or.inr ⟨b, off, rfl, fun j hj => ?_⟩
    have h1 := hc j hj
    rw [← h1]
    exact World.cell?_of_block (a := ⟨b, off + j, none⟩) (hb b (block_lt_of_cell h1) ⟨_, rfl, rfl⟩)

theorem BsAt.fr {S : Nat → Prop} {w w' : World} {ao : Option Addr} {bs : List UInt8} (h : BsAt w ao bs) (hf : Fr S w w') (hS : ∀ k, k < w.heap.size → blk ao k → ¬ S k) : BsAt w' ao bs :=
  h.keep fun k hk e => hf.block k hk (hS k hk e)

theorem BsAt.src {w : World} {ao : Option Addr} {bs : List UInt8} (h : BsAt w ao bs) (cap : Nat) : Src Tryz.prog 1 29 (.slice ao bs.length cap) bs.length (bv bs) w := by
  rcases h with ⟨rfl, rfl⟩ | ⟨b, off, rfl, hc⟩
  · exact Src.ofNil w Tryz.underlying29 cap
  · refine Src.ofSlice w Tryz.underlying29 ⟨b, off, none⟩ bs.length cap (bv bs) (by simp [bv_length]) (fun j u hu => ?_) (bv_one _)
    have hj : j < bs.length := by have := (List.getElem?_eq_some_iff.1 hu).1; rwa [bv_length] at this
    rw [bv_get _ _ hj] at hu
    obtain rfl := Option.some.inj hu
    rw [Addr.add_lit]
    exact hc j hj

theorem BsAt.conv {w : World} {ao : Option Addr} {bs : List UInt8} (h : BsAt w ao bs) (cap : Nat) : (convert 29 9 (.slice ao bs.length cap)).run Tryz.prog w = .ok (.string ⟨bs.toArray⟩) w := by
  rcases h with ⟨rfl, rfl⟩ | ⟨b, off, rfl, hc⟩
  · exact run_convert_bytes_nil w 29 5 Tryz.underlying29 Tryz.underlying5 _ _ 9 Tryz.underlying9
  · have := run_convert_bytes_arg (P := Tryz.prog) w 29 5 Tryz.underlying29 Tryz.underlying5 b off bs.length cap (bs.map fun b => (b.toNat : Int)) (by simp) (fun i hi => by rw [hc i hi]; simp [hi]) 9 Tryz.underlying9
    rw [this]
    have e : strOfNums (bs.map fun b => (b.toNat : Int)) = ⟨bs.toArray⟩ := by
      unfold strOfNums
      congr 1
      congr 1
      rw [List.map_map]
      conv => rhs; rw [← List.map_id bs]
      apply List.map_congr_left
      intro a _
      simp
    rw [e]

theorem same_any (ao bo : Option Addr) (ca cb : Nat) (xs bs : List UInt8) (w : World) (ha : BsAt w ao xs) (hb : BsAt w bo bs) :
    Calls Tryz.prog 13 #[.slice ao xs.length ca, .slice bo bs.length cb] w fun e w' => e = .returned (.bool (xs == bs)) ∧ w' = w := by
  have h1 := ha.conv ca
  have h2 := hb.conv cb
  go_enter Tryz.func13, Tryz.ntmps13
  go_wp2
  go_ret
  exact ⟨rfl, rfl⟩

theorem clone_nil (w : World) : Calls Tryz.prog 74 #[.slice none 0 0] w fun e w' => e = .returned (.slice none 0 0) ∧ w' = w := by
  have hnil : ∀ (a : Option Addr) (n c : Nat) (w : World), (binOp .eql 29 (.slice a n c) (.slice none 0 0)).run Tryz.prog w = .ok (.bool a.isNone) w := fun a n c w => Lib.run_eql_slice_nil (P := Tryz.prog) w 29 5 a n c 0 0 Tryz.underlying29
  go_enter Tryz.func74, Tryz.ntmps74
  go_wp2
  go_ret
  exact ⟨rfl, rfl⟩

theorem clone_some (a : Addr) (cap : Nat) (bs : List UInt8) (w : World) (h : BsAt w (some a) bs) (hb : bs.length ≤ 140737488355328) :
    Calls Tryz.prog 74 #[.slice (some a) bs.length cap] w fun e w' => ∃ ao' cap', e = .returned (.slice ao' bs.length cap') ∧ Row w' 5 ao' cap' bs ∧ Fr (fun _ => False) w w' ∧ ∀ k, blk ao' k → w.heap.size ≤ k := by
  have h1 : BsAt (w.alloc (.cells #[] 5)) (some a) bs := h.fr ((Fr.refl (fun _ => False) w).alloc _) (fun _ _ _ e => e)
  obtain ⟨ao', cap', w1, hrun, hrow, hf, hao⟩ := app_row (w.alloc (.cells #[] 5)) 29 (some ⟨w.heap.size, 0, none⟩) 0 [] bs (World.ownsRow_made w #[] 0 (Nat.zero_le _) (by decide) rfl) _ (h1.src cap) (by simpa using hb)
  have HR := hideIt hrun
  clear hrun
  have hnil : ∀ (a : Option Addr) (n c : Nat) (w : World), (binOp .eql 29 (.slice a n c) (.slice none 0 0)).run Tryz.prog w = .ok (.bool a.isNone) w := fun a n c w => Lib.run_eql_slice_nil (P := Tryz.prog) w 29 5 a n c 0 0 Tryz.underlying29
  go_enter Tryz.func74, Tryz.ntmps74
  go_wp2_with (first | (at_builtin; refine wpList_append_run _ rfl (.tmp 5) (.tmp 6) 29 29 rfl _ _ _ _ rfl rfl HR.out ?_))
  go_ret
  refine ⟨ao', cap', rfl, hrow, (((Fr.refl (fun _ => False) w).alloc _).trans (hf.mono (S' := fun k => k = w.heap.size) ?_) ?_), ?_⟩
  · rintro k ⟨x, e1, e2⟩
    obtain rfl := Option.some.inj e1
    exact e2.symm
  · intro i hi e
    omega
  · rintro k ⟨x, e1, e2⟩
    rcases hao with rfl | rfl
    · obtain rfl := Option.some.inj e1
      simp only at e2
      omega
    · obtain rfl := Option.some.inj e1
      simp at e2
      omega

theorem clone_any (ao : Option Addr) (cap : Nat) (bs : List UInt8) (w : World) (h : BsAt w ao bs) (hcap : ao = none → cap = 0) (hb : bs.length ≤ 140737488355328) :
    Calls Tryz.prog 74 #[.slice ao bs.length cap] w fun e w' => ∃ ao' cap', e = .returned (.slice ao' bs.length cap') ∧ Row w' 5 ao' cap' bs ∧ Fr (fun _ => False) w w' ∧ ∀ k, blk ao' k → w.heap.size ≤ k := by
  cases ao with
  | some a => exact clone_some a cap bs w h hb
  | none =>
    obtain rfl := hcap rfl
    rcases h with ⟨_, rfl⟩ | ⟨_, _, e, _⟩
    · refine (clone_nil w).mono ?_
      rintro e w' ⟨rfl, rfl⟩
      exact ⟨none, 0, rfl, World.ownsRow_nil _ _ _ _, Fr.refl _ _, fun k ⟨_, e, _⟩ => by cases e⟩
    · cases e

theorem Row.cap0 {w : World} {e : TypeId} {ao : Option Addr} {cap : Nat} {bs : List UInt8} (h : Row w e ao cap bs) : ao = none → cap = 0 := by
  rintro rfl
  rcases h.form with ⟨_, _, rfl⟩ | ⟨_, _, e, _⟩
  · rfl
  · cases e

theorem out_bad (p t : Nat) (ao : Option Addr) (cap : Nat) (bs : List UInt8) (at_ ea : Int) (w : World) (h : WAt w p t ao cap bs at_ 5 ea) :
    Calls Tryz.prog 48 #[.pointer (some ⟨p, 0, none⟩)] w fun e w' => e = .returned (.tuple #[.slice none 0 0, .int .i64 5]) ∧ Fr (fun _ => False) w w' := by
  have hc := h.c
  have h2 := h.tp.c2
  go_enter Tryz.func48, Tryz.ntmps48
  go_wp2_with (go_at_call 70; refine (wnone_some p t _ hc).mono ?_; rintro e w' ⟨rfl, rfl⟩)
  go_quiet (fail)
  go_wp2
  go_ret2
  exact ⟨rfl, (Fr.refl _ _).drewN _⟩

theorem out_ok (p t : Nat) (ao : Option Addr) (cap : Nat) (bs : List UInt8) (at_ ea : Int) (w : World) (h : WAt w p t ao cap bs at_ 0 ea) (hb : bs.length ≤ 140737488355328) :
    Calls Tryz.prog 48 #[.pointer (some ⟨p, 0, none⟩)] w fun e w' => ∃ ao' cap', e = .returned (.tuple #[.slice ao' bs.length cap', .int .i64 0]) ∧ Row w' 5 ao' cap' bs ∧ Fr (fun _ => False) w w' ∧ ∀ k, blk ao' k → w.heap.size ≤ k := by
  have hc := h.c
  have h0 := h.tp.c0
  have h2 := h.tp.c2
  go_enter Tryz.func48, Tryz.ntmps48
  go_wp2_with (go_at_call 70; refine (wnone_some p t _ hc).mono ?_; rintro e w' ⟨rfl, rfl⟩)
  refine (clone_any ao cap bs _ h.tp.row.bs h.tp.row.cap0 hb).mono ?_
  rintro e w' ⟨ao', cap', rfl, hrow, hF, hnew⟩
  go_wp2
  go_ret2
  exact ⟨ao', cap', rfl, hrow, hF, hnew⟩

theorem out_nil (w : World) : Calls Tryz.prog 48 #[.pointer none] w fun e w' => e = .returned (.tuple #[.slice none 0 0, .int .i64 1]) ∧ w' = w := by
  go_enter Tryz.func48, Tryz.ntmps48
  go_wp2_with (go_at_call 70; refine (wnone_nil _).mono ?_; rintro e w' ⟨rfl, rfl⟩)
  go_ret2
  exact ⟨rfl, rfl⟩

theorem out_bare (p : Nat) (w : World) (hc : w.cell? ⟨p, 0, none⟩ = some (.pointer none)) : Calls Tryz.prog 48 #[.pointer (some ⟨p, 0, none⟩)] w fun e w' => e = .returned (.tuple #[.slice none 0 0, .int .i64 1]) ∧ w' = w := by
  go_enter Tryz.func48, Tryz.ntmps48
  go_wp2_with (go_at_call 70; refine (wnone_bare p _ hc).mono ?_; rintro e w' ⟨rfl, rfl⟩)
  go_ret2
  exact ⟨rfl, rfl⟩

end Go.Proofs.YtojgikaoiegmpaaGreatDoor

/- The writer's Text and ID. -/
namespace Go.Proofs.YtojgikaoiegmpaaGreatDoor
open Go.RowKit Go.IntWalk
set_option linter.unusedSimpArgs false
set_option linter.unusedVariables false
set_option maxRecDepth 100000

theorem wset_old {w wr : World} {t k : Nat} {a b : Option Addr} (hs : w.heap.size ≤ wr.heap.size) (hk : k < w.heap.size) (hb : b = a ∨ ∀ k, blk b k → w.heap.size ≤ k) (h : ¬ wset t a k) : ¬ wset t b k := by
  rintro (e | e)
  · exact h (Or.inl e)
  · rcases hb with rfl | hb
    · exact h (Or.inr e)
    · have := hb k e; omega

set_option maxRecDepth 100000 in
set_option maxHeartbeats 4000000 in
theorem wtext1_any (p t a b : Nat) (ao : Option Addr) (cap : Nat) (bs : List UInt8) (at_ er ea : Int) (x : ByteArray) (w : World) (h : WAt w p t ao cap bs at_ er ea) (hb : bs.length + 20 + x.size ≤ 140737488355328)
    (ha : w.cell? ⟨a, 0, none⟩ = some (.pointer (some ⟨p, 0, none⟩))) (hbx : w.cell? ⟨b, 0, none⟩ = some (.string x)) (hS : ¬ wset t ao a) (hS2 : ¬ wset t ao b) :
    Calls Tryz.prog 92 #[.pointer (some ⟨a, 0, none⟩), .pointer (some ⟨b, 0, none⟩)] w fun e w' =>
      e = .returned (.int .i64 (bs ++ (sevens x.size ++ x.data.toList)).length) ∧ ∃ ao' cap', WAt w' p t ao' cap' (bs ++ (sevens x.size ++ x.data.toList)) at_ er ea ∧ Fr (wset t ao) w w' ∧ (ao' = ao ∨ ∀ k, blk ao' k → w.heap.size ≤ k) := by
  have h9 := sevens_nine (n := x.size) (by omega)
  have hal := block_lt_of_cell ha
  have hbl := block_lt_of_cell hbx
  have HN := hideIt (number_nat p t ao cap bs at_ er ea x.size w h (by omega) (by omega))
  generalize hfs : bs ++ (sevens x.size ++ x.data.toList) = fs
  have HFS := hideIt hfs
  clear hfs
  go_enter Tryz.func92, Tryz.ntmps92
  go_wp2_with fail
  refine Calls.mono HN.out ?_
  rintro e w1 ⟨rfl, ao1, cap1, hW, hF, hao⟩
  have ha1 : w1.cell? ⟨a, 0, none⟩ = _ := (World.cell?_of_block (a := ⟨a, 0, none⟩) (hF.block a hal hS)).trans ha
  have hb1 : w1.cell? ⟨b, 0, none⟩ = _ := (World.cell?_of_block (a := ⟨b, 0, none⟩) (hF.block b hbl hS2)).trans hbx
  have hlen : (bs ++ sevens x.size).length ≤ bs.length + 9 := by simp; omega
  have HL := hideIt (List.append_assoc bs (sevens x.size) x.data.toList)
  generalize bs ++ sevens x.size = cs at hW hlen HL
  have hsrc : Src Tryz.prog 1 9 (.string x) x.data.toList.length (bv x.data.toList) w1.drew := by have := Src.ofString (P := Tryz.prog) w1.drew Tryz.underlying9 x; simpa [byteCells, bv] using this
  obtain ⟨ao2, cap2, w2, hrun, hrow, hf, hao2⟩ := app_row w1.drew 9 ao1 cap1 cs x.data.toList hW.tp.row.drew (.string x) hsrc (by simp; omega)
  have hf2 : Fr (blk ao1) w1 w2 := (Fr.refl (blk ao1) w1).drew.trans hf (fun _ _ e => e)
  have hao3 : ao2 = ao1 ∨ ∀ k, blk ao2 k → w1.heap.size ≤ k := hao2.imp id fun e k ⟨y, e1, e2⟩ => by
    rw [e] at e1
    obtain rfl := Option.some.inj e1
    simp at e2
    omega
  have hst := hW.stored hf2 hrow hao3
  have hal1 := block_lt_of_cell ha1
  have hbl1 := block_lt_of_cell hb1
  have hSa : ¬ wset t ao1 a := wset_old hF.size hal hao hS
  have hSb : ¬ wset t ao1 b := wset_old hF.size hbl hao hS2
  have ha2 : w2.cell? ⟨a, 0, none⟩ = some (.pointer (some ⟨p, 0, none⟩)) := (World.cell?_of_block (a := ⟨a, 0, none⟩) (hf2.block a hal1 (fun e => hSa (Or.inr e)))).trans ha1
  have hb2 : w2.cell? ⟨b, 0, none⟩ = some (.string x) := (World.cell?_of_block (a := ⟨b, 0, none⟩) (hf2.block b hbl1 (fun e => hSb (Or.inr e)))).trans hb1
  have hc1 := hW.c
  have h01 := hW.tp.c0
  have hc2 : w2.cell? ⟨p, 0, none⟩ = some (.pointer (some ⟨t, 0, none⟩)) := (World.cell?_of_block (a := ⟨p, 0, none⟩) (hf2.block p hW.lt hW.apart)).trans hc1
  have h02 : w2.cell? ⟨t, 0, none⟩ = some (.slice ao1 cs.length cap1) := (World.cell?_of_block (a := ⟨t, 0, none⟩) (hf2.block t hW.tp.lt hW.tp.apart)).trans h01
  have hz2 : w2.frozen? ⟨t, 0, none⟩ = false := (World.frozen?_of_block (a := ⟨t, 0, none⟩) (hf2.block t hW.tp.lt hW.tp.apart)).trans (hW.tp.fz 0)
  have elen : (cs ++ x.data.toList).length = cs.length + x.size := by simp
  rw [elen] at hst
  have ha3 : (w2.setCell ⟨t, 0, none⟩ (.slice ao2 (cs.length + x.size) cap2)).cell? ⟨a, 0, none⟩ = some (.pointer (some ⟨p, 0, none⟩)) := (World.cell?_of_block (a := ⟨a, 0, none⟩) (hst.2.block a hal1 hSa)).trans ha1
  have hb3 : (w2.setCell ⟨t, 0, none⟩ (.slice ao2 (cs.length + x.size) cap2)).cell? ⟨b, 0, none⟩ = some (.string x) := (World.cell?_of_block (a := ⟨b, 0, none⟩) (hst.2.block b hbl1 hSb)).trans hb1
  have hc3 := hst.1.c
  have h03 := hst.1.tp.c0
  have HR := hideIt hrun
  have HST := hideIt hst
  have HLE := hideIt elen
  clear hrun hst elen hsrc
  rw [show x.data.toList.length = x.size by simp] at HR
  rw [HL.out, HFS.out] at HST HLE h03
  rw [HLE.out] at h03
  go_wp2_with fail
  refine wp_region_held_drew (S := fun w' => w'.cell? ⟨a, 0, none⟩ = some (.pointer (some ⟨p, 0, none⟩)) ∧ w'.cell? ⟨p, 0, none⟩ = some (.pointer (some ⟨t, 0, none⟩)) ∧ w'.cell? ⟨b, 0, none⟩ = some (.string x)) (by kernel_rfl) ?_ (fun hHeld => ?_)
  · exact ⟨ha1, hc1, hb1⟩
  refine wpAnyH_take (i := 0) (v := ?v0) rfl (by kernel_rfl) (by kernel_rfl) (by kernel_rfl) (fun _ _ _ h => h) (Or.inl ⟨by rfl, ?hy0⟩) (by assumption) ?rest0
  case hy0 => intro w hSw; (try dsimp only at hSw); go_simp; (try with_reducible rfl)
  try simp only [Act.put, List.setIfInBounds_toArray, List.set_cons_zero, List.set_cons_succ]
  refine wpAnyH_take (i := 1) (v := ?v1) rfl (by kernel_rfl) (by kernel_rfl) (by kernel_rfl) (fun _ _ _ h => h) (Or.inl ⟨by rfl, ?hy1⟩) (by assumption) ?rest1
  case hy1 => intro w hSw; (try dsimp only at hSw); go_simp; (try with_reducible rfl)
  try simp only [Act.put, List.setIfInBounds_toArray, List.set_cons_zero, List.set_cons_succ]
  refine wpAnyH_take (i := 2) (v := ?v2) rfl (by kernel_rfl) (by kernel_rfl) (by kernel_rfl) (fun _ _ _ h => h) (Or.inl ⟨by rfl, ?hy2⟩) (by assumption) ?rest2
  case hy2 => intro w hSw; (try dsimp only at hSw); go_simp; (try with_reducible rfl)
  try simp only [Act.put, List.setIfInBounds_toArray, List.set_cons_zero, List.set_cons_succ]
  refine wpAnyH_take (i := 3) (v := ?v3) rfl (by kernel_rfl) (by kernel_rfl) (by kernel_rfl) (fun _ _ _ h => h) (Or.inl ⟨by rfl, ?hy3⟩) (by assumption) ?rest3
  case hy3 => intro w hSw; (try dsimp only at hSw); go_simp; (try with_reducible rfl)
  try simp only [Act.put, List.setIfInBounds_toArray, List.set_cons_zero, List.set_cons_succ]
  refine wpAnyH_take (i := 4) (v := ?v4) rfl (by kernel_rfl) (by kernel_rfl) (by kernel_rfl) (fun _ _ _ h => h) (Or.inl ⟨by rfl, ?hy4⟩) (by assumption) ?rest4
  case hy4 => intro w hSw; (try dsimp only at hSw); go_simp; (try with_reducible rfl)
  try simp only [Act.put, List.setIfInBounds_toArray, List.set_cons_zero, List.set_cons_succ]
  refine wpAnyH_take (i := 5) (v := ?v5) rfl (by kernel_rfl) (by kernel_rfl) (by kernel_rfl) (fun _ _ _ h => h) (Or.inl ⟨by rfl, ?hy5⟩) (by assumption) ?rest5
  case hy5 => intro w hSw; (try dsimp only at hSw); go_simp; (try with_reducible rfl)
  try simp only [Act.put, List.setIfInBounds_toArray, List.set_cons_zero, List.set_cons_succ]
  refine wpAnyH_take (i := 6) (v := ?v6) rfl (by kernel_rfl) (by kernel_rfl) (by kernel_rfl) (fun _ _ _ h => h) (Or.inl ⟨by rfl, ?hy6⟩) (by assumption) ?rest6
  case hy6 => intro w hSw; (try dsimp only at hSw); go_simp; (try with_reducible rfl)
  try simp only [Act.put, List.setIfInBounds_toArray, List.set_cons_zero, List.set_cons_succ]
  refine wpAnyH_take (i := 7) (v := ?v7) rfl (by kernel_rfl) (by kernel_rfl) (by kernel_rfl) (fun _ _ _ h => h) (Or.inl ⟨by rfl, ?hy7⟩) (by assumption) ?rest7
  case hy7 => intro w hSw; (try dsimp only at hSw); go_simp; (try with_reducible rfl)
  try simp only [Act.put, List.setIfInBounds_toArray, List.set_cons_zero, List.set_cons_succ]
  refine wpAnyH_take (i := 8) (v := ?v8) rfl (by kernel_rfl) (by kernel_rfl) (by kernel_rfl) (fun _ _ _ h => h) (Or.inl ⟨by rfl, ?hy8⟩) (by assumption) ?rest8
  case hy8 => intro w hSw; (try dsimp only at hSw); go_simp; (try with_reducible rfl)
  try simp only [Act.put, List.setIfInBounds_toArray, List.set_cons_zero, List.set_cons_succ]
  refine wpAnyH_take (i := 9) (v := ?v9) rfl (by kernel_rfl) (by kernel_rfl) (by kernel_rfl) (fun _ _ _ h => h) (Or.inl ⟨by rfl, ?hy9⟩) (by assumption) ?rest9
  case hy9 => intro w hSw; (try dsimp only at hSw); go_simp; (try with_reducible rfl)
  try simp only [Act.put, List.setIfInBounds_toArray, List.set_cons_zero, List.set_cons_succ]
  refine wpAnyH_take (i := 11) (v := ?v11) rfl (by kernel_rfl) (by kernel_rfl) (by kernel_rfl) (fun _ _ _ h => h) (Or.inl ⟨by rfl, ?hy11⟩) (by assumption) ?rest11
  case hy11 => intro w hSw; (try dsimp only at hSw); go_simp; (try with_reducible rfl)
  try simp only [Act.put, List.setIfInBounds_toArray, List.set_cons_zero, List.set_cons_succ]
  refine wpAnyH_ready (rs := [10]) (by kernel_rfl) (by simp) ?_
  refine AllReadyH.cons rfl (fun K hK => ?_) AllReadyH.nil
  go_simp
  refine hK.out _ _ ?_ (fun hHeld => ?_)
  · exact ⟨ha1, hc1, hb1⟩
  clear hK K
  try simp only [Act.put, List.setIfInBounds_toArray, List.set_cons_zero, List.set_cons_succ]
  refine wpAnyH_ready (rs := [12]) (by kernel_rfl) (by simp) ?_
  refine AllReadyH.cons rfl (fun K hK => ?_) AllReadyH.nil
  refine step_append_run rfl (.tmp 17) (.tmp 18) 29 9 rfl _ _ _ _ rfl rfl HR.out ?_
  refine hK.out _ _ ?_ (fun hHeld => ?_)
  · exact ⟨ha2, hc2, hb2⟩
  clear hK K
  try simp only [Act.put, List.setIfInBounds_toArray, List.set_cons_zero, List.set_cons_succ]
  refine wpAnyH_take (i := 13) (v := ?v13) rfl (by kernel_rfl) (by kernel_rfl) (by kernel_rfl) (fun _ _ _ h => h) (Or.inl ⟨by rfl, ?hy13⟩) (by assumption) ?rest13
  case hy13 => intro w hSw; (try dsimp only at hSw); go_simp; (try with_reducible rfl)
  try simp only [Act.put, List.setIfInBounds_toArray, List.set_cons_zero, List.set_cons_succ]
  refine wpAnyH_take (i := 14) (v := ?v14) rfl (by kernel_rfl) (by kernel_rfl) (by kernel_rfl) (fun _ _ _ h => h) (Or.inl ⟨by rfl, ?hy14⟩) (by assumption) ?rest14
  case hy14 => intro w hSw; (try dsimp only at hSw); go_simp; (try with_reducible rfl)
  try simp only [Act.put, List.setIfInBounds_toArray, List.set_cons_zero, List.set_cons_succ]
  refine wpAnyH_ready (rs := [15]) (by kernel_rfl) (by simp) ?_
  refine AllReadyH.cons rfl (fun K hK => ?_) AllReadyH.nil
  go_simp
  refine hK.out _ _ ?_ (fun hHeld => ?_)
  · exact ⟨ha3, hc3, hb3⟩
  clear hK K
  try simp only [Act.put, List.setIfInBounds_toArray, List.set_cons_zero, List.set_cons_succ]
  refine wpAnyH_done (by kernel_rfl) ?_ _
  generalize hw3 : w2.setCell ⟨t, 0, none⟩ (.slice ao2 (cs.length + x.size) cap2) = w3 at *
  go_wp2_with fail
  go_ret
  exact ⟨congrArg Ending.returned (congrArg (Value.int IntKind.i64) (by rw [HLE.out]; simp)), ao2, cap2, HST.out.1, wset_trans hF hao HST.out.2, fresh_trans hF.size hao hao3⟩

theorem wtext_any (p t : Nat) (ao : Option Addr) (cap : Nat) (s : List UInt8 × Bool) (x : ByteArray) (w : World) (h : WOk w p t ao cap s) (hb : s.1.length + 20 + x.size ≤ 140737488355328) :
    Calls Tryz.prog 75 #[.pointer (some ⟨p, 0, none⟩), .string x] w fun e w' => e = .returned (.tuple #[]) ∧ WPost w p t ao (wText x.data.toList s) w' := by
  obtain ⟨at_, ea, hW⟩ := h
  obtain ⟨bs, bad⟩ := s
  refine wtext_via p t x w _ hW.c hW.lt ?_
  have hlt := hW.tp.lt
  have hrlt : ∀ k, blk ao k → k < w.heap.size := fun k e => hW.tp.row.lt e
  have hno : ∀ k, w.heap.size ≤ k → ¬ wset t ao k := by
    rintro k hk (e | e)
    · omega
    · have := hrlt _ e; omega
  cases bad with
  | true => exact wdo_shut p t _ _ ao cap bs at_ ea w hW
  | false =>
    have hB := hW.boxes (.cells #[.pointer (some ⟨p, 0, none⟩)] 69) (.cells #[.string x] 9)
    rw [show wText x.data.toList (bs, false) = (bs ++ (sevens x.size ++ x.data.toList), false) by simp [wText]]
    exact wdo_ok 92 p t _ ao cap bs _ at_ ea w hW (fun _ => by kernel_rfl) (wtext1_any p t _ _ ao cap bs at_ 0 ea x _ hB hb (cell_box1 w p _ t) (cell_box2 w p _ _ t 0) (hno _ (Nat.le_refl _)) (hno _ (by omega)))




end Go.Proofs.YtojgikaoiegmpaaGreatDoor
