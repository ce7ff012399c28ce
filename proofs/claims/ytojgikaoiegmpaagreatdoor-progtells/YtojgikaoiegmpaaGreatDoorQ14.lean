/- ProgTells, part 14 of the road: what the program's functions do, each by its own walk. -/
import Derived.Test.YtojgikaoiegmpaaGreatDoorQ13
import Derived.Test.YtojgikaoiegmpaaGreatDoorQ2
import Derived.Great.BuildSlice

/- Package prog: Bytes, walked. -/
namespace Go.Proofs.YtojgikaoiegmpaaGreatDoor
open Go.RowKit Go.IntWalk
set_option linter.unusedSimpArgs false
set_option linter.unusedVariables false
set_option maxRecDepth 100000

theorem Tryz.infoBt : (Tryz.prog.info? 29).map (fun i => (i.zero, i.size, i.bytes)) = some (some (.slice none 0 0), 1, 24) := by kernel_rfl
/-- A slice of bytes, as a cell. -/
def encS (x : Option Addr × Nat × Nat) : List Value := [.slice x.1 x.2.1 x.2.2]

theorem encS_len : ∀ x, (encS x).length = 1 := fun _ => rfl

/-- Parts of bytes in a row that grows: all of them new. -/
structure Parts (W0 wr : World) (pa : Option Addr) (pc : Nat) (rs : List (Option Addr × Nat × Nat)) (xs : List (List UInt8)) : Prop where
  row : RowOf encS 1 29 wr pa pc rs
  len : rs.length = xs.length
  el : ∀ t (h : t < rs.length) (h' : t < xs.length), rs[t].2.1 = xs[t].length ∧ Full wr rs[t].1 rs[t].2.2 xs[t] ∧ ∀ k, blk rs[t].1 k → ¬ blk pa k
  new : ∀ k, blk pa k → W0.heap.size ≤ k
  fr : Fr (fun _ => False) W0 wr
theorem Parts.quiet {W0 wr w' : World} {pa : Option Addr} {pc : Nat} {rs : List (Option Addr × Nat × Nat)} {xs : List (List UInt8)} (h : Parts W0 wr pa pc rs xs) (hF : Fr (fun _ => False) wr w') : Parts W0 w' pa pc rs xs :=
  ⟨h.row.fr hF (fun _ _ e => e), h.len, fun t h1 h2 => ⟨(h.el t h1 h2).1, (h.el t h1 h2).2.1.fr hF (fun _ _ e => e), (h.el t h1 h2).2.2⟩, h.new, h.fr.trans hF (fun _ _ e => e)⟩
theorem Parts.bt {W0 wr : World} {pa : Option Addr} {pc : Nat} {rs : List (Option Addr × Nat × Nat)} {xs : List (List UInt8)} (h : Parts W0 wr pa pc rs xs) : BtRow wr pa xs := by
  rcases h.row.at encS_len with ⟨_, e⟩ | ⟨b, off, e, hb, hc⟩
  · exact Or.inl (List.eq_nil_of_length_eq_zero (by rw [← h.len, e]; rfl))
  · refine Or.inr ⟨b, off, e, hb, fun j hj => ?_⟩
    have hj' : j < rs.length := by rw [h.len]; exact hj
    obtain ⟨e1, e2, _⟩ := h.el j hj' hj
    refine ⟨rs[j].1, rs[j].2.2, ?_, e2.bs⟩
    have := hc j hj' 0 _ rfl
    rw [Nat.mul_one, Nat.add_zero] at this
    rw [this, e1]
theorem slice_oneB (a : Option Addr) (n c : Nat) (w : World) : (Instr.buildSlice 54 1 #[(0, .slice a n c)]).run Tryz.prog w = .ok (.slice (some ⟨w.heap.size, 0, none⟩) 1 1) (w.alloc (.cells #[.slice a n c] 29)) := by
  obtain ⟨i0, hi, hz0, hz1, hz2⟩ := info_parts Tryz.infoBt
  refine run_buildSlice w 54 29 1 _ _ i0 (.slice none 0 0) Tryz.underlying54 hi hz0 (by rw [hz1]; omega) (by rw [hz1]; omega) ?_
  rw [hz1]
  kernel_rfl
theorem wpList_slice_oneG {P : Program} {ops : Array Oper} {rest : List Oper} {o : Oper} {a : Act} {w : World} {Q : Exit → Act → World → Prop} (hg : o.guard = none) (t : TypeId) (y : Operand) (ho : o.op = .buildSlice t 1 #[(0, y)])
    (v0 : Value) (hy : a.eval y = v0) (v : Value) (w' : World) (hrun : (Instr.buildSlice t 1 #[(0, v0)]).run P w = .ok v w')
    (h : wpList P ops Q rest (a.put o.dst v) w') : wpList P ops Q (o :: rest) a w := by
  refine wpList_plain hg fun K hK => ?_
  unfold Oper.wp execOp
  have e : (#[(0, y)].map fun (i, x) => (i, a.eval x)) = #[(0, v0)] := by simp [hy]
  simp only [ho, Sem.run_bind, e, hrun, Result.andThen_ok]
  exact hK _ _ h
theorem Parts.one {W0 wr : World} (hF : Fr (fun _ => False) W0 wr) (a : Option Addr) (c : Nat) (x : List UInt8) (hx : Full wr a c x) : Parts W0 (wr.alloc (.cells #[.slice a x.length c] 29)) (some ⟨wr.heap.size, 0, none⟩) 1 [(a, x.length, c)] [x] where
  row := World.ownsRow_lit wr #[.slice a x.length c] 1 (Nat.zero_le _) (by decide) rfl
  len := rfl
  el := fun t h h' => by
    obtain rfl : t = 0 := by simp at h; exact h
    exact ⟨rfl, hx.fr ((Fr.refl (fun _ => False) wr).alloc _) (fun _ _ e => e), fun k hk hk2 => by
      have := hx.lt hk
      obtain ⟨_, e1, e2⟩ := hk2
      obtain rfl := Option.some.inj e1
      simp only at e2
      omega⟩
  new := fun k hk => by
    obtain ⟨_, e1, e2⟩ := hk
    obtain rfl := Option.some.inj e1
    have := hF.size
    simp only at e2
    omega
  fr := hF.trans ((Fr.refl (fun _ => False) wr).alloc _) (fun _ _ e => e)
theorem Parts.step {W0 wr : World} {pa : Option Addr} {pc : Nat} {rs : List (Option Addr × Nat × Nat)} {xs : List (List UInt8)} (h : Parts W0 wr pa pc rs xs) (hn : xs.length ≤ 1000) (a : Option Addr) (c : Nat) (x : List UInt8) (hx : Full wr a c x) (ha : ∀ k, blk a k → ¬ blk pa k) :
    ∃ pa' pc' w', (Builtin.append_ #[54, 54] 54 #[.slice pa xs.length pc, .slice (some ⟨wr.heap.size, 0, none⟩) 1 1]).run Tryz.prog (wr.alloc (.cells #[.slice a x.length c] 29)) = .ok (.slice pa' (xs.length + 1) pc') w' ∧ Parts W0 w' pa' pc' (rs ++ [(a, x.length, c)]) (xs ++ [x]) := by
  obtain ⟨i0, hi, hz0, hz1, hz2⟩ := info_parts Tryz.infoBt
  obtain ⟨w1, hw1⟩ : ∃ w1, wr.alloc (.cells #[.slice a x.length c] 29) = w1 := ⟨_, rfl⟩
  have hF1 : Fr (fun _ => False) wr w1 := by rw [← hw1]; exact (Fr.refl _ wr).alloc _
  have hb1 : w1.heap[wr.heap.size]? = some (.cells #[.slice a x.length c] 29 (0, 0)) := by rw [← hw1]; exact heap_alloc_new wr _
  have hA : AtOf encS 1 w1 (some ⟨wr.heap.size, 0, none⟩) [(a, x.length, c)] := Or.inr ⟨wr.heap.size, 0, rfl, (Array.getElem?_eq_some_iff.1 hb1).1, fun i hi j v hv => by
    obtain rfl : i = 0 := by simp at hi; exact hi
    have hj : j = 0 := by have := (List.getElem?_eq_some_iff.1 hv).1; simp [encS] at this; exact this
    subst hj
    rw [cell_of_row _ _ _ _ _ _ hb1]
    simpa [encS] using hv⟩
  have hq := h.quiet hF1
  obtain ⟨pa', pc', w', h1, h2, h3, h4⟩ := row_append Tryz.underlying54 hi hz0 24 hz1 hz2 rfl (by decide) (by decide) encS_len (fun x u hu => by simp [encS] at hu; subst hu; rfl) w1 pa pc rs [(a, x.length, c)] hq.row (some ⟨wr.heap.size, 0, none⟩) 1 (Or.inr hA) (by have := h.len; simp; omega)
  rw [h.len] at h1
  refine ⟨pa', pc', w', by rw [hw1]; exact h1, h2, by simp [h.len], ?_, ?_, ?_⟩
  · have key : ∀ (r : Option Addr) (rc : Nat) (y : List UInt8), Full w1 r rc y → (∀ k, blk r k → ¬ blk pa k) → Full w' r rc y ∧ ∀ k, blk r k → ¬ blk pa' k := fun r rc y hf hd => by
      refine ⟨hf.fr h3 hd, fun k hk hk2 => ?_⟩
      rcases h4 with e | e
      · rw [e] at hk2; exact hd k hk hk2
      · rw [e] at hk2
        have := hf.lt hk
        obtain ⟨_, e1, e2⟩ := hk2
        obtain rfl := Option.some.inj e1
        simp only at e2
        omega
    intro t ht ht'
    by_cases hlt : t < rs.length
    · have hlt' : t < xs.length := by rw [← h.len]; exact hlt
      obtain ⟨e1, e2, e3⟩ := hq.el t hlt hlt'
      rw [List.getElem_append_left hlt, List.getElem_append_left hlt']
      exact ⟨e1, key _ _ _ e2 e3⟩
    · obtain rfl : t = rs.length := by simp at ht; omega
      have e1 : (rs ++ [(a, x.length, c)])[rs.length] = (a, x.length, c) := by simp
      have e2 : (xs ++ [x])[rs.length] = x := by simp [h.len]
      rw [e1, e2]
      exact ⟨rfl, key _ _ _ (hx.fr hF1 (fun _ _ e => e)) ha⟩
  · intro k hk
    rcases h4 with e | e
    · rw [e] at hk; exact h.new k hk
    · rw [e] at hk
      obtain ⟨_, e1, e2⟩ := hk
      obtain rfl := Option.some.inj e1
      have := hq.fr.size
      simp only at e2
      omega
  · exact hq.fr.trans h3 (fun i hi e => absurd (h.new i e) (by omega))

end Go.Proofs.YtojgikaoiegmpaaGreatDoor

/- Package prog: Bytes, walked. -/
namespace Go.Proofs.YtojgikaoiegmpaaGreatDoor
open Go.RowKit Go.IntWalk
set_option linter.unusedSimpArgs false
set_option linter.unusedVariables false
set_option maxRecDepth 100000

/-- The bytes of a list. -/
noncomputable def progB (l : List Ins) : List UInt8 := [UInt8.ofNat l.length] ++ l.flatMap codeI
/-- The parts, so far. -/
noncomputable def prt (l : List Ins) (k : Nat) : List (List UInt8) := [UInt8.ofNat l.length] :: (l.take k).map codeI
theorem prt_zero (l : List Ins) : prt l 0 = [[UInt8.ofNat l.length]] := rfl
theorem prt_succ (l : List Ins) (k : Nat) (h : k < l.length) : prt l (k + 1) = prt l k ++ [codeI l[k]] := by
  unfold prt
  rw [List.take_succ_eq_append_getElem h, List.map_append]
  rfl
theorem prt_len (l : List Ins) (k : Nat) (h : k ≤ l.length) : (prt l k).length = k + 1 := by
  unfold prt
  simp
  omega
theorem prt_all (l : List Ins) : (prt l l.length).flatten = progB l := by
  unfold prt progB
  rw [List.take_length, List.flatten_cons, List.flatMap_def]
theorem prt_short (l : List Ins) (k : Nat) : ∀ x ∈ prt l k, x.length ≤ 1000 := by
  intro x hx
  unfold prt at hx
  rcases List.mem_cons.1 hx with rfl | hx
  · simp
  · obtain ⟨i, _, rfl⟩ := List.mem_map.1 hx
    exact codeI_lenU i
theorem ChkP.kinds {l : List Ins} {err at_ : Int} (h : ChkP l err at_) : (err = 0 ∧ l.length ≤ 60) ∨ err = 2 ∨ err = 3 ∨ err = 5 := by
  rcases h with ⟨_, h, _⟩ | ⟨h60, ⟨_, _, h, _⟩ | ⟨_, ⟨_, _, h, _⟩ | ⟨_, ⟨_, _, h, _⟩ | ⟨_, h, _⟩⟩⟩⟩
  · exact Or.inr (Or.inr (Or.inl h))
  · exact Or.inr (Or.inl h)
  · exact Or.inr (Or.inr (Or.inr h))
  · exact Or.inr (Or.inr (Or.inl h))
  · exact Or.inl ⟨h, h60⟩

/-- What Bytes answers. -/
def PBytesP (l : List Ins) (w : World) (e : Ending) (w' : World) : Prop :=
  ∃ (ao : Option Addr) (cap : Nat) (err at_ : Int) (bs : List UInt8), ChkP l err at_ ∧ bs = (if err = 0 then progB l else []) ∧ e = .returned (.tuple #[.slice ao bs.length cap, .int .i64 err]) ∧ Full w' ao cap bs ∧ Fr (fun _ => False) w w' ∧ ∀ k, blk ao k → w.heap.size ≤ k

set_option maxRecDepth 100000 in
set_option maxHeartbeats 800000 in
theorem gbytes_any (ao : Option Addr) (cap : Nat) (l : List Ins) (hl : l.length ≤ 140737488355328) (w : World) (hB : InsRow w ao l) : Calls Tryz.prog 9 #[.slice ao l.length cap] w (PBytesP l w) := by
  have HC := hideIt (gcheck_any ao cap l hl w hB)
  have HB := hideIt (fun W (hF : Fr (fun _ => False) w W) => hB.fr hF (fun _ _ _ e => e))
  clear hB
  go_enter Tryz.func9, Tryz.ntmps9
  go_wp2_with fail
  refine Calls.mono HC.out ?_
  rintro e w1 ⟨⟨err, at_, rfl, hP⟩, hF1⟩
  have HF1 := hideIt hF1
  have HP := hideIt hP
  have hk := hP.kinds
  clear hF1 HC hP
  by_cases he : err = 0
  · subst he
    have h60 : l.length ≤ 60 := by
      rcases hk with ⟨_, h⟩ | h | h | h
      · exact h
      · cases h
      · cases h
      · cases h
    clear hk
    go_wp2_with fail
    refine Calls.mono (ghead_any l.length h60 w1) ?_
    rintro e w2 ⟨ah, ch, rfl, hH, hF2, hN2⟩
    have hone : ∀ (x : UInt8), Full w2 ah ch [x] → Parts w (w2.alloc (.cells #[.slice ah 1 ch] 29)) (some ⟨w2.heap.size, 0, none⟩) 1 [(ah, 1, ch)] [[x]] := fun x h => Parts.one (HF1.out.trans hF2 (fun _ _ e => e)) ah ch [x] h
    have HO := hideIt (show Parts w (w2.alloc (.cells #[.slice ah 1 ch] 29)) (some ⟨w2.heap.size, 0, none⟩) 1 [(ah, 1, ch)] (prt l 0) by rw [prt_zero]; exact hone _ hH)
    clear hone
    have HS := hideIt (slice_oneB ah 1 ch w2)
    have H60 := hideIt h60
    clear hH hF2 hN2
    go_wp2_with (first | (refine wpList_slice_oneG rfl 54 (.tmp 21) rfl (.slice ah 1 ch) rfl (.slice (some ⟨w2.heap.size, 0, none⟩) 1 1) (w2.alloc (.cells #[.slice ah 1 ch] 29)) HS.out ?_))
    go_loopw [6, 25] (fun s6 s25 wr => ∃ (k : Nat) (pa : Option Addr) (pc : Nat) (rs : List (Option Addr × Nat × Nat)), s6 = .slice pa (k + 1) pc ∧ s25 = .int .i64 k ∧ k ≤ l.length ∧ Hid (Parts w wr pa pc rs (prt l k))) (fun _ s25 _ => l.length - (intOf s25).toNat)
    case atStart => exact ⟨0, some ⟨w2.heap.size, 0, none⟩, 1, [(ah, 1, ch)], rfl, rfl, by omega, HO⟩
    case round =>
      clear HO HS
      obtain ⟨k, pa, pc, rs, rfl, rfl, hk, HPT⟩ := hrel
      by_cases hlt : k < l.length
      · have h1 : (k : Int) < (l.length : Int) := by omega
        obtain ⟨b, off, rfl, hb, hR⟩ := (HB.out wr HPT.out.fr).get k hlt
        have HR := hideIt hR
        obtain ⟨q, hq⟩ : ∃ q, wr.heap.size = q := ⟨_, rfl⟩
        have hZ : (wr.alloc (.cells #[.int .i64 0, .int .i64 0, .int .i64 0, .int .i64 0, .int .i64 0, .string ⟨#[]⟩] 40)).heap[q]? = some (.cells #[.int .i64 0, .int .i64 0, .int .i64 0, .int .i64 0, .int .i64 0, .string ⟨#[]⟩] 40) := by rw [← hq]; exact heap_alloc_new wr _
        have HT := hideIt (there_row hZ (icells l[k]).size (show 6 ≤ 6 from Nat.le_refl _))
        have HO := hideIt (icells_one l[k])
        have HIJ := hideIt (insSize l[k])
        have HIK := hideIt (insSizeA l[k])
        have HW := hideIt (fun W (h : W = (wr.alloc (.cells #[.int .i64 0, .int .i64 0, .int .i64 0, .int .i64 0, .int .i64 0, .string ⟨#[]⟩] 40)).setCells q 0 (icells l[k]).toList) => show W.rangeAt q 0 (icells l[k]).toList ∧ Fr (fun _ => False) wr W by
          subst h
          have hS := store_over (V := icells l[k]) hZ rfl
          refine ⟨fun t v hv => ?_, ((Fr.refl (fun _ => False) wr).alloc _).trans hS.2 (fun i hi e => by omega)⟩
          rw [Nat.zero_add, cell_of_row _ _ _ _ _ _ hS.1]
          simpa using hv)
        have HM := hideIt (fun w => bytes_any l[k] w)
        have HPS := hideIt (prt_succ l k hlt)
        have HPL := hideIt (prt_len l k hk)
        have HQ := hideIt hq
        clear hR hZ
        unfold BytesP at HM
        generalize codeI l[k] = cI at *
        generalize icells l[k] = C at *
        go_wp2_with (first | (refine wpList_load_mid rfl 40 (.tmp 27) rfl b (off + k * 6) rfl C.toList _ HR.out Tryz.underlying40 rfl HIJ.out ?_) | (refine store_absG rfl 40 (.tmp 8) (.tmp 28) rfl q 0 C rfl rfl HT.out HIK.out HO.out ?_; intro W2 hW2; obtain ⟨hR2, hF2⟩ := HW.out W2 hW2; have HR2 := hideIt hR2; have HP2 := hideIt (HPT.out.quiet hF2); clear hW2 HW HT hR2 hF2) | (refine wpList_load_mid rfl 40 (.tmp 8) rfl q 0 rfl C.toList _ HR2.out Tryz.underlying40 rfl HIJ.out ?_))
        refine Calls.mono (HM.out _) ?_
        rintro e w4 ⟨a4, c4, rfl, hf4, hF4, hn4⟩
        obtain ⟨pa', pc', w5, hrun, hP5⟩ := (HP2.out.quiet hF4).step (by have := HPL.out; have := H60.out; omega) a4 c4 cI hf4 (fun x hx hy => by have := hn4 x hx; have := HP2.out.row.lt hy; omega)
        rw [HPL.out] at hrun
        have HRUN := hideIt hrun
        have HP5 := hideIt (show Parts w w5 pa' pc' _ (prt l (k + 1)) by rw [HPS.out]; exact hP5)
        have HS4 := hideIt (slice_oneB a4 cI.length c4 w4)
        clear hf4 hF4 hn4 hrun hP5 HM HR HR2 HP2 HPT hq
        go_wp2_with (first | (refine wpList_slice_oneG rfl 54 (.tmp 35) rfl (.slice a4 cI.length c4) rfl (.slice (some ⟨w4.heap.size, 0, none⟩) 1 1) (w4.alloc (.cells #[.slice a4 cI.length c4] 29)) HS4.out ?_) | (at_builtin; refine wpList_append_run _ rfl (.tmp 34) (.tmp 36) 54 54 rfl _ _ _ _ rfl rfl HRUN.out ?_))
        go_roundw
        case measure => simp [intOf]; omega
        case rel => exact ⟨k + 1, pa', pc', _, rfl, by go_num, by omega, HP5⟩
      · have hje : k = l.length := by omega
        have hjn : ¬ (k : Int) < (l.length : Int) := by omega
        subst hje
        have hpl := prt_len l l.length (Nat.le_refl _)
        have HJ := hideIt (gjoined_any pa pc (prt l l.length) (by rw [hpl]; have := H60.out; omega) (prt_short l _) wr HPT.out.bt)
        rw [hpl, prt_all] at HJ
        have HF := hideIt HPT.out.fr
        clear hpl HPT
        go_wp2_with fail
        refine Calls.mono HJ.out ?_
        rintro e w7 ⟨a7, c7, rfl, hf7, hF7, hn7⟩
        have HQ := hideIt (And.intro hf7 (And.intro (HF.out.trans hF7 (fun _ _ e => e)) (fun k hk => Nat.le_trans HF.out.size (hn7 k hk))))
        clear hf7 hF7 hn7 HJ
        go_wp2_with fail
        go_ret2
        exact ⟨a7, c7, 0, at_, progB l, HP.out, by rw [if_pos rfl], rfl, HQ.out.1, HQ.out.2.1, HQ.out.2.2⟩
  · have hne : (err == 0) = false := by simpa using he
    clear hk
    go_wp2_with fail
    go_ret2
    exact ⟨none, 0, err, at_, [], HP.out, by rw [if_neg he], rfl, Or.inl ⟨rfl, rfl, rfl⟩, HF1.out, fun k hk => by obtain ⟨_, e, _⟩ := hk; cases e⟩

end Go.Proofs.YtojgikaoiegmpaaGreatDoor
