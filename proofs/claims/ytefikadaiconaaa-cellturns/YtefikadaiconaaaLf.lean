/- Cell: a state behind writes: of, behind, Apply. -/
import Derived.Test.YtefikadaiconaaaLe
import Derived.Laws.MakeOwn
namespace Go.Proofs.Ytefikadaiconaaa
open Go.RowKit Go.IntWalk
set_option linter.unusedSimpArgs false
set_option linter.unusedVariables false

set_option maxRecDepth 100000 in
set_option maxHeartbeats 1000000 in
theorem eof_any (b : Nat) (l : List Wr) (k : ByteArray) (w : World) (h : LatAt w b l) (hk : k.size ≤ maxLen) :
    Calls Try.prog 55 #[.map (some b), .string k] w fun e w' => e = .returned (wrV (lastW l k)) ∧ Fr (fun _ => False) w w' := by
  have hrun := (h.fr ((Fr.refl (fun _ => False) w).alloc (.cells #[.string ⟨#[]⟩, .string ⟨#[]⟩, .bool false] 52)) (fun e => e)).look k hk
  clear h
  generalize lastW l k = q at *
  obtain ⟨q1, q2, q3⟩ := q
  simp only [wrV] at *
  go_enter Try.func55, Try.ntmps55
  go_wp2_with fail
  refine bodyPost_ret (v := .agg #[.string q1, .string q2, .bool q3]) (by simp [results, Try.results55, go_sem]) rfl ⟨rfl, ?_⟩
  exact (Fr.refl _ _).alloc _

/-- A state behind writes: those of the keys ks, f tells each. -/
def behL : List ByteArray → (ByteArray → Wr) → List Sp → List Sp
  | [], _, l => l
  | k :: ks, f, l => l.take (placeL l k) ++ ((if (f k).2.2 then [] else [(k, (f k).2.1)]) ++ behL ks f (l.drop (placeL l k + (if hereB l k then 1 else 0))))

theorem SpsAt.drop2 {w : World} {b off : Nat} {l : List Sp} (h : SpsAt w (some ⟨b, off, none⟩) l) (f : Nat) : SpsAt w (some ⟨b, off + f * 2, none⟩) (l.drop f) := by
  rcases h with ⟨e, _⟩ | ⟨b', off', e, hb, hc⟩
  · cases e
  · obtain ⟨rfl, rfl⟩ : b = b' ∧ off = off' := by simpa using e
    refine Or.inr ⟨b, off + f * 2, rfl, hb, fun i hi => ?_⟩
    rw [List.length_drop] at hi
    rw [List.getElem_drop, Nat.add_assoc, ← Nat.add_mul]
    exact hc (f + i) (by omega)
theorem SpsAt.take2 {w : World} {ao : Option Addr} {l : List Sp} (h : SpsAt w ao l) (f : Nat) : SpsAt w ao (l.take f) := by
  rcases h with ⟨e, rfl⟩ | ⟨b, off, rfl, hb, hc⟩
  · exact Or.inl ⟨e, by simp⟩
  · refine Or.inr ⟨b, off, rfl, hb, fun i hi => ?_⟩
    rw [List.length_take] at hi
    rw [List.getElem_take]
    exact hc i (by omega)
theorem take_at {w : World} {ao : Option Addr} {l : List Sp} (h : l = [] ∨ SpsAt w ao l) (f : Nat) : l.take f = [] ∨ SpsAt w ao (l.take f) := by
  rcases h with h | h
  · exact Or.inl (by rw [h]; simp)
  · exact Or.inr (h.take2 f)
theorem drop_at {w : World} {ao : Option Addr} {l : List Sp} {cap : Nat} (h : l = [] ∨ SpsAt w ao l) (hcap : l.length ≤ cap) (f : Nat) (hf : f ≤ l.length) : l.drop f = [] ∨ SpsAt w (if cap = f then ao else Option.map (fun x => x.add (f * 2)) ao) (l.drop f) := by
  by_cases e : cap = f
  · exact Or.inl (List.drop_of_length_le (by omega))
  · rw [if_neg e]
    rcases h with h | ⟨_, h⟩ | ⟨b, off, rfl, h2, h3⟩
    · exact Or.inl (by rw [h]; simp)
    · exact Or.inl (by rw [h]; simp)
    · right
      show SpsAt w (some ((⟨b, off, none⟩ : Addr).add (f * 2))) _
      rw [Addr.add_lit]
      exact SpsAt.drop2 (Or.inr ⟨b, off, rfl, h2, h3⟩) f

/-- What is told so far, beside the keys. -/
structure Beh (W0 wr : World) (ao : Option Addr) (cap : Nat) (acc : List Sp) (aoK : Option Addr) (ks : List ByteArray) : Prop where
  row : SpRow wr ao cap acc
  new : ∀ k, blk ao k → W0.heap.size ≤ k
  fr : Fr (fun _ => False) W0 wr
  ks : ks = [] ∨ KsAt wr aoK ks
  apart : ∀ k, blk aoK k → ¬ blk ao k
  low : ∀ k, blk aoK k → k < wr.heap.size
theorem Beh.quiet {W0 wr w' : World} {ao : Option Addr} {cap : Nat} {acc : List Sp} {aoK : Option Addr} {ks : List ByteArray} (h : Beh W0 wr ao cap acc aoK ks) (hF : Fr (fun _ => False) wr w') : Beh W0 w' ao cap acc aoK ks :=
  ⟨h.row.fr hF (fun _ _ e => e), h.new, h.fr.trans hF (fun _ _ e => e), kats_fr0 h.ks hF, h.apart, fun k hk => Nat.lt_of_lt_of_le (h.low k hk) hF.size⟩
theorem Beh.app {W0 wr : World} {ao : Option Addr} {cap : Nat} {acc : List Sp} {aoK : Option Addr} {ks : List ByteArray} (h : Beh W0 wr ao cap acc aoK ks) (ys : List Sp) (bo : Option Addr) (c : Nat) (hs : ys = [] ∨ SpsAt wr bo ys) (hb : acc.length + ys.length ≤ 1099511627776) :
    ∃ ao' cap' w', (Builtin.append_ #[22, 22] 22 #[.slice ao acc.length cap, .slice bo ys.length c]).run Try.prog wr = .ok (.slice ao' (acc ++ ys).length cap') w' ∧ Beh W0 w' ao' cap' (acc ++ ys) aoK ks := by
  obtain ⟨ao', cap', w', h1, h2, h3, h4⟩ := spans_append wr ao cap acc ys h.row bo c hs hb
  refine ⟨ao', cap', w', by rw [h1, List.length_append], ⟨h2, ?_, ?_, ?_, ?_, ?_⟩⟩
  · intro k hk
    rcases h4 with e | e
    · rw [e] at hk; exact h.new k hk
    · rw [e] at hk
      obtain ⟨a, e1, e2⟩ := hk
      obtain rfl := Option.some.inj e1
      have := h.fr.size
      simp at e2
      omega
  · exact h.fr.trans h3 (fun i hi e => absurd (h.new i e) (by omega))
  · rcases h.ks with e | e
    · exact Or.inl e
    · exact Or.inr (e.fr h3 h.apart)
  · intro k hk hk2
    rcases h4 with e | e
    · rw [e] at hk2; exact h.apart k hk hk2
    · rw [e] at hk2
      obtain ⟨a, e1, e2⟩ := hk2
      obtain rfl := Option.some.inj e1
      have := h.low k hk
      simp at e2
      omega
  · intro k hk
    exact Nat.lt_of_lt_of_le (h.low k hk) h3.size

theorem wpList_make_run {P : Program} (w : World) {ops : Array Oper} {rest : List Oper} {o : Oper} {a : Act} {Q : Exit → Act → World → Prop} (hg : o.guard = none) (l c : Operand) (t : TypeId) (hop : o.op = Op.makeSlice t l c)
    (lv cv v : Value) (w' : World) (hl : a.eval l = lv) (hc : a.eval c = cv) (hrun : (Instr.makeSlice t lv cv).run P w = .ok v w') (hK : wpList P ops Q rest (a.put o.dst v) w') : wpList P ops Q (o :: rest) a w := by
  refine wpList_plain hg fun K' hK' => ?_
  unfold Oper.wp
  simp [execOp, hop, hl, hc, hrun, Result.andThen]
  exact hK' _ _ hK

theorem ks_drop (ks : List ByteArray) (j : Nat) (h : j < ks.length) : ks.drop j = ks[j] :: ks.drop (j + 1) := List.drop_eq_getElem_cons h

theorem beh_step (k : ByteArray) (ks : List ByteArray) (f : ByteArray → Wr) (acc l R : List Sp) (h : acc ++ behL (k :: ks) f l = R) : ((acc ++ l.take (placeL l k)) ++ (if (f k).2.2 then [] else [(k, (f k).2.1)])) ++ behL ks f (l.drop (placeL l k + (if hereB l k then 1 else 0))) = R := by
  rw [← h, behL, List.append_assoc, List.append_assoc]

theorem hs_le (l : List Sp) (k : ByteArray) : placeL l k + (if hereB l k then 1 else 0) ≤ l.length := by
  by_cases h : hereB l k = true
  · rw [if_pos h]
    obtain ⟨h1, _⟩ := (here_get l k).1 h
    omega
  · rw [if_neg h]
    exact placeL_le l k
theorem rises_drop {l : List Sp} (h : Rises (l.map Prod.fst)) (n : Nat) : Rises ((l.drop n).map Prod.fst) := by
  rw [List.map_drop]
  exact List.Pairwise.sublist (List.drop_sublist _ _) h

def BehPost (R : List Sp) (w : World) (e : Ending) (w' : World) : Prop := ∃ ao cap, e = .returned (.slice ao R.length cap) ∧ SpRow w' ao cap R ∧ Fr (fun _ => False) w w' ∧ ∀ k, blk ao k → w.heap.size ≤ k

set_option maxRecDepth 100000 in
set_option maxHeartbeats 4000000 in
theorem ebehind_any (b : Nat) (ws : List Wr) (ao : Option Addr) (cap : Nat) (l : List Sp) (w : World) (hM : LatAt w b ws) (h : l = [] ∨ SpsAt w ao l) (hcap : l.length ≤ cap) (hr : Rises (l.map Prod.fst)) (hl : l.length ≤ 1000000) (hw : ws.length ≤ 1000000) (hk : ∀ x ∈ ws, x.1.size ≤ maxLen) :
    Calls Try.prog 45 #[.agg #[.map (some b)], .slice ao l.length cap] w (BehPost (behL (setL (ws.map Prod.fst)) (lastW ws) l) w) := by
  have hksl : (setL (ws.map Prod.fst)).length ≤ 1000000 := by have := setL_len (ws.map Prod.fst); rw [List.length_map] at this; omega
  have HKS := hideIt (show ∀ k ∈ setL (ws.map Prod.fst), k.size ≤ maxLen from fun k hk2 => by
    rw [mem_setL] at hk2
    obtain ⟨x, hx, rfl⟩ := List.mem_map.1 hk2
    exact hk x hx)
  have hF0 : Fr (fun _ => False) w (w.alloc (.cells #[.map (some b)] 69)) := (Fr.refl _ _).alloc _
  have hbox : (w.alloc (.cells #[.map (some b)] 69)).cell? ⟨w.heap.size, 0, none⟩ = some (.map (some b)) := cellNew _ _ _ _ _ rfl
  have hsz : (w.alloc (.cells #[.map (some b)] 69)).heap.size = w.heap.size + 1 := by simp
  have HM0 := hideIt (hM.fr hF0 (fun e => e))
  have HL0 := hideIt (sats_fr0 h hF0)
  have HF0 := hideIt hF0
  have HBX := hideIt hbox
  obtain ⟨i0, hi, hz0, hz1, hz2⟩ := info_parts Try.infoSp
  obtain ⟨wm, hrun, hown, hg⟩ := run_make_own (P := Try.prog) (w := w.alloc (.cells #[.map (some b)] 69)) 0 22 60 i0 _ 2 Try.underlying22 hi hz0 hz1 .i64 .i64 l.length (by rw [hz2]; omega) (by unfold maxLen; omega) (Nat.zero_le _)
  have hFm : Fr (fun _ => False) (w.alloc (.cells #[.map (some b)] 69)) wm := (Fr.refl _ _).grown hg (fun k e => by cases e)
  have HRU := hideIt hrun
  have HMm := hideIt (HM0.out.fr hFm (fun e => e))
  have cbm := hFm.cell0 hbox
  have hrow0 : SpRow wm (some ⟨(w.alloc (.cells #[.map (some b)] 69)).heap.size, 0, none⟩) l.length [] := hown
  have HR0 := hideIt hrow0
  have HFm := hideIt hFm
  have HRI := hideIt (erising_any b ws wm HMm.out (by omega))
  clear hM h hF0 hbox hrun hown hg hFm hrow0 hk hi hz0 hz1 hz2
  generalize hW0 : w.alloc (.cells #[.map (some b)] 69) = W0 at *
  have HW0 := hideIt hW0
  have HSZ := hideIt hsz
  have HRR := hideIt hr
  clear hW0 hr
  generalize setL (ws.map Prod.fst) = ks at *
  go_enter Try.func45, Try.ntmps45
  go_wp2_with (first | (at_make; rw [HW0.out]; refine wpList_make_run _ rfl _ _ 22 rfl _ _ _ _ rfl rfl HRU.out ?_))
  refine Calls.mono HRI.out ?_
  rintro e w2 ⟨aoK, capK, rfl, hrowK, hF2, hnewK⟩
  have HB0 := hideIt (show Beh W0 w2 (some ⟨w.heap.size + 1, 0, none⟩) l.length [] aoK ks from by
    rw [← HSZ.out]
    refine ⟨HR0.out.fr hF2 (fun _ _ e => e), fun k hk => ?_, HFm.out.trans hF2 (fun _ _ e => e), Or.inr hrowK.at, fun k hk hk2 => ?_, fun k hk => hrowK.lt hk⟩
    · obtain ⟨a, e1, e2⟩ := hk
      obtain rfl := Option.some.inj e1
      simp at e2
      omega
    · have h1 := hnewK k hk
      have h2 := HR0.out.lt hk2
      omega)
  clear hrowK hF2 hnewK HRI HR0 HFm HMm cbm HRU
  clear hsz HW0
  go_wp2_with fail
  go_loopw [18, 5, 1] (fun s18 s5 s1 wr => ∃ (j : Nat) (a5 : Option Addr) (c5 : Nat) (acc : List Sp) (a1 : Option Addr) (c1 : Nat) (rest : List Sp), s18 = .int .i64 j ∧ j ≤ ks.length ∧ s5 = .slice a5 acc.length c5 ∧ s1 = .slice a1 rest.length c1 ∧ rest.length ≤ c1 ∧ acc.length + rest.length ≤ l.length + j ∧ Hid (Beh W0 wr a5 c5 acc aoK ks) ∧ Hid (rest = [] ∨ SpsAt W0 a1 rest) ∧ Hid (Rises (rest.map Prod.fst)) ∧ Hid (acc ++ behL (ks.drop j) (lastW ws) rest = behL ks (lastW ws) l)) (fun s18 _ _ _ => ks.length - (intOf s18).toNat)
  case atStart => exact ⟨0, _, _, [], _, _, l, rfl, Nat.zero_le _, rfl, rfl, hcap, by simp, HB0, HL0, HRR, hideIt rfl⟩
  case round =>
    clear HB0 HL0 HRR
    obtain ⟨j, a5, c5, acc, a1, c1, rest, rfl, hj, rfl, rfl, hc1, hlen, HB, HL, HR, HE⟩ := hrel
    by_cases hlt : j < ks.length
    · obtain ⟨b3, off3, rfl, hb3, ck⟩ := KsAt.get HB.out.ks j hlt
      have HKL := hideIt (HKS.out _ (List.getElem_mem hlt))
      have HEE := hideIt (show acc ++ behL (ks[j] :: ks.drop (j + 1)) (lastW ws) rest = behL ks (lastW ws) l by rw [← ks_drop ks j hlt]; exact HE.out)
      generalize ks[j] = k at *
      have cb := HB.out.fr.cell0 HBX.out
      have HFI := hideIt (fun u (hF : Fr (fun _ => False) W0 u) => find_later HR.out (by omega) HL.out c1 k u hF)
      have HST := hideIt (beh_step k (ks.drop (j + 1)) (lastW ws) acc rest _ HEE.out)
      have hple := placeL_le rest k
      have hhl := hs_le rest k
      have HRD := hideIt (rises_drop HR.out (placeL rest k + (if hereB rest k then 1 else 0)))
      have HTK := hideIt (take_at HL.out (placeL rest k))
      have HDR := hideIt (drop_at HL.out hc1 (placeL rest k + (if hereB rest k then 1 else 0)) hhl)
      have hj' : (j : Int) < (ks.length : Int) := by omega
      clear HEE HE
      generalize placeL rest k = P at *
      generalize hereB rest k = hb at *
      go_wp2_with fail
      refine Calls.mono (HFI.out _ HB.out.fr) ?_
      rintro e w3 ⟨rfl, hF3⟩
      have hB3 := HB.out.quiet hF3
      obtain ⟨a6, c6, w4, hrun4, hB4⟩ := hB3.app (rest.take P) a1 c1 (sats_fr0 HTK.out hB3.fr) (by rw [List.length_take]; omega)
      rw [List.length_take, Nat.min_eq_left hple] at hrun4
      obtain ⟨A4, hA4⟩ : ∃ A, A = acc ++ rest.take P := ⟨_, rfl⟩
      rw [← hA4] at hrun4 hB4 HST
      have hA4l : A4.length = acc.length + P := by rw [hA4, List.length_append, List.length_take, Nat.min_eq_left hple]
      have hA4b : A4.length ≤ 3000000 := by omega
      have HA4 := hideIt hA4l
      have HR4 := hideIt hrun4
      have HB4 := hideIt hB4
      have cb4 := hB4.fr.cell0 HBX.out
      have HOF := hideIt (eof_any b ws k w4 (HM0.out.fr hB4.fr (fun e => e)) HKL.out)
      have hP1 : (P : Int) ≤ (rest.length : Int) := by omega
      have hP2 : (P : Int) ≤ (c1 : Int) := by omega
      clear hF3 hB3 hrun4 hB4 cb HFI HTK ck hA4 hA4l
      generalize lastW ws k = q at *
      obtain ⟨q1, q2, q3⟩ := q
      simp only [wrV] at HOF
      go_wp2_with (first | (at_builtin; refine wpList_append_run _ rfl (.tmp 28) (.tmp 31) 22 22 rfl _ _ _ _ rfl rfl HR4.out ?_))
      refine Calls.mono HOF.out ?_
      rintro e w5 ⟨rfl, hF5⟩
      have hB5 := HB4.out.quiet (hF5.trans ((Fr.refl (fun _ => False) w5).alloc (.cells #[.string q1, .string q2, .bool q3] 52)) (fun _ _ e => e))
      have HB5 := hideIt hB5
      clear hF5 HOF HB4 cb4
      cases q3 with
      | true =>
        have HST2 := hideIt (show A4 ++ behL (ks.drop (j + 1)) (lastW ws) (rest.drop (P + (if hb = true then 1 else 0))) = behL ks (lastW ws) l from by have := HST.out; rw [if_pos rfl, List.append_nil] at this; exact this)
        clear HST hB5
        cases hb with
        | true =>
          have hP3 : (P : Int) + 1 ≤ (rest.length : Int) := by have := hhl; simp only [if_true] at this; omega
          have hP4 : (P : Int) + 1 ≤ (c1 : Int) := by omega
          simp only [if_true] at HDR HRD HST2
          go_wp2_with fail
          exact ⟨⟨j + 1, a6, c6, A4, (if c1 = P + 1 then a1 else Option.map (fun x => x.add ((P + 1) * 2)) a1), c1 - (P + 1), rest.drop (P + 1), by go_num, by omega, rfl, by rw [List.length_drop], by rw [List.length_drop]; omega, by rw [List.length_drop]; have := HA4.out; omega, HB5, HDR, HRD, HST2⟩, by simp [intOf]; omega⟩
        | false =>
          simp only [Bool.false_eq_true, if_false, Nat.add_zero] at HDR HRD HST2
          go_wp2_with fail
          exact ⟨⟨j + 1, a6, c6, A4, (if c1 = P then a1 else Option.map (fun x => x.add (P * 2)) a1), c1 - (P), rest.drop (P), by go_num, by omega, rfl, by rw [List.length_drop], by rw [List.length_drop]; omega, by rw [List.length_drop]; have := HA4.out; omega, HB5, HDR, HRD, HST2⟩, by simp [intOf]; omega⟩
      | false =>
        have HST2 := hideIt (show A4 ++ [(k, q2)] ++ behL (ks.drop (j + 1)) (lastW ws) (rest.drop (P + (if hb = true then 1 else 0))) = behL ks (lastW ws) l from by have := HST.out; rw [if_neg (by decide)] at this; exact this)
        obtain ⟨a7, c7, w7, hrun7, hB7⟩ := (hB5.quiet ((Fr.refl (fun _ => False) _).alloc (.cells #[.string k, .string q2] 60))).app [(k, q2)] (some ⟨w5.heap.size + 1, 0, none⟩) 1 (Or.inr (by have := sps_one (k, q2) (w5.alloc (.cells #[.string q1, .string q2, .bool false] 52)); simpa using this)) (by simp; omega)
        obtain ⟨A7, hA7⟩ : ∃ A, A = A4 ++ [(k, q2)] := ⟨_, rfl⟩
        rw [← hA7] at hrun7 hB7 HST2
        have hA7l : A7.length = A4.length + 1 := by rw [hA7]; simp
        have HA7 := hideIt hA7l
        have HR7 := hideIt hrun7
        have HB7 := hideIt hB7
        clear HST hB5 hrun7 hB7 hA7 hA7l HB5
        cases hb with
        | true =>
          have hP3 : (P : Int) + 1 ≤ (rest.length : Int) := by have := hhl; simp only [if_true] at this; omega
          have hP4 : (P : Int) + 1 ≤ (c1 : Int) := by omega
          simp only [if_true] at HDR HRD HST2
          go_wp2_with (first | (at_builtin; refine wpList_append_run _ rfl (.tmp 40) (.tmp 45) 22 22 rfl _ _ _ _ rfl rfl HR7.out ?_))
          exact ⟨⟨j + 1, a7, c7, A7, (if c1 = P + 1 then a1 else Option.map (fun x => x.add ((P + 1) * 2)) a1), c1 - (P + 1), rest.drop (P + 1), by go_num, by omega, rfl, by rw [List.length_drop], by rw [List.length_drop]; omega, by rw [List.length_drop]; have := HA4.out; have := HA7.out; omega, HB7, HDR, HRD, HST2⟩, by simp [intOf]; omega⟩
        | false =>
          simp only [Bool.false_eq_true, if_false, Nat.add_zero] at HDR HRD HST2
          go_wp2_with (first | (at_builtin; refine wpList_append_run _ rfl (.tmp 40) (.tmp 45) 22 22 rfl _ _ _ _ rfl rfl HR7.out ?_))
          exact ⟨⟨j + 1, a7, c7, A7, (if c1 = P then a1 else Option.map (fun x => x.add (P * 2)) a1), c1 - (P), rest.drop (P), by go_num, by omega, rfl, by rw [List.length_drop], by rw [List.length_drop]; omega, by rw [List.length_drop]; have := HA4.out; have := HA7.out; omega, HB7, HDR, HRD, HST2⟩, by simp [intOf]; omega⟩
    · obtain rfl : j = ks.length := by omega
      obtain ⟨a8, c8, w8, hrun8, hB8⟩ := HB.out.app rest a1 c1 (sats_fr0 HL.out HB.out.fr) (by omega)
      have hEE : acc ++ rest = behL ks (lastW ws) l := by have := HE.out; rw [List.drop_length] at this; exact this
      rw [hEE] at hrun8 hB8
      have HR8 := hideIt hrun8
      have HFIN := hideIt (show BehPost (behL ks (lastW ws) l) w (.returned (.slice a8 (behL ks (lastW ws) l).length c8)) w8 from
        ⟨a8, c8, rfl, hB8.row, HF0.out.trans hB8.fr (fun _ _ e => e), fun k hk => Nat.le_trans HF0.out.size (hB8.new k hk)⟩)
      clear hrun8 hB8 hEE
      generalize behL ks (lastW ws) l = R at *
      go_wp2_with (first | (at_builtin; refine wpList_append_run _ rfl (.tmp 54) (.tmp 55) 22 22 rfl _ _ _ _ rfl rfl HR8.out ?_))
      go_ret
      exact HFIN.out

end Go.Proofs.Ytefikadaiconaaa
