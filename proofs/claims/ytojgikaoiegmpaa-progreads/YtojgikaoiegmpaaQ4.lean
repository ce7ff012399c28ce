/- ProgReads, part 4 of the road: what the program's functions do, each by its own walk. -/
import Derived.Test.YtojgikaoiegmpaaQ3
import Derived.Test.YtojgikaoiegmpaaQ2

/- The document's own reader: texts, what is left, the end. -/
namespace Go.Proofs.Ytojgikaoiegmpaa
open Go.RowKit Go.IntWalk
set_option linter.unusedSimpArgs false
set_option linter.unusedVariables false
set_option maxRecDepth 100000

/-- Text, out of what peek and pass do. -/
theorem ytext_via (p : Nat) (most v k : Int) (x : List UInt8) (w : World) (R : World → Prop)
    (hpk : Calls Try.prog 54 #[.pointer (some ⟨p, 0, none⟩), .int .i64 0, .int .i64 most, .int .i64 3] w fun e w1 => e = .returned (.tuple #[.int .i64 v, .int .i64 k]) ∧
      Calls Try.prog 80 #[.pointer (some ⟨p, 0, none⟩), .int .i64 k, .int .i64 v] w1 fun e2 w2 => ∃ ao' cap', e2 = .returned (.slice ao' x.length cap') ∧ BsAt w2 ao' x ∧ R w2) :
    Calls Try.prog 58 #[.pointer (some ⟨p, 0, none⟩), .int .i64 most] w fun e w' => e = .returned (.string ⟨x.toArray⟩) ∧ R w' := by
  have HPK := hideIt hpk
  clear hpk
  go_enter Try.func58, Try.ntmps58
  go_wp2_with fail
  refine Calls.mono HPK.out ?_
  rintro e w1 ⟨rfl, hps⟩
  have HPS := hideIt hps
  clear hps
  go_wp2_with fail
  refine Calls.mono HPS.out ?_
  rintro e w2 ⟨ao', cap', rfl, hbs, hR⟩
  have hcv := hbs.conv cap'
  have HR := hideIt hR
  clear hbs hR
  go_wp2_with fail
  go_ret
  exact ⟨rfl, HR.out⟩

theorem ytext_any (p : Nat) (ao : Option Addr) (cap : Nat) (bs : List UInt8) (s : Nat × Int × Int) (most : Int) (w : World) (h : YOk w p ao cap bs s) (hb : bs.length ≤ 140737488355328) (hcl : bs.length ≤ cap) (hcm : cap ≤ maxLen) :
    Calls Try.prog 58 #[.pointer (some ⟨p, 0, none⟩), .int .i64 most] w fun e w' => e = .returned (.string ⟨(rText bs most s).1.toArray⟩) ∧ YOk w' p ao cap bs (rText bs most s).2 ∧ Fr (fun k => k = p) w w' := by
  have hpk := ypeek_any p ao cap bs s 0 most 3 w h hb
  obtain ⟨at_, er, ea⟩ := s
  obtain ⟨hY, hap, hat⟩ := h
  simp only at hY hat
  by_cases her : er = 0
  · subst her
    cases hn : rdNum bs at_ 0 most 3 with
    | inl f =>
      obtain ⟨e0, a0⟩ := f
      obtain ⟨he, _, _⟩ := rdNum_fault hat hn
      have e1 : yPeek bs 0 most 3 (at_, 0, ea) = ((0, 0), (at_, e0, a0)) := by simp [yPeek, hn]
      have e2 : rText bs most (at_, 0, ea) = ([], (at_, e0, a0)) := by simp [rText, rdText, hn]
      rw [e1] at hpk
      rw [e2]
      refine ytext_via p most 0 0 [] w (fun w' => YOk w' p ao cap bs (at_, e0, a0) ∧ Fr (fun k => k = p) w w') (hpk.mono ?_)
      rintro e w1 ⟨rfl, ⟨hY1, _, _⟩, hF1⟩
      simp only at hY1
      refine ⟨rfl, (ypass_shut p ao cap bs at_ e0 a0 0 0 w1 hY1 (by omega) (by omega) (by omega) (by omega)).mono ?_⟩
      rintro e w2 ⟨rfl, rfl⟩
      exact ⟨none, 0, rfl, Or.inl ⟨rfl, rfl⟩, ⟨hY1, hap, hat⟩, hF1⟩
    | inr f =>
      obtain ⟨n, m⟩ := f
      have hro := rdNum_room hn hat
      have e1 : yPeek bs 0 most 3 (at_, 0, ea) = (((n : Int), (m : Int) - at_), (at_, 0, ea)) := by simp [yPeek, hn]
      rw [e1] at hpk
      by_cases hl : bs.length < m + n
      · have e2 : rText bs most (at_, 0, ea) = ([], (at_, 4, (bs.length : Int))) := by simp [rText, rdText, hn, hl]
        rw [e2]
        refine ytext_via p most n ((m : Int) - at_) [] w (fun w' => YOk w' p ao cap bs (at_, 4, (bs.length : Int)) ∧ Fr (fun k => k = p) w w') (hpk.mono ?_)
        rintro e w1 ⟨rfl, ⟨hY1, _, _⟩, hF1⟩
        simp only at hY1
        refine ⟨rfl, (ypass_long p ao cap bs at_ ea ((m : Int) - at_) n w1 hY1 hap m (by omega) (by omega) hb (by omega)).mono ?_⟩
        rintro e w2 ⟨rfl, hY2, hF2⟩
        exact ⟨none, 0, rfl, Or.inl ⟨rfl, rfl⟩, ⟨hY2, hap, hat⟩, hF1.trans hF2 (fun _ _ e => e)⟩
      · have e2 : rText bs most (at_, 0, ea) = ((bs.drop m).take n, (m + n, 0, ea)) := by simp [rText, rdText, hn, hl]
        rw [e2]
        have hxl : ((bs.drop m).take n).length = n := by simp; omega
        refine ytext_via p most n ((m : Int) - at_) ((bs.drop m).take n) w (fun w' => YOk w' p ao cap bs (m + n, 0, ea) ∧ Fr (fun k => k = p) w w') (hpk.mono ?_)
        rintro e w1 ⟨rfl, ⟨hY1, _, _⟩, hF1⟩
        simp only at hY1
        have hne : ao ≠ none := by
          rintro rfl
          rcases hY1.bytes with ⟨_, e⟩ | ⟨_, _, e, _⟩
          · rw [e] at hro
            simp at hro
            omega
          · cases e
        refine ⟨rfl, (ypass_ok p ao cap bs at_ ea ((m : Int) - at_) n w1 hY1 hap m n (by omega) rfl (by omega) hb hcl hcm hne).mono ?_⟩
        rintro e w2 ⟨ao', cap', rfl, hB2, hY2, hF2⟩
        refine ⟨ao', cap', by rw [hxl], hB2, ⟨?_, hap, by simp only; omega⟩, hF1.trans hF2 (fun _ _ e => e)⟩
        simpa using hY2
  · have e1 : yPeek bs 0 most 3 (at_, er, ea) = ((0, 0), (at_, er, ea)) := by simp [yPeek, her]
    have e2 : rText bs most (at_, er, ea) = ([], (at_, er, ea)) := by simp [rText, her]
    rw [e1] at hpk
    rw [e2]
    refine ytext_via p most 0 0 [] w (fun w' => YOk w' p ao cap bs (at_, er, ea) ∧ Fr (fun k => k = p) w w') (hpk.mono ?_)
    rintro e w1 ⟨rfl, ⟨hY1, _, _⟩, hF1⟩
    simp only at hY1
    refine ⟨rfl, (ypass_shut p ao cap bs at_ er ea 0 0 w1 hY1 her (by omega) (by omega) (by omega)).mono ?_⟩
    rintro e w2 ⟨rfl, rfl⟩
    exact ⟨none, 0, rfl, Or.inl ⟨rfl, rfl⟩, ⟨hY1, hap, hat⟩, hF1⟩

theorem yopen_any (ao : Option Addr) (cap : Nat) (bs : List UInt8) (w : World) (h : BsAt w ao bs) (hlt : ∀ k, blk ao k → k < w.heap.size) :
    Calls Try.prog 30 #[.slice ao bs.length cap] w fun e w' => e = .returned (.pointer (some ⟨w.heap.size, 0, none⟩)) ∧ YOk w' w.heap.size ao cap bs (0, 0, 0) ∧ Fr (fun _ => False) w w' ∧ w'.heap.size = w.heap.size + 1 := by
  go_enter Try.func30, Try.ntmps30
  go_wp2
  go_ret
  have hF : Fr (fun _ => False) w (w.alloc (.cells #[.slice ao bs.length cap, .int .i64 0, .int .i64 0, .int .i64 0] 63)) := (Fr.refl _ _).alloc _
  exact ⟨rfl, ⟨⟨heap_new rfl, h.fr hF (fun _ _ _ e => e)⟩, fun e => by have := hlt _ e; omega, Nat.zero_le _⟩, hF, by simp⟩


end Go.Proofs.Ytojgikaoiegmpaa

/- Code: the document's Read: its reader beside the instruction. -/
namespace Go.Proofs.Ytojgikaoiegmpaa
open Go.RowKit Go.IntWalk Go.Lib
set_option linter.unusedSimpArgs false
set_option linter.unusedVariables false
set_option maxRecDepth 100000

/-- The document's reader under way, beside the instruction that it reads and the results' cells. -/
structure RS (w wk : World) (q : Nat) (ao : Option Addr) (cap : Nat) (bs : List UInt8) (s : Nat × Int × Int) (J : Ins) : Prop where
  y : YOk wk (w.heap.size + 2) ao cap bs s
  j : InsAt wk q J
  a : wk.heap[w.heap.size]? = some (.cells (icells zeroI) 40)
  f : wk.heap[w.heap.size + 1]? = some (.cells #[.int .i64 0, .int .i64 0] 28)
  fr : Fr (fun _ => False) w wk
  hq : w.heap.size + 2 < q
  nb : ∀ k, blk ao k → k < w.heap.size

theorem RS.step {w wk w' : World} {q : Nat} {ao : Option Addr} {cap : Nat} {bs : List UInt8} {s s' : Nat × Int × Int} {J : Ins} (h : RS w wk q ao cap bs s J) (hy : YOk w' (w.heap.size + 2) ao cap bs s') (hF : Fr (fun k => k = w.heap.size + 2) wk w') : RS w w' q ao cap bs s' J :=
  ⟨hy, h.j.fr hF (fun e => by have := h.hq; omega), (hF.block _ (Array.getElem?_eq_some_iff.1 h.a).1 (by omega)).trans h.a, (hF.block _ (Array.getElem?_eq_some_iff.1 h.f).1 (by omega)).trans h.f, h.fr.trans hF (fun k hk e => by omega), h.hq, h.nb⟩
theorem RS.stay {w wk w' : World} {q : Nat} {ao : Option Addr} {cap : Nat} {bs : List UInt8} {s : Nat × Int × Int} {J : Ins} (h : RS w wk q ao cap bs s J) (hF : Fr (fun _ => False) wk w') : RS w w' q ao cap bs s J :=
  ⟨⟨h.y.1.fr hF (fun e => e) (fun _ _ _ e => e), h.y.2⟩, h.j.fr hF (fun e => e), (hF.block _ (Array.getElem?_eq_some_iff.1 h.a).1 (fun e => e)).trans h.a, (hF.block _ (Array.getElem?_eq_some_iff.1 h.f).1 (fun e => e)).trans h.f, h.fr.trans hF (fun _ _ e => e), h.hq, h.nb⟩
theorem RS.into {w wk w' : World} {q : Nat} {ao : Option Addr} {cap : Nat} {bs : List UInt8} {s : Nat × Int × Int} {J J' : Ins} (h : RS w wk q ao cap bs s J) (hF : Fr (fun k => k = q) wk w') (hj : InsAt w' q J') : RS w w' q ao cap bs s J' :=
  ⟨⟨h.y.1.fr hF (by have := h.hq; omega) (fun k _ hk e => by have := h.nb k hk; have := h.hq; omega), h.y.2⟩, hj, (hF.block _ (Array.getElem?_eq_some_iff.1 h.a).1 (by have := h.hq; omega)).trans h.a, (hF.block _ (Array.getElem?_eq_some_iff.1 h.f).1 (by have := h.hq; omega)).trans h.f, h.fr.trans hF (fun k hk e => by have := h.hq; omega), h.hq, h.nb⟩
theorem RS.putN {w wk : World} {q : Nat} {ao : Option Addr} {cap : Nat} {bs : List UInt8} {s : Nat × Int × Int} {J : Ins} (h : RS w wk q ao cap bs s J) (f : Nat) (h1 : 1 ≤ f) (h4 : f ≤ 4) (v : Int) : RS w (wk.setCell ⟨q, f, none⟩ (.int .i64 v)) q ao cap bs s (J.put f v) :=
  h.into ((Fr.refl (fun k => k = q) wk).setCell (p := ⟨q, f, none⟩) (fun _ => rfl) _) (h.j.putN f h1 h4 v)
theorem RS.putS {w wk : World} {q : Nat} {ao : Option Addr} {cap : Nat} {bs : List UInt8} {s : Nat × Int × Int} {J : Ins} (h : RS w wk q ao cap bs s J) (v : ByteArray) : RS w (wk.setCell ⟨q, 5, none⟩ (.string v)) q ao cap bs s { J with s := v } :=
  h.into ((Fr.refl (fun k => k = q) wk).setCell (p := ⟨q, 5, none⟩) (fun _ => rfl) _) (h.j.putS v)

theorem rs_int {w wk : World} {q : Nat} {ao : Option Addr} {cap : Nat} {bs : List UInt8} {s s' : Nat × Int × Int} {J : Ins} (h : RS w wk q ao cap bs s J) (hb : bs.length ≤ 140737488355328) (lo hi v : Int) (hr : rInt bs lo hi s = (v, s')) :
    Calls Try.prog 55 #[.pointer (some ⟨w.heap.size + 2, 0, none⟩), .int .i64 lo, .int .i64 hi] wk fun e w' => e = .returned (.int .i64 v) ∧ RS w w' q ao cap bs s' J := by
  refine (yint_any (w.heap.size + 2) ao cap bs s lo hi wk h.y hb).mono ?_
  rintro e w' ⟨rfl, hy, hF⟩
  rw [hr] at hy ⊢
  exact ⟨rfl, h.step hy hF⟩
theorem rs_text {w wk : World} {q : Nat} {ao : Option Addr} {cap : Nat} {bs : List UInt8} {s s' : Nat × Int × Int} {J : Ins} (h : RS w wk q ao cap bs s J) (hb : bs.length ≤ 140737488355328) (hcl : bs.length ≤ cap) (hcm : cap ≤ maxLen) (x : List UInt8) (hr : rText bs 64 s = (x, s')) :
    Calls Try.prog 58 #[.pointer (some ⟨w.heap.size + 2, 0, none⟩), .int .i64 64] wk fun e w' => e = .returned (.string ⟨x.toArray⟩) ∧ RS w w' q ao cap bs s' J := by
  refine (ytext_any (w.heap.size + 2) ao cap bs s 64 wk h.y hb hcl hcm).mono ?_
  rintro e w' ⟨rfl, hy, hF⟩
  rw [hr] at hy ⊢
  exact ⟨rfl, h.step hy hF⟩

/-- What the document's Read tells, of an instruction and the reader's state behind it. -/
def endR (J : Ins) (s : Nat × Int × Int) : Ins × Int × Int × Int := if s.2.1 = 0 then (J, s.1, 0, 0) else (zeroI, 0, s.2.1, s.2.2)

theorem RS.held {w wk : World} {q : Nat} {ao : Option Addr} {cap : Nat} {bs : List UInt8} {s : Nat × Int × Int} {J : Ins} (h : RS w wk q ao cap bs s J) (w' : World) (hF : Fr (fun k => k = w.heap.size ∨ k = w.heap.size + 1) wk w') :
    InsAt w' q J ∧ w'.cell? ⟨w.heap.size + 2, 1, none⟩ = some (.int .i64 (s.1 : Int)) ∧ w'.cell? ⟨w.heap.size + 2, 2, none⟩ = some (.int .i64 s.2.1) ∧ w'.cell? ⟨w.heap.size + 2, 3, none⟩ = some (.int .i64 s.2.2) := by
  have hb := (hF.block _ h.y.1.lt (by omega)).trans h.y.1.box
  exact ⟨h.j.fr hF (fun e => by have := h.hq; omega), cellOfHeap hb 1 rfl, cellOfHeap hb 2 rfl, cellOfHeap hb 3 rfl⟩
theorem RS.adrew {w wk : World} {q : Nat} {ao : Option Addr} {cap : Nat} {bs : List UInt8} {s : Nat × Int × Int} {J : Ins} (h : RS w wk q ao cap bs s J) : wk.drew.heap[w.heap.size]? = some (.cells (icells zeroI) 40) := h.a
theorem RS.fdrew {w wk : World} {q : Nat} {ao : Option Addr} {cap : Nat} {bs : List UInt8} {s : Nat × Int × Int} {J : Ins} (h : RS w wk q ao cap bs s J) : wk.drew.heap[w.heap.size + 1]? = some (.cells #[.int .i64 0, .int .i64 0] 28) := h.f
theorem RS.flt {w wk : World} {q : Nat} {ao : Option Addr} {cap : Nat} {bs : List UInt8} {s : Nat × Int × Int} {J : Ins} (h : RS w wk q ao cap bs s J) : w.heap.size + 1 < wk.drew.heap.size := (Array.getElem?_eq_some_iff.1 h.f).1
theorem RS.frdrew {w wk : World} {q : Nat} {ao : Option Addr} {cap : Nat} {bs : List UInt8} {s : Nat × Int × Int} {J : Ins} (h : RS w wk q ao cap bs s J) : Fr (fun _ => False) w wk.drew := h.fr.drew

end Go.Proofs.Ytojgikaoiegmpaa

/- Code, on paper: what the document's Read tells is what Read tells. -/
namespace Go.Proofs.Ytojgikaoiegmpaa
open Go.RowKit Go.IntWalk Go.Lib
set_option linter.unusedSimpArgs false
set_option linter.unusedVariables false
set_option maxRecDepth 100000

/-! A window of 67 bytes is enough. -/
theorem scan_take (bs : List UInt8) : ∀ (i acc k : Nat), 9 ≤ k + i → i ≤ 8 → scan (bs.take k) i acc = scan bs i acc := by
  induction bs with
  | nil => intro i acc k _ _; rw [List.take_nil]
  | cons b bs ih =>
    intro i acc k hk hi
    obtain ⟨k, rfl⟩ : ∃ j, k = j + 1 := ⟨k - 1, by omega⟩
    rw [List.take_succ_cons]
    by_cases h1 : 128 ≤ b.toNat ∧ i + 1 = 9
    · rw [scan_big h1, scan_big h1]
    by_cases h2 : b.toNat = 0 ∧ 0 < i
    · rw [scan_zero h2, scan_zero h2]
    by_cases h3 : b.toNat < 128
    · rw [scan_last h2 h3, scan_last h2 h3]
    · rw [scan_more h1 h3, scan_more h1 h3]
      exact ih (i + 1) _ k (by omega) (by omega)
theorem scan_far (bs : List UInt8) : ∀ (i acc : Nat), 9 ≤ bs.length + i → i ≤ 8 → scan bs i acc ≠ .error 0 := by
  induction bs with
  | nil => intro i acc hk hi; simp at hk; omega
  | cons b bs ih =>
    intro i acc hk hi
    rw [List.length_cons] at hk
    by_cases h1 : 128 ≤ b.toNat ∧ i + 1 = 9
    · rw [scan_big h1]; simp
    by_cases h2 : b.toNat = 0 ∧ 0 < i
    · rw [scan_zero h2]; simp
    by_cases h3 : b.toNat < 128
    · rw [scan_last h2 h3]; simp
    · rw [scan_more h1 h3]
      exact ih (i + 1) _ (by omega) (by omega)

theorem drop_take67 (cs : List UInt8) (p : Nat) : (cs.take 67).drop p = (cs.drop p).take (67 - p) := by rw [List.drop_take]

theorem rdNum_win (cs : List UInt8) (p : Nat) (lo hi ab : Int) (hl : 67 ≤ cs.length) (hp : p ≤ 58) : rdNum (cs.take 67) p lo hi ab = rdNum cs p lo hi ab := by
  unfold rdNum
  rw [drop_take67, scan_take _ 0 0 (67 - p) (by omega) (by omega)]
  have hf := scan_far (cs.drop p) 0 0 (by rw [List.length_drop]; omega) (by omega)
  split
  · rename_i h; exact absurd h hf
  · rfl
  · rfl
  · rfl

theorem rInt_win (cs : List UInt8) (lo hi : Int) (s : Nat × Int × Int) (hl : 67 ≤ cs.length) (hp : s.1 ≤ 58) : rInt (cs.take 67) lo hi s = rInt cs lo hi s := by
  unfold rInt
  rw [rdNum_win cs s.1 lo hi 5 hl hp]
theorem rText_win (cs : List UInt8) (s : Nat × Int × Int) (hl : 67 ≤ cs.length) (hp : s.1 ≤ 2) : rText (cs.take 67) 64 s = rText cs 64 s := by
  unfold rText rdText
  rw [rdNum_win cs s.1 0 64 3 hl (by omega)]
  by_cases hs : s.2.1 ≠ 0
  · rw [if_pos hs, if_pos hs]
  · rw [if_neg hs, if_neg hs]
    cases hn : rdNum cs s.1 0 64 3 with
    | inl f => rfl
    | inr g =>
      obtain ⟨n, m⟩ := g
      have hb := rInt_back (bs := cs) (lo := 0) (hi := 64) (p := s.1) (x := 0) (v := n) (q := m) (y := 0) (by decide) (by decide) (by omega) (by
        unfold rInt
        rw [if_neg (by simp)]
        simp only
        have : rdNum cs s.1 0 64 5 = .inr (n, m) := by
          unfold rdNum at hn ⊢
          split at hn
          · cases hn
          · cases hn
          · cases hn
          · split at hn
            · cases hn
            · split at hn
              · cases hn
              · rename_i g1 g2
                rw [if_neg g1, if_neg g2]
                exact hn
        rw [this])
      obtain ⟨_, h0, h64, _, hm, _⟩ := hb
      simp only
      rw [if_neg (by rw [List.length_take]; omega), if_neg (by omega)]
      simp only
      rw [drop_take67, List.take_take, Nat.min_eq_left (by omega)]

theorem tk_win (cs : List UInt8) (l : Nat) (hl : Ltr l) (j : Ins) (s : Nat × Int × Int) (h67 : 67 ≤ cs.length) (hp : s.1 ≤ 58) (ht : l = 83 → s.1 ≤ 2) : tk (cs.take 67) l j s = tk cs l j s := by
  unfold tk
  by_cases h5 : fld l = 5
  · have hl83 : l = 83 := by rcases hl with rfl | rfl | rfl | rfl | rfl | rfl <;> first | rfl | exact absurd h5 (by decide)
    rw [if_pos h5, if_pos h5, rText_win cs s h67 (ht hl83)]
  · rw [if_neg h5, if_neg h5, rInt_win cs _ _ s h67 hp]

/-- With a fault all readers tell the same. -/
theorem tk_shut (cs ds : List UInt8) (l : Nat) (j : Ins) (s : Nat × Int × Int) (h : s.2.1 ≠ 0) : tk cs l j s = tk ds l j s := by
  unfold tk rText rInt
  simp only [if_pos h]
theorem tks_shut (cs ds : List UInt8) : ∀ (ls : List Nat) (j : Ins) (s : Nat × Int × Int), s.2.1 ≠ 0 → tks cs ls (j, s) = tks ds ls (j, s)
  | [], _, _, _ => rfl
  | l :: ls, j, s, h => by
    show tks cs ls (tk cs l j s) = tks ds ls (tk ds l j s)
    rw [tk_shut cs ds l j s h]
    have e := tk_sticks ds l j s h
    rw [show tk ds l j s = ((tk ds l j s).1, s) from Prod.ext rfl e]
    exact tks_shut cs ds ls _ s h

/-- A thing that is no text has one byte. -/
theorem tk_next (cs : List UInt8) (l : Nat) (hl : Ltr l) (h83 : l ≠ 83) (j : Ins) (p : Nat) (x : Int) (hp : p ≤ cs.length) (h0 : (tk cs l j (p, 0, x)).2.2.1 = 0) : (tk cs l j (p, 0, x)).2.1 = p + 1 := by
  have hb := tk_back l hl cs j p x hp h0
  rw [hb.2.2.2.1]
  have : (encL l (tk cs l j (p, 0, x)).1).length = 1 := by
    unfold encL
    rw [if_neg (fun e => h83 (by rcases hl with rfl | rfl | rfl | rfl | rfl | rfl <;> first | rfl | exact absurd e (by decide)))]
    rfl
  omega

theorem tks_win (cs : List UInt8) (h67 : 67 ≤ cs.length) (ls : List Nat) : ∀ (j : Ins) (p : Nat) (x : Int), (∀ l ∈ ls, Ltr l) → p + ls.length ≤ 50 → (∀ k, ls[k]? = some 83 → p + k ≤ 2 ∧ k + 1 = ls.length) → tks (cs.take 67) ls (j, (p, 0, x)) = tks cs ls (j, (p, 0, x)) := by
  induction ls with
  | nil => intro j p x _ _ _; rfl
  | cons l ls ih =>
    intro j p x hL hp ht
    rw [List.length_cons] at hp
    show tks _ ls (tk (cs.take 67) l j (p, 0, x)) = tks cs ls (tk cs l j (p, 0, x))
    rw [tk_win cs l (hL l (List.mem_cons_self ..)) j (p, 0, x) h67 (by show p ≤ 58; omega) (fun e => by have := (ht 0 (by rw [e]; rfl)).1; show p ≤ 2; omega)]
    by_cases he : (tk cs l j (p, 0, x)).2.2.1 = 0
    · by_cases h83 : l = 83
      · have hnil := (ht 0 (by rw [h83]; rfl)).2
        have : ls = [] := List.eq_nil_of_length_eq_zero (by simpa using hnil)
        subst this
        rfl
      · have hn := tk_next cs l (hL l (List.mem_cons_self ..)) h83 j p x (by omega) he
        cases htk : tk cs l j (p, 0, x) with
        | mk j1 s1 =>
          obtain ⟨q, e, y⟩ := s1
          rw [htk] at he hn
          obtain rfl : e = 0 := he
          obtain rfl : q = p + 1 := hn
          exact ih j1 (p + 1) y (fun l hl => hL l (List.mem_cons_of_mem _ hl)) (by omega) (fun k hk => by have := ht (k + 1) (by simpa using hk); rw [List.length_cons] at this; omega)
    · cases htk : tk cs l j (p, 0, x) with
      | mk j1 s1 =>
        rw [htk] at he
        exact tks_shut _ _ ls j1 s1 he

/-! Bytes ahead shift the places alone. -/
def Sh (a : Nat) (X Y : Ins × (Nat × Int × Int)) : Prop := X.1 = Y.1 ∧ X.2.1 = a + Y.2.1 ∧ X.2.2.1 = Y.2.2.1 ∧ (Y.2.2.1 ≠ 0 → X.2.2.2 = a + Y.2.2.2)

theorem rdNum_sh (bs : List UInt8) (a p : Nat) (ha : a ≤ bs.length) (lo hi ab : Int) :
    rdNum bs (a + p) lo hi ab = match rdNum (bs.drop a) p lo hi ab with
      | .inl (e, x) => .inl (e, a + x)
      | .inr (n, m) => .inr (n, a + m) := by
  unfold rdNum
  rw [List.drop_drop]
  cases scan (bs.drop (a + p)) 0 0 with
  | error x =>
    match x with
    | 0 => simp only [List.length_drop]; congr 2; omega
    | 1 => simp only [Int.natCast_add]
    | x + 2 => simp only [Int.natCast_add]
  | ok g =>
    obtain ⟨n, k⟩ := g
    simp only
    by_cases h1 : (n : Int) < lo
    · rw [if_pos h1, if_pos h1]; simp only [Int.natCast_add]
    · rw [if_neg h1, if_neg h1]
      by_cases h2 : hi < (n : Int)
      · rw [if_pos h2, if_pos h2]; simp only [Int.natCast_add]
      · rw [if_neg h2, if_neg h2]; simp only [Nat.add_assoc]

theorem rInt_sh (bs : List UInt8) (a : Nat) (ha : a ≤ bs.length) (lo hi : Int) (s s' : Nat × Int × Int) (h1 : s.1 = a + s'.1) (h2 : s.2.1 = s'.2.1) (h3 : s'.2.1 ≠ 0 → s.2.2 = a + s'.2.2) :
    (rInt bs lo hi s).1 = (rInt (bs.drop a) lo hi s').1 ∧ (rInt bs lo hi s).2.1 = a + (rInt (bs.drop a) lo hi s').2.1 ∧ (rInt bs lo hi s).2.2.1 = (rInt (bs.drop a) lo hi s').2.2.1 ∧ ((rInt (bs.drop a) lo hi s').2.2.1 ≠ 0 → (rInt bs lo hi s).2.2.2 = a + (rInt (bs.drop a) lo hi s').2.2.2) := by
  obtain ⟨p, e, x⟩ := s
  obtain ⟨p', e', x'⟩ := s'
  obtain rfl : p = a + p' := h1
  obtain rfl : e = e' := h2
  unfold rInt
  by_cases he : e ≠ 0
  · rw [if_pos he, if_pos he]
    exact ⟨rfl, rfl, rfl, h3⟩
  · rw [if_neg he, if_neg he]
    simp only
    rw [rdNum_sh bs a p' ha lo hi 5]
    cases rdNum (bs.drop a) p' lo hi 5 with
    | inl f => obtain ⟨e1, x1⟩ := f; exact ⟨rfl, rfl, rfl, fun _ => rfl⟩
    | inr g => obtain ⟨n, m⟩ := g; exact ⟨rfl, rfl, rfl, fun h => absurd rfl h⟩

theorem rText_sh (bs : List UInt8) (a : Nat) (ha : a ≤ bs.length) (most : Int) (s s' : Nat × Int × Int) (h1 : s.1 = a + s'.1) (h2 : s.2.1 = s'.2.1) (h3 : s'.2.1 ≠ 0 → s.2.2 = a + s'.2.2) :
    (rText bs most s).1 = (rText (bs.drop a) most s').1 ∧ (rText bs most s).2.1 = a + (rText (bs.drop a) most s').2.1 ∧ (rText bs most s).2.2.1 = (rText (bs.drop a) most s').2.2.1 ∧ ((rText (bs.drop a) most s').2.2.1 ≠ 0 → (rText bs most s).2.2.2 = a + (rText (bs.drop a) most s').2.2.2) := by
  obtain ⟨p, e, x⟩ := s
  obtain ⟨p', e', x'⟩ := s'
  obtain rfl : p = a + p' := h1
  obtain rfl : e = e' := h2
  unfold rText rdText
  by_cases he : e ≠ 0
  · rw [if_pos he, if_pos he]
    exact ⟨rfl, rfl, rfl, h3⟩
  · rw [if_neg he, if_neg he]
    simp only
    rw [rdNum_sh bs a p' ha 0 most 3]
    cases rdNum (bs.drop a) p' 0 most 3 with
    | inl f => obtain ⟨e1, x1⟩ := f; exact ⟨rfl, rfl, rfl, fun _ => rfl⟩
    | inr g =>
      obtain ⟨n, m⟩ := g
      simp only
      by_cases hl : bs.length < a + m + n
      · rw [if_pos hl, if_pos (by rw [List.length_drop]; omega)]
        refine ⟨rfl, rfl, rfl, fun _ => ?_⟩
        show (bs.length : Int) = a + ((bs.drop a).length : Int)
        rw [List.length_drop]
        omega
      · rw [if_neg hl, if_neg (by rw [List.length_drop]; omega)]
        refine ⟨?_, ?_, rfl, fun h => absurd rfl h⟩
        · show (bs.drop (a + m)).take n = ((bs.drop a).drop m).take n
          rw [List.drop_drop]
        · show a + m + n = a + (m + n)
          omega

theorem tk_sh (bs : List UInt8) (a : Nat) (ha : a ≤ bs.length) (l : Nat) (X Y : Ins × (Nat × Int × Int)) (h : Sh a X Y) : Sh a (tk bs l X.1 X.2) (tk (bs.drop a) l Y.1 Y.2) := by
  obtain ⟨j, s⟩ := X
  obtain ⟨j', s'⟩ := Y
  obtain ⟨h0, h1, h2, h3⟩ := h
  obtain rfl : j = j' := h0
  unfold tk
  by_cases h5 : fld l = 5
  · rw [if_pos h5, if_pos h5]
    obtain ⟨g0, g1, g2, g3⟩ := rText_sh bs a ha 64 s s' h1 h2 h3
    exact ⟨by show ({ j with s := _ } : Ins) = { j with s := _ }; rw [g0], g1, g2, g3⟩
  · rw [if_neg h5, if_neg h5]
    obtain ⟨g0, g1, g2, g3⟩ := rInt_sh bs a ha (lowL l) (highL l) s s' h1 h2 h3
    exact ⟨by show j.put _ _ = j.put _ _; rw [g0], g1, g2, g3⟩
theorem tks_sh (bs : List UInt8) (a : Nat) (ha : a ≤ bs.length) : ∀ (ls : List Nat) (X Y : Ins × (Nat × Int × Int)), Sh a X Y → Sh a (tks bs ls X) (tks (bs.drop a) ls Y)
  | [], _, _, h => h
  | l :: ls, X, Y, h => tks_sh bs a ha ls _ _ (tk_sh bs a ha l X Y h)

theorem last83 : ∀ m : Fin 16, ∀ k : Fin 5, (ltrs m.val)[k.val]? = some 83 → 1 + k.val ≤ 2 ∧ k.val + 1 = (ltrs m.val).length := by decide

theorem rdI_win (cs : List UInt8) : rdI (cs.take 67) = rdI cs := by
  by_cases h67 : 67 ≤ cs.length
  · unfold rdI
    rw [rInt_win cs 1 15 (0, 0, 0) h67 (by decide)]
    cases hr : rInt cs 1 15 (0, 0, 0) with
    | mk v s =>
      obtain ⟨q, e, y⟩ := s
      simp only
      by_cases he : e = 0
      · subst he
        obtain ⟨rfl, h1, h2, _, h4, _⟩ := rInt_back (by decide) (by decide) (Nat.zero_le _) hr
        obtain rfl : q = 1 := by omega
        obtain ⟨m, rfl⟩ : ∃ m : Nat, v = m := ⟨v.toNat, by omega⟩
        rw [Int.toNat_natCast]
        have hm : m < 16 := by omega
        have hlen := (ltrs_nodup m (by omega)).2
        refine tks_win cs h67 (ltrs m) _ 1 0 (ltrs_ok m (by omega)) (by omega) (fun k hk => ?_)
        have hk5 : k < 5 := by
          have := (List.getElem?_eq_some_iff.1 hk).1
          omega
        exact last83 ⟨m, hm⟩ ⟨k, hk5⟩ hk
      · exact tks_shut _ _ _ _ _ he
  · rw [List.take_of_length_le (by omega)]

/-- What the document's Read tells, from a place within the bytes. -/
def refR (bs : List UInt8) (a : Nat) : Ins × Int × Int × Int :=
  endR (tks bs (ltrs (rInt bs 1 15 (a, 0, 0)).1.toNat) (⟨(rInt bs 1 15 (a, 0, 0)).1, 0, 0, 0, 0, ⟨#[]⟩⟩, (rInt bs 1 15 (a, 0, 0)).2)).1 (tks bs (ltrs (rInt bs 1 15 (a, 0, 0)).1.toNat) (⟨(rInt bs 1 15 (a, 0, 0)).1, 0, 0, 0, 0, ⟨#[]⟩⟩, (rInt bs 1 15 (a, 0, 0)).2)).2
theorem refR_eq (bs : List UInt8) (a : Nat) (ha : a ≤ bs.length) : refR bs a = readR bs (a : Int) := by
  have h0 := rInt_sh bs a ha 1 15 (a, 0, 0) (0, 0, 0) (by rfl) rfl (fun h => absurd rfl h)
  have hS : Sh a (⟨(rInt bs 1 15 (a, 0, 0)).1, 0, 0, 0, 0, ⟨#[]⟩⟩, (rInt bs 1 15 (a, 0, 0)).2) (⟨(rInt (bs.drop a) 1 15 (0, 0, 0)).1, 0, 0, 0, 0, ⟨#[]⟩⟩, (rInt (bs.drop a) 1 15 (0, 0, 0)).2) :=
    ⟨by rw [h0.1], h0.2.1, h0.2.2.1, h0.2.2.2⟩
  have h := tks_sh bs a ha (ltrs (rInt (bs.drop a) 1 15 (0, 0, 0)).1.toNat) _ _ hS
  have hw : rdI (win bs a) = rdI (bs.drop a) := rdI_win (bs.drop a)
  have hI : rdI (bs.drop a) = tks (bs.drop a) (ltrs (rInt (bs.drop a) 1 15 (0, 0, 0)).1.toNat) (⟨(rInt (bs.drop a) 1 15 (0, 0, 0)).1, 0, 0, 0, 0, ⟨#[]⟩⟩, (rInt (bs.drop a) 1 15 (0, 0, 0)).2) := rfl
  rw [← hI] at h
  have hR : refR bs a = endR (tks bs (ltrs (rInt (bs.drop a) 1 15 (0, 0, 0)).1.toNat) (⟨(rInt bs 1 15 (a, 0, 0)).1, 0, 0, 0, 0, ⟨#[]⟩⟩, (rInt bs 1 15 (a, 0, 0)).2)).1 (tks bs (ltrs (rInt (bs.drop a) 1 15 (0, 0, 0)).1.toNat) (⟨(rInt bs 1 15 (a, 0, 0)).1, 0, 0, 0, 0, ⟨#[]⟩⟩, (rInt bs 1 15 (a, 0, 0)).2)).2 := by
    unfold refR
    rw [h0.1]
  rw [hR]
  unfold readR
  rw [if_neg (by omega), Int.toNat_natCast, hw]
  generalize tks bs _ _ = X at *
  generalize rdI (bs.drop a) = Y at *
  obtain ⟨g0, g1, g2, g3⟩ := h
  unfold endR
  rw [g0, g2]
  by_cases he : Y.2.2.1 = 0
  · rw [if_pos he, if_pos he, g1, Int.natCast_add]
  · rw [if_neg he, if_neg he, g3 he]

end Go.Proofs.Ytojgikaoiegmpaa

/- Code: the document's Read: letters none, letters A. -/
namespace Go.Proofs.Ytojgikaoiegmpaa
open Go.RowKit Go.IntWalk Go.Lib
set_option linter.unusedSimpArgs false
set_option linter.unusedVariables false
set_option maxRecDepth 100000

set_option maxRecDepth 100000 in
set_option maxHeartbeats 4000000 in
theorem vread_O (ao : Option Addr) (cap : Nat) (bs : List UInt8) (a : Nat) (w : World) (hB : BsAt w ao bs) (hb : bs.length ≤ 140737488355328) (hcl : bs.length ≤ cap) (hcm : cap ≤ maxLen) (hnb : ∀ k, blk ao k → k < w.heap.size) (ha : a ≤ bs.length) (v : Int) (s0 : Nat × Int × Int) (h0 : rInt bs 1 15 (a, 0, 0) = (v, s0)) (ht : hasT v = (false, false, false, false, false)) :
    Calls Try.prog 32 #[.slice ao bs.length cap, .int .i64 (a : Int)] w fun e w' => e = .returned (readV (endR ⟨v, 0, 0, 0, 0, ⟨#[]⟩⟩ s0)) ∧ Fr (fun _ => False) w w' := by
  have hd1 : decide ((a : Int) < 0) = false := decide_eq_false (by omega)
  have hd2 : decide ((bs.length : Int) < (a : Int)) = false := decide_eq_false (by omega)
  have HH := hideIt (fun w => by have := vhas_any v w; rw [ht] at this; exact this)
  unfold hasV at HH
  have HY0 := hideIt (show YOk ((((w.alloc (.cells (icells zeroI) 40)).alloc (.cells #[.int .i64 0, .int .i64 0] 28))).alloc (.cells #[.slice ao bs.length cap, .int .i64 (a : Int), .int .i64 0, .int .i64 0] 63)) (w.heap.size + 2) ao cap bs (a, 0, 0) from
    ⟨⟨heap_new (by simp), hB.fr ((((Fr.refl (fun _ => False) w).alloc _).alloc _).alloc _) (fun _ _ _ e => e)⟩, fun e => by have := hnb _ e; omega, ha⟩)
  have HNB := hideIt hnb
  have HCM := hideIt hcm
  clear hB ht hnb hcm
  go_enter Try.func32, Try.ntmps32
  go_wp2_with fail
  refine Calls.mono (yint_any (w.heap.size + 2) ao cap bs (a, 0, 0) 1 15 _ HY0.out hb) ?_
  rw [h0]
  rintro e w2 ⟨rfl, hy, hF⟩
  have hFa : Fr (fun _ => False) w w2 := ((((Fr.refl (fun _ => False) w).alloc _).alloc _).alloc _).trans hF (fun k hk e => by omega)
  have hsz : w.heap.size + 2 < w2.heap.size := hy.1.lt
  have hF3 : Fr (fun _ => False) w2 (w2.alloc (.cells (icells ⟨v, 0, 0, 0, 0, ⟨#[]⟩⟩) 40)) := (Fr.refl _ _).alloc _
  have HR0 := hideIt (show RS w (w2.alloc (.cells (icells ⟨v, 0, 0, 0, 0, ⟨#[]⟩⟩) 40)) w2.heap.size ao cap bs s0 ⟨v, 0, 0, 0, 0, ⟨#[]⟩⟩ from
    ⟨⟨hy.1.fr hF3 (fun e => e) (fun _ _ _ e => e), hy.2⟩, heap_new rfl, heap_old ((hF.block w.heap.size (by simp; omega) (by omega)).trans (heap_old (heap_old (heap_new rfl)))), heap_old ((hF.block (w.heap.size + 1) (by simp) (by omega)).trans (heap_old (heap_new (by simp)))), hFa.trans hF3 (fun _ _ e => e), hsz, HNB.out⟩)
  clear hy hF hFa hF3 HY0 HNB h0 ha
  go_wp2_with fail
  refine Calls.mono (HH.out _) ?_
  rintro e wx ⟨rfl, rfl⟩
  clear HH
  unfold icells at HR0
  obtain ⟨pl, er, ea⟩ := s0
  have c2 := HR0.out.y.1.c2
  dsimp only at c2
  by_cases hz : er = 0
  · subst hz
    have HE := hideIt (show endR ⟨v, 0, 0, 0, 0, ⟨#[]⟩⟩ (pl, 0, ea) = (⟨v, 0, 0, 0, 0, ⟨#[]⟩⟩, (pl : Int), 0, 0) from if_pos rfl)
    have HS := hideIt HR0.out.held
    have HA8h := hideIt HR0.out.adrew
    have HF8h := hideIt HR0.out.fdrew
    have HFL := hideIt HR0.out.flt
    have HFRw := hideIt HR0.out.frdrew
    go_wp2_with fail
    refine wp_region_held_drew (S := fun w0 => InsAt w0 w2.heap.size ⟨v, 0, 0, 0, 0, ⟨#[]⟩⟩ ∧ w0.cell? ⟨w.heap.size + 2, 1, none⟩ = some (.int .i64 (pl : Int)) ∧ w0.cell? ⟨w.heap.size + 2, 2, none⟩ = some (.int .i64 0) ∧ w0.cell? ⟨w.heap.size + 2, 3, none⟩ = some (.int .i64 ea)) (by kernel_rfl) ?_ (fun hHeld => ?_)
    · exact HS.out _ (Fr.refl _ _).drew
    refine wpAnyH_take (i := 0) (v := ?v301) rfl (by kernel_rfl) (by kernel_rfl) (by kernel_rfl) (fun _ _ _ h => h) (Or.inl ⟨by rfl, ?hy301⟩) (by assumption) ?rest301
    case hy301 => intro w hSw; (try dsimp only at hSw); obtain ⟨hSI, hS1, hS2, hS3⟩ := hSw; have c0 := hSI.c0; have c1 := hSI.c1; have c2 := hSI.c2; have c3 := hSI.c3; have c4 := hSI.c4; have c5 := hSI.c5; go_simp; (try with_reducible rfl)
    try simp only [Act.put, List.getElem_toArray, List.getElem_cons_zero, List.getElem_cons_succ, List.setIfInBounds_toArray, List.set_cons_zero, List.set_cons_succ]
    refine wpAnyH_take (i := 1) (v := ?v302) rfl (by kernel_rfl) (by kernel_rfl) (by kernel_rfl) (fun _ _ _ h => h) (Or.inl ⟨by rfl, ?hy302⟩) (by assumption) ?rest302
    case hy302 => intro w hSw; (try dsimp only at hSw); go_simp; (try with_reducible rfl)
    try simp only [Act.put, List.getElem_toArray, List.getElem_cons_zero, List.getElem_cons_succ, List.setIfInBounds_toArray, List.set_cons_zero, List.set_cons_succ]
    refine wpAnyH_take (i := 2) (v := ?v303) rfl (by kernel_rfl) (by kernel_rfl) (by kernel_rfl) (fun _ _ _ h => h) (Or.inl ⟨by rfl, ?hy303⟩) (by assumption) ?rest303
    case hy303 => intro w hSw; (try dsimp only at hSw); go_simp; (try with_reducible rfl)
    try simp only [Act.put, List.getElem_toArray, List.getElem_cons_zero, List.getElem_cons_succ, List.setIfInBounds_toArray, List.set_cons_zero, List.set_cons_succ]
    refine wpAnyH_take (i := 3) (v := ?v304) rfl (by kernel_rfl) (by kernel_rfl) (by kernel_rfl) (fun _ _ _ h => h) (Or.inl ⟨by rfl, ?hy304⟩) (by assumption) ?rest304
    case hy304 => intro w hSw; (try dsimp only at hSw); go_simp; (try with_reducible rfl)
    try simp only [Act.put, List.getElem_toArray, List.getElem_cons_zero, List.getElem_cons_succ, List.setIfInBounds_toArray, List.set_cons_zero, List.set_cons_succ]
    refine wpAnyH_take (i := 4) (v := ?v305) rfl (by kernel_rfl) (by kernel_rfl) (by kernel_rfl) (fun _ _ _ h => h) (Or.inl ⟨by rfl, ?hy305⟩) (by assumption) ?rest305
    case hy305 => intro w hSw; (try dsimp only at hSw); go_simp; (try with_reducible rfl)
    try simp only [Act.put, List.getElem_toArray, List.getElem_cons_zero, List.getElem_cons_succ, List.setIfInBounds_toArray, List.set_cons_zero, List.set_cons_succ]
    refine wpAnyH_take (i := 5) (v := ?v306) rfl (by kernel_rfl) (by kernel_rfl) (by kernel_rfl) (fun _ _ _ h => h) (Or.inl ⟨by rfl, ?hy306⟩) (by assumption) ?rest306
    case hy306 => intro w hSw; (try dsimp only at hSw); go_simp; (try with_reducible rfl)
    try simp only [Act.put, List.getElem_toArray, List.getElem_cons_zero, List.getElem_cons_succ, List.setIfInBounds_toArray, List.set_cons_zero, List.set_cons_succ]
    refine wpAnyH_ready (rs := [6]) (by kernel_rfl) (by simp) ?_
    refine AllReadyH.cons rfl (fun K hK => ?_) AllReadyH.nil
    rw [if_pos (by rfl)]
    refine wp_store_mid 40 _ _ rfl w.heap.size 0 (icells ⟨v, 0, 0, 0, 0, ⟨#[]⟩⟩) rfl rfl (there_row HA8h.out _ (Nat.le_refl _)) (by kernel_rfl) (icells_one _) ?_
    obtain ⟨hst, hfr⟩ := store_over (V := (icells ⟨v, 0, 0, 0, 0, ⟨#[]⟩⟩)) HA8h.out (by rfl)
    have HA10 := hideIt hst
    have HFr10 := hideIt (hfr.mono (S' := fun k => k = w.heap.size ∨ k = w.heap.size + 1) (fun _ e => Or.inl e))
    have HG10 := hideIt ((hfr.block (w.heap.size + 1) HFL.out (by omega)).trans HF8h.out)
    clear hst hfr
    generalize hW10 : World.setCells _ w.heap.size 0 _ = W10 at *
    clear hW10
    refine hK.out _ _ ?_ (fun hHeld => ?_)
    · exact HS.out _ ((Fr.refl _ _).drew.trans HFr10.out (fun _ _ e => e))
    clear hK K
    try simp only [Act.put, List.getElem_toArray, List.getElem_cons_zero, List.getElem_cons_succ, List.setIfInBounds_toArray, List.set_cons_zero, List.set_cons_succ]
    refine wpAnyH_take (i := 7) (v := ?v307) rfl (by kernel_rfl) (by kernel_rfl) (by kernel_rfl) (fun _ _ _ h => h) (Or.inl ⟨by rfl, ?hy307⟩) (by assumption) ?rest307
    case hy307 => intro w hSw; (try dsimp only at hSw); go_simp; (try with_reducible rfl)
    try simp only [Act.put, List.getElem_toArray, List.getElem_cons_zero, List.getElem_cons_succ, List.setIfInBounds_toArray, List.set_cons_zero, List.set_cons_succ]
    refine wpAnyH_ready (rs := [8]) (by kernel_rfl) (by simp) ?_
    refine AllReadyH.cons rfl (fun K hK => ?_) AllReadyH.nil
    rw [if_pos (by rfl)]
    refine wp_store_mid 28 _ _ rfl (w.heap.size + 1) 0 #[.int .i64 0, .int .i64 0] rfl rfl (there_row HG10.out _ (Nat.le_refl _)) (by kernel_rfl) (fault_one _ _) ?_
    obtain ⟨hst, hfr⟩ := store_over (V := #[.int .i64 0, .int .i64 0]) HG10.out (by rfl)
    have HG11 := hideIt hst
    have HFr11 := hideIt (HFr10.out.trans hfr (fun _ _ e => Or.inr e))
    have HA11 := hideIt ((hfr.block w.heap.size (Array.getElem?_eq_some_iff.1 HA10.out).1 (by omega)).trans HA10.out)
    clear hst hfr
    generalize hW11 : World.setCells _ (w.heap.size + 1) 0 _ = W11 at *
    clear hW11
    refine hK.out _ _ ?_ (fun hHeld => ?_)
    · exact HS.out _ ((Fr.refl _ _).drew.trans HFr11.out (fun _ _ e => e))
    clear hK K
    try simp only [Act.put, List.getElem_toArray, List.getElem_cons_zero, List.getElem_cons_succ, List.setIfInBounds_toArray, List.set_cons_zero, List.set_cons_succ]
    refine wpAnyH_done (by kernel_rfl) ?_ _
    go_wp2_with fail
    have hA0 := cellOfHeap HA11.out 0 rfl
    have hA1 := cellOfHeap HA11.out 1 rfl
    have hA2 := cellOfHeap HA11.out 2 rfl
    have hA3 := cellOfHeap HA11.out 3 rfl
    have hA4 := cellOfHeap HA11.out 4 rfl
    have hA5 := cellOfHeap HA11.out 5 rfl
    have hF0 := cellOfHeap HG11.out 0 rfl
    have hF1 := cellOfHeap HG11.out 1 rfl
    refine bodyPost_ret (v := readV (⟨v, 0, 0, 0, 0, ⟨#[]⟩⟩, (pl : Int), 0, 0)) (by simp [results, Try.results32, go_sem, readV, icells, zeroI, hA0, hA1, hA2, hA3, hA4, hA5, hF0, hF1]) rfl ⟨by rw [HE.out], ?_⟩
    exact HFRw.out.trans HFr11.out (fun k hk e => by omega)
  · have HE := hideIt (show endR ⟨v, 0, 0, 0, 0, ⟨#[]⟩⟩ (pl, er, ea) = (zeroI, 0, er, ea) from if_neg hz)
    have hzb : (er != 0) = true := by simpa using hz
    have HS := hideIt HR0.out.held
    have HA8h := hideIt HR0.out.adrew
    have HF8h := hideIt HR0.out.fdrew
    have HFL := hideIt HR0.out.flt
    have HFRw := hideIt HR0.out.frdrew
    go_wp2_with fail
    refine wp_region_held_drew (S := fun w0 => InsAt w0 w2.heap.size ⟨v, 0, 0, 0, 0, ⟨#[]⟩⟩ ∧ w0.cell? ⟨w.heap.size + 2, 1, none⟩ = some (.int .i64 (pl : Int)) ∧ w0.cell? ⟨w.heap.size + 2, 2, none⟩ = some (.int .i64 er) ∧ w0.cell? ⟨w.heap.size + 2, 3, none⟩ = some (.int .i64 ea)) (by kernel_rfl) ?_ (fun hHeld => ?_)
    · exact HS.out _ (Fr.refl _ _).drew
    refine wpAnyH_take (i := 0) (v := ?v308) rfl (by kernel_rfl) (by kernel_rfl) (by kernel_rfl) (fun _ _ _ h => h) (Or.inl ⟨by rfl, ?hy308⟩) (by assumption) ?rest308
    case hy308 => intro w hSw; (try dsimp only at hSw); go_simp; (try with_reducible rfl)
    try simp only [Act.put, List.getElem_toArray, List.getElem_cons_zero, List.getElem_cons_succ, List.setIfInBounds_toArray, List.set_cons_zero, List.set_cons_succ]
    refine wpAnyH_take (i := 1) (v := ?v309) rfl (by kernel_rfl) (by kernel_rfl) (by kernel_rfl) (fun _ _ _ h => h) (Or.inl ⟨by rfl, ?hy309⟩) (by assumption) ?rest309
    case hy309 => intro w hSw; (try dsimp only at hSw); go_simp; (try with_reducible rfl)
    try simp only [Act.put, List.getElem_toArray, List.getElem_cons_zero, List.getElem_cons_succ, List.setIfInBounds_toArray, List.set_cons_zero, List.set_cons_succ]
    refine wpAnyH_take (i := 2) (v := ?v310) rfl (by kernel_rfl) (by kernel_rfl) (by kernel_rfl) (fun _ _ _ h => h) (Or.inl ⟨by rfl, ?hy310⟩) (by assumption) ?rest310
    case hy310 => intro w hSw; (try dsimp only at hSw); go_simp; (try with_reducible rfl)
    try simp only [Act.put, List.getElem_toArray, List.getElem_cons_zero, List.getElem_cons_succ, List.setIfInBounds_toArray, List.set_cons_zero, List.set_cons_succ]
    refine wpAnyH_take (i := 3) (v := ?v311) rfl (by kernel_rfl) (by kernel_rfl) (by kernel_rfl) (fun _ _ _ h => h) (Or.inl ⟨by rfl, ?hy311⟩) (by assumption) ?rest311
    case hy311 => intro w hSw; (try dsimp only at hSw); go_simp; (try with_reducible rfl)
    try simp only [Act.put, List.getElem_toArray, List.getElem_cons_zero, List.getElem_cons_succ, List.setIfInBounds_toArray, List.set_cons_zero, List.set_cons_succ]
    refine wpAnyH_take (i := 4) (v := ?v312) rfl (by kernel_rfl) (by kernel_rfl) (by kernel_rfl) (fun _ _ _ h => h) (Or.inl ⟨by rfl, ?hy312⟩) (by assumption) ?rest312
    case hy312 => intro w hSw; (try dsimp only at hSw); go_simp; (try with_reducible rfl)
    try simp only [Act.put, List.getElem_toArray, List.getElem_cons_zero, List.getElem_cons_succ, List.setIfInBounds_toArray, List.set_cons_zero, List.set_cons_succ]
    refine wpAnyH_ready (rs := [5]) (by kernel_rfl) (by simp) ?_
    refine AllReadyH.cons rfl (fun K hK => ?_) AllReadyH.nil
    rw [if_pos (by rfl)]
    refine wp_store_mid 40 _ _ rfl w.heap.size 0 (icells zeroI) rfl rfl (there_row HA8h.out _ (Nat.le_refl _)) (by kernel_rfl) (icells_one _) ?_
    obtain ⟨hst, hfr⟩ := store_over (V := (icells zeroI)) HA8h.out (by rfl)
    have HA10 := hideIt hst
    have HFr10 := hideIt (hfr.mono (S' := fun k => k = w.heap.size ∨ k = w.heap.size + 1) (fun _ e => Or.inl e))
    have HG10 := hideIt ((hfr.block (w.heap.size + 1) HFL.out (by omega)).trans HF8h.out)
    clear hst hfr
    generalize hW10 : World.setCells _ w.heap.size 0 _ = W10 at *
    clear hW10
    refine hK.out _ _ ?_ (fun hHeld => ?_)
    · exact HS.out _ ((Fr.refl _ _).drew.trans HFr10.out (fun _ _ e => e))
    clear hK K
    try simp only [Act.put, List.getElem_toArray, List.getElem_cons_zero, List.getElem_cons_succ, List.setIfInBounds_toArray, List.set_cons_zero, List.set_cons_succ]
    refine wpAnyH_take (i := 6) (v := ?v313) rfl (by kernel_rfl) (by kernel_rfl) (by kernel_rfl) (fun _ _ _ h => h) (Or.inl ⟨by rfl, ?hy313⟩) (by assumption) ?rest313
    case hy313 => intro w hSw; (try dsimp only at hSw); go_simp; (try with_reducible rfl)
    try simp only [Act.put, List.getElem_toArray, List.getElem_cons_zero, List.getElem_cons_succ, List.setIfInBounds_toArray, List.set_cons_zero, List.set_cons_succ]
    refine wpAnyH_ready (rs := [7]) (by kernel_rfl) (by simp) ?_
    refine AllReadyH.cons rfl (fun K hK => ?_) AllReadyH.nil
    rw [if_pos (by rfl)]
    refine wp_store_mid 28 _ _ rfl (w.heap.size + 1) 0 #[.int .i64 er, .int .i64 ea] rfl rfl (there_row HG10.out _ (Nat.le_refl _)) (by kernel_rfl) (fault_one _ _) ?_
    obtain ⟨hst, hfr⟩ := store_over (V := #[.int .i64 er, .int .i64 ea]) HG10.out (by rfl)
    have HG11 := hideIt hst
    have HFr11 := hideIt (HFr10.out.trans hfr (fun _ _ e => Or.inr e))
    have HA11 := hideIt ((hfr.block w.heap.size (Array.getElem?_eq_some_iff.1 HA10.out).1 (by omega)).trans HA10.out)
    clear hst hfr
    generalize hW11 : World.setCells _ (w.heap.size + 1) 0 _ = W11 at *
    clear hW11
    refine hK.out _ _ ?_ (fun hHeld => ?_)
    · exact HS.out _ ((Fr.refl _ _).drew.trans HFr11.out (fun _ _ e => e))
    clear hK K
    try simp only [Act.put, List.getElem_toArray, List.getElem_cons_zero, List.getElem_cons_succ, List.setIfInBounds_toArray, List.set_cons_zero, List.set_cons_succ]
    refine wpAnyH_done (by kernel_rfl) ?_ _
    go_wp2_with fail
    have hA0 := cellOfHeap HA11.out 0 rfl
    have hA1 := cellOfHeap HA11.out 1 rfl
    have hA2 := cellOfHeap HA11.out 2 rfl
    have hA3 := cellOfHeap HA11.out 3 rfl
    have hA4 := cellOfHeap HA11.out 4 rfl
    have hA5 := cellOfHeap HA11.out 5 rfl
    have hF0 := cellOfHeap HG11.out 0 rfl
    have hF1 := cellOfHeap HG11.out 1 rfl
    refine bodyPost_ret (v := readV (zeroI, 0, er, ea)) (by simp [results, Try.results32, go_sem, readV, icells, zeroI, hA0, hA1, hA2, hA3, hA4, hA5, hF0, hF1]) rfl ⟨by rw [HE.out], ?_⟩
    exact HFRw.out.trans HFr11.out (fun k hk e => by omega)

set_option maxRecDepth 100000 in
set_option maxHeartbeats 4000000 in
theorem vread_A (ao : Option Addr) (cap : Nat) (bs : List UInt8) (a : Nat) (w : World) (hB : BsAt w ao bs) (hb : bs.length ≤ 140737488355328) (hcl : bs.length ≤ cap) (hcm : cap ≤ maxLen) (hnb : ∀ k, blk ao k → k < w.heap.size) (ha : a ≤ bs.length) (v : Int) (va : Int) (s0 s1 : Nat × Int × Int) (h0 : rInt bs 1 15 (a, 0, 0) = (v, s0)) (h1 : rInt bs 0 7 s0 = (va, s1)) (ht : hasT v = (true, false, false, false, false)) :
    Calls Try.prog 32 #[.slice ao bs.length cap, .int .i64 (a : Int)] w fun e w' => e = .returned (readV (endR ⟨v, va, 0, 0, 0, ⟨#[]⟩⟩ s1)) ∧ Fr (fun _ => False) w w' := by
  have hd1 : decide ((a : Int) < 0) = false := decide_eq_false (by omega)
  have hd2 : decide ((bs.length : Int) < (a : Int)) = false := decide_eq_false (by omega)
  have HH := hideIt (fun w => by have := vhas_any v w; rw [ht] at this; exact this)
  unfold hasV at HH
  have HY0 := hideIt (show YOk ((((w.alloc (.cells (icells zeroI) 40)).alloc (.cells #[.int .i64 0, .int .i64 0] 28))).alloc (.cells #[.slice ao bs.length cap, .int .i64 (a : Int), .int .i64 0, .int .i64 0] 63)) (w.heap.size + 2) ao cap bs (a, 0, 0) from
    ⟨⟨heap_new (by simp), hB.fr ((((Fr.refl (fun _ => False) w).alloc _).alloc _).alloc _) (fun _ _ _ e => e)⟩, fun e => by have := hnb _ e; omega, ha⟩)
  have HNB := hideIt hnb
  have HCM := hideIt hcm
  clear hB ht hnb hcm
  go_enter Try.func32, Try.ntmps32
  go_wp2_with fail
  refine Calls.mono (yint_any (w.heap.size + 2) ao cap bs (a, 0, 0) 1 15 _ HY0.out hb) ?_
  rw [h0]
  rintro e w2 ⟨rfl, hy, hF⟩
  have hFa : Fr (fun _ => False) w w2 := ((((Fr.refl (fun _ => False) w).alloc _).alloc _).alloc _).trans hF (fun k hk e => by omega)
  have hsz : w.heap.size + 2 < w2.heap.size := hy.1.lt
  have hF3 : Fr (fun _ => False) w2 (w2.alloc (.cells (icells ⟨v, 0, 0, 0, 0, ⟨#[]⟩⟩) 40)) := (Fr.refl _ _).alloc _
  have HR0 := hideIt (show RS w (w2.alloc (.cells (icells ⟨v, 0, 0, 0, 0, ⟨#[]⟩⟩) 40)) w2.heap.size ao cap bs s0 ⟨v, 0, 0, 0, 0, ⟨#[]⟩⟩ from
    ⟨⟨hy.1.fr hF3 (fun e => e) (fun _ _ _ e => e), hy.2⟩, heap_new rfl, heap_old ((hF.block w.heap.size (by simp; omega) (by omega)).trans (heap_old (heap_old (heap_new rfl)))), heap_old ((hF.block (w.heap.size + 1) (by simp) (by omega)).trans (heap_old (heap_new (by simp)))), hFa.trans hF3 (fun _ _ e => e), hsz, HNB.out⟩)
  clear hy hF hFa hF3 HY0 HNB h0 ha
  go_wp2_with fail
  refine Calls.mono (HH.out _) ?_
  rintro e wx ⟨rfl, rfl⟩
  clear HH
  unfold icells at HR0
  go_wp2_with fail
  refine Calls.mono (rs_int HR0.out hb 0 7 va h1) ?_
  rintro e w10 ⟨rfl, hR⟩
  have hc := hR.j.c1
  have hzf := hR.j.fz 1
  have hlt := hR.j.lt
  dsimp only [Ins.put] at hc
  have HR1 := hideIt (hR.putN 1 (by decide) (by decide) va)
  clear hR HR0
  obtain ⟨pl, er, ea⟩ := s1
  have c2 := HR1.out.y.1.c2
  dsimp only at c2
  by_cases hz : er = 0
  · subst hz
    have HE := hideIt (show endR ⟨v, va, 0, 0, 0, ⟨#[]⟩⟩ (pl, 0, ea) = (⟨v, va, 0, 0, 0, ⟨#[]⟩⟩, (pl : Int), 0, 0) from if_pos rfl)
    have HS := hideIt HR1.out.held
    have HA8h := hideIt HR1.out.adrew
    have HF8h := hideIt HR1.out.fdrew
    have HFL := hideIt HR1.out.flt
    have HFRw := hideIt HR1.out.frdrew
    go_wp2_with fail
    refine wp_region_held_drew (S := fun w0 => InsAt w0 w2.heap.size ⟨v, va, 0, 0, 0, ⟨#[]⟩⟩ ∧ w0.cell? ⟨w.heap.size + 2, 1, none⟩ = some (.int .i64 (pl : Int)) ∧ w0.cell? ⟨w.heap.size + 2, 2, none⟩ = some (.int .i64 0) ∧ w0.cell? ⟨w.heap.size + 2, 3, none⟩ = some (.int .i64 ea)) (by kernel_rfl) ?_ (fun hHeld => ?_)
    · exact HS.out _ (Fr.refl _ _).drew
    refine wpAnyH_take (i := 0) (v := ?v314) rfl (by kernel_rfl) (by kernel_rfl) (by kernel_rfl) (fun _ _ _ h => h) (Or.inl ⟨by rfl, ?hy314⟩) (by assumption) ?rest314
    case hy314 => intro w hSw; (try dsimp only at hSw); obtain ⟨hSI, hS1, hS2, hS3⟩ := hSw; have c0 := hSI.c0; have c1 := hSI.c1; have c2 := hSI.c2; have c3 := hSI.c3; have c4 := hSI.c4; have c5 := hSI.c5; go_simp; (try with_reducible rfl)
    try simp only [Act.put, List.getElem_toArray, List.getElem_cons_zero, List.getElem_cons_succ, List.setIfInBounds_toArray, List.set_cons_zero, List.set_cons_succ]
    refine wpAnyH_take (i := 1) (v := ?v315) rfl (by kernel_rfl) (by kernel_rfl) (by kernel_rfl) (fun _ _ _ h => h) (Or.inl ⟨by rfl, ?hy315⟩) (by assumption) ?rest315
    case hy315 => intro w hSw; (try dsimp only at hSw); go_simp; (try with_reducible rfl)
    try simp only [Act.put, List.getElem_toArray, List.getElem_cons_zero, List.getElem_cons_succ, List.setIfInBounds_toArray, List.set_cons_zero, List.set_cons_succ]
    refine wpAnyH_take (i := 2) (v := ?v316) rfl (by kernel_rfl) (by kernel_rfl) (by kernel_rfl) (fun _ _ _ h => h) (Or.inl ⟨by rfl, ?hy316⟩) (by assumption) ?rest316
    case hy316 => intro w hSw; (try dsimp only at hSw); go_simp; (try with_reducible rfl)
    try simp only [Act.put, List.getElem_toArray, List.getElem_cons_zero, List.getElem_cons_succ, List.setIfInBounds_toArray, List.set_cons_zero, List.set_cons_succ]
    refine wpAnyH_take (i := 3) (v := ?v317) rfl (by kernel_rfl) (by kernel_rfl) (by kernel_rfl) (fun _ _ _ h => h) (Or.inl ⟨by rfl, ?hy317⟩) (by assumption) ?rest317
    case hy317 => intro w hSw; (try dsimp only at hSw); go_simp; (try with_reducible rfl)
    try simp only [Act.put, List.getElem_toArray, List.getElem_cons_zero, List.getElem_cons_succ, List.setIfInBounds_toArray, List.set_cons_zero, List.set_cons_succ]
    refine wpAnyH_take (i := 4) (v := ?v318) rfl (by kernel_rfl) (by kernel_rfl) (by kernel_rfl) (fun _ _ _ h => h) (Or.inl ⟨by rfl, ?hy318⟩) (by assumption) ?rest318
    case hy318 => intro w hSw; (try dsimp only at hSw); go_simp; (try with_reducible rfl)
    try simp only [Act.put, List.getElem_toArray, List.getElem_cons_zero, List.getElem_cons_succ, List.setIfInBounds_toArray, List.set_cons_zero, List.set_cons_succ]
    refine wpAnyH_take (i := 5) (v := ?v319) rfl (by kernel_rfl) (by kernel_rfl) (by kernel_rfl) (fun _ _ _ h => h) (Or.inl ⟨by rfl, ?hy319⟩) (by assumption) ?rest319
    case hy319 => intro w hSw; (try dsimp only at hSw); go_simp; (try with_reducible rfl)
    try simp only [Act.put, List.getElem_toArray, List.getElem_cons_zero, List.getElem_cons_succ, List.setIfInBounds_toArray, List.set_cons_zero, List.set_cons_succ]
    refine wpAnyH_ready (rs := [6]) (by kernel_rfl) (by simp) ?_
    refine AllReadyH.cons rfl (fun K hK => ?_) AllReadyH.nil
    rw [if_pos (by rfl)]
    refine wp_store_mid 40 _ _ rfl w.heap.size 0 (icells ⟨v, va, 0, 0, 0, ⟨#[]⟩⟩) rfl rfl (there_row HA8h.out _ (Nat.le_refl _)) (by kernel_rfl) (icells_one _) ?_
    obtain ⟨hst, hfr⟩ := store_over (V := (icells ⟨v, va, 0, 0, 0, ⟨#[]⟩⟩)) HA8h.out (by rfl)
    have HA10 := hideIt hst
    have HFr10 := hideIt (hfr.mono (S' := fun k => k = w.heap.size ∨ k = w.heap.size + 1) (fun _ e => Or.inl e))
    have HG10 := hideIt ((hfr.block (w.heap.size + 1) HFL.out (by omega)).trans HF8h.out)
    clear hst hfr
    generalize hW10 : World.setCells _ w.heap.size 0 _ = W10 at *
    clear hW10
    refine hK.out _ _ ?_ (fun hHeld => ?_)
    · exact HS.out _ ((Fr.refl _ _).drew.trans HFr10.out (fun _ _ e => e))
    clear hK K
    try simp only [Act.put, List.getElem_toArray, List.getElem_cons_zero, List.getElem_cons_succ, List.setIfInBounds_toArray, List.set_cons_zero, List.set_cons_succ]
    refine wpAnyH_take (i := 7) (v := ?v320) rfl (by kernel_rfl) (by kernel_rfl) (by kernel_rfl) (fun _ _ _ h => h) (Or.inl ⟨by rfl, ?hy320⟩) (by assumption) ?rest320
    case hy320 => intro w hSw; (try dsimp only at hSw); go_simp; (try with_reducible rfl)
    try simp only [Act.put, List.getElem_toArray, List.getElem_cons_zero, List.getElem_cons_succ, List.setIfInBounds_toArray, List.set_cons_zero, List.set_cons_succ]
    refine wpAnyH_ready (rs := [8]) (by kernel_rfl) (by simp) ?_
    refine AllReadyH.cons rfl (fun K hK => ?_) AllReadyH.nil
    rw [if_pos (by rfl)]
    refine wp_store_mid 28 _ _ rfl (w.heap.size + 1) 0 #[.int .i64 0, .int .i64 0] rfl rfl (there_row HG10.out _ (Nat.le_refl _)) (by kernel_rfl) (fault_one _ _) ?_
    obtain ⟨hst, hfr⟩ := store_over (V := #[.int .i64 0, .int .i64 0]) HG10.out (by rfl)
    have HG11 := hideIt hst
    have HFr11 := hideIt (HFr10.out.trans hfr (fun _ _ e => Or.inr e))
    have HA11 := hideIt ((hfr.block w.heap.size (Array.getElem?_eq_some_iff.1 HA10.out).1 (by omega)).trans HA10.out)
    clear hst hfr
    generalize hW11 : World.setCells _ (w.heap.size + 1) 0 _ = W11 at *
    clear hW11
    refine hK.out _ _ ?_ (fun hHeld => ?_)
    · exact HS.out _ ((Fr.refl _ _).drew.trans HFr11.out (fun _ _ e => e))
    clear hK K
    try simp only [Act.put, List.getElem_toArray, List.getElem_cons_zero, List.getElem_cons_succ, List.setIfInBounds_toArray, List.set_cons_zero, List.set_cons_succ]
    refine wpAnyH_done (by kernel_rfl) ?_ _
    go_wp2_with fail
    have hA0 := cellOfHeap HA11.out 0 rfl
    have hA1 := cellOfHeap HA11.out 1 rfl
    have hA2 := cellOfHeap HA11.out 2 rfl
    have hA3 := cellOfHeap HA11.out 3 rfl
    have hA4 := cellOfHeap HA11.out 4 rfl
    have hA5 := cellOfHeap HA11.out 5 rfl
    have hF0 := cellOfHeap HG11.out 0 rfl
    have hF1 := cellOfHeap HG11.out 1 rfl
    refine bodyPost_ret (v := readV (⟨v, va, 0, 0, 0, ⟨#[]⟩⟩, (pl : Int), 0, 0)) (by simp [results, Try.results32, go_sem, readV, icells, zeroI, hA0, hA1, hA2, hA3, hA4, hA5, hF0, hF1]) rfl ⟨by rw [HE.out], ?_⟩
    exact HFRw.out.trans HFr11.out (fun k hk e => by omega)
  · have HE := hideIt (show endR ⟨v, va, 0, 0, 0, ⟨#[]⟩⟩ (pl, er, ea) = (zeroI, 0, er, ea) from if_neg hz)
    have hzb : (er != 0) = true := by simpa using hz
    have HS := hideIt HR1.out.held
    have HA8h := hideIt HR1.out.adrew
    have HF8h := hideIt HR1.out.fdrew
    have HFL := hideIt HR1.out.flt
    have HFRw := hideIt HR1.out.frdrew
    go_wp2_with fail
    refine wp_region_held_drew (S := fun w0 => InsAt w0 w2.heap.size ⟨v, va, 0, 0, 0, ⟨#[]⟩⟩ ∧ w0.cell? ⟨w.heap.size + 2, 1, none⟩ = some (.int .i64 (pl : Int)) ∧ w0.cell? ⟨w.heap.size + 2, 2, none⟩ = some (.int .i64 er) ∧ w0.cell? ⟨w.heap.size + 2, 3, none⟩ = some (.int .i64 ea)) (by kernel_rfl) ?_ (fun hHeld => ?_)
    · exact HS.out _ (Fr.refl _ _).drew
    refine wpAnyH_take (i := 0) (v := ?v321) rfl (by kernel_rfl) (by kernel_rfl) (by kernel_rfl) (fun _ _ _ h => h) (Or.inl ⟨by rfl, ?hy321⟩) (by assumption) ?rest321
    case hy321 => intro w hSw; (try dsimp only at hSw); go_simp; (try with_reducible rfl)
    try simp only [Act.put, List.getElem_toArray, List.getElem_cons_zero, List.getElem_cons_succ, List.setIfInBounds_toArray, List.set_cons_zero, List.set_cons_succ]
    refine wpAnyH_take (i := 1) (v := ?v322) rfl (by kernel_rfl) (by kernel_rfl) (by kernel_rfl) (fun _ _ _ h => h) (Or.inl ⟨by rfl, ?hy322⟩) (by assumption) ?rest322
    case hy322 => intro w hSw; (try dsimp only at hSw); go_simp; (try with_reducible rfl)
    try simp only [Act.put, List.getElem_toArray, List.getElem_cons_zero, List.getElem_cons_succ, List.setIfInBounds_toArray, List.set_cons_zero, List.set_cons_succ]
    refine wpAnyH_take (i := 2) (v := ?v323) rfl (by kernel_rfl) (by kernel_rfl) (by kernel_rfl) (fun _ _ _ h => h) (Or.inl ⟨by rfl, ?hy323⟩) (by assumption) ?rest323
    case hy323 => intro w hSw; (try dsimp only at hSw); go_simp; (try with_reducible rfl)
    try simp only [Act.put, List.getElem_toArray, List.getElem_cons_zero, List.getElem_cons_succ, List.setIfInBounds_toArray, List.set_cons_zero, List.set_cons_succ]
    refine wpAnyH_take (i := 3) (v := ?v324) rfl (by kernel_rfl) (by kernel_rfl) (by kernel_rfl) (fun _ _ _ h => h) (Or.inl ⟨by rfl, ?hy324⟩) (by assumption) ?rest324
    case hy324 => intro w hSw; (try dsimp only at hSw); go_simp; (try with_reducible rfl)
    try simp only [Act.put, List.getElem_toArray, List.getElem_cons_zero, List.getElem_cons_succ, List.setIfInBounds_toArray, List.set_cons_zero, List.set_cons_succ]
    refine wpAnyH_take (i := 4) (v := ?v325) rfl (by kernel_rfl) (by kernel_rfl) (by kernel_rfl) (fun _ _ _ h => h) (Or.inl ⟨by rfl, ?hy325⟩) (by assumption) ?rest325
    case hy325 => intro w hSw; (try dsimp only at hSw); go_simp; (try with_reducible rfl)
    try simp only [Act.put, List.getElem_toArray, List.getElem_cons_zero, List.getElem_cons_succ, List.setIfInBounds_toArray, List.set_cons_zero, List.set_cons_succ]
    refine wpAnyH_ready (rs := [5]) (by kernel_rfl) (by simp) ?_
    refine AllReadyH.cons rfl (fun K hK => ?_) AllReadyH.nil
    rw [if_pos (by rfl)]
    refine wp_store_mid 40 _ _ rfl w.heap.size 0 (icells zeroI) rfl rfl (there_row HA8h.out _ (Nat.le_refl _)) (by kernel_rfl) (icells_one _) ?_
    obtain ⟨hst, hfr⟩ := store_over (V := (icells zeroI)) HA8h.out (by rfl)
    have HA10 := hideIt hst
    have HFr10 := hideIt (hfr.mono (S' := fun k => k = w.heap.size ∨ k = w.heap.size + 1) (fun _ e => Or.inl e))
    have HG10 := hideIt ((hfr.block (w.heap.size + 1) HFL.out (by omega)).trans HF8h.out)
    clear hst hfr
    generalize hW10 : World.setCells _ w.heap.size 0 _ = W10 at *
    clear hW10
    refine hK.out _ _ ?_ (fun hHeld => ?_)
    · exact HS.out _ ((Fr.refl _ _).drew.trans HFr10.out (fun _ _ e => e))
    clear hK K
    try simp only [Act.put, List.getElem_toArray, List.getElem_cons_zero, List.getElem_cons_succ, List.setIfInBounds_toArray, List.set_cons_zero, List.set_cons_succ]
    refine wpAnyH_take (i := 6) (v := ?v326) rfl (by kernel_rfl) (by kernel_rfl) (by kernel_rfl) (fun _ _ _ h => h) (Or.inl ⟨by rfl, ?hy326⟩) (by assumption) ?rest326
    case hy326 => intro w hSw; (try dsimp only at hSw); go_simp; (try with_reducible rfl)
    try simp only [Act.put, List.getElem_toArray, List.getElem_cons_zero, List.getElem_cons_succ, List.setIfInBounds_toArray, List.set_cons_zero, List.set_cons_succ]
    refine wpAnyH_ready (rs := [7]) (by kernel_rfl) (by simp) ?_
    refine AllReadyH.cons rfl (fun K hK => ?_) AllReadyH.nil
    rw [if_pos (by rfl)]
    refine wp_store_mid 28 _ _ rfl (w.heap.size + 1) 0 #[.int .i64 er, .int .i64 ea] rfl rfl (there_row HG10.out _ (Nat.le_refl _)) (by kernel_rfl) (fault_one _ _) ?_
    obtain ⟨hst, hfr⟩ := store_over (V := #[.int .i64 er, .int .i64 ea]) HG10.out (by rfl)
    have HG11 := hideIt hst
    have HFr11 := hideIt (HFr10.out.trans hfr (fun _ _ e => Or.inr e))
    have HA11 := hideIt ((hfr.block w.heap.size (Array.getElem?_eq_some_iff.1 HA10.out).1 (by omega)).trans HA10.out)
    clear hst hfr
    generalize hW11 : World.setCells _ (w.heap.size + 1) 0 _ = W11 at *
    clear hW11
    refine hK.out _ _ ?_ (fun hHeld => ?_)
    · exact HS.out _ ((Fr.refl _ _).drew.trans HFr11.out (fun _ _ e => e))
    clear hK K
    try simp only [Act.put, List.getElem_toArray, List.getElem_cons_zero, List.getElem_cons_succ, List.setIfInBounds_toArray, List.set_cons_zero, List.set_cons_succ]
    refine wpAnyH_done (by kernel_rfl) ?_ _
    go_wp2_with fail
    have hA0 := cellOfHeap HA11.out 0 rfl
    have hA1 := cellOfHeap HA11.out 1 rfl
    have hA2 := cellOfHeap HA11.out 2 rfl
    have hA3 := cellOfHeap HA11.out 3 rfl
    have hA4 := cellOfHeap HA11.out 4 rfl
    have hA5 := cellOfHeap HA11.out 5 rfl
    have hF0 := cellOfHeap HG11.out 0 rfl
    have hF1 := cellOfHeap HG11.out 1 rfl
    refine bodyPost_ret (v := readV (zeroI, 0, er, ea)) (by simp [results, Try.results32, go_sem, readV, icells, zeroI, hA0, hA1, hA2, hA3, hA4, hA5, hF0, hF1]) rfl ⟨by rw [HE.out], ?_⟩
    exact HFRw.out.trans HFr11.out (fun k hk e => by omega)

end Go.Proofs.Ytojgikaoiegmpaa

/- Code: the document's Read: letters AS, letters AB. -/
namespace Go.Proofs.Ytojgikaoiegmpaa
open Go.RowKit Go.IntWalk Go.Lib
set_option linter.unusedSimpArgs false
set_option linter.unusedVariables false
set_option maxRecDepth 100000

set_option maxRecDepth 100000 in
set_option maxHeartbeats 4000000 in
theorem vread_AS (ao : Option Addr) (cap : Nat) (bs : List UInt8) (a : Nat) (w : World) (hB : BsAt w ao bs) (hb : bs.length ≤ 140737488355328) (hcl : bs.length ≤ cap) (hcm : cap ≤ maxLen) (hnb : ∀ k, blk ao k → k < w.heap.size) (ha : a ≤ bs.length) (v : Int) (va : Int) (vs : List UInt8) (s0 s1 s2 : Nat × Int × Int) (h0 : rInt bs 1 15 (a, 0, 0) = (v, s0)) (h1 : rInt bs 0 7 s0 = (va, s1)) (h2 : rText bs 64 s1 = (vs, s2)) (ht : hasT v = (true, false, false, false, true)) :
    Calls Try.prog 32 #[.slice ao bs.length cap, .int .i64 (a : Int)] w fun e w' => e = .returned (readV (endR ⟨v, va, 0, 0, 0, ⟨vs.toArray⟩⟩ s2)) ∧ Fr (fun _ => False) w w' := by
  have hd1 : decide ((a : Int) < 0) = false := decide_eq_false (by omega)
  have hd2 : decide ((bs.length : Int) < (a : Int)) = false := decide_eq_false (by omega)
  have HH := hideIt (fun w => by have := vhas_any v w; rw [ht] at this; exact this)
  unfold hasV at HH
  have HY0 := hideIt (show YOk ((((w.alloc (.cells (icells zeroI) 40)).alloc (.cells #[.int .i64 0, .int .i64 0] 28))).alloc (.cells #[.slice ao bs.length cap, .int .i64 (a : Int), .int .i64 0, .int .i64 0] 63)) (w.heap.size + 2) ao cap bs (a, 0, 0) from
    ⟨⟨heap_new (by simp), hB.fr ((((Fr.refl (fun _ => False) w).alloc _).alloc _).alloc _) (fun _ _ _ e => e)⟩, fun e => by have := hnb _ e; omega, ha⟩)
  have HNB := hideIt hnb
  have HCM := hideIt hcm
  clear hB ht hnb hcm
  go_enter Try.func32, Try.ntmps32
  go_wp2_with fail
  refine Calls.mono (yint_any (w.heap.size + 2) ao cap bs (a, 0, 0) 1 15 _ HY0.out hb) ?_
  rw [h0]
  rintro e w2 ⟨rfl, hy, hF⟩
  have hFa : Fr (fun _ => False) w w2 := ((((Fr.refl (fun _ => False) w).alloc _).alloc _).alloc _).trans hF (fun k hk e => by omega)
  have hsz : w.heap.size + 2 < w2.heap.size := hy.1.lt
  have hF3 : Fr (fun _ => False) w2 (w2.alloc (.cells (icells ⟨v, 0, 0, 0, 0, ⟨#[]⟩⟩) 40)) := (Fr.refl _ _).alloc _
  have HR0 := hideIt (show RS w (w2.alloc (.cells (icells ⟨v, 0, 0, 0, 0, ⟨#[]⟩⟩) 40)) w2.heap.size ao cap bs s0 ⟨v, 0, 0, 0, 0, ⟨#[]⟩⟩ from
    ⟨⟨hy.1.fr hF3 (fun e => e) (fun _ _ _ e => e), hy.2⟩, heap_new rfl, heap_old ((hF.block w.heap.size (by simp; omega) (by omega)).trans (heap_old (heap_old (heap_new rfl)))), heap_old ((hF.block (w.heap.size + 1) (by simp) (by omega)).trans (heap_old (heap_new (by simp)))), hFa.trans hF3 (fun _ _ e => e), hsz, HNB.out⟩)
  clear hy hF hFa hF3 HY0 HNB h0 ha
  go_wp2_with fail
  refine Calls.mono (HH.out _) ?_
  rintro e wx ⟨rfl, rfl⟩
  clear HH
  unfold icells at HR0
  go_wp2_with fail
  refine Calls.mono (rs_int HR0.out hb 0 7 va h1) ?_
  rintro e w10 ⟨rfl, hR⟩
  have hc := hR.j.c1
  have hzf := hR.j.fz 1
  have hlt := hR.j.lt
  dsimp only [Ins.put] at hc
  have HR1 := hideIt (hR.putN 1 (by decide) (by decide) va)
  clear hR HR0
  go_wp2_with fail
  clear hc hzf hlt
  refine Calls.mono (rs_text HR1.out hb hcl HCM.out vs h2) ?_
  rintro e w11 ⟨rfl, hR⟩
  have hc := hR.j.c5
  have hzf := hR.j.fz 5
  have hlt := hR.j.lt
  dsimp only [Ins.put] at hc
  have HR2 := hideIt (hR.putS ⟨vs.toArray⟩)
  clear hR HR1
  obtain ⟨pl, er, ea⟩ := s2
  have c2 := HR2.out.y.1.c2
  dsimp only at c2
  by_cases hz : er = 0
  · subst hz
    have HE := hideIt (show endR ⟨v, va, 0, 0, 0, ⟨vs.toArray⟩⟩ (pl, 0, ea) = (⟨v, va, 0, 0, 0, ⟨vs.toArray⟩⟩, (pl : Int), 0, 0) from if_pos rfl)
    have HS := hideIt HR2.out.held
    have HA8h := hideIt HR2.out.adrew
    have HF8h := hideIt HR2.out.fdrew
    have HFL := hideIt HR2.out.flt
    have HFRw := hideIt HR2.out.frdrew
    go_wp2_with fail
    refine wp_region_held_drew (S := fun w0 => InsAt w0 w2.heap.size ⟨v, va, 0, 0, 0, ⟨vs.toArray⟩⟩ ∧ w0.cell? ⟨w.heap.size + 2, 1, none⟩ = some (.int .i64 (pl : Int)) ∧ w0.cell? ⟨w.heap.size + 2, 2, none⟩ = some (.int .i64 0) ∧ w0.cell? ⟨w.heap.size + 2, 3, none⟩ = some (.int .i64 ea)) (by kernel_rfl) ?_ (fun hHeld => ?_)
    · exact HS.out _ (Fr.refl _ _).drew
    refine wpAnyH_take (i := 0) (v := ?v327) rfl (by kernel_rfl) (by kernel_rfl) (by kernel_rfl) (fun _ _ _ h => h) (Or.inl ⟨by rfl, ?hy327⟩) (by assumption) ?rest327
    case hy327 => intro w hSw; (try dsimp only at hSw); obtain ⟨hSI, hS1, hS2, hS3⟩ := hSw; have c0 := hSI.c0; have c1 := hSI.c1; have c2 := hSI.c2; have c3 := hSI.c3; have c4 := hSI.c4; have c5 := hSI.c5; go_simp; (try with_reducible rfl)
    try simp only [Act.put, List.getElem_toArray, List.getElem_cons_zero, List.getElem_cons_succ, List.setIfInBounds_toArray, List.set_cons_zero, List.set_cons_succ]
    refine wpAnyH_take (i := 1) (v := ?v328) rfl (by kernel_rfl) (by kernel_rfl) (by kernel_rfl) (fun _ _ _ h => h) (Or.inl ⟨by rfl, ?hy328⟩) (by assumption) ?rest328
    case hy328 => intro w hSw; (try dsimp only at hSw); go_simp; (try with_reducible rfl)
    try simp only [Act.put, List.getElem_toArray, List.getElem_cons_zero, List.getElem_cons_succ, List.setIfInBounds_toArray, List.set_cons_zero, List.set_cons_succ]
    refine wpAnyH_take (i := 2) (v := ?v329) rfl (by kernel_rfl) (by kernel_rfl) (by kernel_rfl) (fun _ _ _ h => h) (Or.inl ⟨by rfl, ?hy329⟩) (by assumption) ?rest329
    case hy329 => intro w hSw; (try dsimp only at hSw); go_simp; (try with_reducible rfl)
    try simp only [Act.put, List.getElem_toArray, List.getElem_cons_zero, List.getElem_cons_succ, List.setIfInBounds_toArray, List.set_cons_zero, List.set_cons_succ]
    refine wpAnyH_take (i := 3) (v := ?v330) rfl (by kernel_rfl) (by kernel_rfl) (by kernel_rfl) (fun _ _ _ h => h) (Or.inl ⟨by rfl, ?hy330⟩) (by assumption) ?rest330
    case hy330 => intro w hSw; (try dsimp only at hSw); go_simp; (try with_reducible rfl)
    try simp only [Act.put, List.getElem_toArray, List.getElem_cons_zero, List.getElem_cons_succ, List.setIfInBounds_toArray, List.set_cons_zero, List.set_cons_succ]
    refine wpAnyH_take (i := 4) (v := ?v331) rfl (by kernel_rfl) (by kernel_rfl) (by kernel_rfl) (fun _ _ _ h => h) (Or.inl ⟨by rfl, ?hy331⟩) (by assumption) ?rest331
    case hy331 => intro w hSw; (try dsimp only at hSw); go_simp; (try with_reducible rfl)
    try simp only [Act.put, List.getElem_toArray, List.getElem_cons_zero, List.getElem_cons_succ, List.setIfInBounds_toArray, List.set_cons_zero, List.set_cons_succ]
    refine wpAnyH_take (i := 5) (v := ?v332) rfl (by kernel_rfl) (by kernel_rfl) (by kernel_rfl) (fun _ _ _ h => h) (Or.inl ⟨by rfl, ?hy332⟩) (by assumption) ?rest332
    case hy332 => intro w hSw; (try dsimp only at hSw); go_simp; (try with_reducible rfl)
    try simp only [Act.put, List.getElem_toArray, List.getElem_cons_zero, List.getElem_cons_succ, List.setIfInBounds_toArray, List.set_cons_zero, List.set_cons_succ]
    refine wpAnyH_ready (rs := [6]) (by kernel_rfl) (by simp) ?_
    refine AllReadyH.cons rfl (fun K hK => ?_) AllReadyH.nil
    rw [if_pos (by rfl)]
    refine wp_store_mid 40 _ _ rfl w.heap.size 0 (icells ⟨v, va, 0, 0, 0, ⟨vs.toArray⟩⟩) rfl rfl (there_row HA8h.out _ (Nat.le_refl _)) (by kernel_rfl) (icells_one _) ?_
    obtain ⟨hst, hfr⟩ := store_over (V := (icells ⟨v, va, 0, 0, 0, ⟨vs.toArray⟩⟩)) HA8h.out (by rfl)
    have HA10 := hideIt hst
    have HFr10 := hideIt (hfr.mono (S' := fun k => k = w.heap.size ∨ k = w.heap.size + 1) (fun _ e => Or.inl e))
    have HG10 := hideIt ((hfr.block (w.heap.size + 1) HFL.out (by omega)).trans HF8h.out)
    clear hst hfr
    generalize hW10 : World.setCells _ w.heap.size 0 _ = W10 at *
    clear hW10
    refine hK.out _ _ ?_ (fun hHeld => ?_)
    · exact HS.out _ ((Fr.refl _ _).drew.trans HFr10.out (fun _ _ e => e))
    clear hK K
    try simp only [Act.put, List.getElem_toArray, List.getElem_cons_zero, List.getElem_cons_succ, List.setIfInBounds_toArray, List.set_cons_zero, List.set_cons_succ]
    refine wpAnyH_take (i := 7) (v := ?v333) rfl (by kernel_rfl) (by kernel_rfl) (by kernel_rfl) (fun _ _ _ h => h) (Or.inl ⟨by rfl, ?hy333⟩) (by assumption) ?rest333
    case hy333 => intro w hSw; (try dsimp only at hSw); go_simp; (try with_reducible rfl)
    try simp only [Act.put, List.getElem_toArray, List.getElem_cons_zero, List.getElem_cons_succ, List.setIfInBounds_toArray, List.set_cons_zero, List.set_cons_succ]
    refine wpAnyH_ready (rs := [8]) (by kernel_rfl) (by simp) ?_
    refine AllReadyH.cons rfl (fun K hK => ?_) AllReadyH.nil
    rw [if_pos (by rfl)]
    refine wp_store_mid 28 _ _ rfl (w.heap.size + 1) 0 #[.int .i64 0, .int .i64 0] rfl rfl (there_row HG10.out _ (Nat.le_refl _)) (by kernel_rfl) (fault_one _ _) ?_
    obtain ⟨hst, hfr⟩ := store_over (V := #[.int .i64 0, .int .i64 0]) HG10.out (by rfl)
    have HG11 := hideIt hst
    have HFr11 := hideIt (HFr10.out.trans hfr (fun _ _ e => Or.inr e))
    have HA11 := hideIt ((hfr.block w.heap.size (Array.getElem?_eq_some_iff.1 HA10.out).1 (by omega)).trans HA10.out)
    clear hst hfr
    generalize hW11 : World.setCells _ (w.heap.size + 1) 0 _ = W11 at *
    clear hW11
    refine hK.out _ _ ?_ (fun hHeld => ?_)
    · exact HS.out _ ((Fr.refl _ _).drew.trans HFr11.out (fun _ _ e => e))
    clear hK K
    try simp only [Act.put, List.getElem_toArray, List.getElem_cons_zero, List.getElem_cons_succ, List.setIfInBounds_toArray, List.set_cons_zero, List.set_cons_succ]
    refine wpAnyH_done (by kernel_rfl) ?_ _
    go_wp2_with fail
    have hA0 := cellOfHeap HA11.out 0 rfl
    have hA1 := cellOfHeap HA11.out 1 rfl
    have hA2 := cellOfHeap HA11.out 2 rfl
    have hA3 := cellOfHeap HA11.out 3 rfl
    have hA4 := cellOfHeap HA11.out 4 rfl
    have hA5 := cellOfHeap HA11.out 5 rfl
    have hF0 := cellOfHeap HG11.out 0 rfl
    have hF1 := cellOfHeap HG11.out 1 rfl
    refine bodyPost_ret (v := readV (⟨v, va, 0, 0, 0, ⟨vs.toArray⟩⟩, (pl : Int), 0, 0)) (by simp [results, Try.results32, go_sem, readV, icells, zeroI, hA0, hA1, hA2, hA3, hA4, hA5, hF0, hF1]) rfl ⟨by rw [HE.out], ?_⟩
    exact HFRw.out.trans HFr11.out (fun k hk e => by omega)
  · have HE := hideIt (show endR ⟨v, va, 0, 0, 0, ⟨vs.toArray⟩⟩ (pl, er, ea) = (zeroI, 0, er, ea) from if_neg hz)
    have hzb : (er != 0) = true := by simpa using hz
    have HS := hideIt HR2.out.held
    have HA8h := hideIt HR2.out.adrew
    have HF8h := hideIt HR2.out.fdrew
    have HFL := hideIt HR2.out.flt
    have HFRw := hideIt HR2.out.frdrew
    go_wp2_with fail
    refine wp_region_held_drew (S := fun w0 => InsAt w0 w2.heap.size ⟨v, va, 0, 0, 0, ⟨vs.toArray⟩⟩ ∧ w0.cell? ⟨w.heap.size + 2, 1, none⟩ = some (.int .i64 (pl : Int)) ∧ w0.cell? ⟨w.heap.size + 2, 2, none⟩ = some (.int .i64 er) ∧ w0.cell? ⟨w.heap.size + 2, 3, none⟩ = some (.int .i64 ea)) (by kernel_rfl) ?_ (fun hHeld => ?_)
    · exact HS.out _ (Fr.refl _ _).drew
    refine wpAnyH_take (i := 0) (v := ?v334) rfl (by kernel_rfl) (by kernel_rfl) (by kernel_rfl) (fun _ _ _ h => h) (Or.inl ⟨by rfl, ?hy334⟩) (by assumption) ?rest334
    case hy334 => intro w hSw; (try dsimp only at hSw); go_simp; (try with_reducible rfl)
    try simp only [Act.put, List.getElem_toArray, List.getElem_cons_zero, List.getElem_cons_succ, List.setIfInBounds_toArray, List.set_cons_zero, List.set_cons_succ]
    refine wpAnyH_take (i := 1) (v := ?v335) rfl (by kernel_rfl) (by kernel_rfl) (by kernel_rfl) (fun _ _ _ h => h) (Or.inl ⟨by rfl, ?hy335⟩) (by assumption) ?rest335
    case hy335 => intro w hSw; (try dsimp only at hSw); go_simp; (try with_reducible rfl)
    try simp only [Act.put, List.getElem_toArray, List.getElem_cons_zero, List.getElem_cons_succ, List.setIfInBounds_toArray, List.set_cons_zero, List.set_cons_succ]
    refine wpAnyH_take (i := 2) (v := ?v336) rfl (by kernel_rfl) (by kernel_rfl) (by kernel_rfl) (fun _ _ _ h => h) (Or.inl ⟨by rfl, ?hy336⟩) (by assumption) ?rest336
    case hy336 => intro w hSw; (try dsimp only at hSw); go_simp; (try with_reducible rfl)
    try simp only [Act.put, List.getElem_toArray, List.getElem_cons_zero, List.getElem_cons_succ, List.setIfInBounds_toArray, List.set_cons_zero, List.set_cons_succ]
    refine wpAnyH_take (i := 3) (v := ?v337) rfl (by kernel_rfl) (by kernel_rfl) (by kernel_rfl) (fun _ _ _ h => h) (Or.inl ⟨by rfl, ?hy337⟩) (by assumption) ?rest337
    case hy337 => intro w hSw; (try dsimp only at hSw); go_simp; (try with_reducible rfl)
    try simp only [Act.put, List.getElem_toArray, List.getElem_cons_zero, List.getElem_cons_succ, List.setIfInBounds_toArray, List.set_cons_zero, List.set_cons_succ]
    refine wpAnyH_take (i := 4) (v := ?v338) rfl (by kernel_rfl) (by kernel_rfl) (by kernel_rfl) (fun _ _ _ h => h) (Or.inl ⟨by rfl, ?hy338⟩) (by assumption) ?rest338
    case hy338 => intro w hSw; (try dsimp only at hSw); go_simp; (try with_reducible rfl)
    try simp only [Act.put, List.getElem_toArray, List.getElem_cons_zero, List.getElem_cons_succ, List.setIfInBounds_toArray, List.set_cons_zero, List.set_cons_succ]
    refine wpAnyH_ready (rs := [5]) (by kernel_rfl) (by simp) ?_
    refine AllReadyH.cons rfl (fun K hK => ?_) AllReadyH.nil
    rw [if_pos (by rfl)]
    refine wp_store_mid 40 _ _ rfl w.heap.size 0 (icells zeroI) rfl rfl (there_row HA8h.out _ (Nat.le_refl _)) (by kernel_rfl) (icells_one _) ?_
    obtain ⟨hst, hfr⟩ := store_over (V := (icells zeroI)) HA8h.out (by rfl)
    have HA10 := hideIt hst
    have HFr10 := hideIt (hfr.mono (S' := fun k => k = w.heap.size ∨ k = w.heap.size + 1) (fun _ e => Or.inl e))
    have HG10 := hideIt ((hfr.block (w.heap.size + 1) HFL.out (by omega)).trans HF8h.out)
    clear hst hfr
    generalize hW10 : World.setCells _ w.heap.size 0 _ = W10 at *
    clear hW10
    refine hK.out _ _ ?_ (fun hHeld => ?_)
    · exact HS.out _ ((Fr.refl _ _).drew.trans HFr10.out (fun _ _ e => e))
    clear hK K
    try simp only [Act.put, List.getElem_toArray, List.getElem_cons_zero, List.getElem_cons_succ, List.setIfInBounds_toArray, List.set_cons_zero, List.set_cons_succ]
    refine wpAnyH_take (i := 6) (v := ?v339) rfl (by kernel_rfl) (by kernel_rfl) (by kernel_rfl) (fun _ _ _ h => h) (Or.inl ⟨by rfl, ?hy339⟩) (by assumption) ?rest339
    case hy339 => intro w hSw; (try dsimp only at hSw); go_simp; (try with_reducible rfl)
    try simp only [Act.put, List.getElem_toArray, List.getElem_cons_zero, List.getElem_cons_succ, List.setIfInBounds_toArray, List.set_cons_zero, List.set_cons_succ]
    refine wpAnyH_ready (rs := [7]) (by kernel_rfl) (by simp) ?_
    refine AllReadyH.cons rfl (fun K hK => ?_) AllReadyH.nil
    rw [if_pos (by rfl)]
    refine wp_store_mid 28 _ _ rfl (w.heap.size + 1) 0 #[.int .i64 er, .int .i64 ea] rfl rfl (there_row HG10.out _ (Nat.le_refl _)) (by kernel_rfl) (fault_one _ _) ?_
    obtain ⟨hst, hfr⟩ := store_over (V := #[.int .i64 er, .int .i64 ea]) HG10.out (by rfl)
    have HG11 := hideIt hst
    have HFr11 := hideIt (HFr10.out.trans hfr (fun _ _ e => Or.inr e))
    have HA11 := hideIt ((hfr.block w.heap.size (Array.getElem?_eq_some_iff.1 HA10.out).1 (by omega)).trans HA10.out)
    clear hst hfr
    generalize hW11 : World.setCells _ (w.heap.size + 1) 0 _ = W11 at *
    clear hW11
    refine hK.out _ _ ?_ (fun hHeld => ?_)
    · exact HS.out _ ((Fr.refl _ _).drew.trans HFr11.out (fun _ _ e => e))
    clear hK K
    try simp only [Act.put, List.getElem_toArray, List.getElem_cons_zero, List.getElem_cons_succ, List.setIfInBounds_toArray, List.set_cons_zero, List.set_cons_succ]
    refine wpAnyH_done (by kernel_rfl) ?_ _
    go_wp2_with fail
    have hA0 := cellOfHeap HA11.out 0 rfl
    have hA1 := cellOfHeap HA11.out 1 rfl
    have hA2 := cellOfHeap HA11.out 2 rfl
    have hA3 := cellOfHeap HA11.out 3 rfl
    have hA4 := cellOfHeap HA11.out 4 rfl
    have hA5 := cellOfHeap HA11.out 5 rfl
    have hF0 := cellOfHeap HG11.out 0 rfl
    have hF1 := cellOfHeap HG11.out 1 rfl
    refine bodyPost_ret (v := readV (zeroI, 0, er, ea)) (by simp [results, Try.results32, go_sem, readV, icells, zeroI, hA0, hA1, hA2, hA3, hA4, hA5, hF0, hF1]) rfl ⟨by rw [HE.out], ?_⟩
    exact HFRw.out.trans HFr11.out (fun k hk e => by omega)

set_option maxRecDepth 100000 in
set_option maxHeartbeats 4000000 in
theorem vread_AB (ao : Option Addr) (cap : Nat) (bs : List UInt8) (a : Nat) (w : World) (hB : BsAt w ao bs) (hb : bs.length ≤ 140737488355328) (hcl : bs.length ≤ cap) (hcm : cap ≤ maxLen) (hnb : ∀ k, blk ao k → k < w.heap.size) (ha : a ≤ bs.length) (v : Int) (va : Int) (vb : Int) (s0 s1 s2 : Nat × Int × Int) (h0 : rInt bs 1 15 (a, 0, 0) = (v, s0)) (h1 : rInt bs 0 7 s0 = (va, s1)) (h2 : rInt bs 0 7 s1 = (vb, s2)) (ht : hasT v = (true, true, false, false, false)) :
    Calls Try.prog 32 #[.slice ao bs.length cap, .int .i64 (a : Int)] w fun e w' => e = .returned (readV (endR ⟨v, va, vb, 0, 0, ⟨#[]⟩⟩ s2)) ∧ Fr (fun _ => False) w w' := by
  have hd1 : decide ((a : Int) < 0) = false := decide_eq_false (by omega)
  have hd2 : decide ((bs.length : Int) < (a : Int)) = false := decide_eq_false (by omega)
  have HH := hideIt (fun w => by have := vhas_any v w; rw [ht] at this; exact this)
  unfold hasV at HH
  have HY0 := hideIt (show YOk ((((w.alloc (.cells (icells zeroI) 40)).alloc (.cells #[.int .i64 0, .int .i64 0] 28))).alloc (.cells #[.slice ao bs.length cap, .int .i64 (a : Int), .int .i64 0, .int .i64 0] 63)) (w.heap.size + 2) ao cap bs (a, 0, 0) from
    ⟨⟨heap_new (by simp), hB.fr ((((Fr.refl (fun _ => False) w).alloc _).alloc _).alloc _) (fun _ _ _ e => e)⟩, fun e => by have := hnb _ e; omega, ha⟩)
  have HNB := hideIt hnb
  have HCM := hideIt hcm
  clear hB ht hnb hcm
  go_enter Try.func32, Try.ntmps32
  go_wp2_with fail
  refine Calls.mono (yint_any (w.heap.size + 2) ao cap bs (a, 0, 0) 1 15 _ HY0.out hb) ?_
  rw [h0]
  rintro e w2 ⟨rfl, hy, hF⟩
  have hFa : Fr (fun _ => False) w w2 := ((((Fr.refl (fun _ => False) w).alloc _).alloc _).alloc _).trans hF (fun k hk e => by omega)
  have hsz : w.heap.size + 2 < w2.heap.size := hy.1.lt
  have hF3 : Fr (fun _ => False) w2 (w2.alloc (.cells (icells ⟨v, 0, 0, 0, 0, ⟨#[]⟩⟩) 40)) := (Fr.refl _ _).alloc _
  have HR0 := hideIt (show RS w (w2.alloc (.cells (icells ⟨v, 0, 0, 0, 0, ⟨#[]⟩⟩) 40)) w2.heap.size ao cap bs s0 ⟨v, 0, 0, 0, 0, ⟨#[]⟩⟩ from
    ⟨⟨hy.1.fr hF3 (fun e => e) (fun _ _ _ e => e), hy.2⟩, heap_new rfl, heap_old ((hF.block w.heap.size (by simp; omega) (by omega)).trans (heap_old (heap_old (heap_new rfl)))), heap_old ((hF.block (w.heap.size + 1) (by simp) (by omega)).trans (heap_old (heap_new (by simp)))), hFa.trans hF3 (fun _ _ e => e), hsz, HNB.out⟩)
  clear hy hF hFa hF3 HY0 HNB h0 ha
  go_wp2_with fail
  refine Calls.mono (HH.out _) ?_
  rintro e wx ⟨rfl, rfl⟩
  clear HH
  unfold icells at HR0
  go_wp2_with fail
  refine Calls.mono (rs_int HR0.out hb 0 7 va h1) ?_
  rintro e w10 ⟨rfl, hR⟩
  have hc := hR.j.c1
  have hzf := hR.j.fz 1
  have hlt := hR.j.lt
  dsimp only [Ins.put] at hc
  have HR1 := hideIt (hR.putN 1 (by decide) (by decide) va)
  clear hR HR0
  go_wp2_with fail
  clear hc hzf hlt
  refine Calls.mono (rs_int HR1.out hb 0 7 vb h2) ?_
  rintro e w11 ⟨rfl, hR⟩
  have hc := hR.j.c2
  have hzf := hR.j.fz 2
  have hlt := hR.j.lt
  dsimp only [Ins.put] at hc
  have HR2 := hideIt (hR.putN 2 (by decide) (by decide) vb)
  clear hR HR1
  obtain ⟨pl, er, ea⟩ := s2
  have c2 := HR2.out.y.1.c2
  dsimp only at c2
  by_cases hz : er = 0
  · subst hz
    have HE := hideIt (show endR ⟨v, va, vb, 0, 0, ⟨#[]⟩⟩ (pl, 0, ea) = (⟨v, va, vb, 0, 0, ⟨#[]⟩⟩, (pl : Int), 0, 0) from if_pos rfl)
    have HS := hideIt HR2.out.held
    have HA8h := hideIt HR2.out.adrew
    have HF8h := hideIt HR2.out.fdrew
    have HFL := hideIt HR2.out.flt
    have HFRw := hideIt HR2.out.frdrew
    go_wp2_with fail
    refine wp_region_held_drew (S := fun w0 => InsAt w0 w2.heap.size ⟨v, va, vb, 0, 0, ⟨#[]⟩⟩ ∧ w0.cell? ⟨w.heap.size + 2, 1, none⟩ = some (.int .i64 (pl : Int)) ∧ w0.cell? ⟨w.heap.size + 2, 2, none⟩ = some (.int .i64 0) ∧ w0.cell? ⟨w.heap.size + 2, 3, none⟩ = some (.int .i64 ea)) (by kernel_rfl) ?_ (fun hHeld => ?_)
    · exact HS.out _ (Fr.refl _ _).drew
    refine wpAnyH_take (i := 0) (v := ?v340) rfl (by kernel_rfl) (by kernel_rfl) (by kernel_rfl) (fun _ _ _ h => h) (Or.inl ⟨by rfl, ?hy340⟩) (by assumption) ?rest340
    case hy340 => intro w hSw; (try dsimp only at hSw); obtain ⟨hSI, hS1, hS2, hS3⟩ := hSw; have c0 := hSI.c0; have c1 := hSI.c1; have c2 := hSI.c2; have c3 := hSI.c3; have c4 := hSI.c4; have c5 := hSI.c5; go_simp; (try with_reducible rfl)
    try simp only [Act.put, List.getElem_toArray, List.getElem_cons_zero, List.getElem_cons_succ, List.setIfInBounds_toArray, List.set_cons_zero, List.set_cons_succ]
    refine wpAnyH_take (i := 1) (v := ?v341) rfl (by kernel_rfl) (by kernel_rfl) (by kernel_rfl) (fun _ _ _ h => h) (Or.inl ⟨by rfl, ?hy341⟩) (by assumption) ?rest341
    case hy341 => intro w hSw; (try dsimp only at hSw); go_simp; (try with_reducible rfl)
    try simp only [Act.put, List.getElem_toArray, List.getElem_cons_zero, List.getElem_cons_succ, List.setIfInBounds_toArray, List.set_cons_zero, List.set_cons_succ]
    refine wpAnyH_take (i := 2) (v := ?v342) rfl (by kernel_rfl) (by kernel_rfl) (by kernel_rfl) (fun _ _ _ h => h) (Or.inl ⟨by rfl, ?hy342⟩) (by assumption) ?rest342
    case hy342 => intro w hSw; (try dsimp only at hSw); go_simp; (try with_reducible rfl)
    try simp only [Act.put, List.getElem_toArray, List.getElem_cons_zero, List.getElem_cons_succ, List.setIfInBounds_toArray, List.set_cons_zero, List.set_cons_succ]
    refine wpAnyH_take (i := 3) (v := ?v343) rfl (by kernel_rfl) (by kernel_rfl) (by kernel_rfl) (fun _ _ _ h => h) (Or.inl ⟨by rfl, ?hy343⟩) (by assumption) ?rest343
    case hy343 => intro w hSw; (try dsimp only at hSw); go_simp; (try with_reducible rfl)
    try simp only [Act.put, List.getElem_toArray, List.getElem_cons_zero, List.getElem_cons_succ, List.setIfInBounds_toArray, List.set_cons_zero, List.set_cons_succ]
    refine wpAnyH_take (i := 4) (v := ?v344) rfl (by kernel_rfl) (by kernel_rfl) (by kernel_rfl) (fun _ _ _ h => h) (Or.inl ⟨by rfl, ?hy344⟩) (by assumption) ?rest344
    case hy344 => intro w hSw; (try dsimp only at hSw); go_simp; (try with_reducible rfl)
    try simp only [Act.put, List.getElem_toArray, List.getElem_cons_zero, List.getElem_cons_succ, List.setIfInBounds_toArray, List.set_cons_zero, List.set_cons_succ]
    refine wpAnyH_take (i := 5) (v := ?v345) rfl (by kernel_rfl) (by kernel_rfl) (by kernel_rfl) (fun _ _ _ h => h) (Or.inl ⟨by rfl, ?hy345⟩) (by assumption) ?rest345
    case hy345 => intro w hSw; (try dsimp only at hSw); go_simp; (try with_reducible rfl)
    try simp only [Act.put, List.getElem_toArray, List.getElem_cons_zero, List.getElem_cons_succ, List.setIfInBounds_toArray, List.set_cons_zero, List.set_cons_succ]
    refine wpAnyH_ready (rs := [6]) (by kernel_rfl) (by simp) ?_
    refine AllReadyH.cons rfl (fun K hK => ?_) AllReadyH.nil
    rw [if_pos (by rfl)]
    refine wp_store_mid 40 _ _ rfl w.heap.size 0 (icells ⟨v, va, vb, 0, 0, ⟨#[]⟩⟩) rfl rfl (there_row HA8h.out _ (Nat.le_refl _)) (by kernel_rfl) (icells_one _) ?_
    obtain ⟨hst, hfr⟩ := store_over (V := (icells ⟨v, va, vb, 0, 0, ⟨#[]⟩⟩)) HA8h.out (by rfl)
    have HA10 := hideIt hst
    have HFr10 := hideIt (hfr.mono (S' := fun k => k = w.heap.size ∨ k = w.heap.size + 1) (fun _ e => Or.inl e))
    have HG10 := hideIt ((hfr.block (w.heap.size + 1) HFL.out (by omega)).trans HF8h.out)
    clear hst hfr
    generalize hW10 : World.setCells _ w.heap.size 0 _ = W10 at *
    clear hW10
    refine hK.out _ _ ?_ (fun hHeld => ?_)
    · exact HS.out _ ((Fr.refl _ _).drew.trans HFr10.out (fun _ _ e => e))
    clear hK K
    try simp only [Act.put, List.getElem_toArray, List.getElem_cons_zero, List.getElem_cons_succ, List.setIfInBounds_toArray, List.set_cons_zero, List.set_cons_succ]
    refine wpAnyH_take (i := 7) (v := ?v346) rfl (by kernel_rfl) (by kernel_rfl) (by kernel_rfl) (fun _ _ _ h => h) (Or.inl ⟨by rfl, ?hy346⟩) (by assumption) ?rest346
    case hy346 => intro w hSw; (try dsimp only at hSw); go_simp; (try with_reducible rfl)
    try simp only [Act.put, List.getElem_toArray, List.getElem_cons_zero, List.getElem_cons_succ, List.setIfInBounds_toArray, List.set_cons_zero, List.set_cons_succ]
    refine wpAnyH_ready (rs := [8]) (by kernel_rfl) (by simp) ?_
    refine AllReadyH.cons rfl (fun K hK => ?_) AllReadyH.nil
    rw [if_pos (by rfl)]
    refine wp_store_mid 28 _ _ rfl (w.heap.size + 1) 0 #[.int .i64 0, .int .i64 0] rfl rfl (there_row HG10.out _ (Nat.le_refl _)) (by kernel_rfl) (fault_one _ _) ?_
    obtain ⟨hst, hfr⟩ := store_over (V := #[.int .i64 0, .int .i64 0]) HG10.out (by rfl)
    have HG11 := hideIt hst
    have HFr11 := hideIt (HFr10.out.trans hfr (fun _ _ e => Or.inr e))
    have HA11 := hideIt ((hfr.block w.heap.size (Array.getElem?_eq_some_iff.1 HA10.out).1 (by omega)).trans HA10.out)
    clear hst hfr
    generalize hW11 : World.setCells _ (w.heap.size + 1) 0 _ = W11 at *
    clear hW11
    refine hK.out _ _ ?_ (fun hHeld => ?_)
    · exact HS.out _ ((Fr.refl _ _).drew.trans HFr11.out (fun _ _ e => e))
    clear hK K
    try simp only [Act.put, List.getElem_toArray, List.getElem_cons_zero, List.getElem_cons_succ, List.setIfInBounds_toArray, List.set_cons_zero, List.set_cons_succ]
    refine wpAnyH_done (by kernel_rfl) ?_ _
    go_wp2_with fail
    have hA0 := cellOfHeap HA11.out 0 rfl
    have hA1 := cellOfHeap HA11.out 1 rfl
    have hA2 := cellOfHeap HA11.out 2 rfl
    have hA3 := cellOfHeap HA11.out 3 rfl
    have hA4 := cellOfHeap HA11.out 4 rfl
    have hA5 := cellOfHeap HA11.out 5 rfl
    have hF0 := cellOfHeap HG11.out 0 rfl
    have hF1 := cellOfHeap HG11.out 1 rfl
    refine bodyPost_ret (v := readV (⟨v, va, vb, 0, 0, ⟨#[]⟩⟩, (pl : Int), 0, 0)) (by simp [results, Try.results32, go_sem, readV, icells, zeroI, hA0, hA1, hA2, hA3, hA4, hA5, hF0, hF1]) rfl ⟨by rw [HE.out], ?_⟩
    exact HFRw.out.trans HFr11.out (fun k hk e => by omega)
  · have HE := hideIt (show endR ⟨v, va, vb, 0, 0, ⟨#[]⟩⟩ (pl, er, ea) = (zeroI, 0, er, ea) from if_neg hz)
    have hzb : (er != 0) = true := by simpa using hz
    have HS := hideIt HR2.out.held
    have HA8h := hideIt HR2.out.adrew
    have HF8h := hideIt HR2.out.fdrew
    have HFL := hideIt HR2.out.flt
    have HFRw := hideIt HR2.out.frdrew
    go_wp2_with fail
    refine wp_region_held_drew (S := fun w0 => InsAt w0 w2.heap.size ⟨v, va, vb, 0, 0, ⟨#[]⟩⟩ ∧ w0.cell? ⟨w.heap.size + 2, 1, none⟩ = some (.int .i64 (pl : Int)) ∧ w0.cell? ⟨w.heap.size + 2, 2, none⟩ = some (.int .i64 er) ∧ w0.cell? ⟨w.heap.size + 2, 3, none⟩ = some (.int .i64 ea)) (by kernel_rfl) ?_ (fun hHeld => ?_)
    · exact HS.out _ (Fr.refl _ _).drew
    refine wpAnyH_take (i := 0) (v := ?v347) rfl (by kernel_rfl) (by kernel_rfl) (by kernel_rfl) (fun _ _ _ h => h) (Or.inl ⟨by rfl, ?hy347⟩) (by assumption) ?rest347
    case hy347 => intro w hSw; (try dsimp only at hSw); go_simp; (try with_reducible rfl)
    try simp only [Act.put, List.getElem_toArray, List.getElem_cons_zero, List.getElem_cons_succ, List.setIfInBounds_toArray, List.set_cons_zero, List.set_cons_succ]
    refine wpAnyH_take (i := 1) (v := ?v348) rfl (by kernel_rfl) (by kernel_rfl) (by kernel_rfl) (fun _ _ _ h => h) (Or.inl ⟨by rfl, ?hy348⟩) (by assumption) ?rest348
    case hy348 => intro w hSw; (try dsimp only at hSw); go_simp; (try with_reducible rfl)
    try simp only [Act.put, List.getElem_toArray, List.getElem_cons_zero, List.getElem_cons_succ, List.setIfInBounds_toArray, List.set_cons_zero, List.set_cons_succ]
    refine wpAnyH_take (i := 2) (v := ?v349) rfl (by kernel_rfl) (by kernel_rfl) (by kernel_rfl) (fun _ _ _ h => h) (Or.inl ⟨by rfl, ?hy349⟩) (by assumption) ?rest349
    case hy349 => intro w hSw; (try dsimp only at hSw); go_simp; (try with_reducible rfl)
    try simp only [Act.put, List.getElem_toArray, List.getElem_cons_zero, List.getElem_cons_succ, List.setIfInBounds_toArray, List.set_cons_zero, List.set_cons_succ]
    refine wpAnyH_take (i := 3) (v := ?v350) rfl (by kernel_rfl) (by kernel_rfl) (by kernel_rfl) (fun _ _ _ h => h) (Or.inl ⟨by rfl, ?hy350⟩) (by assumption) ?rest350
    case hy350 => intro w hSw; (try dsimp only at hSw); go_simp; (try with_reducible rfl)
    try simp only [Act.put, List.getElem_toArray, List.getElem_cons_zero, List.getElem_cons_succ, List.setIfInBounds_toArray, List.set_cons_zero, List.set_cons_succ]
    refine wpAnyH_take (i := 4) (v := ?v351) rfl (by kernel_rfl) (by kernel_rfl) (by kernel_rfl) (fun _ _ _ h => h) (Or.inl ⟨by rfl, ?hy351⟩) (by assumption) ?rest351
    case hy351 => intro w hSw; (try dsimp only at hSw); go_simp; (try with_reducible rfl)
    try simp only [Act.put, List.getElem_toArray, List.getElem_cons_zero, List.getElem_cons_succ, List.setIfInBounds_toArray, List.set_cons_zero, List.set_cons_succ]
    refine wpAnyH_ready (rs := [5]) (by kernel_rfl) (by simp) ?_
    refine AllReadyH.cons rfl (fun K hK => ?_) AllReadyH.nil
    rw [if_pos (by rfl)]
    refine wp_store_mid 40 _ _ rfl w.heap.size 0 (icells zeroI) rfl rfl (there_row HA8h.out _ (Nat.le_refl _)) (by kernel_rfl) (icells_one _) ?_
    obtain ⟨hst, hfr⟩ := store_over (V := (icells zeroI)) HA8h.out (by rfl)
    have HA10 := hideIt hst
    have HFr10 := hideIt (hfr.mono (S' := fun k => k = w.heap.size ∨ k = w.heap.size + 1) (fun _ e => Or.inl e))
    have HG10 := hideIt ((hfr.block (w.heap.size + 1) HFL.out (by omega)).trans HF8h.out)
    clear hst hfr
    generalize hW10 : World.setCells _ w.heap.size 0 _ = W10 at *
    clear hW10
    refine hK.out _ _ ?_ (fun hHeld => ?_)
    · exact HS.out _ ((Fr.refl _ _).drew.trans HFr10.out (fun _ _ e => e))
    clear hK K
    try simp only [Act.put, List.getElem_toArray, List.getElem_cons_zero, List.getElem_cons_succ, List.setIfInBounds_toArray, List.set_cons_zero, List.set_cons_succ]
    refine wpAnyH_take (i := 6) (v := ?v352) rfl (by kernel_rfl) (by kernel_rfl) (by kernel_rfl) (fun _ _ _ h => h) (Or.inl ⟨by rfl, ?hy352⟩) (by assumption) ?rest352
    case hy352 => intro w hSw; (try dsimp only at hSw); go_simp; (try with_reducible rfl)
    try simp only [Act.put, List.getElem_toArray, List.getElem_cons_zero, List.getElem_cons_succ, List.setIfInBounds_toArray, List.set_cons_zero, List.set_cons_succ]
    refine wpAnyH_ready (rs := [7]) (by kernel_rfl) (by simp) ?_
    refine AllReadyH.cons rfl (fun K hK => ?_) AllReadyH.nil
    rw [if_pos (by rfl)]
    refine wp_store_mid 28 _ _ rfl (w.heap.size + 1) 0 #[.int .i64 er, .int .i64 ea] rfl rfl (there_row HG10.out _ (Nat.le_refl _)) (by kernel_rfl) (fault_one _ _) ?_
    obtain ⟨hst, hfr⟩ := store_over (V := #[.int .i64 er, .int .i64 ea]) HG10.out (by rfl)
    have HG11 := hideIt hst
    have HFr11 := hideIt (HFr10.out.trans hfr (fun _ _ e => Or.inr e))
    have HA11 := hideIt ((hfr.block w.heap.size (Array.getElem?_eq_some_iff.1 HA10.out).1 (by omega)).trans HA10.out)
    clear hst hfr
    generalize hW11 : World.setCells _ (w.heap.size + 1) 0 _ = W11 at *
    clear hW11
    refine hK.out _ _ ?_ (fun hHeld => ?_)
    · exact HS.out _ ((Fr.refl _ _).drew.trans HFr11.out (fun _ _ e => e))
    clear hK K
    try simp only [Act.put, List.getElem_toArray, List.getElem_cons_zero, List.getElem_cons_succ, List.setIfInBounds_toArray, List.set_cons_zero, List.set_cons_succ]
    refine wpAnyH_done (by kernel_rfl) ?_ _
    go_wp2_with fail
    have hA0 := cellOfHeap HA11.out 0 rfl
    have hA1 := cellOfHeap HA11.out 1 rfl
    have hA2 := cellOfHeap HA11.out 2 rfl
    have hA3 := cellOfHeap HA11.out 3 rfl
    have hA4 := cellOfHeap HA11.out 4 rfl
    have hA5 := cellOfHeap HA11.out 5 rfl
    have hF0 := cellOfHeap HG11.out 0 rfl
    have hF1 := cellOfHeap HG11.out 1 rfl
    refine bodyPost_ret (v := readV (zeroI, 0, er, ea)) (by simp [results, Try.results32, go_sem, readV, icells, zeroI, hA0, hA1, hA2, hA3, hA4, hA5, hF0, hF1]) rfl ⟨by rw [HE.out], ?_⟩
    exact HFRw.out.trans HFr11.out (fun k hk e => by omega)

end Go.Proofs.Ytojgikaoiegmpaa

/- Code: the document's Read: letters ABC, letters N. -/
namespace Go.Proofs.Ytojgikaoiegmpaa
open Go.RowKit Go.IntWalk Go.Lib
set_option linter.unusedSimpArgs false
set_option linter.unusedVariables false
set_option maxRecDepth 100000

set_option maxRecDepth 100000 in
set_option maxHeartbeats 4000000 in
theorem vread_ABC (ao : Option Addr) (cap : Nat) (bs : List UInt8) (a : Nat) (w : World) (hB : BsAt w ao bs) (hb : bs.length ≤ 140737488355328) (hcl : bs.length ≤ cap) (hcm : cap ≤ maxLen) (hnb : ∀ k, blk ao k → k < w.heap.size) (ha : a ≤ bs.length) (v : Int) (va : Int) (vb : Int) (vc : Int) (s0 s1 s2 s3 : Nat × Int × Int) (h0 : rInt bs 1 15 (a, 0, 0) = (v, s0)) (h1 : rInt bs 0 7 s0 = (va, s1)) (h2 : rInt bs 0 7 s1 = (vb, s2)) (h3 : rInt bs 0 7 s2 = (vc, s3)) (ht : hasT v = (true, true, true, false, false)) :
    Calls Try.prog 32 #[.slice ao bs.length cap, .int .i64 (a : Int)] w fun e w' => e = .returned (readV (endR ⟨v, va, vb, vc, 0, ⟨#[]⟩⟩ s3)) ∧ Fr (fun _ => False) w w' := by
  have hd1 : decide ((a : Int) < 0) = false := decide_eq_false (by omega)
  have hd2 : decide ((bs.length : Int) < (a : Int)) = false := decide_eq_false (by omega)
  have HH := hideIt (fun w => by have := vhas_any v w; rw [ht] at this; exact this)
  unfold hasV at HH
  have HY0 := hideIt (show YOk ((((w.alloc (.cells (icells zeroI) 40)).alloc (.cells #[.int .i64 0, .int .i64 0] 28))).alloc (.cells #[.slice ao bs.length cap, .int .i64 (a : Int), .int .i64 0, .int .i64 0] 63)) (w.heap.size + 2) ao cap bs (a, 0, 0) from
    ⟨⟨heap_new (by simp), hB.fr ((((Fr.refl (fun _ => False) w).alloc _).alloc _).alloc _) (fun _ _ _ e => e)⟩, fun e => by have := hnb _ e; omega, ha⟩)
  have HNB := hideIt hnb
  have HCM := hideIt hcm
  clear hB ht hnb hcm
  go_enter Try.func32, Try.ntmps32
  go_wp2_with fail
  refine Calls.mono (yint_any (w.heap.size + 2) ao cap bs (a, 0, 0) 1 15 _ HY0.out hb) ?_
  rw [h0]
  rintro e w2 ⟨rfl, hy, hF⟩
  have hFa : Fr (fun _ => False) w w2 := ((((Fr.refl (fun _ => False) w).alloc _).alloc _).alloc _).trans hF (fun k hk e => by omega)
  have hsz : w.heap.size + 2 < w2.heap.size := hy.1.lt
  have hF3 : Fr (fun _ => False) w2 (w2.alloc (.cells (icells ⟨v, 0, 0, 0, 0, ⟨#[]⟩⟩) 40)) := (Fr.refl _ _).alloc _
  have HR0 := hideIt (show RS w (w2.alloc (.cells (icells ⟨v, 0, 0, 0, 0, ⟨#[]⟩⟩) 40)) w2.heap.size ao cap bs s0 ⟨v, 0, 0, 0, 0, ⟨#[]⟩⟩ from
    ⟨⟨hy.1.fr hF3 (fun e => e) (fun _ _ _ e => e), hy.2⟩, heap_new rfl, heap_old ((hF.block w.heap.size (by simp; omega) (by omega)).trans (heap_old (heap_old (heap_new rfl)))), heap_old ((hF.block (w.heap.size + 1) (by simp) (by omega)).trans (heap_old (heap_new (by simp)))), hFa.trans hF3 (fun _ _ e => e), hsz, HNB.out⟩)
  clear hy hF hFa hF3 HY0 HNB h0 ha
  go_wp2_with fail
  refine Calls.mono (HH.out _) ?_
  rintro e wx ⟨rfl, rfl⟩
  clear HH
  unfold icells at HR0
  go_wp2_with fail
  refine Calls.mono (rs_int HR0.out hb 0 7 va h1) ?_
  rintro e w10 ⟨rfl, hR⟩
  have hc := hR.j.c1
  have hzf := hR.j.fz 1
  have hlt := hR.j.lt
  dsimp only [Ins.put] at hc
  have HR1 := hideIt (hR.putN 1 (by decide) (by decide) va)
  clear hR HR0
  go_wp2_with fail
  clear hc hzf hlt
  refine Calls.mono (rs_int HR1.out hb 0 7 vb h2) ?_
  rintro e w11 ⟨rfl, hR⟩
  have hc := hR.j.c2
  have hzf := hR.j.fz 2
  have hlt := hR.j.lt
  dsimp only [Ins.put] at hc
  have HR2 := hideIt (hR.putN 2 (by decide) (by decide) vb)
  clear hR HR1
  go_wp2_with fail
  clear hc hzf hlt
  refine Calls.mono (rs_int HR2.out hb 0 7 vc h3) ?_
  rintro e w12 ⟨rfl, hR⟩
  have hc := hR.j.c3
  have hzf := hR.j.fz 3
  have hlt := hR.j.lt
  dsimp only [Ins.put] at hc
  have HR3 := hideIt (hR.putN 3 (by decide) (by decide) vc)
  clear hR HR2
  obtain ⟨pl, er, ea⟩ := s3
  have c2 := HR3.out.y.1.c2
  dsimp only at c2
  by_cases hz : er = 0
  · subst hz
    have HE := hideIt (show endR ⟨v, va, vb, vc, 0, ⟨#[]⟩⟩ (pl, 0, ea) = (⟨v, va, vb, vc, 0, ⟨#[]⟩⟩, (pl : Int), 0, 0) from if_pos rfl)
    have HS := hideIt HR3.out.held
    have HA8h := hideIt HR3.out.adrew
    have HF8h := hideIt HR3.out.fdrew
    have HFL := hideIt HR3.out.flt
    have HFRw := hideIt HR3.out.frdrew
    go_wp2_with fail
    refine wp_region_held_drew (S := fun w0 => InsAt w0 w2.heap.size ⟨v, va, vb, vc, 0, ⟨#[]⟩⟩ ∧ w0.cell? ⟨w.heap.size + 2, 1, none⟩ = some (.int .i64 (pl : Int)) ∧ w0.cell? ⟨w.heap.size + 2, 2, none⟩ = some (.int .i64 0) ∧ w0.cell? ⟨w.heap.size + 2, 3, none⟩ = some (.int .i64 ea)) (by kernel_rfl) ?_ (fun hHeld => ?_)
    · exact HS.out _ (Fr.refl _ _).drew
    refine wpAnyH_take (i := 0) (v := ?v353) rfl (by kernel_rfl) (by kernel_rfl) (by kernel_rfl) (fun _ _ _ h => h) (Or.inl ⟨by rfl, ?hy353⟩) (by assumption) ?rest353
    case hy353 => intro w hSw; (try dsimp only at hSw); obtain ⟨hSI, hS1, hS2, hS3⟩ := hSw; have c0 := hSI.c0; have c1 := hSI.c1; have c2 := hSI.c2; have c3 := hSI.c3; have c4 := hSI.c4; have c5 := hSI.c5; go_simp; (try with_reducible rfl)
    try simp only [Act.put, List.getElem_toArray, List.getElem_cons_zero, List.getElem_cons_succ, List.setIfInBounds_toArray, List.set_cons_zero, List.set_cons_succ]
    refine wpAnyH_take (i := 1) (v := ?v354) rfl (by kernel_rfl) (by kernel_rfl) (by kernel_rfl) (fun _ _ _ h => h) (Or.inl ⟨by rfl, ?hy354⟩) (by assumption) ?rest354
    case hy354 => intro w hSw; (try dsimp only at hSw); go_simp; (try with_reducible rfl)
    try simp only [Act.put, List.getElem_toArray, List.getElem_cons_zero, List.getElem_cons_succ, List.setIfInBounds_toArray, List.set_cons_zero, List.set_cons_succ]
    refine wpAnyH_take (i := 2) (v := ?v355) rfl (by kernel_rfl) (by kernel_rfl) (by kernel_rfl) (fun _ _ _ h => h) (Or.inl ⟨by rfl, ?hy355⟩) (by assumption) ?rest355
    case hy355 => intro w hSw; (try dsimp only at hSw); go_simp; (try with_reducible rfl)
    try simp only [Act.put, List.getElem_toArray, List.getElem_cons_zero, List.getElem_cons_succ, List.setIfInBounds_toArray, List.set_cons_zero, List.set_cons_succ]
    refine wpAnyH_take (i := 3) (v := ?v356) rfl (by kernel_rfl) (by kernel_rfl) (by kernel_rfl) (fun _ _ _ h => h) (Or.inl ⟨by rfl, ?hy356⟩) (by assumption) ?rest356
    case hy356 => intro w hSw; (try dsimp only at hSw); go_simp; (try with_reducible rfl)
    try simp only [Act.put, List.getElem_toArray, List.getElem_cons_zero, List.getElem_cons_succ, List.setIfInBounds_toArray, List.set_cons_zero, List.set_cons_succ]
    refine wpAnyH_take (i := 4) (v := ?v357) rfl (by kernel_rfl) (by kernel_rfl) (by kernel_rfl) (fun _ _ _ h => h) (Or.inl ⟨by rfl, ?hy357⟩) (by assumption) ?rest357
    case hy357 => intro w hSw; (try dsimp only at hSw); go_simp; (try with_reducible rfl)
    try simp only [Act.put, List.getElem_toArray, List.getElem_cons_zero, List.getElem_cons_succ, List.setIfInBounds_toArray, List.set_cons_zero, List.set_cons_succ]
    refine wpAnyH_take (i := 5) (v := ?v358) rfl (by kernel_rfl) (by kernel_rfl) (by kernel_rfl) (fun _ _ _ h => h) (Or.inl ⟨by rfl, ?hy358⟩) (by assumption) ?rest358
    case hy358 => intro w hSw; (try dsimp only at hSw); go_simp; (try with_reducible rfl)
    try simp only [Act.put, List.getElem_toArray, List.getElem_cons_zero, List.getElem_cons_succ, List.setIfInBounds_toArray, List.set_cons_zero, List.set_cons_succ]
    refine wpAnyH_ready (rs := [6]) (by kernel_rfl) (by simp) ?_
    refine AllReadyH.cons rfl (fun K hK => ?_) AllReadyH.nil
    rw [if_pos (by rfl)]
    refine wp_store_mid 40 _ _ rfl w.heap.size 0 (icells ⟨v, va, vb, vc, 0, ⟨#[]⟩⟩) rfl rfl (there_row HA8h.out _ (Nat.le_refl _)) (by kernel_rfl) (icells_one _) ?_
    obtain ⟨hst, hfr⟩ := store_over (V := (icells ⟨v, va, vb, vc, 0, ⟨#[]⟩⟩)) HA8h.out (by rfl)
    have HA10 := hideIt hst
    have HFr10 := hideIt (hfr.mono (S' := fun k => k = w.heap.size ∨ k = w.heap.size + 1) (fun _ e => Or.inl e))
    have HG10 := hideIt ((hfr.block (w.heap.size + 1) HFL.out (by omega)).trans HF8h.out)
    clear hst hfr
    generalize hW10 : World.setCells _ w.heap.size 0 _ = W10 at *
    clear hW10
    refine hK.out _ _ ?_ (fun hHeld => ?_)
    · exact HS.out _ ((Fr.refl _ _).drew.trans HFr10.out (fun _ _ e => e))
    clear hK K
    try simp only [Act.put, List.getElem_toArray, List.getElem_cons_zero, List.getElem_cons_succ, List.setIfInBounds_toArray, List.set_cons_zero, List.set_cons_succ]
    refine wpAnyH_take (i := 7) (v := ?v359) rfl (by kernel_rfl) (by kernel_rfl) (by kernel_rfl) (fun _ _ _ h => h) (Or.inl ⟨by rfl, ?hy359⟩) (by assumption) ?rest359
    case hy359 => intro w hSw; (try dsimp only at hSw); go_simp; (try with_reducible rfl)
    try simp only [Act.put, List.getElem_toArray, List.getElem_cons_zero, List.getElem_cons_succ, List.setIfInBounds_toArray, List.set_cons_zero, List.set_cons_succ]
    refine wpAnyH_ready (rs := [8]) (by kernel_rfl) (by simp) ?_
    refine AllReadyH.cons rfl (fun K hK => ?_) AllReadyH.nil
    rw [if_pos (by rfl)]
    refine wp_store_mid 28 _ _ rfl (w.heap.size + 1) 0 #[.int .i64 0, .int .i64 0] rfl rfl (there_row HG10.out _ (Nat.le_refl _)) (by kernel_rfl) (fault_one _ _) ?_
    obtain ⟨hst, hfr⟩ := store_over (V := #[.int .i64 0, .int .i64 0]) HG10.out (by rfl)
    have HG11 := hideIt hst
    have HFr11 := hideIt (HFr10.out.trans hfr (fun _ _ e => Or.inr e))
    have HA11 := hideIt ((hfr.block w.heap.size (Array.getElem?_eq_some_iff.1 HA10.out).1 (by omega)).trans HA10.out)
    clear hst hfr
    generalize hW11 : World.setCells _ (w.heap.size + 1) 0 _ = W11 at *
    clear hW11
    refine hK.out _ _ ?_ (fun hHeld => ?_)
    · exact HS.out _ ((Fr.refl _ _).drew.trans HFr11.out (fun _ _ e => e))
    clear hK K
    try simp only [Act.put, List.getElem_toArray, List.getElem_cons_zero, List.getElem_cons_succ, List.setIfInBounds_toArray, List.set_cons_zero, List.set_cons_succ]
    refine wpAnyH_done (by kernel_rfl) ?_ _
    go_wp2_with fail
    have hA0 := cellOfHeap HA11.out 0 rfl
    have hA1 := cellOfHeap HA11.out 1 rfl
    have hA2 := cellOfHeap HA11.out 2 rfl
    have hA3 := cellOfHeap HA11.out 3 rfl
    have hA4 := cellOfHeap HA11.out 4 rfl
    have hA5 := cellOfHeap HA11.out 5 rfl
    have hF0 := cellOfHeap HG11.out 0 rfl
    have hF1 := cellOfHeap HG11.out 1 rfl
    refine bodyPost_ret (v := readV (⟨v, va, vb, vc, 0, ⟨#[]⟩⟩, (pl : Int), 0, 0)) (by simp [results, Try.results32, go_sem, readV, icells, zeroI, hA0, hA1, hA2, hA3, hA4, hA5, hF0, hF1]) rfl ⟨by rw [HE.out], ?_⟩
    exact HFRw.out.trans HFr11.out (fun k hk e => by omega)
  · have HE := hideIt (show endR ⟨v, va, vb, vc, 0, ⟨#[]⟩⟩ (pl, er, ea) = (zeroI, 0, er, ea) from if_neg hz)
    have hzb : (er != 0) = true := by simpa using hz
    have HS := hideIt HR3.out.held
    have HA8h := hideIt HR3.out.adrew
    have HF8h := hideIt HR3.out.fdrew
    have HFL := hideIt HR3.out.flt
    have HFRw := hideIt HR3.out.frdrew
    go_wp2_with fail
    refine wp_region_held_drew (S := fun w0 => InsAt w0 w2.heap.size ⟨v, va, vb, vc, 0, ⟨#[]⟩⟩ ∧ w0.cell? ⟨w.heap.size + 2, 1, none⟩ = some (.int .i64 (pl : Int)) ∧ w0.cell? ⟨w.heap.size + 2, 2, none⟩ = some (.int .i64 er) ∧ w0.cell? ⟨w.heap.size + 2, 3, none⟩ = some (.int .i64 ea)) (by kernel_rfl) ?_ (fun hHeld => ?_)
    · exact HS.out _ (Fr.refl _ _).drew
    refine wpAnyH_take (i := 0) (v := ?v360) rfl (by kernel_rfl) (by kernel_rfl) (by kernel_rfl) (fun _ _ _ h => h) (Or.inl ⟨by rfl, ?hy360⟩) (by assumption) ?rest360
    case hy360 => intro w hSw; (try dsimp only at hSw); go_simp; (try with_reducible rfl)
    try simp only [Act.put, List.getElem_toArray, List.getElem_cons_zero, List.getElem_cons_succ, List.setIfInBounds_toArray, List.set_cons_zero, List.set_cons_succ]
    refine wpAnyH_take (i := 1) (v := ?v361) rfl (by kernel_rfl) (by kernel_rfl) (by kernel_rfl) (fun _ _ _ h => h) (Or.inl ⟨by rfl, ?hy361⟩) (by assumption) ?rest361
    case hy361 => intro w hSw; (try dsimp only at hSw); go_simp; (try with_reducible rfl)
    try simp only [Act.put, List.getElem_toArray, List.getElem_cons_zero, List.getElem_cons_succ, List.setIfInBounds_toArray, List.set_cons_zero, List.set_cons_succ]
    refine wpAnyH_take (i := 2) (v := ?v362) rfl (by kernel_rfl) (by kernel_rfl) (by kernel_rfl) (fun _ _ _ h => h) (Or.inl ⟨by rfl, ?hy362⟩) (by assumption) ?rest362
    case hy362 => intro w hSw; (try dsimp only at hSw); go_simp; (try with_reducible rfl)
    try simp only [Act.put, List.getElem_toArray, List.getElem_cons_zero, List.getElem_cons_succ, List.setIfInBounds_toArray, List.set_cons_zero, List.set_cons_succ]
    refine wpAnyH_take (i := 3) (v := ?v363) rfl (by kernel_rfl) (by kernel_rfl) (by kernel_rfl) (fun _ _ _ h => h) (Or.inl ⟨by rfl, ?hy363⟩) (by assumption) ?rest363
    case hy363 => intro w hSw; (try dsimp only at hSw); go_simp; (try with_reducible rfl)
    try simp only [Act.put, List.getElem_toArray, List.getElem_cons_zero, List.getElem_cons_succ, List.setIfInBounds_toArray, List.set_cons_zero, List.set_cons_succ]
    refine wpAnyH_take (i := 4) (v := ?v364) rfl (by kernel_rfl) (by kernel_rfl) (by kernel_rfl) (fun _ _ _ h => h) (Or.inl ⟨by rfl, ?hy364⟩) (by assumption) ?rest364
    case hy364 => intro w hSw; (try dsimp only at hSw); go_simp; (try with_reducible rfl)
    try simp only [Act.put, List.getElem_toArray, List.getElem_cons_zero, List.getElem_cons_succ, List.setIfInBounds_toArray, List.set_cons_zero, List.set_cons_succ]
    refine wpAnyH_ready (rs := [5]) (by kernel_rfl) (by simp) ?_
    refine AllReadyH.cons rfl (fun K hK => ?_) AllReadyH.nil
    rw [if_pos (by rfl)]
    refine wp_store_mid 40 _ _ rfl w.heap.size 0 (icells zeroI) rfl rfl (there_row HA8h.out _ (Nat.le_refl _)) (by kernel_rfl) (icells_one _) ?_
    obtain ⟨hst, hfr⟩ := store_over (V := (icells zeroI)) HA8h.out (by rfl)
    have HA10 := hideIt hst
    have HFr10 := hideIt (hfr.mono (S' := fun k => k = w.heap.size ∨ k = w.heap.size + 1) (fun _ e => Or.inl e))
    have HG10 := hideIt ((hfr.block (w.heap.size + 1) HFL.out (by omega)).trans HF8h.out)
    clear hst hfr
    generalize hW10 : World.setCells _ w.heap.size 0 _ = W10 at *
    clear hW10
    refine hK.out _ _ ?_ (fun hHeld => ?_)
    · exact HS.out _ ((Fr.refl _ _).drew.trans HFr10.out (fun _ _ e => e))
    clear hK K
    try simp only [Act.put, List.getElem_toArray, List.getElem_cons_zero, List.getElem_cons_succ, List.setIfInBounds_toArray, List.set_cons_zero, List.set_cons_succ]
    refine wpAnyH_take (i := 6) (v := ?v365) rfl (by kernel_rfl) (by kernel_rfl) (by kernel_rfl) (fun _ _ _ h => h) (Or.inl ⟨by rfl, ?hy365⟩) (by assumption) ?rest365
    case hy365 => intro w hSw; (try dsimp only at hSw); go_simp; (try with_reducible rfl)
    try simp only [Act.put, List.getElem_toArray, List.getElem_cons_zero, List.getElem_cons_succ, List.setIfInBounds_toArray, List.set_cons_zero, List.set_cons_succ]
    refine wpAnyH_ready (rs := [7]) (by kernel_rfl) (by simp) ?_
    refine AllReadyH.cons rfl (fun K hK => ?_) AllReadyH.nil
    rw [if_pos (by rfl)]
    refine wp_store_mid 28 _ _ rfl (w.heap.size + 1) 0 #[.int .i64 er, .int .i64 ea] rfl rfl (there_row HG10.out _ (Nat.le_refl _)) (by kernel_rfl) (fault_one _ _) ?_
    obtain ⟨hst, hfr⟩ := store_over (V := #[.int .i64 er, .int .i64 ea]) HG10.out (by rfl)
    have HG11 := hideIt hst
    have HFr11 := hideIt (HFr10.out.trans hfr (fun _ _ e => Or.inr e))
    have HA11 := hideIt ((hfr.block w.heap.size (Array.getElem?_eq_some_iff.1 HA10.out).1 (by omega)).trans HA10.out)
    clear hst hfr
    generalize hW11 : World.setCells _ (w.heap.size + 1) 0 _ = W11 at *
    clear hW11
    refine hK.out _ _ ?_ (fun hHeld => ?_)
    · exact HS.out _ ((Fr.refl _ _).drew.trans HFr11.out (fun _ _ e => e))
    clear hK K
    try simp only [Act.put, List.getElem_toArray, List.getElem_cons_zero, List.getElem_cons_succ, List.setIfInBounds_toArray, List.set_cons_zero, List.set_cons_succ]
    refine wpAnyH_done (by kernel_rfl) ?_ _
    go_wp2_with fail
    have hA0 := cellOfHeap HA11.out 0 rfl
    have hA1 := cellOfHeap HA11.out 1 rfl
    have hA2 := cellOfHeap HA11.out 2 rfl
    have hA3 := cellOfHeap HA11.out 3 rfl
    have hA4 := cellOfHeap HA11.out 4 rfl
    have hA5 := cellOfHeap HA11.out 5 rfl
    have hF0 := cellOfHeap HG11.out 0 rfl
    have hF1 := cellOfHeap HG11.out 1 rfl
    refine bodyPost_ret (v := readV (zeroI, 0, er, ea)) (by simp [results, Try.results32, go_sem, readV, icells, zeroI, hA0, hA1, hA2, hA3, hA4, hA5, hF0, hF1]) rfl ⟨by rw [HE.out], ?_⟩
    exact HFRw.out.trans HFr11.out (fun k hk e => by omega)

set_option maxRecDepth 100000 in
set_option maxHeartbeats 4000000 in
theorem vread_N (ao : Option Addr) (cap : Nat) (bs : List UInt8) (a : Nat) (w : World) (hB : BsAt w ao bs) (hb : bs.length ≤ 140737488355328) (hcl : bs.length ≤ cap) (hcm : cap ≤ maxLen) (hnb : ∀ k, blk ao k → k < w.heap.size) (ha : a ≤ bs.length) (v : Int) (vn : Int) (mx : Int) (s0 s1 : Nat × Int × Int) (h0 : rInt bs 1 15 (a, 0, 0) = (v, s0)) (h1 : rInt bs 1 mx s0 = (vn, s1)) (hmx : mostZ v = mx) (ht : hasT v = (false, false, false, true, false)) :
    Calls Try.prog 32 #[.slice ao bs.length cap, .int .i64 (a : Int)] w fun e w' => e = .returned (readV (endR ⟨v, 0, 0, 0, vn, ⟨#[]⟩⟩ s1)) ∧ Fr (fun _ => False) w w' := by
  have hd1 : decide ((a : Int) < 0) = false := decide_eq_false (by omega)
  have hd2 : decide ((bs.length : Int) < (a : Int)) = false := decide_eq_false (by omega)
  have HH := hideIt (fun w => by have := vhas_any v w; rw [ht] at this; exact this)
  unfold hasV at HH
  have HM := hideIt (fun w => by have := vmost_any v w; rw [hmx] at this; exact this)
  have HY0 := hideIt (show YOk ((((w.alloc (.cells (icells zeroI) 40)).alloc (.cells #[.int .i64 0, .int .i64 0] 28))).alloc (.cells #[.slice ao bs.length cap, .int .i64 (a : Int), .int .i64 0, .int .i64 0] 63)) (w.heap.size + 2) ao cap bs (a, 0, 0) from
    ⟨⟨heap_new (by simp), hB.fr ((((Fr.refl (fun _ => False) w).alloc _).alloc _).alloc _) (fun _ _ _ e => e)⟩, fun e => by have := hnb _ e; omega, ha⟩)
  have HNB := hideIt hnb
  have HCM := hideIt hcm
  clear hB ht hnb hcm hmx
  go_enter Try.func32, Try.ntmps32
  go_wp2_with fail
  refine Calls.mono (yint_any (w.heap.size + 2) ao cap bs (a, 0, 0) 1 15 _ HY0.out hb) ?_
  rw [h0]
  rintro e w2 ⟨rfl, hy, hF⟩
  have hFa : Fr (fun _ => False) w w2 := ((((Fr.refl (fun _ => False) w).alloc _).alloc _).alloc _).trans hF (fun k hk e => by omega)
  have hsz : w.heap.size + 2 < w2.heap.size := hy.1.lt
  have hF3 : Fr (fun _ => False) w2 (w2.alloc (.cells (icells ⟨v, 0, 0, 0, 0, ⟨#[]⟩⟩) 40)) := (Fr.refl _ _).alloc _
  have HR0 := hideIt (show RS w (w2.alloc (.cells (icells ⟨v, 0, 0, 0, 0, ⟨#[]⟩⟩) 40)) w2.heap.size ao cap bs s0 ⟨v, 0, 0, 0, 0, ⟨#[]⟩⟩ from
    ⟨⟨hy.1.fr hF3 (fun e => e) (fun _ _ _ e => e), hy.2⟩, heap_new rfl, heap_old ((hF.block w.heap.size (by simp; omega) (by omega)).trans (heap_old (heap_old (heap_new rfl)))), heap_old ((hF.block (w.heap.size + 1) (by simp) (by omega)).trans (heap_old (heap_new (by simp)))), hFa.trans hF3 (fun _ _ e => e), hsz, HNB.out⟩)
  clear hy hF hFa hF3 HY0 HNB h0 ha
  go_wp2_with fail
  refine Calls.mono (HH.out _) ?_
  rintro e wx ⟨rfl, rfl⟩
  clear HH
  unfold icells at HR0
  go_wp2_with fail
  refine Calls.mono (HM.out _) ?_
  rintro e wx ⟨rfl, rfl⟩
  go_wp2_with fail
  refine Calls.mono (rs_int HR0.out hb 1 mx vn h1) ?_
  rintro e w10 ⟨rfl, hR⟩
  have hc := hR.j.c4
  have hzf := hR.j.fz 4
  have hlt := hR.j.lt
  dsimp only [Ins.put] at hc
  have HR1 := hideIt (hR.putN 4 (by decide) (by decide) vn)
  clear hR HR0
  obtain ⟨pl, er, ea⟩ := s1
  have c2 := HR1.out.y.1.c2
  dsimp only at c2
  by_cases hz : er = 0
  · subst hz
    have HE := hideIt (show endR ⟨v, 0, 0, 0, vn, ⟨#[]⟩⟩ (pl, 0, ea) = (⟨v, 0, 0, 0, vn, ⟨#[]⟩⟩, (pl : Int), 0, 0) from if_pos rfl)
    have HS := hideIt HR1.out.held
    have HA8h := hideIt HR1.out.adrew
    have HF8h := hideIt HR1.out.fdrew
    have HFL := hideIt HR1.out.flt
    have HFRw := hideIt HR1.out.frdrew
    go_wp2_with fail
    refine wp_region_held_drew (S := fun w0 => InsAt w0 w2.heap.size ⟨v, 0, 0, 0, vn, ⟨#[]⟩⟩ ∧ w0.cell? ⟨w.heap.size + 2, 1, none⟩ = some (.int .i64 (pl : Int)) ∧ w0.cell? ⟨w.heap.size + 2, 2, none⟩ = some (.int .i64 0) ∧ w0.cell? ⟨w.heap.size + 2, 3, none⟩ = some (.int .i64 ea)) (by kernel_rfl) ?_ (fun hHeld => ?_)
    · exact HS.out _ (Fr.refl _ _).drew
    refine wpAnyH_take (i := 0) (v := ?v366) rfl (by kernel_rfl) (by kernel_rfl) (by kernel_rfl) (fun _ _ _ h => h) (Or.inl ⟨by rfl, ?hy366⟩) (by assumption) ?rest366
    case hy366 => intro w hSw; (try dsimp only at hSw); obtain ⟨hSI, hS1, hS2, hS3⟩ := hSw; have c0 := hSI.c0; have c1 := hSI.c1; have c2 := hSI.c2; have c3 := hSI.c3; have c4 := hSI.c4; have c5 := hSI.c5; go_simp; (try with_reducible rfl)
    try simp only [Act.put, List.getElem_toArray, List.getElem_cons_zero, List.getElem_cons_succ, List.setIfInBounds_toArray, List.set_cons_zero, List.set_cons_succ]
    refine wpAnyH_take (i := 1) (v := ?v367) rfl (by kernel_rfl) (by kernel_rfl) (by kernel_rfl) (fun _ _ _ h => h) (Or.inl ⟨by rfl, ?hy367⟩) (by assumption) ?rest367
    case hy367 => intro w hSw; (try dsimp only at hSw); go_simp; (try with_reducible rfl)
    try simp only [Act.put, List.getElem_toArray, List.getElem_cons_zero, List.getElem_cons_succ, List.setIfInBounds_toArray, List.set_cons_zero, List.set_cons_succ]
    refine wpAnyH_take (i := 2) (v := ?v368) rfl (by kernel_rfl) (by kernel_rfl) (by kernel_rfl) (fun _ _ _ h => h) (Or.inl ⟨by rfl, ?hy368⟩) (by assumption) ?rest368
    case hy368 => intro w hSw; (try dsimp only at hSw); go_simp; (try with_reducible rfl)
    try simp only [Act.put, List.getElem_toArray, List.getElem_cons_zero, List.getElem_cons_succ, List.setIfInBounds_toArray, List.set_cons_zero, List.set_cons_succ]
    refine wpAnyH_take (i := 3) (v := ?v369) rfl (by kernel_rfl) (by kernel_rfl) (by kernel_rfl) (fun _ _ _ h => h) (Or.inl ⟨by rfl, ?hy369⟩) (by assumption) ?rest369
    case hy369 => intro w hSw; (try dsimp only at hSw); go_simp; (try with_reducible rfl)
    try simp only [Act.put, List.getElem_toArray, List.getElem_cons_zero, List.getElem_cons_succ, List.setIfInBounds_toArray, List.set_cons_zero, List.set_cons_succ]
    refine wpAnyH_take (i := 4) (v := ?v370) rfl (by kernel_rfl) (by kernel_rfl) (by kernel_rfl) (fun _ _ _ h => h) (Or.inl ⟨by rfl, ?hy370⟩) (by assumption) ?rest370
    case hy370 => intro w hSw; (try dsimp only at hSw); go_simp; (try with_reducible rfl)
    try simp only [Act.put, List.getElem_toArray, List.getElem_cons_zero, List.getElem_cons_succ, List.setIfInBounds_toArray, List.set_cons_zero, List.set_cons_succ]
    refine wpAnyH_take (i := 5) (v := ?v371) rfl (by kernel_rfl) (by kernel_rfl) (by kernel_rfl) (fun _ _ _ h => h) (Or.inl ⟨by rfl, ?hy371⟩) (by assumption) ?rest371
    case hy371 => intro w hSw; (try dsimp only at hSw); go_simp; (try with_reducible rfl)
    try simp only [Act.put, List.getElem_toArray, List.getElem_cons_zero, List.getElem_cons_succ, List.setIfInBounds_toArray, List.set_cons_zero, List.set_cons_succ]
    refine wpAnyH_ready (rs := [6]) (by kernel_rfl) (by simp) ?_
    refine AllReadyH.cons rfl (fun K hK => ?_) AllReadyH.nil
    rw [if_pos (by rfl)]
    refine wp_store_mid 40 _ _ rfl w.heap.size 0 (icells ⟨v, 0, 0, 0, vn, ⟨#[]⟩⟩) rfl rfl (there_row HA8h.out _ (Nat.le_refl _)) (by kernel_rfl) (icells_one _) ?_
    obtain ⟨hst, hfr⟩ := store_over (V := (icells ⟨v, 0, 0, 0, vn, ⟨#[]⟩⟩)) HA8h.out (by rfl)
    have HA10 := hideIt hst
    have HFr10 := hideIt (hfr.mono (S' := fun k => k = w.heap.size ∨ k = w.heap.size + 1) (fun _ e => Or.inl e))
    have HG10 := hideIt ((hfr.block (w.heap.size + 1) HFL.out (by omega)).trans HF8h.out)
    clear hst hfr
    generalize hW10 : World.setCells _ w.heap.size 0 _ = W10 at *
    clear hW10
    refine hK.out _ _ ?_ (fun hHeld => ?_)
    · exact HS.out _ ((Fr.refl _ _).drew.trans HFr10.out (fun _ _ e => e))
    clear hK K
    try simp only [Act.put, List.getElem_toArray, List.getElem_cons_zero, List.getElem_cons_succ, List.setIfInBounds_toArray, List.set_cons_zero, List.set_cons_succ]
    refine wpAnyH_take (i := 7) (v := ?v372) rfl (by kernel_rfl) (by kernel_rfl) (by kernel_rfl) (fun _ _ _ h => h) (Or.inl ⟨by rfl, ?hy372⟩) (by assumption) ?rest372
    case hy372 => intro w hSw; (try dsimp only at hSw); go_simp; (try with_reducible rfl)
    try simp only [Act.put, List.getElem_toArray, List.getElem_cons_zero, List.getElem_cons_succ, List.setIfInBounds_toArray, List.set_cons_zero, List.set_cons_succ]
    refine wpAnyH_ready (rs := [8]) (by kernel_rfl) (by simp) ?_
    refine AllReadyH.cons rfl (fun K hK => ?_) AllReadyH.nil
    rw [if_pos (by rfl)]
    refine wp_store_mid 28 _ _ rfl (w.heap.size + 1) 0 #[.int .i64 0, .int .i64 0] rfl rfl (there_row HG10.out _ (Nat.le_refl _)) (by kernel_rfl) (fault_one _ _) ?_
    obtain ⟨hst, hfr⟩ := store_over (V := #[.int .i64 0, .int .i64 0]) HG10.out (by rfl)
    have HG11 := hideIt hst
    have HFr11 := hideIt (HFr10.out.trans hfr (fun _ _ e => Or.inr e))
    have HA11 := hideIt ((hfr.block w.heap.size (Array.getElem?_eq_some_iff.1 HA10.out).1 (by omega)).trans HA10.out)
    clear hst hfr
    generalize hW11 : World.setCells _ (w.heap.size + 1) 0 _ = W11 at *
    clear hW11
    refine hK.out _ _ ?_ (fun hHeld => ?_)
    · exact HS.out _ ((Fr.refl _ _).drew.trans HFr11.out (fun _ _ e => e))
    clear hK K
    try simp only [Act.put, List.getElem_toArray, List.getElem_cons_zero, List.getElem_cons_succ, List.setIfInBounds_toArray, List.set_cons_zero, List.set_cons_succ]
    refine wpAnyH_done (by kernel_rfl) ?_ _
    go_wp2_with fail
    have hA0 := cellOfHeap HA11.out 0 rfl
    have hA1 := cellOfHeap HA11.out 1 rfl
    have hA2 := cellOfHeap HA11.out 2 rfl
    have hA3 := cellOfHeap HA11.out 3 rfl
    have hA4 := cellOfHeap HA11.out 4 rfl
    have hA5 := cellOfHeap HA11.out 5 rfl
    have hF0 := cellOfHeap HG11.out 0 rfl
    have hF1 := cellOfHeap HG11.out 1 rfl
    refine bodyPost_ret (v := readV (⟨v, 0, 0, 0, vn, ⟨#[]⟩⟩, (pl : Int), 0, 0)) (by simp [results, Try.results32, go_sem, readV, icells, zeroI, hA0, hA1, hA2, hA3, hA4, hA5, hF0, hF1]) rfl ⟨by rw [HE.out], ?_⟩
    exact HFRw.out.trans HFr11.out (fun k hk e => by omega)
  · have HE := hideIt (show endR ⟨v, 0, 0, 0, vn, ⟨#[]⟩⟩ (pl, er, ea) = (zeroI, 0, er, ea) from if_neg hz)
    have hzb : (er != 0) = true := by simpa using hz
    have HS := hideIt HR1.out.held
    have HA8h := hideIt HR1.out.adrew
    have HF8h := hideIt HR1.out.fdrew
    have HFL := hideIt HR1.out.flt
    have HFRw := hideIt HR1.out.frdrew
    go_wp2_with fail
    refine wp_region_held_drew (S := fun w0 => InsAt w0 w2.heap.size ⟨v, 0, 0, 0, vn, ⟨#[]⟩⟩ ∧ w0.cell? ⟨w.heap.size + 2, 1, none⟩ = some (.int .i64 (pl : Int)) ∧ w0.cell? ⟨w.heap.size + 2, 2, none⟩ = some (.int .i64 er) ∧ w0.cell? ⟨w.heap.size + 2, 3, none⟩ = some (.int .i64 ea)) (by kernel_rfl) ?_ (fun hHeld => ?_)
    · exact HS.out _ (Fr.refl _ _).drew
    refine wpAnyH_take (i := 0) (v := ?v373) rfl (by kernel_rfl) (by kernel_rfl) (by kernel_rfl) (fun _ _ _ h => h) (Or.inl ⟨by rfl, ?hy373⟩) (by assumption) ?rest373
    case hy373 => intro w hSw; (try dsimp only at hSw); go_simp; (try with_reducible rfl)
    try simp only [Act.put, List.getElem_toArray, List.getElem_cons_zero, List.getElem_cons_succ, List.setIfInBounds_toArray, List.set_cons_zero, List.set_cons_succ]
    refine wpAnyH_take (i := 1) (v := ?v374) rfl (by kernel_rfl) (by kernel_rfl) (by kernel_rfl) (fun _ _ _ h => h) (Or.inl ⟨by rfl, ?hy374⟩) (by assumption) ?rest374
    case hy374 => intro w hSw; (try dsimp only at hSw); go_simp; (try with_reducible rfl)
    try simp only [Act.put, List.getElem_toArray, List.getElem_cons_zero, List.getElem_cons_succ, List.setIfInBounds_toArray, List.set_cons_zero, List.set_cons_succ]
    refine wpAnyH_take (i := 2) (v := ?v375) rfl (by kernel_rfl) (by kernel_rfl) (by kernel_rfl) (fun _ _ _ h => h) (Or.inl ⟨by rfl, ?hy375⟩) (by assumption) ?rest375
    case hy375 => intro w hSw; (try dsimp only at hSw); go_simp; (try with_reducible rfl)
    try simp only [Act.put, List.getElem_toArray, List.getElem_cons_zero, List.getElem_cons_succ, List.setIfInBounds_toArray, List.set_cons_zero, List.set_cons_succ]
    refine wpAnyH_take (i := 3) (v := ?v376) rfl (by kernel_rfl) (by kernel_rfl) (by kernel_rfl) (fun _ _ _ h => h) (Or.inl ⟨by rfl, ?hy376⟩) (by assumption) ?rest376
    case hy376 => intro w hSw; (try dsimp only at hSw); go_simp; (try with_reducible rfl)
    try simp only [Act.put, List.getElem_toArray, List.getElem_cons_zero, List.getElem_cons_succ, List.setIfInBounds_toArray, List.set_cons_zero, List.set_cons_succ]
    refine wpAnyH_take (i := 4) (v := ?v377) rfl (by kernel_rfl) (by kernel_rfl) (by kernel_rfl) (fun _ _ _ h => h) (Or.inl ⟨by rfl, ?hy377⟩) (by assumption) ?rest377
    case hy377 => intro w hSw; (try dsimp only at hSw); go_simp; (try with_reducible rfl)
    try simp only [Act.put, List.getElem_toArray, List.getElem_cons_zero, List.getElem_cons_succ, List.setIfInBounds_toArray, List.set_cons_zero, List.set_cons_succ]
    refine wpAnyH_ready (rs := [5]) (by kernel_rfl) (by simp) ?_
    refine AllReadyH.cons rfl (fun K hK => ?_) AllReadyH.nil
    rw [if_pos (by rfl)]
    refine wp_store_mid 40 _ _ rfl w.heap.size 0 (icells zeroI) rfl rfl (there_row HA8h.out _ (Nat.le_refl _)) (by kernel_rfl) (icells_one _) ?_
    obtain ⟨hst, hfr⟩ := store_over (V := (icells zeroI)) HA8h.out (by rfl)
    have HA10 := hideIt hst
    have HFr10 := hideIt (hfr.mono (S' := fun k => k = w.heap.size ∨ k = w.heap.size + 1) (fun _ e => Or.inl e))
    have HG10 := hideIt ((hfr.block (w.heap.size + 1) HFL.out (by omega)).trans HF8h.out)
    clear hst hfr
    generalize hW10 : World.setCells _ w.heap.size 0 _ = W10 at *
    clear hW10
    refine hK.out _ _ ?_ (fun hHeld => ?_)
    · exact HS.out _ ((Fr.refl _ _).drew.trans HFr10.out (fun _ _ e => e))
    clear hK K
    try simp only [Act.put, List.getElem_toArray, List.getElem_cons_zero, List.getElem_cons_succ, List.setIfInBounds_toArray, List.set_cons_zero, List.set_cons_succ]
    refine wpAnyH_take (i := 6) (v := ?v378) rfl (by kernel_rfl) (by kernel_rfl) (by kernel_rfl) (fun _ _ _ h => h) (Or.inl ⟨by rfl, ?hy378⟩) (by assumption) ?rest378
    case hy378 => intro w hSw; (try dsimp only at hSw); go_simp; (try with_reducible rfl)
    try simp only [Act.put, List.getElem_toArray, List.getElem_cons_zero, List.getElem_cons_succ, List.setIfInBounds_toArray, List.set_cons_zero, List.set_cons_succ]
    refine wpAnyH_ready (rs := [7]) (by kernel_rfl) (by simp) ?_
    refine AllReadyH.cons rfl (fun K hK => ?_) AllReadyH.nil
    rw [if_pos (by rfl)]
    refine wp_store_mid 28 _ _ rfl (w.heap.size + 1) 0 #[.int .i64 er, .int .i64 ea] rfl rfl (there_row HG10.out _ (Nat.le_refl _)) (by kernel_rfl) (fault_one _ _) ?_
    obtain ⟨hst, hfr⟩ := store_over (V := #[.int .i64 er, .int .i64 ea]) HG10.out (by rfl)
    have HG11 := hideIt hst
    have HFr11 := hideIt (HFr10.out.trans hfr (fun _ _ e => Or.inr e))
    have HA11 := hideIt ((hfr.block w.heap.size (Array.getElem?_eq_some_iff.1 HA10.out).1 (by omega)).trans HA10.out)
    clear hst hfr
    generalize hW11 : World.setCells _ (w.heap.size + 1) 0 _ = W11 at *
    clear hW11
    refine hK.out _ _ ?_ (fun hHeld => ?_)
    · exact HS.out _ ((Fr.refl _ _).drew.trans HFr11.out (fun _ _ e => e))
    clear hK K
    try simp only [Act.put, List.getElem_toArray, List.getElem_cons_zero, List.getElem_cons_succ, List.setIfInBounds_toArray, List.set_cons_zero, List.set_cons_succ]
    refine wpAnyH_done (by kernel_rfl) ?_ _
    go_wp2_with fail
    have hA0 := cellOfHeap HA11.out 0 rfl
    have hA1 := cellOfHeap HA11.out 1 rfl
    have hA2 := cellOfHeap HA11.out 2 rfl
    have hA3 := cellOfHeap HA11.out 3 rfl
    have hA4 := cellOfHeap HA11.out 4 rfl
    have hA5 := cellOfHeap HA11.out 5 rfl
    have hF0 := cellOfHeap HG11.out 0 rfl
    have hF1 := cellOfHeap HG11.out 1 rfl
    refine bodyPost_ret (v := readV (zeroI, 0, er, ea)) (by simp [results, Try.results32, go_sem, readV, icells, zeroI, hA0, hA1, hA2, hA3, hA4, hA5, hF0, hF1]) rfl ⟨by rw [HE.out], ?_⟩
    exact HFRw.out.trans HFr11.out (fun k hk e => by omega)

end Go.Proofs.Ytojgikaoiegmpaa

/- Code: the document's Read: letters ABCN, letters AN. -/
namespace Go.Proofs.Ytojgikaoiegmpaa
open Go.RowKit Go.IntWalk Go.Lib
set_option linter.unusedSimpArgs false
set_option linter.unusedVariables false
set_option maxRecDepth 100000

set_option maxRecDepth 100000 in
set_option maxHeartbeats 4000000 in
theorem vread_ABCN (ao : Option Addr) (cap : Nat) (bs : List UInt8) (a : Nat) (w : World) (hB : BsAt w ao bs) (hb : bs.length ≤ 140737488355328) (hcl : bs.length ≤ cap) (hcm : cap ≤ maxLen) (hnb : ∀ k, blk ao k → k < w.heap.size) (ha : a ≤ bs.length) (v : Int) (va : Int) (vb : Int) (vc : Int) (vn : Int) (mx : Int) (s0 s1 s2 s3 s4 : Nat × Int × Int) (h0 : rInt bs 1 15 (a, 0, 0) = (v, s0)) (h1 : rInt bs 0 7 s0 = (va, s1)) (h2 : rInt bs 0 7 s1 = (vb, s2)) (h3 : rInt bs 0 7 s2 = (vc, s3)) (h4 : rInt bs 1 mx s3 = (vn, s4)) (hmx : mostZ v = mx) (ht : hasT v = (true, true, true, true, false)) :
    Calls Try.prog 32 #[.slice ao bs.length cap, .int .i64 (a : Int)] w fun e w' => e = .returned (readV (endR ⟨v, va, vb, vc, vn, ⟨#[]⟩⟩ s4)) ∧ Fr (fun _ => False) w w' := by
  have hd1 : decide ((a : Int) < 0) = false := decide_eq_false (by omega)
  have hd2 : decide ((bs.length : Int) < (a : Int)) = false := decide_eq_false (by omega)
  have HH := hideIt (fun w => by have := vhas_any v w; rw [ht] at this; exact this)
  unfold hasV at HH
  have HM := hideIt (fun w => by have := vmost_any v w; rw [hmx] at this; exact this)
  have HY0 := hideIt (show YOk ((((w.alloc (.cells (icells zeroI) 40)).alloc (.cells #[.int .i64 0, .int .i64 0] 28))).alloc (.cells #[.slice ao bs.length cap, .int .i64 (a : Int), .int .i64 0, .int .i64 0] 63)) (w.heap.size + 2) ao cap bs (a, 0, 0) from
    ⟨⟨heap_new (by simp), hB.fr ((((Fr.refl (fun _ => False) w).alloc _).alloc _).alloc _) (fun _ _ _ e => e)⟩, fun e => by have := hnb _ e; omega, ha⟩)
  have HNB := hideIt hnb
  have HCM := hideIt hcm
  clear hB ht hnb hcm hmx
  go_enter Try.func32, Try.ntmps32
  go_wp2_with fail
  refine Calls.mono (yint_any (w.heap.size + 2) ao cap bs (a, 0, 0) 1 15 _ HY0.out hb) ?_
  rw [h0]
  rintro e w2 ⟨rfl, hy, hF⟩
  have hFa : Fr (fun _ => False) w w2 := ((((Fr.refl (fun _ => False) w).alloc _).alloc _).alloc _).trans hF (fun k hk e => by omega)
  have hsz : w.heap.size + 2 < w2.heap.size := hy.1.lt
  have hF3 : Fr (fun _ => False) w2 (w2.alloc (.cells (icells ⟨v, 0, 0, 0, 0, ⟨#[]⟩⟩) 40)) := (Fr.refl _ _).alloc _
  have HR0 := hideIt (show RS w (w2.alloc (.cells (icells ⟨v, 0, 0, 0, 0, ⟨#[]⟩⟩) 40)) w2.heap.size ao cap bs s0 ⟨v, 0, 0, 0, 0, ⟨#[]⟩⟩ from
    ⟨⟨hy.1.fr hF3 (fun e => e) (fun _ _ _ e => e), hy.2⟩, heap_new rfl, heap_old ((hF.block w.heap.size (by simp; omega) (by omega)).trans (heap_old (heap_old (heap_new rfl)))), heap_old ((hF.block (w.heap.size + 1) (by simp) (by omega)).trans (heap_old (heap_new (by simp)))), hFa.trans hF3 (fun _ _ e => e), hsz, HNB.out⟩)
  clear hy hF hFa hF3 HY0 HNB h0 ha
  go_wp2_with fail
  refine Calls.mono (HH.out _) ?_
  rintro e wx ⟨rfl, rfl⟩
  clear HH
  unfold icells at HR0
  go_wp2_with fail
  refine Calls.mono (rs_int HR0.out hb 0 7 va h1) ?_
  rintro e w10 ⟨rfl, hR⟩
  have hc := hR.j.c1
  have hzf := hR.j.fz 1
  have hlt := hR.j.lt
  dsimp only [Ins.put] at hc
  have HR1 := hideIt (hR.putN 1 (by decide) (by decide) va)
  clear hR HR0
  go_wp2_with fail
  clear hc hzf hlt
  refine Calls.mono (rs_int HR1.out hb 0 7 vb h2) ?_
  rintro e w11 ⟨rfl, hR⟩
  have hc := hR.j.c2
  have hzf := hR.j.fz 2
  have hlt := hR.j.lt
  dsimp only [Ins.put] at hc
  have HR2 := hideIt (hR.putN 2 (by decide) (by decide) vb)
  clear hR HR1
  go_wp2_with fail
  clear hc hzf hlt
  refine Calls.mono (rs_int HR2.out hb 0 7 vc h3) ?_
  rintro e w12 ⟨rfl, hR⟩
  have hc := hR.j.c3
  have hzf := hR.j.fz 3
  have hlt := hR.j.lt
  dsimp only [Ins.put] at hc
  have HR3 := hideIt (hR.putN 3 (by decide) (by decide) vc)
  clear hR HR2
  have c0 := HR3.out.j.c0
  dsimp only [Ins.put] at c0
  go_wp2_with fail
  clear hc hzf hlt
  refine Calls.mono (HM.out _) ?_
  rintro e wx ⟨rfl, rfl⟩
  go_wp2_with fail
  refine Calls.mono (rs_int HR3.out hb 1 mx vn h4) ?_
  rintro e w13 ⟨rfl, hR⟩
  have hc := hR.j.c4
  have hzf := hR.j.fz 4
  have hlt := hR.j.lt
  dsimp only [Ins.put] at hc
  have HR4 := hideIt (hR.putN 4 (by decide) (by decide) vn)
  clear hR HR3
  obtain ⟨pl, er, ea⟩ := s4
  have c2 := HR4.out.y.1.c2
  dsimp only at c2
  by_cases hz : er = 0
  · subst hz
    have HE := hideIt (show endR ⟨v, va, vb, vc, vn, ⟨#[]⟩⟩ (pl, 0, ea) = (⟨v, va, vb, vc, vn, ⟨#[]⟩⟩, (pl : Int), 0, 0) from if_pos rfl)
    have HS := hideIt HR4.out.held
    have HA8h := hideIt HR4.out.adrew
    have HF8h := hideIt HR4.out.fdrew
    have HFL := hideIt HR4.out.flt
    have HFRw := hideIt HR4.out.frdrew
    go_wp2_with fail
    refine wp_region_held_drew (S := fun w0 => InsAt w0 w2.heap.size ⟨v, va, vb, vc, vn, ⟨#[]⟩⟩ ∧ w0.cell? ⟨w.heap.size + 2, 1, none⟩ = some (.int .i64 (pl : Int)) ∧ w0.cell? ⟨w.heap.size + 2, 2, none⟩ = some (.int .i64 0) ∧ w0.cell? ⟨w.heap.size + 2, 3, none⟩ = some (.int .i64 ea)) (by kernel_rfl) ?_ (fun hHeld => ?_)
    · exact HS.out _ (Fr.refl _ _).drew
    refine wpAnyH_take (i := 0) (v := ?v379) rfl (by kernel_rfl) (by kernel_rfl) (by kernel_rfl) (fun _ _ _ h => h) (Or.inl ⟨by rfl, ?hy379⟩) (by assumption) ?rest379
    case hy379 => intro w hSw; (try dsimp only at hSw); obtain ⟨hSI, hS1, hS2, hS3⟩ := hSw; have c0 := hSI.c0; have c1 := hSI.c1; have c2 := hSI.c2; have c3 := hSI.c3; have c4 := hSI.c4; have c5 := hSI.c5; go_simp; (try with_reducible rfl)
    try simp only [Act.put, List.getElem_toArray, List.getElem_cons_zero, List.getElem_cons_succ, List.setIfInBounds_toArray, List.set_cons_zero, List.set_cons_succ]
    refine wpAnyH_take (i := 1) (v := ?v380) rfl (by kernel_rfl) (by kernel_rfl) (by kernel_rfl) (fun _ _ _ h => h) (Or.inl ⟨by rfl, ?hy380⟩) (by assumption) ?rest380
    case hy380 => intro w hSw; (try dsimp only at hSw); go_simp; (try with_reducible rfl)
    try simp only [Act.put, List.getElem_toArray, List.getElem_cons_zero, List.getElem_cons_succ, List.setIfInBounds_toArray, List.set_cons_zero, List.set_cons_succ]
    refine wpAnyH_take (i := 2) (v := ?v381) rfl (by kernel_rfl) (by kernel_rfl) (by kernel_rfl) (fun _ _ _ h => h) (Or.inl ⟨by rfl, ?hy381⟩) (by assumption) ?rest381
    case hy381 => intro w hSw; (try dsimp only at hSw); go_simp; (try with_reducible rfl)
    try simp only [Act.put, List.getElem_toArray, List.getElem_cons_zero, List.getElem_cons_succ, List.setIfInBounds_toArray, List.set_cons_zero, List.set_cons_succ]
    refine wpAnyH_take (i := 3) (v := ?v382) rfl (by kernel_rfl) (by kernel_rfl) (by kernel_rfl) (fun _ _ _ h => h) (Or.inl ⟨by rfl, ?hy382⟩) (by assumption) ?rest382
    case hy382 => intro w hSw; (try dsimp only at hSw); go_simp; (try with_reducible rfl)
    try simp only [Act.put, List.getElem_toArray, List.getElem_cons_zero, List.getElem_cons_succ, List.setIfInBounds_toArray, List.set_cons_zero, List.set_cons_succ]
    refine wpAnyH_take (i := 4) (v := ?v383) rfl (by kernel_rfl) (by kernel_rfl) (by kernel_rfl) (fun _ _ _ h => h) (Or.inl ⟨by rfl, ?hy383⟩) (by assumption) ?rest383
    case hy383 => intro w hSw; (try dsimp only at hSw); go_simp; (try with_reducible rfl)
    try simp only [Act.put, List.getElem_toArray, List.getElem_cons_zero, List.getElem_cons_succ, List.setIfInBounds_toArray, List.set_cons_zero, List.set_cons_succ]
    refine wpAnyH_take (i := 5) (v := ?v384) rfl (by kernel_rfl) (by kernel_rfl) (by kernel_rfl) (fun _ _ _ h => h) (Or.inl ⟨by rfl, ?hy384⟩) (by assumption) ?rest384
    case hy384 => intro w hSw; (try dsimp only at hSw); go_simp; (try with_reducible rfl)
    try simp only [Act.put, List.getElem_toArray, List.getElem_cons_zero, List.getElem_cons_succ, List.setIfInBounds_toArray, List.set_cons_zero, List.set_cons_succ]
    refine wpAnyH_ready (rs := [6]) (by kernel_rfl) (by simp) ?_
    refine AllReadyH.cons rfl (fun K hK => ?_) AllReadyH.nil
    rw [if_pos (by rfl)]
    refine wp_store_mid 40 _ _ rfl w.heap.size 0 (icells ⟨v, va, vb, vc, vn, ⟨#[]⟩⟩) rfl rfl (there_row HA8h.out _ (Nat.le_refl _)) (by kernel_rfl) (icells_one _) ?_
    obtain ⟨hst, hfr⟩ := store_over (V := (icells ⟨v, va, vb, vc, vn, ⟨#[]⟩⟩)) HA8h.out (by rfl)
    have HA10 := hideIt hst
    have HFr10 := hideIt (hfr.mono (S' := fun k => k = w.heap.size ∨ k = w.heap.size + 1) (fun _ e => Or.inl e))
    have HG10 := hideIt ((hfr.block (w.heap.size + 1) HFL.out (by omega)).trans HF8h.out)
    clear hst hfr
    generalize hW10 : World.setCells _ w.heap.size 0 _ = W10 at *
    clear hW10
    refine hK.out _ _ ?_ (fun hHeld => ?_)
    · exact HS.out _ ((Fr.refl _ _).drew.trans HFr10.out (fun _ _ e => e))
    clear hK K
    try simp only [Act.put, List.getElem_toArray, List.getElem_cons_zero, List.getElem_cons_succ, List.setIfInBounds_toArray, List.set_cons_zero, List.set_cons_succ]
    refine wpAnyH_take (i := 7) (v := ?v385) rfl (by kernel_rfl) (by kernel_rfl) (by kernel_rfl) (fun _ _ _ h => h) (Or.inl ⟨by rfl, ?hy385⟩) (by assumption) ?rest385
    case hy385 => intro w hSw; (try dsimp only at hSw); go_simp; (try with_reducible rfl)
    try simp only [Act.put, List.getElem_toArray, List.getElem_cons_zero, List.getElem_cons_succ, List.setIfInBounds_toArray, List.set_cons_zero, List.set_cons_succ]
    refine wpAnyH_ready (rs := [8]) (by kernel_rfl) (by simp) ?_
    refine AllReadyH.cons rfl (fun K hK => ?_) AllReadyH.nil
    rw [if_pos (by rfl)]
    refine wp_store_mid 28 _ _ rfl (w.heap.size + 1) 0 #[.int .i64 0, .int .i64 0] rfl rfl (there_row HG10.out _ (Nat.le_refl _)) (by kernel_rfl) (fault_one _ _) ?_
    obtain ⟨hst, hfr⟩ := store_over (V := #[.int .i64 0, .int .i64 0]) HG10.out (by rfl)
    have HG11 := hideIt hst
    have HFr11 := hideIt (HFr10.out.trans hfr (fun _ _ e => Or.inr e))
    have HA11 := hideIt ((hfr.block w.heap.size (Array.getElem?_eq_some_iff.1 HA10.out).1 (by omega)).trans HA10.out)
    clear hst hfr
    generalize hW11 : World.setCells _ (w.heap.size + 1) 0 _ = W11 at *
    clear hW11
    refine hK.out _ _ ?_ (fun hHeld => ?_)
    · exact HS.out _ ((Fr.refl _ _).drew.trans HFr11.out (fun _ _ e => e))
    clear hK K
    try simp only [Act.put, List.getElem_toArray, List.getElem_cons_zero, List.getElem_cons_succ, List.setIfInBounds_toArray, List.set_cons_zero, List.set_cons_succ]
    refine wpAnyH_done (by kernel_rfl) ?_ _
    go_wp2_with fail
    have hA0 := cellOfHeap HA11.out 0 rfl
    have hA1 := cellOfHeap HA11.out 1 rfl
    have hA2 := cellOfHeap HA11.out 2 rfl
    have hA3 := cellOfHeap HA11.out 3 rfl
    have hA4 := cellOfHeap HA11.out 4 rfl
    have hA5 := cellOfHeap HA11.out 5 rfl
    have hF0 := cellOfHeap HG11.out 0 rfl
    have hF1 := cellOfHeap HG11.out 1 rfl
    refine bodyPost_ret (v := readV (⟨v, va, vb, vc, vn, ⟨#[]⟩⟩, (pl : Int), 0, 0)) (by simp [results, Try.results32, go_sem, readV, icells, zeroI, hA0, hA1, hA2, hA3, hA4, hA5, hF0, hF1]) rfl ⟨by rw [HE.out], ?_⟩
    exact HFRw.out.trans HFr11.out (fun k hk e => by omega)
  · have HE := hideIt (show endR ⟨v, va, vb, vc, vn, ⟨#[]⟩⟩ (pl, er, ea) = (zeroI, 0, er, ea) from if_neg hz)
    have hzb : (er != 0) = true := by simpa using hz
    have HS := hideIt HR4.out.held
    have HA8h := hideIt HR4.out.adrew
    have HF8h := hideIt HR4.out.fdrew
    have HFL := hideIt HR4.out.flt
    have HFRw := hideIt HR4.out.frdrew
    go_wp2_with fail
    refine wp_region_held_drew (S := fun w0 => InsAt w0 w2.heap.size ⟨v, va, vb, vc, vn, ⟨#[]⟩⟩ ∧ w0.cell? ⟨w.heap.size + 2, 1, none⟩ = some (.int .i64 (pl : Int)) ∧ w0.cell? ⟨w.heap.size + 2, 2, none⟩ = some (.int .i64 er) ∧ w0.cell? ⟨w.heap.size + 2, 3, none⟩ = some (.int .i64 ea)) (by kernel_rfl) ?_ (fun hHeld => ?_)
    · exact HS.out _ (Fr.refl _ _).drew
    refine wpAnyH_take (i := 0) (v := ?v386) rfl (by kernel_rfl) (by kernel_rfl) (by kernel_rfl) (fun _ _ _ h => h) (Or.inl ⟨by rfl, ?hy386⟩) (by assumption) ?rest386
    case hy386 => intro w hSw; (try dsimp only at hSw); go_simp; (try with_reducible rfl)
    try simp only [Act.put, List.getElem_toArray, List.getElem_cons_zero, List.getElem_cons_succ, List.setIfInBounds_toArray, List.set_cons_zero, List.set_cons_succ]
    refine wpAnyH_take (i := 1) (v := ?v387) rfl (by kernel_rfl) (by kernel_rfl) (by kernel_rfl) (fun _ _ _ h => h) (Or.inl ⟨by rfl, ?hy387⟩) (by assumption) ?rest387
    case hy387 => intro w hSw; (try dsimp only at hSw); go_simp; (try with_reducible rfl)
    try simp only [Act.put, List.getElem_toArray, List.getElem_cons_zero, List.getElem_cons_succ, List.setIfInBounds_toArray, List.set_cons_zero, List.set_cons_succ]
    refine wpAnyH_take (i := 2) (v := ?v388) rfl (by kernel_rfl) (by kernel_rfl) (by kernel_rfl) (fun _ _ _ h => h) (Or.inl ⟨by rfl, ?hy388⟩) (by assumption) ?rest388
    case hy388 => intro w hSw; (try dsimp only at hSw); go_simp; (try with_reducible rfl)
    try simp only [Act.put, List.getElem_toArray, List.getElem_cons_zero, List.getElem_cons_succ, List.setIfInBounds_toArray, List.set_cons_zero, List.set_cons_succ]
    refine wpAnyH_take (i := 3) (v := ?v389) rfl (by kernel_rfl) (by kernel_rfl) (by kernel_rfl) (fun _ _ _ h => h) (Or.inl ⟨by rfl, ?hy389⟩) (by assumption) ?rest389
    case hy389 => intro w hSw; (try dsimp only at hSw); go_simp; (try with_reducible rfl)
    try simp only [Act.put, List.getElem_toArray, List.getElem_cons_zero, List.getElem_cons_succ, List.setIfInBounds_toArray, List.set_cons_zero, List.set_cons_succ]
    refine wpAnyH_take (i := 4) (v := ?v390) rfl (by kernel_rfl) (by kernel_rfl) (by kernel_rfl) (fun _ _ _ h => h) (Or.inl ⟨by rfl, ?hy390⟩) (by assumption) ?rest390
    case hy390 => intro w hSw; (try dsimp only at hSw); go_simp; (try with_reducible rfl)
    try simp only [Act.put, List.getElem_toArray, List.getElem_cons_zero, List.getElem_cons_succ, List.setIfInBounds_toArray, List.set_cons_zero, List.set_cons_succ]
    refine wpAnyH_ready (rs := [5]) (by kernel_rfl) (by simp) ?_
    refine AllReadyH.cons rfl (fun K hK => ?_) AllReadyH.nil
    rw [if_pos (by rfl)]
    refine wp_store_mid 40 _ _ rfl w.heap.size 0 (icells zeroI) rfl rfl (there_row HA8h.out _ (Nat.le_refl _)) (by kernel_rfl) (icells_one _) ?_
    obtain ⟨hst, hfr⟩ := store_over (V := (icells zeroI)) HA8h.out (by rfl)
    have HA10 := hideIt hst
    have HFr10 := hideIt (hfr.mono (S' := fun k => k = w.heap.size ∨ k = w.heap.size + 1) (fun _ e => Or.inl e))
    have HG10 := hideIt ((hfr.block (w.heap.size + 1) HFL.out (by omega)).trans HF8h.out)
    clear hst hfr
    generalize hW10 : World.setCells _ w.heap.size 0 _ = W10 at *
    clear hW10
    refine hK.out _ _ ?_ (fun hHeld => ?_)
    · exact HS.out _ ((Fr.refl _ _).drew.trans HFr10.out (fun _ _ e => e))
    clear hK K
    try simp only [Act.put, List.getElem_toArray, List.getElem_cons_zero, List.getElem_cons_succ, List.setIfInBounds_toArray, List.set_cons_zero, List.set_cons_succ]
    refine wpAnyH_take (i := 6) (v := ?v391) rfl (by kernel_rfl) (by kernel_rfl) (by kernel_rfl) (fun _ _ _ h => h) (Or.inl ⟨by rfl, ?hy391⟩) (by assumption) ?rest391
    case hy391 => intro w hSw; (try dsimp only at hSw); go_simp; (try with_reducible rfl)
    try simp only [Act.put, List.getElem_toArray, List.getElem_cons_zero, List.getElem_cons_succ, List.setIfInBounds_toArray, List.set_cons_zero, List.set_cons_succ]
    refine wpAnyH_ready (rs := [7]) (by kernel_rfl) (by simp) ?_
    refine AllReadyH.cons rfl (fun K hK => ?_) AllReadyH.nil
    rw [if_pos (by rfl)]
    refine wp_store_mid 28 _ _ rfl (w.heap.size + 1) 0 #[.int .i64 er, .int .i64 ea] rfl rfl (there_row HG10.out _ (Nat.le_refl _)) (by kernel_rfl) (fault_one _ _) ?_
    obtain ⟨hst, hfr⟩ := store_over (V := #[.int .i64 er, .int .i64 ea]) HG10.out (by rfl)
    have HG11 := hideIt hst
    have HFr11 := hideIt (HFr10.out.trans hfr (fun _ _ e => Or.inr e))
    have HA11 := hideIt ((hfr.block w.heap.size (Array.getElem?_eq_some_iff.1 HA10.out).1 (by omega)).trans HA10.out)
    clear hst hfr
    generalize hW11 : World.setCells _ (w.heap.size + 1) 0 _ = W11 at *
    clear hW11
    refine hK.out _ _ ?_ (fun hHeld => ?_)
    · exact HS.out _ ((Fr.refl _ _).drew.trans HFr11.out (fun _ _ e => e))
    clear hK K
    try simp only [Act.put, List.getElem_toArray, List.getElem_cons_zero, List.getElem_cons_succ, List.setIfInBounds_toArray, List.set_cons_zero, List.set_cons_succ]
    refine wpAnyH_done (by kernel_rfl) ?_ _
    go_wp2_with fail
    have hA0 := cellOfHeap HA11.out 0 rfl
    have hA1 := cellOfHeap HA11.out 1 rfl
    have hA2 := cellOfHeap HA11.out 2 rfl
    have hA3 := cellOfHeap HA11.out 3 rfl
    have hA4 := cellOfHeap HA11.out 4 rfl
    have hA5 := cellOfHeap HA11.out 5 rfl
    have hF0 := cellOfHeap HG11.out 0 rfl
    have hF1 := cellOfHeap HG11.out 1 rfl
    refine bodyPost_ret (v := readV (zeroI, 0, er, ea)) (by simp [results, Try.results32, go_sem, readV, icells, zeroI, hA0, hA1, hA2, hA3, hA4, hA5, hF0, hF1]) rfl ⟨by rw [HE.out], ?_⟩
    exact HFRw.out.trans HFr11.out (fun k hk e => by omega)

set_option maxRecDepth 100000 in
set_option maxHeartbeats 4000000 in
theorem vread_AN (ao : Option Addr) (cap : Nat) (bs : List UInt8) (a : Nat) (w : World) (hB : BsAt w ao bs) (hb : bs.length ≤ 140737488355328) (hcl : bs.length ≤ cap) (hcm : cap ≤ maxLen) (hnb : ∀ k, blk ao k → k < w.heap.size) (ha : a ≤ bs.length) (v : Int) (va : Int) (vn : Int) (mx : Int) (s0 s1 s2 : Nat × Int × Int) (h0 : rInt bs 1 15 (a, 0, 0) = (v, s0)) (h1 : rInt bs 0 7 s0 = (va, s1)) (h2 : rInt bs 1 mx s1 = (vn, s2)) (hmx : mostZ v = mx) (ht : hasT v = (true, false, false, true, false)) :
    Calls Try.prog 32 #[.slice ao bs.length cap, .int .i64 (a : Int)] w fun e w' => e = .returned (readV (endR ⟨v, va, 0, 0, vn, ⟨#[]⟩⟩ s2)) ∧ Fr (fun _ => False) w w' := by
  have hd1 : decide ((a : Int) < 0) = false := decide_eq_false (by omega)
  have hd2 : decide ((bs.length : Int) < (a : Int)) = false := decide_eq_false (by omega)
  have HH := hideIt (fun w => by have := vhas_any v w; rw [ht] at this; exact this)
  unfold hasV at HH
  have HM := hideIt (fun w => by have := vmost_any v w; rw [hmx] at this; exact this)
  have HY0 := hideIt (show YOk ((((w.alloc (.cells (icells zeroI) 40)).alloc (.cells #[.int .i64 0, .int .i64 0] 28))).alloc (.cells #[.slice ao bs.length cap, .int .i64 (a : Int), .int .i64 0, .int .i64 0] 63)) (w.heap.size + 2) ao cap bs (a, 0, 0) from
    ⟨⟨heap_new (by simp), hB.fr ((((Fr.refl (fun _ => False) w).alloc _).alloc _).alloc _) (fun _ _ _ e => e)⟩, fun e => by have := hnb _ e; omega, ha⟩)
  have HNB := hideIt hnb
  have HCM := hideIt hcm
  clear hB ht hnb hcm hmx
  go_enter Try.func32, Try.ntmps32
  go_wp2_with fail
  refine Calls.mono (yint_any (w.heap.size + 2) ao cap bs (a, 0, 0) 1 15 _ HY0.out hb) ?_
  rw [h0]
  rintro e w2 ⟨rfl, hy, hF⟩
  have hFa : Fr (fun _ => False) w w2 := ((((Fr.refl (fun _ => False) w).alloc _).alloc _).alloc _).trans hF (fun k hk e => by omega)
  have hsz : w.heap.size + 2 < w2.heap.size := hy.1.lt
  have hF3 : Fr (fun _ => False) w2 (w2.alloc (.cells (icells ⟨v, 0, 0, 0, 0, ⟨#[]⟩⟩) 40)) := (Fr.refl _ _).alloc _
  have HR0 := hideIt (show RS w (w2.alloc (.cells (icells ⟨v, 0, 0, 0, 0, ⟨#[]⟩⟩) 40)) w2.heap.size ao cap bs s0 ⟨v, 0, 0, 0, 0, ⟨#[]⟩⟩ from
    ⟨⟨hy.1.fr hF3 (fun e => e) (fun _ _ _ e => e), hy.2⟩, heap_new rfl, heap_old ((hF.block w.heap.size (by simp; omega) (by omega)).trans (heap_old (heap_old (heap_new rfl)))), heap_old ((hF.block (w.heap.size + 1) (by simp) (by omega)).trans (heap_old (heap_new (by simp)))), hFa.trans hF3 (fun _ _ e => e), hsz, HNB.out⟩)
  clear hy hF hFa hF3 HY0 HNB h0 ha
  go_wp2_with fail
  refine Calls.mono (HH.out _) ?_
  rintro e wx ⟨rfl, rfl⟩
  clear HH
  unfold icells at HR0
  go_wp2_with fail
  refine Calls.mono (rs_int HR0.out hb 0 7 va h1) ?_
  rintro e w10 ⟨rfl, hR⟩
  have hc := hR.j.c1
  have hzf := hR.j.fz 1
  have hlt := hR.j.lt
  dsimp only [Ins.put] at hc
  have HR1 := hideIt (hR.putN 1 (by decide) (by decide) va)
  clear hR HR0
  have c0 := HR1.out.j.c0
  dsimp only [Ins.put] at c0
  go_wp2_with fail
  clear hc hzf hlt
  refine Calls.mono (HM.out _) ?_
  rintro e wx ⟨rfl, rfl⟩
  go_wp2_with fail
  refine Calls.mono (rs_int HR1.out hb 1 mx vn h2) ?_
  rintro e w11 ⟨rfl, hR⟩
  have hc := hR.j.c4
  have hzf := hR.j.fz 4
  have hlt := hR.j.lt
  dsimp only [Ins.put] at hc
  have HR2 := hideIt (hR.putN 4 (by decide) (by decide) vn)
  clear hR HR1
  obtain ⟨pl, er, ea⟩ := s2
  have c2 := HR2.out.y.1.c2
  dsimp only at c2
  by_cases hz : er = 0
  · subst hz
    have HE := hideIt (show endR ⟨v, va, 0, 0, vn, ⟨#[]⟩⟩ (pl, 0, ea) = (⟨v, va, 0, 0, vn, ⟨#[]⟩⟩, (pl : Int), 0, 0) from if_pos rfl)
    have HS := hideIt HR2.out.held
    have HA8h := hideIt HR2.out.adrew
    have HF8h := hideIt HR2.out.fdrew
    have HFL := hideIt HR2.out.flt
    have HFRw := hideIt HR2.out.frdrew
    go_wp2_with fail
    refine wp_region_held_drew (S := fun w0 => InsAt w0 w2.heap.size ⟨v, va, 0, 0, vn, ⟨#[]⟩⟩ ∧ w0.cell? ⟨w.heap.size + 2, 1, none⟩ = some (.int .i64 (pl : Int)) ∧ w0.cell? ⟨w.heap.size + 2, 2, none⟩ = some (.int .i64 0) ∧ w0.cell? ⟨w.heap.size + 2, 3, none⟩ = some (.int .i64 ea)) (by kernel_rfl) ?_ (fun hHeld => ?_)
    · exact HS.out _ (Fr.refl _ _).drew
    refine wpAnyH_take (i := 0) (v := ?v392) rfl (by kernel_rfl) (by kernel_rfl) (by kernel_rfl) (fun _ _ _ h => h) (Or.inl ⟨by rfl, ?hy392⟩) (by assumption) ?rest392
    case hy392 => intro w hSw; (try dsimp only at hSw); obtain ⟨hSI, hS1, hS2, hS3⟩ := hSw; have c0 := hSI.c0; have c1 := hSI.c1; have c2 := hSI.c2; have c3 := hSI.c3; have c4 := hSI.c4; have c5 := hSI.c5; go_simp; (try with_reducible rfl)
    try simp only [Act.put, List.getElem_toArray, List.getElem_cons_zero, List.getElem_cons_succ, List.setIfInBounds_toArray, List.set_cons_zero, List.set_cons_succ]
    refine wpAnyH_take (i := 1) (v := ?v393) rfl (by kernel_rfl) (by kernel_rfl) (by kernel_rfl) (fun _ _ _ h => h) (Or.inl ⟨by rfl, ?hy393⟩) (by assumption) ?rest393
    case hy393 => intro w hSw; (try dsimp only at hSw); go_simp; (try with_reducible rfl)
    try simp only [Act.put, List.getElem_toArray, List.getElem_cons_zero, List.getElem_cons_succ, List.setIfInBounds_toArray, List.set_cons_zero, List.set_cons_succ]
    refine wpAnyH_take (i := 2) (v := ?v394) rfl (by kernel_rfl) (by kernel_rfl) (by kernel_rfl) (fun _ _ _ h => h) (Or.inl ⟨by rfl, ?hy394⟩) (by assumption) ?rest394
    case hy394 => intro w hSw; (try dsimp only at hSw); go_simp; (try with_reducible rfl)
    try simp only [Act.put, List.getElem_toArray, List.getElem_cons_zero, List.getElem_cons_succ, List.setIfInBounds_toArray, List.set_cons_zero, List.set_cons_succ]
    refine wpAnyH_take (i := 3) (v := ?v395) rfl (by kernel_rfl) (by kernel_rfl) (by kernel_rfl) (fun _ _ _ h => h) (Or.inl ⟨by rfl, ?hy395⟩) (by assumption) ?rest395
    case hy395 => intro w hSw; (try dsimp only at hSw); go_simp; (try with_reducible rfl)
    try simp only [Act.put, List.getElem_toArray, List.getElem_cons_zero, List.getElem_cons_succ, List.setIfInBounds_toArray, List.set_cons_zero, List.set_cons_succ]
    refine wpAnyH_take (i := 4) (v := ?v396) rfl (by kernel_rfl) (by kernel_rfl) (by kernel_rfl) (fun _ _ _ h => h) (Or.inl ⟨by rfl, ?hy396⟩) (by assumption) ?rest396
    case hy396 => intro w hSw; (try dsimp only at hSw); go_simp; (try with_reducible rfl)
    try simp only [Act.put, List.getElem_toArray, List.getElem_cons_zero, List.getElem_cons_succ, List.setIfInBounds_toArray, List.set_cons_zero, List.set_cons_succ]
    refine wpAnyH_take (i := 5) (v := ?v397) rfl (by kernel_rfl) (by kernel_rfl) (by kernel_rfl) (fun _ _ _ h => h) (Or.inl ⟨by rfl, ?hy397⟩) (by assumption) ?rest397
    case hy397 => intro w hSw; (try dsimp only at hSw); go_simp; (try with_reducible rfl)
    try simp only [Act.put, List.getElem_toArray, List.getElem_cons_zero, List.getElem_cons_succ, List.setIfInBounds_toArray, List.set_cons_zero, List.set_cons_succ]
    refine wpAnyH_ready (rs := [6]) (by kernel_rfl) (by simp) ?_
    refine AllReadyH.cons rfl (fun K hK => ?_) AllReadyH.nil
    rw [if_pos (by rfl)]
    refine wp_store_mid 40 _ _ rfl w.heap.size 0 (icells ⟨v, va, 0, 0, vn, ⟨#[]⟩⟩) rfl rfl (there_row HA8h.out _ (Nat.le_refl _)) (by kernel_rfl) (icells_one _) ?_
    obtain ⟨hst, hfr⟩ := store_over (V := (icells ⟨v, va, 0, 0, vn, ⟨#[]⟩⟩)) HA8h.out (by rfl)
    have HA10 := hideIt hst
    have HFr10 := hideIt (hfr.mono (S' := fun k => k = w.heap.size ∨ k = w.heap.size + 1) (fun _ e => Or.inl e))
    have HG10 := hideIt ((hfr.block (w.heap.size + 1) HFL.out (by omega)).trans HF8h.out)
    clear hst hfr
    generalize hW10 : World.setCells _ w.heap.size 0 _ = W10 at *
    clear hW10
    refine hK.out _ _ ?_ (fun hHeld => ?_)
    · exact HS.out _ ((Fr.refl _ _).drew.trans HFr10.out (fun _ _ e => e))
    clear hK K
    try simp only [Act.put, List.getElem_toArray, List.getElem_cons_zero, List.getElem_cons_succ, List.setIfInBounds_toArray, List.set_cons_zero, List.set_cons_succ]
    refine wpAnyH_take (i := 7) (v := ?v398) rfl (by kernel_rfl) (by kernel_rfl) (by kernel_rfl) (fun _ _ _ h => h) (Or.inl ⟨by rfl, ?hy398⟩) (by assumption) ?rest398
    case hy398 => intro w hSw; (try dsimp only at hSw); go_simp; (try with_reducible rfl)
    try simp only [Act.put, List.getElem_toArray, List.getElem_cons_zero, List.getElem_cons_succ, List.setIfInBounds_toArray, List.set_cons_zero, List.set_cons_succ]
    refine wpAnyH_ready (rs := [8]) (by kernel_rfl) (by simp) ?_
    refine AllReadyH.cons rfl (fun K hK => ?_) AllReadyH.nil
    rw [if_pos (by rfl)]
    refine wp_store_mid 28 _ _ rfl (w.heap.size + 1) 0 #[.int .i64 0, .int .i64 0] rfl rfl (there_row HG10.out _ (Nat.le_refl _)) (by kernel_rfl) (fault_one _ _) ?_
    obtain ⟨hst, hfr⟩ := store_over (V := #[.int .i64 0, .int .i64 0]) HG10.out (by rfl)
    have HG11 := hideIt hst
    have HFr11 := hideIt (HFr10.out.trans hfr (fun _ _ e => Or.inr e))
    have HA11 := hideIt ((hfr.block w.heap.size (Array.getElem?_eq_some_iff.1 HA10.out).1 (by omega)).trans HA10.out)
    clear hst hfr
    generalize hW11 : World.setCells _ (w.heap.size + 1) 0 _ = W11 at *
    clear hW11
    refine hK.out _ _ ?_ (fun hHeld => ?_)
    · exact HS.out _ ((Fr.refl _ _).drew.trans HFr11.out (fun _ _ e => e))
    clear hK K
    try simp only [Act.put, List.getElem_toArray, List.getElem_cons_zero, List.getElem_cons_succ, List.setIfInBounds_toArray, List.set_cons_zero, List.set_cons_succ]
    refine wpAnyH_done (by kernel_rfl) ?_ _
    go_wp2_with fail
    have hA0 := cellOfHeap HA11.out 0 rfl
    have hA1 := cellOfHeap HA11.out 1 rfl
    have hA2 := cellOfHeap HA11.out 2 rfl
    have hA3 := cellOfHeap HA11.out 3 rfl
    have hA4 := cellOfHeap HA11.out 4 rfl
    have hA5 := cellOfHeap HA11.out 5 rfl
    have hF0 := cellOfHeap HG11.out 0 rfl
    have hF1 := cellOfHeap HG11.out 1 rfl
    refine bodyPost_ret (v := readV (⟨v, va, 0, 0, vn, ⟨#[]⟩⟩, (pl : Int), 0, 0)) (by simp [results, Try.results32, go_sem, readV, icells, zeroI, hA0, hA1, hA2, hA3, hA4, hA5, hF0, hF1]) rfl ⟨by rw [HE.out], ?_⟩
    exact HFRw.out.trans HFr11.out (fun k hk e => by omega)
  · have HE := hideIt (show endR ⟨v, va, 0, 0, vn, ⟨#[]⟩⟩ (pl, er, ea) = (zeroI, 0, er, ea) from if_neg hz)
    have hzb : (er != 0) = true := by simpa using hz
    have HS := hideIt HR2.out.held
    have HA8h := hideIt HR2.out.adrew
    have HF8h := hideIt HR2.out.fdrew
    have HFL := hideIt HR2.out.flt
    have HFRw := hideIt HR2.out.frdrew
    go_wp2_with fail
    refine wp_region_held_drew (S := fun w0 => InsAt w0 w2.heap.size ⟨v, va, 0, 0, vn, ⟨#[]⟩⟩ ∧ w0.cell? ⟨w.heap.size + 2, 1, none⟩ = some (.int .i64 (pl : Int)) ∧ w0.cell? ⟨w.heap.size + 2, 2, none⟩ = some (.int .i64 er) ∧ w0.cell? ⟨w.heap.size + 2, 3, none⟩ = some (.int .i64 ea)) (by kernel_rfl) ?_ (fun hHeld => ?_)
    · exact HS.out _ (Fr.refl _ _).drew
    refine wpAnyH_take (i := 0) (v := ?v399) rfl (by kernel_rfl) (by kernel_rfl) (by kernel_rfl) (fun _ _ _ h => h) (Or.inl ⟨by rfl, ?hy399⟩) (by assumption) ?rest399
    case hy399 => intro w hSw; (try dsimp only at hSw); go_simp; (try with_reducible rfl)
    try simp only [Act.put, List.getElem_toArray, List.getElem_cons_zero, List.getElem_cons_succ, List.setIfInBounds_toArray, List.set_cons_zero, List.set_cons_succ]
    refine wpAnyH_take (i := 1) (v := ?v400) rfl (by kernel_rfl) (by kernel_rfl) (by kernel_rfl) (fun _ _ _ h => h) (Or.inl ⟨by rfl, ?hy400⟩) (by assumption) ?rest400
    case hy400 => intro w hSw; (try dsimp only at hSw); go_simp; (try with_reducible rfl)
    try simp only [Act.put, List.getElem_toArray, List.getElem_cons_zero, List.getElem_cons_succ, List.setIfInBounds_toArray, List.set_cons_zero, List.set_cons_succ]
    refine wpAnyH_take (i := 2) (v := ?v401) rfl (by kernel_rfl) (by kernel_rfl) (by kernel_rfl) (fun _ _ _ h => h) (Or.inl ⟨by rfl, ?hy401⟩) (by assumption) ?rest401
    case hy401 => intro w hSw; (try dsimp only at hSw); go_simp; (try with_reducible rfl)
    try simp only [Act.put, List.getElem_toArray, List.getElem_cons_zero, List.getElem_cons_succ, List.setIfInBounds_toArray, List.set_cons_zero, List.set_cons_succ]
    refine wpAnyH_take (i := 3) (v := ?v402) rfl (by kernel_rfl) (by kernel_rfl) (by kernel_rfl) (fun _ _ _ h => h) (Or.inl ⟨by rfl, ?hy402⟩) (by assumption) ?rest402
    case hy402 => intro w hSw; (try dsimp only at hSw); go_simp; (try with_reducible rfl)
    try simp only [Act.put, List.getElem_toArray, List.getElem_cons_zero, List.getElem_cons_succ, List.setIfInBounds_toArray, List.set_cons_zero, List.set_cons_succ]
    refine wpAnyH_take (i := 4) (v := ?v403) rfl (by kernel_rfl) (by kernel_rfl) (by kernel_rfl) (fun _ _ _ h => h) (Or.inl ⟨by rfl, ?hy403⟩) (by assumption) ?rest403
    case hy403 => intro w hSw; (try dsimp only at hSw); go_simp; (try with_reducible rfl)
    try simp only [Act.put, List.getElem_toArray, List.getElem_cons_zero, List.getElem_cons_succ, List.setIfInBounds_toArray, List.set_cons_zero, List.set_cons_succ]
    refine wpAnyH_ready (rs := [5]) (by kernel_rfl) (by simp) ?_
    refine AllReadyH.cons rfl (fun K hK => ?_) AllReadyH.nil
    rw [if_pos (by rfl)]
    refine wp_store_mid 40 _ _ rfl w.heap.size 0 (icells zeroI) rfl rfl (there_row HA8h.out _ (Nat.le_refl _)) (by kernel_rfl) (icells_one _) ?_
    obtain ⟨hst, hfr⟩ := store_over (V := (icells zeroI)) HA8h.out (by rfl)
    have HA10 := hideIt hst
    have HFr10 := hideIt (hfr.mono (S' := fun k => k = w.heap.size ∨ k = w.heap.size + 1) (fun _ e => Or.inl e))
    have HG10 := hideIt ((hfr.block (w.heap.size + 1) HFL.out (by omega)).trans HF8h.out)
    clear hst hfr
    generalize hW10 : World.setCells _ w.heap.size 0 _ = W10 at *
    clear hW10
    refine hK.out _ _ ?_ (fun hHeld => ?_)
    · exact HS.out _ ((Fr.refl _ _).drew.trans HFr10.out (fun _ _ e => e))
    clear hK K
    try simp only [Act.put, List.getElem_toArray, List.getElem_cons_zero, List.getElem_cons_succ, List.setIfInBounds_toArray, List.set_cons_zero, List.set_cons_succ]
    refine wpAnyH_take (i := 6) (v := ?v404) rfl (by kernel_rfl) (by kernel_rfl) (by kernel_rfl) (fun _ _ _ h => h) (Or.inl ⟨by rfl, ?hy404⟩) (by assumption) ?rest404
    case hy404 => intro w hSw; (try dsimp only at hSw); go_simp; (try with_reducible rfl)
    try simp only [Act.put, List.getElem_toArray, List.getElem_cons_zero, List.getElem_cons_succ, List.setIfInBounds_toArray, List.set_cons_zero, List.set_cons_succ]
    refine wpAnyH_ready (rs := [7]) (by kernel_rfl) (by simp) ?_
    refine AllReadyH.cons rfl (fun K hK => ?_) AllReadyH.nil
    rw [if_pos (by rfl)]
    refine wp_store_mid 28 _ _ rfl (w.heap.size + 1) 0 #[.int .i64 er, .int .i64 ea] rfl rfl (there_row HG10.out _ (Nat.le_refl _)) (by kernel_rfl) (fault_one _ _) ?_
    obtain ⟨hst, hfr⟩ := store_over (V := #[.int .i64 er, .int .i64 ea]) HG10.out (by rfl)
    have HG11 := hideIt hst
    have HFr11 := hideIt (HFr10.out.trans hfr (fun _ _ e => Or.inr e))
    have HA11 := hideIt ((hfr.block w.heap.size (Array.getElem?_eq_some_iff.1 HA10.out).1 (by omega)).trans HA10.out)
    clear hst hfr
    generalize hW11 : World.setCells _ (w.heap.size + 1) 0 _ = W11 at *
    clear hW11
    refine hK.out _ _ ?_ (fun hHeld => ?_)
    · exact HS.out _ ((Fr.refl _ _).drew.trans HFr11.out (fun _ _ e => e))
    clear hK K
    try simp only [Act.put, List.getElem_toArray, List.getElem_cons_zero, List.getElem_cons_succ, List.setIfInBounds_toArray, List.set_cons_zero, List.set_cons_succ]
    refine wpAnyH_done (by kernel_rfl) ?_ _
    go_wp2_with fail
    have hA0 := cellOfHeap HA11.out 0 rfl
    have hA1 := cellOfHeap HA11.out 1 rfl
    have hA2 := cellOfHeap HA11.out 2 rfl
    have hA3 := cellOfHeap HA11.out 3 rfl
    have hA4 := cellOfHeap HA11.out 4 rfl
    have hA5 := cellOfHeap HA11.out 5 rfl
    have hF0 := cellOfHeap HG11.out 0 rfl
    have hF1 := cellOfHeap HG11.out 1 rfl
    refine bodyPost_ret (v := readV (zeroI, 0, er, ea)) (by simp [results, Try.results32, go_sem, readV, icells, zeroI, hA0, hA1, hA2, hA3, hA4, hA5, hF0, hF1]) rfl ⟨by rw [HE.out], ?_⟩
    exact HFRw.out.trans HFr11.out (fun k hk e => by omega)

end Go.Proofs.Ytojgikaoiegmpaa

/- Code: the document's Read. -/
namespace Go.Proofs.Ytojgikaoiegmpaa
open Go.RowKit Go.IntWalk Go.Lib
set_option linter.unusedSimpArgs false
set_option linter.unusedVariables false
set_option maxRecDepth 100000

theorem tkA {bs : List UInt8} {j : Ins} {s s' : Nat × Int × Int} {v : Int} (h : rInt bs 0 7 s = (v, s')) : tk bs 65 j s = (j.put 1 v, s') := by show (j.put 1 (rInt bs 0 7 s).1, (rInt bs 0 7 s).2) = _; rw [h]
theorem tkB {bs : List UInt8} {j : Ins} {s s' : Nat × Int × Int} {v : Int} (h : rInt bs 0 7 s = (v, s')) : tk bs 66 j s = (j.put 2 v, s') := by show (j.put 2 (rInt bs 0 7 s).1, (rInt bs 0 7 s).2) = _; rw [h]
theorem tkC {bs : List UInt8} {j : Ins} {s s' : Nat × Int × Int} {v : Int} (h : rInt bs 0 7 s = (v, s')) : tk bs 67 j s = (j.put 3 v, s') := by show (j.put 3 (rInt bs 0 7 s).1, (rInt bs 0 7 s).2) = _; rw [h]
theorem tkE {bs : List UInt8} {j : Ins} {s s' : Nat × Int × Int} {v : Int} (h : rInt bs 1 16 s = (v, s')) : tk bs 69 j s = (j.put 4 v, s') := by show (j.put 4 (rInt bs 1 16 s).1, (rInt bs 1 16 s).2) = _; rw [h]
theorem tkP {bs : List UInt8} {j : Ins} {s s' : Nat × Int × Int} {v : Int} (h : rInt bs 1 60 s = (v, s')) : tk bs 80 j s = (j.put 4 v, s') := by show (j.put 4 (rInt bs 1 60 s).1, (rInt bs 1 60 s).2) = _; rw [h]
theorem tkS {bs : List UInt8} {j : Ins} {s s' : Nat × Int × Int} {x : List UInt8} (h : rText bs 64 s = (x, s')) : tk bs 83 j s = ({ j with s := ⟨x.toArray⟩ }, s') := by show (({ j with s := ⟨(rText bs 64 s).1.toArray⟩ } : Ins), (rText bs 64 s).2) = _; rw [h]

theorem vread_out (ao : Option Addr) (cap : Nat) (bs : List UInt8) (at_ : Int) (w : World) (h : at_ < 0 ∨ (bs.length : Int) < at_) :
    Calls Try.prog 32 #[.slice ao bs.length cap, .int .i64 at_] w fun e w' => e = .returned (readV (readR bs at_)) ∧ Fr (fun _ => False) w w' := by
  have hr : readV (readR bs at_) = .tuple #[.agg (icells zeroI), .int .i64 0, .agg #[.int .i64 5, .int .i64 0]] := by unfold readR; rw [if_pos h]; rfl
  rw [hr]
  clear hr
  by_cases h1 : at_ < 0
  · have hd : decide (at_ < 0) = true := by simp [h1]
    clear h
    go_enter Try.func32, Try.ntmps32
    go_wp2_with fail
    refine bodyPost_ret (v := .tuple #[.agg (icells zeroI), .int .i64 0, .agg #[.int .i64 5, .int .i64 0]]) (by simp [results, Try.results32, go_sem, icells, zeroI]) rfl ⟨rfl, ?_⟩
    exact ((Fr.refl _ _).alloc _).alloc _
  · have h2 : (bs.length : Int) < at_ := h.resolve_left h1
    have hd : decide (at_ < 0) = false := by simp [h1]
    have hd2 : decide ((bs.length : Int) < at_) = true := by simp [h2]
    clear h
    go_enter Try.func32, Try.ntmps32
    go_wp2_with fail
    refine bodyPost_ret (v := .tuple #[.agg (icells zeroI), .int .i64 0, .agg #[.int .i64 5, .int .i64 0]]) (by simp [results, Try.results32, go_sem, icells, zeroI]) rfl ⟨rfl, ?_⟩
    exact ((Fr.refl _ _).alloc _).alloc _

section
variable (ao : Option Addr) (cap : Nat) (bs : List UInt8) (a : Nat) (w : World) (hB : BsAt w ao bs) (hb : bs.length ≤ 140737488355328) (hcl : bs.length ≤ cap) (hcm : cap ≤ maxLen) (hnb : ∀ k, blk ao k → k < w.heap.size) (ha : a ≤ bs.length)
include hB hb hcl hcm hnb ha
theorem vr0 (s0 : Nat × Int × Int) (h0 : rInt bs 1 15 (a, 0, 0) = (0, s0)) : Calls Try.prog 32 #[.slice ao bs.length cap, .int .i64 (a : Int)] w fun e w' => e = .returned (readV (refR bs a)) ∧ Fr (fun _ => False) w w' := by
  have ht : tks bs (ltrs 0) (⟨0, 0, 0, 0, 0, ⟨#[]⟩⟩, s0) = (⟨0, 0, 0, 0, 0, ⟨#[]⟩⟩, s0) := by
    rw [show ltrs 0 = [] from by decide]
    rfl
  have hR : refR bs a = endR ⟨0, 0, 0, 0, 0, ⟨#[]⟩⟩ s0 := by
    unfold refR
    rw [h0]
    show endR (tks bs (ltrs 0) (⟨0, 0, 0, 0, 0, ⟨#[]⟩⟩, s0)).1 (tks bs (ltrs 0) (⟨0, 0, 0, 0, 0, ⟨#[]⟩⟩, s0)).2 = _
    rw [ht]
  rw [hR]
  exact vread_O ao cap bs a w hB hb hcl hcm hnb ha 0 s0 h0  rfl

theorem vr1 (s0 : Nat × Int × Int) (h0 : rInt bs 1 15 (a, 0, 0) = (1, s0)) : Calls Try.prog 32 #[.slice ao bs.length cap, .int .i64 (a : Int)] w fun e w' => e = .returned (readV (refR bs a)) ∧ Fr (fun _ => False) w w' := by
  obtain ⟨vA, s1, h1⟩ : ∃ v s, rInt bs 0 7 s0 = (v, s) := ⟨_, _, rfl⟩
  obtain ⟨vS, s2, h2⟩ : ∃ v s, rText bs 64 s1 = (v, s) := ⟨_, _, rfl⟩
  have ht : tks bs (ltrs 1) (⟨1, 0, 0, 0, 0, ⟨#[]⟩⟩, s0) = (⟨1, vA, 0, 0, 0, ⟨vS.toArray⟩⟩, s2) := by
    rw [show ltrs 1 = [65, 83] from by decide]
    show tks bs [83] (tk bs 65 ⟨1, 0, 0, 0, 0, ⟨#[]⟩⟩ s0) = _
    rw [tkA h1]
    show tks bs [] (tk bs 83 ⟨1, vA, 0, 0, 0, ⟨#[]⟩⟩ s1) = _
    rw [tkS h2]
    rfl
  have hR : refR bs a = endR ⟨1, vA, 0, 0, 0, ⟨vS.toArray⟩⟩ s2 := by
    unfold refR
    rw [h0]
    show endR (tks bs (ltrs 1) (⟨1, 0, 0, 0, 0, ⟨#[]⟩⟩, s0)).1 (tks bs (ltrs 1) (⟨1, 0, 0, 0, 0, ⟨#[]⟩⟩, s0)).2 = _
    rw [ht]
  rw [hR]
  exact vread_AS ao cap bs a w hB hb hcl hcm hnb ha 1 vA vS s0 s1 s2 h0 h1 h2 rfl

theorem vr2 (s0 : Nat × Int × Int) (h0 : rInt bs 1 15 (a, 0, 0) = (2, s0)) : Calls Try.prog 32 #[.slice ao bs.length cap, .int .i64 (a : Int)] w fun e w' => e = .returned (readV (refR bs a)) ∧ Fr (fun _ => False) w w' := by
  obtain ⟨vA, s1, h1⟩ : ∃ v s, rInt bs 0 7 s0 = (v, s) := ⟨_, _, rfl⟩
  obtain ⟨vB, s2, h2⟩ : ∃ v s, rInt bs 0 7 s1 = (v, s) := ⟨_, _, rfl⟩
  have ht : tks bs (ltrs 2) (⟨2, 0, 0, 0, 0, ⟨#[]⟩⟩, s0) = (⟨2, vA, vB, 0, 0, ⟨#[]⟩⟩, s2) := by
    rw [show ltrs 2 = [65, 66] from by decide]
    show tks bs [66] (tk bs 65 ⟨2, 0, 0, 0, 0, ⟨#[]⟩⟩ s0) = _
    rw [tkA h1]
    show tks bs [] (tk bs 66 ⟨2, vA, 0, 0, 0, ⟨#[]⟩⟩ s1) = _
    rw [tkB h2]
    rfl
  have hR : refR bs a = endR ⟨2, vA, vB, 0, 0, ⟨#[]⟩⟩ s2 := by
    unfold refR
    rw [h0]
    show endR (tks bs (ltrs 2) (⟨2, 0, 0, 0, 0, ⟨#[]⟩⟩, s0)).1 (tks bs (ltrs 2) (⟨2, 0, 0, 0, 0, ⟨#[]⟩⟩, s0)).2 = _
    rw [ht]
  rw [hR]
  exact vread_AB ao cap bs a w hB hb hcl hcm hnb ha 2 vA vB s0 s1 s2 h0 h1 h2 rfl

theorem vr3 (s0 : Nat × Int × Int) (h0 : rInt bs 1 15 (a, 0, 0) = (3, s0)) : Calls Try.prog 32 #[.slice ao bs.length cap, .int .i64 (a : Int)] w fun e w' => e = .returned (readV (refR bs a)) ∧ Fr (fun _ => False) w w' := by
  obtain ⟨vA, s1, h1⟩ : ∃ v s, rInt bs 0 7 s0 = (v, s) := ⟨_, _, rfl⟩
  obtain ⟨vB, s2, h2⟩ : ∃ v s, rInt bs 0 7 s1 = (v, s) := ⟨_, _, rfl⟩
  obtain ⟨vC, s3, h3⟩ : ∃ v s, rInt bs 0 7 s2 = (v, s) := ⟨_, _, rfl⟩
  have ht : tks bs (ltrs 3) (⟨3, 0, 0, 0, 0, ⟨#[]⟩⟩, s0) = (⟨3, vA, vB, vC, 0, ⟨#[]⟩⟩, s3) := by
    rw [show ltrs 3 = [65, 66, 67] from by decide]
    show tks bs [66, 67] (tk bs 65 ⟨3, 0, 0, 0, 0, ⟨#[]⟩⟩ s0) = _
    rw [tkA h1]
    show tks bs [67] (tk bs 66 ⟨3, vA, 0, 0, 0, ⟨#[]⟩⟩ s1) = _
    rw [tkB h2]
    show tks bs [] (tk bs 67 ⟨3, vA, vB, 0, 0, ⟨#[]⟩⟩ s2) = _
    rw [tkC h3]
    rfl
  have hR : refR bs a = endR ⟨3, vA, vB, vC, 0, ⟨#[]⟩⟩ s3 := by
    unfold refR
    rw [h0]
    show endR (tks bs (ltrs 3) (⟨3, 0, 0, 0, 0, ⟨#[]⟩⟩, s0)).1 (tks bs (ltrs 3) (⟨3, 0, 0, 0, 0, ⟨#[]⟩⟩, s0)).2 = _
    rw [ht]
  rw [hR]
  exact vread_ABC ao cap bs a w hB hb hcl hcm hnb ha 3 vA vB vC s0 s1 s2 s3 h0 h1 h2 h3 rfl

theorem vr4 (s0 : Nat × Int × Int) (h0 : rInt bs 1 15 (a, 0, 0) = (4, s0)) : Calls Try.prog 32 #[.slice ao bs.length cap, .int .i64 (a : Int)] w fun e w' => e = .returned (readV (refR bs a)) ∧ Fr (fun _ => False) w w' := by
  obtain ⟨vA, s1, h1⟩ : ∃ v s, rInt bs 0 7 s0 = (v, s) := ⟨_, _, rfl⟩
  obtain ⟨vB, s2, h2⟩ : ∃ v s, rInt bs 0 7 s1 = (v, s) := ⟨_, _, rfl⟩
  have ht : tks bs (ltrs 4) (⟨4, 0, 0, 0, 0, ⟨#[]⟩⟩, s0) = (⟨4, vA, vB, 0, 0, ⟨#[]⟩⟩, s2) := by
    rw [show ltrs 4 = [65, 66] from by decide]
    show tks bs [66] (tk bs 65 ⟨4, 0, 0, 0, 0, ⟨#[]⟩⟩ s0) = _
    rw [tkA h1]
    show tks bs [] (tk bs 66 ⟨4, vA, 0, 0, 0, ⟨#[]⟩⟩ s1) = _
    rw [tkB h2]
    rfl
  have hR : refR bs a = endR ⟨4, vA, vB, 0, 0, ⟨#[]⟩⟩ s2 := by
    unfold refR
    rw [h0]
    show endR (tks bs (ltrs 4) (⟨4, 0, 0, 0, 0, ⟨#[]⟩⟩, s0)).1 (tks bs (ltrs 4) (⟨4, 0, 0, 0, 0, ⟨#[]⟩⟩, s0)).2 = _
    rw [ht]
  rw [hR]
  exact vread_AB ao cap bs a w hB hb hcl hcm hnb ha 4 vA vB s0 s1 s2 h0 h1 h2 rfl

theorem vr5 (s0 : Nat × Int × Int) (h0 : rInt bs 1 15 (a, 0, 0) = (5, s0)) : Calls Try.prog 32 #[.slice ao bs.length cap, .int .i64 (a : Int)] w fun e w' => e = .returned (readV (refR bs a)) ∧ Fr (fun _ => False) w w' := by
  obtain ⟨vA, s1, h1⟩ : ∃ v s, rInt bs 0 7 s0 = (v, s) := ⟨_, _, rfl⟩
  have ht : tks bs (ltrs 5) (⟨5, 0, 0, 0, 0, ⟨#[]⟩⟩, s0) = (⟨5, vA, 0, 0, 0, ⟨#[]⟩⟩, s1) := by
    rw [show ltrs 5 = [65] from by decide]
    show tks bs [] (tk bs 65 ⟨5, 0, 0, 0, 0, ⟨#[]⟩⟩ s0) = _
    rw [tkA h1]
    rfl
  have hR : refR bs a = endR ⟨5, vA, 0, 0, 0, ⟨#[]⟩⟩ s1 := by
    unfold refR
    rw [h0]
    show endR (tks bs (ltrs 5) (⟨5, 0, 0, 0, 0, ⟨#[]⟩⟩, s0)).1 (tks bs (ltrs 5) (⟨5, 0, 0, 0, 0, ⟨#[]⟩⟩, s0)).2 = _
    rw [ht]
  rw [hR]
  exact vread_A ao cap bs a w hB hb hcl hcm hnb ha 5 vA s0 s1 h0 h1 rfl

theorem vr6 (s0 : Nat × Int × Int) (h0 : rInt bs 1 15 (a, 0, 0) = (6, s0)) : Calls Try.prog 32 #[.slice ao bs.length cap, .int .i64 (a : Int)] w fun e w' => e = .returned (readV (refR bs a)) ∧ Fr (fun _ => False) w w' := by
  obtain ⟨vA, s1, h1⟩ : ∃ v s, rInt bs 0 7 s0 = (v, s) := ⟨_, _, rfl⟩
  obtain ⟨vB, s2, h2⟩ : ∃ v s, rInt bs 0 7 s1 = (v, s) := ⟨_, _, rfl⟩
  obtain ⟨vC, s3, h3⟩ : ∃ v s, rInt bs 0 7 s2 = (v, s) := ⟨_, _, rfl⟩
  obtain ⟨vE, s4, h4⟩ : ∃ v s, rInt bs 1 16 s3 = (v, s) := ⟨_, _, rfl⟩
  have ht : tks bs (ltrs 6) (⟨6, 0, 0, 0, 0, ⟨#[]⟩⟩, s0) = (⟨6, vA, vB, vC, vE, ⟨#[]⟩⟩, s4) := by
    rw [show ltrs 6 = [65, 66, 67, 69] from by decide]
    show tks bs [66, 67, 69] (tk bs 65 ⟨6, 0, 0, 0, 0, ⟨#[]⟩⟩ s0) = _
    rw [tkA h1]
    show tks bs [67, 69] (tk bs 66 ⟨6, vA, 0, 0, 0, ⟨#[]⟩⟩ s1) = _
    rw [tkB h2]
    show tks bs [69] (tk bs 67 ⟨6, vA, vB, 0, 0, ⟨#[]⟩⟩ s2) = _
    rw [tkC h3]
    show tks bs [] (tk bs 69 ⟨6, vA, vB, vC, 0, ⟨#[]⟩⟩ s3) = _
    rw [tkE h4]
    rfl
  have hR : refR bs a = endR ⟨6, vA, vB, vC, vE, ⟨#[]⟩⟩ s4 := by
    unfold refR
    rw [h0]
    show endR (tks bs (ltrs 6) (⟨6, 0, 0, 0, 0, ⟨#[]⟩⟩, s0)).1 (tks bs (ltrs 6) (⟨6, 0, 0, 0, 0, ⟨#[]⟩⟩, s0)).2 = _
    rw [ht]
  rw [hR]
  exact vread_ABCN ao cap bs a w hB hb hcl hcm hnb ha 6 vA vB vC vE 16 s0 s1 s2 s3 s4 h0 h1 h2 h3 h4 rfl rfl

theorem vr7 (s0 : Nat × Int × Int) (h0 : rInt bs 1 15 (a, 0, 0) = (7, s0)) : Calls Try.prog 32 #[.slice ao bs.length cap, .int .i64 (a : Int)] w fun e w' => e = .returned (readV (refR bs a)) ∧ Fr (fun _ => False) w w' := by
  obtain ⟨vA, s1, h1⟩ : ∃ v s, rInt bs 0 7 s0 = (v, s) := ⟨_, _, rfl⟩
  obtain ⟨vB, s2, h2⟩ : ∃ v s, rInt bs 0 7 s1 = (v, s) := ⟨_, _, rfl⟩
  obtain ⟨vC, s3, h3⟩ : ∃ v s, rInt bs 0 7 s2 = (v, s) := ⟨_, _, rfl⟩
  have ht : tks bs (ltrs 7) (⟨7, 0, 0, 0, 0, ⟨#[]⟩⟩, s0) = (⟨7, vA, vB, vC, 0, ⟨#[]⟩⟩, s3) := by
    rw [show ltrs 7 = [65, 66, 67] from by decide]
    show tks bs [66, 67] (tk bs 65 ⟨7, 0, 0, 0, 0, ⟨#[]⟩⟩ s0) = _
    rw [tkA h1]
    show tks bs [67] (tk bs 66 ⟨7, vA, 0, 0, 0, ⟨#[]⟩⟩ s1) = _
    rw [tkB h2]
    show tks bs [] (tk bs 67 ⟨7, vA, vB, 0, 0, ⟨#[]⟩⟩ s2) = _
    rw [tkC h3]
    rfl
  have hR : refR bs a = endR ⟨7, vA, vB, vC, 0, ⟨#[]⟩⟩ s3 := by
    unfold refR
    rw [h0]
    show endR (tks bs (ltrs 7) (⟨7, 0, 0, 0, 0, ⟨#[]⟩⟩, s0)).1 (tks bs (ltrs 7) (⟨7, 0, 0, 0, 0, ⟨#[]⟩⟩, s0)).2 = _
    rw [ht]
  rw [hR]
  exact vread_ABC ao cap bs a w hB hb hcl hcm hnb ha 7 vA vB vC s0 s1 s2 s3 h0 h1 h2 h3 rfl

theorem vr8 (s0 : Nat × Int × Int) (h0 : rInt bs 1 15 (a, 0, 0) = (8, s0)) : Calls Try.prog 32 #[.slice ao bs.length cap, .int .i64 (a : Int)] w fun e w' => e = .returned (readV (refR bs a)) ∧ Fr (fun _ => False) w w' := by
  obtain ⟨vA, s1, h1⟩ : ∃ v s, rInt bs 0 7 s0 = (v, s) := ⟨_, _, rfl⟩
  obtain ⟨vB, s2, h2⟩ : ∃ v s, rInt bs 0 7 s1 = (v, s) := ⟨_, _, rfl⟩
  obtain ⟨vC, s3, h3⟩ : ∃ v s, rInt bs 0 7 s2 = (v, s) := ⟨_, _, rfl⟩
  have ht : tks bs (ltrs 8) (⟨8, 0, 0, 0, 0, ⟨#[]⟩⟩, s0) = (⟨8, vA, vB, vC, 0, ⟨#[]⟩⟩, s3) := by
    rw [show ltrs 8 = [65, 66, 67] from by decide]
    show tks bs [66, 67] (tk bs 65 ⟨8, 0, 0, 0, 0, ⟨#[]⟩⟩ s0) = _
    rw [tkA h1]
    show tks bs [67] (tk bs 66 ⟨8, vA, 0, 0, 0, ⟨#[]⟩⟩ s1) = _
    rw [tkB h2]
    show tks bs [] (tk bs 67 ⟨8, vA, vB, 0, 0, ⟨#[]⟩⟩ s2) = _
    rw [tkC h3]
    rfl
  have hR : refR bs a = endR ⟨8, vA, vB, vC, 0, ⟨#[]⟩⟩ s3 := by
    unfold refR
    rw [h0]
    show endR (tks bs (ltrs 8) (⟨8, 0, 0, 0, 0, ⟨#[]⟩⟩, s0)).1 (tks bs (ltrs 8) (⟨8, 0, 0, 0, 0, ⟨#[]⟩⟩, s0)).2 = _
    rw [ht]
  rw [hR]
  exact vread_ABC ao cap bs a w hB hb hcl hcm hnb ha 8 vA vB vC s0 s1 s2 s3 h0 h1 h2 h3 rfl

theorem vr9 (s0 : Nat × Int × Int) (h0 : rInt bs 1 15 (a, 0, 0) = (9, s0)) : Calls Try.prog 32 #[.slice ao bs.length cap, .int .i64 (a : Int)] w fun e w' => e = .returned (readV (refR bs a)) ∧ Fr (fun _ => False) w w' := by
  obtain ⟨vA, s1, h1⟩ : ∃ v s, rInt bs 0 7 s0 = (v, s) := ⟨_, _, rfl⟩
  obtain ⟨vB, s2, h2⟩ : ∃ v s, rInt bs 0 7 s1 = (v, s) := ⟨_, _, rfl⟩
  obtain ⟨vC, s3, h3⟩ : ∃ v s, rInt bs 0 7 s2 = (v, s) := ⟨_, _, rfl⟩
  have ht : tks bs (ltrs 9) (⟨9, 0, 0, 0, 0, ⟨#[]⟩⟩, s0) = (⟨9, vA, vB, vC, 0, ⟨#[]⟩⟩, s3) := by
    rw [show ltrs 9 = [65, 66, 67] from by decide]
    show tks bs [66, 67] (tk bs 65 ⟨9, 0, 0, 0, 0, ⟨#[]⟩⟩ s0) = _
    rw [tkA h1]
    show tks bs [67] (tk bs 66 ⟨9, vA, 0, 0, 0, ⟨#[]⟩⟩ s1) = _
    rw [tkB h2]
    show tks bs [] (tk bs 67 ⟨9, vA, vB, 0, 0, ⟨#[]⟩⟩ s2) = _
    rw [tkC h3]
    rfl
  have hR : refR bs a = endR ⟨9, vA, vB, vC, 0, ⟨#[]⟩⟩ s3 := by
    unfold refR
    rw [h0]
    show endR (tks bs (ltrs 9) (⟨9, 0, 0, 0, 0, ⟨#[]⟩⟩, s0)).1 (tks bs (ltrs 9) (⟨9, 0, 0, 0, 0, ⟨#[]⟩⟩, s0)).2 = _
    rw [ht]
  rw [hR]
  exact vread_ABC ao cap bs a w hB hb hcl hcm hnb ha 9 vA vB vC s0 s1 s2 s3 h0 h1 h2 h3 rfl

theorem vr10 (s0 : Nat × Int × Int) (h0 : rInt bs 1 15 (a, 0, 0) = (10, s0)) : Calls Try.prog 32 #[.slice ao bs.length cap, .int .i64 (a : Int)] w fun e w' => e = .returned (readV (refR bs a)) ∧ Fr (fun _ => False) w w' := by
  obtain ⟨vA, s1, h1⟩ : ∃ v s, rInt bs 0 7 s0 = (v, s) := ⟨_, _, rfl⟩
  obtain ⟨vB, s2, h2⟩ : ∃ v s, rInt bs 0 7 s1 = (v, s) := ⟨_, _, rfl⟩
  obtain ⟨vC, s3, h3⟩ : ∃ v s, rInt bs 0 7 s2 = (v, s) := ⟨_, _, rfl⟩
  have ht : tks bs (ltrs 10) (⟨10, 0, 0, 0, 0, ⟨#[]⟩⟩, s0) = (⟨10, vA, vB, vC, 0, ⟨#[]⟩⟩, s3) := by
    rw [show ltrs 10 = [65, 66, 67] from by decide]
    show tks bs [66, 67] (tk bs 65 ⟨10, 0, 0, 0, 0, ⟨#[]⟩⟩ s0) = _
    rw [tkA h1]
    show tks bs [67] (tk bs 66 ⟨10, vA, 0, 0, 0, ⟨#[]⟩⟩ s1) = _
    rw [tkB h2]
    show tks bs [] (tk bs 67 ⟨10, vA, vB, 0, 0, ⟨#[]⟩⟩ s2) = _
    rw [tkC h3]
    rfl
  have hR : refR bs a = endR ⟨10, vA, vB, vC, 0, ⟨#[]⟩⟩ s3 := by
    unfold refR
    rw [h0]
    show endR (tks bs (ltrs 10) (⟨10, 0, 0, 0, 0, ⟨#[]⟩⟩, s0)).1 (tks bs (ltrs 10) (⟨10, 0, 0, 0, 0, ⟨#[]⟩⟩, s0)).2 = _
    rw [ht]
  rw [hR]
  exact vread_ABC ao cap bs a w hB hb hcl hcm hnb ha 10 vA vB vC s0 s1 s2 s3 h0 h1 h2 h3 rfl

theorem vr11 (s0 : Nat × Int × Int) (h0 : rInt bs 1 15 (a, 0, 0) = (11, s0)) : Calls Try.prog 32 #[.slice ao bs.length cap, .int .i64 (a : Int)] w fun e w' => e = .returned (readV (refR bs a)) ∧ Fr (fun _ => False) w w' := by
  obtain ⟨vA, s1, h1⟩ : ∃ v s, rInt bs 0 7 s0 = (v, s) := ⟨_, _, rfl⟩
  obtain ⟨vB, s2, h2⟩ : ∃ v s, rInt bs 0 7 s1 = (v, s) := ⟨_, _, rfl⟩
  obtain ⟨vC, s3, h3⟩ : ∃ v s, rInt bs 0 7 s2 = (v, s) := ⟨_, _, rfl⟩
  have ht : tks bs (ltrs 11) (⟨11, 0, 0, 0, 0, ⟨#[]⟩⟩, s0) = (⟨11, vA, vB, vC, 0, ⟨#[]⟩⟩, s3) := by
    rw [show ltrs 11 = [65, 66, 67] from by decide]
    show tks bs [66, 67] (tk bs 65 ⟨11, 0, 0, 0, 0, ⟨#[]⟩⟩ s0) = _
    rw [tkA h1]
    show tks bs [67] (tk bs 66 ⟨11, vA, 0, 0, 0, ⟨#[]⟩⟩ s1) = _
    rw [tkB h2]
    show tks bs [] (tk bs 67 ⟨11, vA, vB, 0, 0, ⟨#[]⟩⟩ s2) = _
    rw [tkC h3]
    rfl
  have hR : refR bs a = endR ⟨11, vA, vB, vC, 0, ⟨#[]⟩⟩ s3 := by
    unfold refR
    rw [h0]
    show endR (tks bs (ltrs 11) (⟨11, 0, 0, 0, 0, ⟨#[]⟩⟩, s0)).1 (tks bs (ltrs 11) (⟨11, 0, 0, 0, 0, ⟨#[]⟩⟩, s0)).2 = _
    rw [ht]
  rw [hR]
  exact vread_ABC ao cap bs a w hB hb hcl hcm hnb ha 11 vA vB vC s0 s1 s2 s3 h0 h1 h2 h3 rfl

theorem vr12 (s0 : Nat × Int × Int) (h0 : rInt bs 1 15 (a, 0, 0) = (12, s0)) : Calls Try.prog 32 #[.slice ao bs.length cap, .int .i64 (a : Int)] w fun e w' => e = .returned (readV (refR bs a)) ∧ Fr (fun _ => False) w w' := by
  obtain ⟨vA, s1, h1⟩ : ∃ v s, rInt bs 0 7 s0 = (v, s) := ⟨_, _, rfl⟩
  obtain ⟨vP, s2, h2⟩ : ∃ v s, rInt bs 1 60 s1 = (v, s) := ⟨_, _, rfl⟩
  have ht : tks bs (ltrs 12) (⟨12, 0, 0, 0, 0, ⟨#[]⟩⟩, s0) = (⟨12, vA, 0, 0, vP, ⟨#[]⟩⟩, s2) := by
    rw [show ltrs 12 = [65, 80] from by decide]
    show tks bs [80] (tk bs 65 ⟨12, 0, 0, 0, 0, ⟨#[]⟩⟩ s0) = _
    rw [tkA h1]
    show tks bs [] (tk bs 80 ⟨12, vA, 0, 0, 0, ⟨#[]⟩⟩ s1) = _
    rw [tkP h2]
    rfl
  have hR : refR bs a = endR ⟨12, vA, 0, 0, vP, ⟨#[]⟩⟩ s2 := by
    unfold refR
    rw [h0]
    show endR (tks bs (ltrs 12) (⟨12, 0, 0, 0, 0, ⟨#[]⟩⟩, s0)).1 (tks bs (ltrs 12) (⟨12, 0, 0, 0, 0, ⟨#[]⟩⟩, s0)).2 = _
    rw [ht]
  rw [hR]
  exact vread_AN ao cap bs a w hB hb hcl hcm hnb ha 12 vA vP 60 s0 s1 s2 h0 h1 h2 rfl rfl

theorem vr13 (s0 : Nat × Int × Int) (h0 : rInt bs 1 15 (a, 0, 0) = (13, s0)) : Calls Try.prog 32 #[.slice ao bs.length cap, .int .i64 (a : Int)] w fun e w' => e = .returned (readV (refR bs a)) ∧ Fr (fun _ => False) w w' := by
  obtain ⟨vP, s1, h1⟩ : ∃ v s, rInt bs 1 60 s0 = (v, s) := ⟨_, _, rfl⟩
  have ht : tks bs (ltrs 13) (⟨13, 0, 0, 0, 0, ⟨#[]⟩⟩, s0) = (⟨13, 0, 0, 0, vP, ⟨#[]⟩⟩, s1) := by
    rw [show ltrs 13 = [80] from by decide]
    show tks bs [] (tk bs 80 ⟨13, 0, 0, 0, 0, ⟨#[]⟩⟩ s0) = _
    rw [tkP h1]
    rfl
  have hR : refR bs a = endR ⟨13, 0, 0, 0, vP, ⟨#[]⟩⟩ s1 := by
    unfold refR
    rw [h0]
    show endR (tks bs (ltrs 13) (⟨13, 0, 0, 0, 0, ⟨#[]⟩⟩, s0)).1 (tks bs (ltrs 13) (⟨13, 0, 0, 0, 0, ⟨#[]⟩⟩, s0)).2 = _
    rw [ht]
  rw [hR]
  exact vread_N ao cap bs a w hB hb hcl hcm hnb ha 13 vP 60 s0 s1 h0 h1 rfl rfl

theorem vr14 (s0 : Nat × Int × Int) (h0 : rInt bs 1 15 (a, 0, 0) = (14, s0)) : Calls Try.prog 32 #[.slice ao bs.length cap, .int .i64 (a : Int)] w fun e w' => e = .returned (readV (refR bs a)) ∧ Fr (fun _ => False) w w' := by
  obtain ⟨vA, s1, h1⟩ : ∃ v s, rInt bs 0 7 s0 = (v, s) := ⟨_, _, rfl⟩
  have ht : tks bs (ltrs 14) (⟨14, 0, 0, 0, 0, ⟨#[]⟩⟩, s0) = (⟨14, vA, 0, 0, 0, ⟨#[]⟩⟩, s1) := by
    rw [show ltrs 14 = [65] from by decide]
    show tks bs [] (tk bs 65 ⟨14, 0, 0, 0, 0, ⟨#[]⟩⟩ s0) = _
    rw [tkA h1]
    rfl
  have hR : refR bs a = endR ⟨14, vA, 0, 0, 0, ⟨#[]⟩⟩ s1 := by
    unfold refR
    rw [h0]
    show endR (tks bs (ltrs 14) (⟨14, 0, 0, 0, 0, ⟨#[]⟩⟩, s0)).1 (tks bs (ltrs 14) (⟨14, 0, 0, 0, 0, ⟨#[]⟩⟩, s0)).2 = _
    rw [ht]
  rw [hR]
  exact vread_A ao cap bs a w hB hb hcl hcm hnb ha 14 vA s0 s1 h0 h1 rfl

theorem vr15 (s0 : Nat × Int × Int) (h0 : rInt bs 1 15 (a, 0, 0) = (15, s0)) : Calls Try.prog 32 #[.slice ao bs.length cap, .int .i64 (a : Int)] w fun e w' => e = .returned (readV (refR bs a)) ∧ Fr (fun _ => False) w w' := by
  have ht : tks bs (ltrs 15) (⟨15, 0, 0, 0, 0, ⟨#[]⟩⟩, s0) = (⟨15, 0, 0, 0, 0, ⟨#[]⟩⟩, s0) := by
    rw [show ltrs 15 = [] from by decide]
    rfl
  have hR : refR bs a = endR ⟨15, 0, 0, 0, 0, ⟨#[]⟩⟩ s0 := by
    unfold refR
    rw [h0]
    show endR (tks bs (ltrs 15) (⟨15, 0, 0, 0, 0, ⟨#[]⟩⟩, s0)).1 (tks bs (ltrs 15) (⟨15, 0, 0, 0, 0, ⟨#[]⟩⟩, s0)).2 = _
    rw [ht]
  rw [hR]
  exact vread_O ao cap bs a w hB hb hcl hcm hnb ha 15 s0 h0  rfl

theorem vread_in : Calls Try.prog 32 #[.slice ao bs.length cap, .int .i64 (a : Int)] w fun e w' => e = .returned (readV (readR bs a)) ∧ Fr (fun _ => False) w w' := by
  rw [← refR_eq bs a ha]
  obtain ⟨v, s0, h0⟩ : ∃ v s, rInt bs 1 15 (a, 0, 0) = (v, s) := ⟨_, _, rfl⟩
  have hr := rInt_rng bs 1 15 (a, 0, 0) (by decide)
  rw [h0] at hr
  dsimp only at hr
  obtain rfl | rfl | rfl | rfl | rfl | rfl | rfl | rfl | rfl | rfl | rfl | rfl | rfl | rfl | rfl | rfl : v = 0 ∨ v = 1 ∨ v = 2 ∨ v = 3 ∨ v = 4 ∨ v = 5 ∨ v = 6 ∨ v = 7 ∨ v = 8 ∨ v = 9 ∨ v = 10 ∨ v = 11 ∨ v = 12 ∨ v = 13 ∨ v = 14 ∨ v = 15 := by omega
  · exact vr0 ao cap bs a w hB hb hcl hcm hnb ha s0 h0
  · exact vr1 ao cap bs a w hB hb hcl hcm hnb ha s0 h0
  · exact vr2 ao cap bs a w hB hb hcl hcm hnb ha s0 h0
  · exact vr3 ao cap bs a w hB hb hcl hcm hnb ha s0 h0
  · exact vr4 ao cap bs a w hB hb hcl hcm hnb ha s0 h0
  · exact vr5 ao cap bs a w hB hb hcl hcm hnb ha s0 h0
  · exact vr6 ao cap bs a w hB hb hcl hcm hnb ha s0 h0
  · exact vr7 ao cap bs a w hB hb hcl hcm hnb ha s0 h0
  · exact vr8 ao cap bs a w hB hb hcl hcm hnb ha s0 h0
  · exact vr9 ao cap bs a w hB hb hcl hcm hnb ha s0 h0
  · exact vr10 ao cap bs a w hB hb hcl hcm hnb ha s0 h0
  · exact vr11 ao cap bs a w hB hb hcl hcm hnb ha s0 h0
  · exact vr12 ao cap bs a w hB hb hcl hcm hnb ha s0 h0
  · exact vr13 ao cap bs a w hB hb hcl hcm hnb ha s0 h0
  · exact vr14 ao cap bs a w hB hb hcl hcm hnb ha s0 h0
  · exact vr15 ao cap bs a w hB hb hcl hcm hnb ha s0 h0
end

theorem vread_any (ao : Option Addr) (cap : Nat) (bs : List UInt8) (at_ : Int) (w : World) (hB : BsAt w ao bs) (hb : bs.length ≤ 140737488355328) (hcl : bs.length ≤ cap) (hcm : cap ≤ maxLen) (hnb : ∀ k, blk ao k → k < w.heap.size) :
    Calls Try.prog 32 #[.slice ao bs.length cap, .int .i64 at_] w fun e w' => e = .returned (readV (readR bs at_)) ∧ Fr (fun _ => False) w w' := by
  by_cases hx : at_ < 0 ∨ (bs.length : Int) < at_
  · exact vread_out ao cap bs at_ w hx
  · obtain ⟨a, rfl⟩ : ∃ a : Nat, at_ = a := ⟨at_.toNat, by omega⟩
    exact vread_in ao cap bs a w hB hb hcl hcm hnb (by omega)

end Go.Proofs.Ytojgikaoiegmpaa

/- Package prog: the document's Read, walked. -/
namespace Go.Proofs.Ytojgikaoiegmpaa
open Go.RowKit Go.IntWalk
set_option linter.unusedSimpArgs false
set_option linter.unusedVariables false
set_option maxRecDepth 100000

def encIns (i : Ins) : List Value := (icells i).toList
theorem encIns_len : ∀ i, (encIns i).length = 6 := fun _ => rfl
theorem encIns_one : ∀ i, ∀ u ∈ encIns i, u.oneCell' = true := fun i u hu => by
  have := icells_one i
  rw [Array.all_eq_true'] at this
  exact this u (by simpa [encIns] using hu)
def encNum (v : Int) : List Value := [.int .i64 v]
theorem encNum_len : ∀ v, (encNum v).length = 1 := fun _ => rfl
theorem encNum_one : ∀ v, ∀ u ∈ encNum v, u.oneCell' = true := fun v u hu => by simp [encNum] at hu; subst hu; rfl
theorem Try.infoNum : (Try.prog.info? 3).map (fun i => (i.zero, i.size, i.bytes)) = some (some (.int .i64 0), 1, 8) := by kernel_rfl

theorem one_at {α : Type} (enc : α → List Value) (size : Nat) (wr : World) (C : Array Value) (e : TypeId) (x : α) (hx : enc x = C.toList) : AtOf enc size (wr.alloc (.cells C e)) (some ⟨wr.heap.size, 0, none⟩) [x] := by
  refine Or.inr ⟨wr.heap.size, 0, rfl, by simp, fun i hi j v hv => ?_⟩
  obtain rfl : i = 0 := by simp at hi; exact hi
  simp only [Nat.zero_mul, Nat.zero_add]
  rw [cell_of_row _ _ _ _ _ _ (heap_alloc_new wr _), ← Array.getElem?_toList, ← hx]
  exact hv
theorem AtOf.ins {w : World} {ao : Option Addr} {l : List Ins} (h : AtOf encIns 6 w ao l) : InsRow w ao l := by
  rcases h with ⟨_, e⟩ | ⟨b, off, e, hb, hc⟩
  · exact Or.inl e
  · exact Or.inr ⟨b, off, e, hb, fun j hj t v hv => hc j hj t v hv⟩
theorem InsRow.atOf {w : World} {ao : Option Addr} {l : List Ins} (h : InsRow w ao l) : l = [] ∨ AtOf encIns 6 w ao l := by
  rcases h with e | ⟨b, off, e, hb, hc⟩
  · exact Or.inl e
  · exact Or.inr (Or.inr ⟨b, off, e, hb, fun j hj t v hv => hc j hj t v hv⟩)
theorem row_low {α : Type} {enc : α → List Value} {size : Nat} {e : TypeId} {w : World} {ao : Option Addr} {cap : Nat} {l : List α} (h : RowOf enc size e w ao cap l) : ∀ k, blk ao k → k < w.heap.size := fun k hk => h.lt hk

/-- Two rows that grow beside each other: instructions, and places. -/
structure Two (W0 wr : World) (ao : Option Addr) (cap : Nat) (acc : List Ins) (bo : Option Addr) (c : Nat) (pl : List Int) : Prop where
  a : RowOf encIns 6 40 wr ao cap acc
  b : RowOf encNum 1 3 wr bo c pl
  an : ∀ k, blk ao k → W0.heap.size ≤ k
  bn : ∀ k, blk bo k → W0.heap.size ≤ k
  ap : ∀ k, blk ao k → ¬ blk bo k
  fr : Fr (fun _ => False) W0 wr
section
variable {W0 wr : World} {ao : Option Addr} {cap : Nat} {acc : List Ins} {bo : Option Addr} {c : Nat} {pl : List Int}
theorem Two.start (hF : Fr (fun _ => False) W0 wr) : Two W0 wr none 0 [] none 0 [] :=
  ⟨RowOf.nil _, RowOf.nil _, fun k ⟨_, e, _⟩ => (by cases e), fun k ⟨_, e, _⟩ => (by cases e), fun k ⟨_, e, _⟩ => (by cases e), hF⟩
theorem Two.quiet {w' : World} (h : Two W0 wr ao cap acc bo c pl) (hF : Fr (fun _ => False) wr w') : Two W0 w' ao cap acc bo c pl :=
  ⟨h.a.fr hF (fun _ _ e => e), h.b.fr hF (fun _ _ e => e), h.an, h.bn, h.ap, h.fr.trans hF (fun _ _ e => e)⟩
theorem new_blk {w : World} {ao : Option Addr} {k : Nat} (e : ao = some ⟨w.heap.size, 0, none⟩) (hk : blk ao k) : k = w.heap.size := by
  obtain ⟨_, e1, e2⟩ := hk
  rw [e] at e1
  obtain rfl := Option.some.inj e1
  exact e2.symm
theorem Two.appA (h : Two W0 wr ao cap acc bo c pl) (hn : acc.length ≤ 1000) (i : Ins) (C : Array Value) (hC : encIns i = C.toList) :
    ∃ ao' cap' w', (Builtin.append_ #[25, 25] 25 #[.slice ao acc.length cap, .slice (some ⟨wr.heap.size, 0, none⟩) 1 1]).run Try.prog (wr.alloc (.cells C 40)) = .ok (.slice ao' (acc.length + 1) cap') w' ∧ Two W0 w' ao' cap' (acc ++ [i]) bo c pl := by
  obtain ⟨i0, hi, hz0, hz1, hz2⟩ := info_parts Try.infoIns
  have hF1 : Fr (fun _ => False) wr (wr.alloc (.cells C 40)) := (Fr.refl _ wr).alloc _
  have hq := h.quiet hF1
  obtain ⟨ao', cap', w', h1, h2, h3, h4⟩ := row_append Try.underlying25 hi hz0 56 hz1 hz2 rfl (by decide) (by decide) encIns_len encIns_one _ ao cap acc [i] hq.a (some ⟨wr.heap.size, 0, none⟩) 1 (Or.inr (one_at encIns 6 wr C 40 i hC)) (by simp; omega)
  refine ⟨ao', cap', w', h1, ⟨h2, hq.b.fr h3 (fun k hk e => h.ap k e hk), fun k hk => ?_, h.bn, fun k hk hk2 => ?_, hq.fr.trans h3 (fun k hk e => absurd (h.an k e) (by omega))⟩⟩
  · rcases h4 with e | e
    · rw [e] at hk; exact h.an k hk
    · have := new_blk e hk; have := hq.fr.size; omega
  · rcases h4 with e | e
    · rw [e] at hk; exact h.ap k hk hk2
    · have := new_blk e hk; have := row_low hq.b k hk2; omega
theorem Two.appB (h : Two W0 wr ao cap acc bo c pl) (hn : pl.length ≤ 1000) (v : Int) :
    ∃ bo' c' w', (Builtin.append_ #[55, 55] 55 #[.slice bo pl.length c, .slice (some ⟨wr.heap.size, 0, none⟩) 1 1]).run Try.prog (wr.alloc (.cells #[.int .i64 v] 3)) = .ok (.slice bo' (pl.length + 1) c') w' ∧ Two W0 w' ao cap acc bo' c' (pl ++ [v]) := by
  obtain ⟨i0, hi, hz0, hz1, hz2⟩ := info_parts Try.infoNum
  have hF1 : Fr (fun _ => False) wr (wr.alloc (.cells #[.int .i64 v] 3)) := (Fr.refl _ wr).alloc _
  have hq := h.quiet hF1
  obtain ⟨ao', cap', w', h1, h2, h3, h4⟩ := row_append Try.underlying55 hi hz0 8 hz1 hz2 rfl (by decide) (by decide) encNum_len encNum_one _ bo c pl [v] hq.b (some ⟨wr.heap.size, 0, none⟩) 1 (Or.inr (one_at encNum 1 wr #[.int .i64 v] 3 v rfl)) (by simp; omega)
  refine ⟨ao', cap', w', h1, ⟨hq.a.fr h3 (fun k hk e => h.ap k hk e), h2, h.an, fun k hk => ?_, fun k hk2 hk => ?_, hq.fr.trans h3 (fun k hk e => absurd (h.bn k e) (by omega))⟩⟩
  · rcases h4 with e | e
    · rw [e] at hk; exact h.bn k hk
    · have := new_blk e hk; have := hq.fr.size; omega
  · rcases h4 with e | e
    · rw [e] at hk; exact h.ap k hk2 hk
    · have := new_blk e hk; have := row_low hq.a k hk2; omega
end

set_option maxRecDepth 100000 in
theorem hbeyond_any (ao : Option Addr) (cap : Nat) (l : List Ins) (j : Nat) (hj : j < l.length) (hl : l.length ≤ 1000) (w : World) (hB : InsRow w ao l) : Calls Try.prog 33 #[.slice ao l.length cap, .int .i64 j] w fun e w' => e = .returned (.bool (beyb l j)) ∧ w' = w := by
  obtain ⟨b, off, rfl, hb, hR⟩ := hB.get j hj
  have h1 : (j : Int) < (l.length : Int) := by omega
  have hr : beyb l j = (decide (l[j].op = 12 ∨ l[j].op = 13) && decide ((l.length : Int) - 1 - j < l[j].n)) := by
    unfold beyb passI
    rw [List.getElem?_eq_getElem hj]
    by_cases h : l[j].op = 12 ∨ l[j].op = 13
    · simp [h]
    · simp only [if_neg h]
      rw [decide_eq_false h, Bool.false_and, decide_eq_false_iff_not]
      omega
  rw [hr]
  clear hr
  obtain ⟨x, hx⟩ : ∃ x, l[j] = x := ⟨_, rfl⟩
  rw [hx] at hR ⊢
  clear hx
  obtain ⟨op, a, bb, c, n, s⟩ := x
  have c0 : w.cell? ⟨b, off + j * 6, none⟩ = some (.int .i64 op) := hR 0 _ rfl
  have c4 : w.cell? ⟨b, off + j * 6 + 4, none⟩ = some (.int .i64 n) := hR 4 _ rfl
  have hw1 : IntKind.i64.wrap ((l.length : Int) - 1) = (l.length : Int) - 1 := by rw [IntKind.wrap_i64]; omega
  have hw2 : IntKind.i64.wrap ((l.length : Int) - 1 - j) = (l.length : Int) - 1 - j := by rw [IntKind.wrap_i64]; omega
  dsimp only at *
  by_cases h12 : op = 12
  · subst h12
    go_enter Try.func33, Try.ntmps33
    go_wp2_with fail
    go_ret
    simp
  · have e12 : (op == 12) = false := by simpa using h12
    by_cases h13 : op = 13
    · subst h13
      go_enter Try.func33, Try.ntmps33
      go_wp2_with fail
      go_ret
      simp
    · have e13 : (op == 13) = false := by simpa using h13
      go_enter Try.func33, Try.ntmps33
      go_wp2_with fail
      go_ret
      simp [h12, h13]

end Go.Proofs.Ytojgikaoiegmpaa
