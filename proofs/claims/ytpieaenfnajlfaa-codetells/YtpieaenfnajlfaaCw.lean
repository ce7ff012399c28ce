/- Code: the document's Bytes, Size. -/
import Derived.Test.YtpieaenfnajlfaaCu
import Derived.Test.YtpieaenfnajlfaaCg
namespace Go.Proofs.Ytpieaenfnajlfaa
open Go.RowKit Go.IntWalk Go.Lib
set_option linter.unusedSimpArgs false
set_option linter.unusedVariables false

/-- The document's writer under way, beside the instruction that is told. -/
def WS (w : World) (i : Ins) (p : Nat) (wr : World) (bs : List UInt8) : Prop :=
  ∃ ao cap, XWAt wr p ao cap bs false ∧ Fr (fun _ => False) w wr ∧ InsAt wr w.heap.size i ∧ w.heap.size < p ∧ ∀ k, blk ao k → w.heap.size < k

theorem WS.step {w wr w' : World} {i : Ins} {p : Nat} {ao : Option Addr} {bs : List UInt8} (hF : Fr (fun _ => False) w wr) (hI : InsAt wr w.heap.size i) (hp : w.heap.size < p) (hb : ∀ k, blk ao k → w.heap.size < k) (h : XPost wr p ao bs false w') : WS w i p w' bs := by
  obtain ⟨ao', cap', hX, hF', hn⟩ := h
  refine ⟨ao', cap', hX, hF.trans hF' (fun k hk e => by rcases e with e | e; omega; have := hb k e; omega), hI.fr hF' (fun e => by rcases e with e | e; omega; have := hb _ e; omega), hp, fun k hk => ?_⟩
  rcases hn with e | hn
  · exact hb k (e ▸ hk)
  · have := hn k hk
    have := hI.lt
    omega

theorem ws_int {w wr : World} {i : Ins} {p : Nat} {bs : List UInt8} (h : WS w i p wr bs) (n : Int) (h0 : 0 ≤ n) (h1 : n ≤ 127) (hl : bs.length ≤ 1000) :
    Calls Try.prog 32 #[.pointer (some ⟨p, 0, none⟩), .int .i64 n] wr fun e w' => e = .returned (.tuple #[]) ∧ WS w i p w' (bs ++ [UInt8.ofNat n.toNat]) := by
  obtain ⟨ao, cap, hX, hF, hI, hp, hb⟩ := h
  refine (xint_any p ao cap bs [UInt8.ofNat n.toNat] false n wr hX (by omega) (by rw [if_neg (by omega), sevens_lt (by omega)]) (by simp; omega)).mono ?_
  rintro e w' ⟨rfl, hP⟩
  rw [show (false || decide (n < 0)) = false by simp; omega] at hP
  exact ⟨rfl, WS.step hF hI hp hb hP⟩

theorem ws_text {w wr : World} {i : Ins} {p : Nat} {bs : List UInt8} (h : WS w i p wr bs) (x : ByteArray) (h1 : (x.size : Int) ≤ 64) (hl : bs.length ≤ 1000) :
    Calls Try.prog 33 #[.pointer (some ⟨p, 0, none⟩), .string x] wr fun e w' => e = .returned (.tuple #[]) ∧ WS w i p w' (bs ++ (UInt8.ofNat x.size :: x.data.toList)) := by
  obtain ⟨ao, cap, hX, hF, hI, hp, hb⟩ := h
  refine (xtext_any p ao cap bs [UInt8.ofNat x.size] false x wr hX (by omega) (by rw [sevens_lt (by omega)]) (by simp; omega)).mono ?_
  rintro e w' ⟨rfl, hP⟩
  rw [List.append_assoc] at hP
  exact ⟨rfl, WS.step hF hI hp hb hP⟩

theorem ws_out {w wr : World} {i : Ins} {p : Nat} {bs : List UInt8} (h : WS w i p wr bs) (hl : bs.length ≤ 1000) :
    Calls Try.prog 34 #[.pointer (some ⟨p, 0, none⟩)] wr fun e w' => ∃ ao cap, e = .returned (.tuple #[.slice ao bs.length cap, .int .i64 0]) ∧ BsAt w' ao bs ∧ Fr (fun _ => False) w w' ∧ ∀ k, blk ao k → w.heap.size ≤ k := by
  obtain ⟨ao, cap, hX, hF, hI, hp, hb⟩ := h
  refine (xout_ok p ao cap bs wr hX (by omega)).mono ?_
  rintro e w' ⟨ao', cap', rfl, hr, hF', hn⟩
  exact ⟨ao', cap', rfl, hr.bs, hF.trans hF' (fun _ _ e => e), fun k hk => Nat.le_trans hF.size (hn k hk)⟩

/-- What the document's Bytes answers. -/
def VBytesP (i : Ins) (w : World) (e : Ending) (w' : World) : Prop :=
  ∃ ao cap, e = .returned (.tuple #[.slice ao (codeI i).length cap, .int .i64 (checkE i)]) ∧ BsAt w' ao (codeI i) ∧ Fr (fun _ => False) w w' ∧ ∀ k, blk ao k → w.heap.size ≤ k

theorem vbytes_bad (i : Ins) (h2 : checkE i = 2) (w : World) : Calls Try.prog 10 #[.agg (icells i)] w (VBytesP i w) := by
  have HC := hideIt (fun w => by have := vcheck_any i w; rw [vchk_eq, h2] at this; exact this)
  have hcode : codeI i = [] := by unfold codeI; rw [if_neg (by rw [h2]; decide)]
  have HE := hideIt (And.intro hcode h2)
  clear hcode h2
  obtain ⟨op, a, b, c, n, s⟩ := i
  unfold icells
  go_enter Try.func10, Try.ntmps10
  go_wp2_with fail
  refine Calls.mono (HC.out _) ?_
  rintro e w1 ⟨rfl, hF1⟩
  have HF1 := hideIt hF1
  clear hF1
  go_wp2_with fail
  go_ret2
  exact ⟨none, 0, by rw [HE.out.1, HE.out.2]; rfl, by rw [HE.out.1]; exact Or.inl ⟨rfl, rfl⟩, ((Fr.refl _ _).alloc _).trans HF1.out (fun _ _ e => e), fun k hk => by obtain ⟨_, e, _⟩ := hk; cases e⟩

set_option maxRecDepth 100000 in
set_option maxHeartbeats 2000000 in
theorem vbytes_1 (a b c n : Int) (s : ByteArray) (hG : Good ⟨1, a, b, c, n, s⟩ 1) (w : World) : Calls Try.prog 10 #[.agg (icells ⟨1, a, b, c, n, s⟩)] w (VBytesP ⟨1, a, b, c, n, s⟩ w) := by
  have HC := hideIt (fun w => by have := vcheck_any ⟨1, a, b, c, n, s⟩ w; rw [vchk_eq, hG.check] at this; exact this)
  have HH := hideIt (fun w => by have := vhas_any 1 w; rw [show hasT 1 = (true, false, false, false, true) from rfl] at this; exact this)
  have ra := (fb1 ⟨1, a, b, c, n, s⟩).1 (hG.fit 65 (by decide))
  dsimp only at ra
  have rs := (fb6 ⟨1, a, b, c, n, s⟩).1 (hG.fit 83 (by decide))
  dsimp only at rs
  have HE := hideIt (And.intro (show codeI ⟨1, a, b, c, n, s⟩ = [] ++ [UInt8.ofNat (1 : Int).toNat] ++ [UInt8.ofNat a.toNat] ++ (UInt8.ofNat s.size :: s.data.toList) by rw [hG.code, show ltrs 1 = [65, 83] from by decide]; simp [encs, encL, fld, Ins.get]) hG.check)
  have HII := hideIt (show ∀ w1, Fr (fun _ => False) (w.alloc (.cells (icells ⟨1, a, b, c, n, s⟩) 23)) w1 → InsAt w1 w.heap.size ⟨1, a, b, c, n, s⟩ from fun w1 hF => (hF.block w.heap.size (by simp) (fun e => e)).trans (heap_new rfl))
  clear hG
  unfold icells hasV at *
  go_enter Try.func10, Try.ntmps10
  go_wp2_with fail
  refine Calls.mono (HC.out _) ?_
  rintro e w1 ⟨rfl, hF1⟩
  have HF1 := hideIt (((Fr.refl (fun _ => False) w).alloc _).trans hF1 (fun _ _ e => e))
  have hI := HII.out _ hF1
  have hlt : w.heap.size < w1.heap.size := hI.lt
  have c0 := hI.c0
  dsimp only at c0
  have HI := hideIt hI
  clear hF1 hI
  go_wp2_with fail
  refine Calls.mono (HH.out _) ?_
  rintro e wx ⟨rfl, rfl⟩
  go_wp2_with fail
  have hnb : ∀ k, ¬ blk none k := fun k ⟨_, e, _⟩ => by cases e
  have HW0 := hideIt (show WS w ⟨1, a, b, c, n, s⟩ wx.heap.size (wx.alloc (.cells #[.slice none 0 0, .bool false] 62)) [] from ⟨none, 0, ⟨heap_new rfl, World.ownsRow_nil _ _ _ _, hnb _⟩, HF1.out.alloc _, HI.out.fr ((Fr.refl (fun _ => False) _).alloc _) (fun e => e), hlt, fun k hk => absurd hk (hnb k)⟩)
  clear hnb c0
  refine Calls.mono (ws_int HW0.out 1 (by decide) (by decide) (by simp)) ?_
  rintro e w2 ⟨rfl, hW⟩
  have HW1 := hideIt hW
  obtain ⟨_, _, _, _, hI, _⟩ := hW
  have c1 := hI.c1
  dsimp only at c1
  clear hI
  go_wp2_with fail
  clear c1
  refine Calls.mono (ws_int HW1.out a (by omega) (by omega) (by simp)) ?_
  rintro e w3 ⟨rfl, hW⟩
  have HW2 := hideIt hW
  obtain ⟨_, _, _, _, hI, _⟩ := hW
  have c2 := hI.c5
  dsimp only at c2
  clear hI
  go_wp2_with fail
  clear c2
  refine Calls.mono (ws_text HW2.out s rs (by simp)) ?_
  rintro e w4 ⟨rfl, hW⟩
  have HW3 := hideIt hW
  clear hW
  go_wp2_with fail
  refine Calls.mono (ws_out HW3.out (by simp; omega)) ?_
  rintro e wz ⟨ao, cap, rfl, hbs, hF, hn⟩
  rw [← HE.out.1] at hbs
  have HQ := hideIt (And.intro hbs (And.intro hF hn))
  have HLN := hideIt (show (codeI ⟨1, a, b, c, n, s⟩).length = _ from congrArg List.length HE.out.1)
  clear hbs hF hn
  go_wp2_with fail
  go_ret2
  exact ⟨ao, cap, by rw [HLN.out, HE.out.2]; simp, HQ.out.1, HQ.out.2⟩

set_option maxRecDepth 100000 in
set_option maxHeartbeats 2000000 in
theorem vbytes_2 (a b c n : Int) (s : ByteArray) (hG : Good ⟨2, a, b, c, n, s⟩ 2) (w : World) : Calls Try.prog 10 #[.agg (icells ⟨2, a, b, c, n, s⟩)] w (VBytesP ⟨2, a, b, c, n, s⟩ w) := by
  have HC := hideIt (fun w => by have := vcheck_any ⟨2, a, b, c, n, s⟩ w; rw [vchk_eq, hG.check] at this; exact this)
  have HH := hideIt (fun w => by have := vhas_any 2 w; rw [show hasT 2 = (true, true, false, false, false) from rfl] at this; exact this)
  have ra := (fb1 ⟨2, a, b, c, n, s⟩).1 (hG.fit 65 (by decide))
  dsimp only at ra
  have rb := (fb2 ⟨2, a, b, c, n, s⟩).1 (hG.fit 66 (by decide))
  dsimp only at rb
  have HE := hideIt (And.intro (show codeI ⟨2, a, b, c, n, s⟩ = [] ++ [UInt8.ofNat (2 : Int).toNat] ++ [UInt8.ofNat a.toNat] ++ [UInt8.ofNat b.toNat] by rw [hG.code, show ltrs 2 = [65, 66] from by decide]; simp [encs, encL, fld, Ins.get]) hG.check)
  have HII := hideIt (show ∀ w1, Fr (fun _ => False) (w.alloc (.cells (icells ⟨2, a, b, c, n, s⟩) 23)) w1 → InsAt w1 w.heap.size ⟨2, a, b, c, n, s⟩ from fun w1 hF => (hF.block w.heap.size (by simp) (fun e => e)).trans (heap_new rfl))
  clear hG
  unfold icells hasV at *
  go_enter Try.func10, Try.ntmps10
  go_wp2_with fail
  refine Calls.mono (HC.out _) ?_
  rintro e w1 ⟨rfl, hF1⟩
  have HF1 := hideIt (((Fr.refl (fun _ => False) w).alloc _).trans hF1 (fun _ _ e => e))
  have hI := HII.out _ hF1
  have hlt : w.heap.size < w1.heap.size := hI.lt
  have c0 := hI.c0
  dsimp only at c0
  have HI := hideIt hI
  clear hF1 hI
  go_wp2_with fail
  refine Calls.mono (HH.out _) ?_
  rintro e wx ⟨rfl, rfl⟩
  go_wp2_with fail
  have hnb : ∀ k, ¬ blk none k := fun k ⟨_, e, _⟩ => by cases e
  have HW0 := hideIt (show WS w ⟨2, a, b, c, n, s⟩ wx.heap.size (wx.alloc (.cells #[.slice none 0 0, .bool false] 62)) [] from ⟨none, 0, ⟨heap_new rfl, World.ownsRow_nil _ _ _ _, hnb _⟩, HF1.out.alloc _, HI.out.fr ((Fr.refl (fun _ => False) _).alloc _) (fun e => e), hlt, fun k hk => absurd hk (hnb k)⟩)
  clear hnb c0
  refine Calls.mono (ws_int HW0.out 2 (by decide) (by decide) (by simp)) ?_
  rintro e w2 ⟨rfl, hW⟩
  have HW1 := hideIt hW
  obtain ⟨_, _, _, _, hI, _⟩ := hW
  have c1 := hI.c1
  dsimp only at c1
  clear hI
  go_wp2_with fail
  clear c1
  refine Calls.mono (ws_int HW1.out a (by omega) (by omega) (by simp)) ?_
  rintro e w3 ⟨rfl, hW⟩
  have HW2 := hideIt hW
  obtain ⟨_, _, _, _, hI, _⟩ := hW
  have c2 := hI.c2
  dsimp only at c2
  clear hI
  go_wp2_with fail
  clear c2
  refine Calls.mono (ws_int HW2.out b (by omega) (by omega) (by simp)) ?_
  rintro e w4 ⟨rfl, hW⟩
  have HW3 := hideIt hW
  clear hW
  go_wp2_with fail
  refine Calls.mono (ws_out HW3.out (by simp)) ?_
  rintro e wz ⟨ao, cap, rfl, hbs, hF, hn⟩
  rw [← HE.out.1] at hbs
  have HQ := hideIt (And.intro hbs (And.intro hF hn))
  have HLN := hideIt (show (codeI ⟨2, a, b, c, n, s⟩).length = _ from congrArg List.length HE.out.1)
  clear hbs hF hn
  go_wp2_with fail
  go_ret2
  exact ⟨ao, cap, by rw [HLN.out, HE.out.2]; simp, HQ.out.1, HQ.out.2⟩

set_option maxRecDepth 100000 in
set_option maxHeartbeats 2000000 in
theorem vbytes_3 (a b c n : Int) (s : ByteArray) (hG : Good ⟨3, a, b, c, n, s⟩ 3) (w : World) : Calls Try.prog 10 #[.agg (icells ⟨3, a, b, c, n, s⟩)] w (VBytesP ⟨3, a, b, c, n, s⟩ w) := by
  have HC := hideIt (fun w => by have := vcheck_any ⟨3, a, b, c, n, s⟩ w; rw [vchk_eq, hG.check] at this; exact this)
  have HH := hideIt (fun w => by have := vhas_any 3 w; rw [show hasT 3 = (true, true, true, false, false) from rfl] at this; exact this)
  have ra := (fb1 ⟨3, a, b, c, n, s⟩).1 (hG.fit 65 (by decide))
  dsimp only at ra
  have rb := (fb2 ⟨3, a, b, c, n, s⟩).1 (hG.fit 66 (by decide))
  dsimp only at rb
  have rc := (fb3 ⟨3, a, b, c, n, s⟩).1 (hG.fit 67 (by decide))
  dsimp only at rc
  have HE := hideIt (And.intro (show codeI ⟨3, a, b, c, n, s⟩ = [] ++ [UInt8.ofNat (3 : Int).toNat] ++ [UInt8.ofNat a.toNat] ++ [UInt8.ofNat b.toNat] ++ [UInt8.ofNat c.toNat] by rw [hG.code, show ltrs 3 = [65, 66, 67] from by decide]; simp [encs, encL, fld, Ins.get]) hG.check)
  have HII := hideIt (show ∀ w1, Fr (fun _ => False) (w.alloc (.cells (icells ⟨3, a, b, c, n, s⟩) 23)) w1 → InsAt w1 w.heap.size ⟨3, a, b, c, n, s⟩ from fun w1 hF => (hF.block w.heap.size (by simp) (fun e => e)).trans (heap_new rfl))
  clear hG
  unfold icells hasV at *
  go_enter Try.func10, Try.ntmps10
  go_wp2_with fail
  refine Calls.mono (HC.out _) ?_
  rintro e w1 ⟨rfl, hF1⟩
  have HF1 := hideIt (((Fr.refl (fun _ => False) w).alloc _).trans hF1 (fun _ _ e => e))
  have hI := HII.out _ hF1
  have hlt : w.heap.size < w1.heap.size := hI.lt
  have c0 := hI.c0
  dsimp only at c0
  have HI := hideIt hI
  clear hF1 hI
  go_wp2_with fail
  refine Calls.mono (HH.out _) ?_
  rintro e wx ⟨rfl, rfl⟩
  go_wp2_with fail
  have hnb : ∀ k, ¬ blk none k := fun k ⟨_, e, _⟩ => by cases e
  have HW0 := hideIt (show WS w ⟨3, a, b, c, n, s⟩ wx.heap.size (wx.alloc (.cells #[.slice none 0 0, .bool false] 62)) [] from ⟨none, 0, ⟨heap_new rfl, World.ownsRow_nil _ _ _ _, hnb _⟩, HF1.out.alloc _, HI.out.fr ((Fr.refl (fun _ => False) _).alloc _) (fun e => e), hlt, fun k hk => absurd hk (hnb k)⟩)
  clear hnb c0
  refine Calls.mono (ws_int HW0.out 3 (by decide) (by decide) (by simp)) ?_
  rintro e w2 ⟨rfl, hW⟩
  have HW1 := hideIt hW
  obtain ⟨_, _, _, _, hI, _⟩ := hW
  have c1 := hI.c1
  dsimp only at c1
  clear hI
  go_wp2_with fail
  clear c1
  refine Calls.mono (ws_int HW1.out a (by omega) (by omega) (by simp)) ?_
  rintro e w3 ⟨rfl, hW⟩
  have HW2 := hideIt hW
  obtain ⟨_, _, _, _, hI, _⟩ := hW
  have c2 := hI.c2
  dsimp only at c2
  clear hI
  go_wp2_with fail
  clear c2
  refine Calls.mono (ws_int HW2.out b (by omega) (by omega) (by simp)) ?_
  rintro e w4 ⟨rfl, hW⟩
  have HW3 := hideIt hW
  obtain ⟨_, _, _, _, hI, _⟩ := hW
  have c3 := hI.c3
  dsimp only at c3
  clear hI
  go_wp2_with fail
  clear c3
  refine Calls.mono (ws_int HW3.out c (by omega) (by omega) (by simp)) ?_
  rintro e w5 ⟨rfl, hW⟩
  have HW4 := hideIt hW
  clear hW
  go_wp2_with fail
  refine Calls.mono (ws_out HW4.out (by simp)) ?_
  rintro e wz ⟨ao, cap, rfl, hbs, hF, hn⟩
  rw [← HE.out.1] at hbs
  have HQ := hideIt (And.intro hbs (And.intro hF hn))
  have HLN := hideIt (show (codeI ⟨3, a, b, c, n, s⟩).length = _ from congrArg List.length HE.out.1)
  clear hbs hF hn
  go_wp2_with fail
  go_ret2
  exact ⟨ao, cap, by rw [HLN.out, HE.out.2]; simp, HQ.out.1, HQ.out.2⟩

set_option maxRecDepth 100000 in
set_option maxHeartbeats 2000000 in
theorem vbytes_4 (a b c n : Int) (s : ByteArray) (hG : Good ⟨4, a, b, c, n, s⟩ 4) (w : World) : Calls Try.prog 10 #[.agg (icells ⟨4, a, b, c, n, s⟩)] w (VBytesP ⟨4, a, b, c, n, s⟩ w) := by
  have HC := hideIt (fun w => by have := vcheck_any ⟨4, a, b, c, n, s⟩ w; rw [vchk_eq, hG.check] at this; exact this)
  have HH := hideIt (fun w => by have := vhas_any 4 w; rw [show hasT 4 = (true, true, false, false, false) from rfl] at this; exact this)
  have ra := (fb1 ⟨4, a, b, c, n, s⟩).1 (hG.fit 65 (by decide))
  dsimp only at ra
  have rb := (fb2 ⟨4, a, b, c, n, s⟩).1 (hG.fit 66 (by decide))
  dsimp only at rb
  have HE := hideIt (And.intro (show codeI ⟨4, a, b, c, n, s⟩ = [] ++ [UInt8.ofNat (4 : Int).toNat] ++ [UInt8.ofNat a.toNat] ++ [UInt8.ofNat b.toNat] by rw [hG.code, show ltrs 4 = [65, 66] from by decide]; simp [encs, encL, fld, Ins.get]) hG.check)
  have HII := hideIt (show ∀ w1, Fr (fun _ => False) (w.alloc (.cells (icells ⟨4, a, b, c, n, s⟩) 23)) w1 → InsAt w1 w.heap.size ⟨4, a, b, c, n, s⟩ from fun w1 hF => (hF.block w.heap.size (by simp) (fun e => e)).trans (heap_new rfl))
  clear hG
  unfold icells hasV at *
  go_enter Try.func10, Try.ntmps10
  go_wp2_with fail
  refine Calls.mono (HC.out _) ?_
  rintro e w1 ⟨rfl, hF1⟩
  have HF1 := hideIt (((Fr.refl (fun _ => False) w).alloc _).trans hF1 (fun _ _ e => e))
  have hI := HII.out _ hF1
  have hlt : w.heap.size < w1.heap.size := hI.lt
  have c0 := hI.c0
  dsimp only at c0
  have HI := hideIt hI
  clear hF1 hI
  go_wp2_with fail
  refine Calls.mono (HH.out _) ?_
  rintro e wx ⟨rfl, rfl⟩
  go_wp2_with fail
  have hnb : ∀ k, ¬ blk none k := fun k ⟨_, e, _⟩ => by cases e
  have HW0 := hideIt (show WS w ⟨4, a, b, c, n, s⟩ wx.heap.size (wx.alloc (.cells #[.slice none 0 0, .bool false] 62)) [] from ⟨none, 0, ⟨heap_new rfl, World.ownsRow_nil _ _ _ _, hnb _⟩, HF1.out.alloc _, HI.out.fr ((Fr.refl (fun _ => False) _).alloc _) (fun e => e), hlt, fun k hk => absurd hk (hnb k)⟩)
  clear hnb c0
  refine Calls.mono (ws_int HW0.out 4 (by decide) (by decide) (by simp)) ?_
  rintro e w2 ⟨rfl, hW⟩
  have HW1 := hideIt hW
  obtain ⟨_, _, _, _, hI, _⟩ := hW
  have c1 := hI.c1
  dsimp only at c1
  clear hI
  go_wp2_with fail
  clear c1
  refine Calls.mono (ws_int HW1.out a (by omega) (by omega) (by simp)) ?_
  rintro e w3 ⟨rfl, hW⟩
  have HW2 := hideIt hW
  obtain ⟨_, _, _, _, hI, _⟩ := hW
  have c2 := hI.c2
  dsimp only at c2
  clear hI
  go_wp2_with fail
  clear c2
  refine Calls.mono (ws_int HW2.out b (by omega) (by omega) (by simp)) ?_
  rintro e w4 ⟨rfl, hW⟩
  have HW3 := hideIt hW
  clear hW
  go_wp2_with fail
  refine Calls.mono (ws_out HW3.out (by simp)) ?_
  rintro e wz ⟨ao, cap, rfl, hbs, hF, hn⟩
  rw [← HE.out.1] at hbs
  have HQ := hideIt (And.intro hbs (And.intro hF hn))
  have HLN := hideIt (show (codeI ⟨4, a, b, c, n, s⟩).length = _ from congrArg List.length HE.out.1)
  clear hbs hF hn
  go_wp2_with fail
  go_ret2
  exact ⟨ao, cap, by rw [HLN.out, HE.out.2]; simp, HQ.out.1, HQ.out.2⟩

set_option maxRecDepth 100000 in
set_option maxHeartbeats 2000000 in
theorem vbytes_5 (a b c n : Int) (s : ByteArray) (hG : Good ⟨5, a, b, c, n, s⟩ 5) (w : World) : Calls Try.prog 10 #[.agg (icells ⟨5, a, b, c, n, s⟩)] w (VBytesP ⟨5, a, b, c, n, s⟩ w) := by
  have HC := hideIt (fun w => by have := vcheck_any ⟨5, a, b, c, n, s⟩ w; rw [vchk_eq, hG.check] at this; exact this)
  have HH := hideIt (fun w => by have := vhas_any 5 w; rw [show hasT 5 = (true, false, false, false, false) from rfl] at this; exact this)
  have ra := (fb1 ⟨5, a, b, c, n, s⟩).1 (hG.fit 65 (by decide))
  dsimp only at ra
  have HE := hideIt (And.intro (show codeI ⟨5, a, b, c, n, s⟩ = [] ++ [UInt8.ofNat (5 : Int).toNat] ++ [UInt8.ofNat a.toNat] by rw [hG.code, show ltrs 5 = [65] from by decide]; simp [encs, encL, fld, Ins.get]) hG.check)
  have HII := hideIt (show ∀ w1, Fr (fun _ => False) (w.alloc (.cells (icells ⟨5, a, b, c, n, s⟩) 23)) w1 → InsAt w1 w.heap.size ⟨5, a, b, c, n, s⟩ from fun w1 hF => (hF.block w.heap.size (by simp) (fun e => e)).trans (heap_new rfl))
  clear hG
  unfold icells hasV at *
  go_enter Try.func10, Try.ntmps10
  go_wp2_with fail
  refine Calls.mono (HC.out _) ?_
  rintro e w1 ⟨rfl, hF1⟩
  have HF1 := hideIt (((Fr.refl (fun _ => False) w).alloc _).trans hF1 (fun _ _ e => e))
  have hI := HII.out _ hF1
  have hlt : w.heap.size < w1.heap.size := hI.lt
  have c0 := hI.c0
  dsimp only at c0
  have HI := hideIt hI
  clear hF1 hI
  go_wp2_with fail
  refine Calls.mono (HH.out _) ?_
  rintro e wx ⟨rfl, rfl⟩
  go_wp2_with fail
  have hnb : ∀ k, ¬ blk none k := fun k ⟨_, e, _⟩ => by cases e
  have HW0 := hideIt (show WS w ⟨5, a, b, c, n, s⟩ wx.heap.size (wx.alloc (.cells #[.slice none 0 0, .bool false] 62)) [] from ⟨none, 0, ⟨heap_new rfl, World.ownsRow_nil _ _ _ _, hnb _⟩, HF1.out.alloc _, HI.out.fr ((Fr.refl (fun _ => False) _).alloc _) (fun e => e), hlt, fun k hk => absurd hk (hnb k)⟩)
  clear hnb c0
  refine Calls.mono (ws_int HW0.out 5 (by decide) (by decide) (by simp)) ?_
  rintro e w2 ⟨rfl, hW⟩
  have HW1 := hideIt hW
  obtain ⟨_, _, _, _, hI, _⟩ := hW
  have c1 := hI.c1
  dsimp only at c1
  clear hI
  go_wp2_with fail
  clear c1
  refine Calls.mono (ws_int HW1.out a (by omega) (by omega) (by simp)) ?_
  rintro e w3 ⟨rfl, hW⟩
  have HW2 := hideIt hW
  clear hW
  go_wp2_with fail
  refine Calls.mono (ws_out HW2.out (by simp)) ?_
  rintro e wz ⟨ao, cap, rfl, hbs, hF, hn⟩
  rw [← HE.out.1] at hbs
  have HQ := hideIt (And.intro hbs (And.intro hF hn))
  have HLN := hideIt (show (codeI ⟨5, a, b, c, n, s⟩).length = _ from congrArg List.length HE.out.1)
  clear hbs hF hn
  go_wp2_with fail
  go_ret2
  exact ⟨ao, cap, by rw [HLN.out, HE.out.2]; simp, HQ.out.1, HQ.out.2⟩

set_option maxRecDepth 100000 in
set_option maxHeartbeats 2000000 in
theorem vbytes_6 (a b c n : Int) (s : ByteArray) (hG : Good ⟨6, a, b, c, n, s⟩ 6) (w : World) : Calls Try.prog 10 #[.agg (icells ⟨6, a, b, c, n, s⟩)] w (VBytesP ⟨6, a, b, c, n, s⟩ w) := by
  have HC := hideIt (fun w => by have := vcheck_any ⟨6, a, b, c, n, s⟩ w; rw [vchk_eq, hG.check] at this; exact this)
  have HH := hideIt (fun w => by have := vhas_any 6 w; rw [show hasT 6 = (true, true, true, true, false) from rfl] at this; exact this)
  have ra := (fb1 ⟨6, a, b, c, n, s⟩).1 (hG.fit 65 (by decide))
  dsimp only at ra
  have rb := (fb2 ⟨6, a, b, c, n, s⟩).1 (hG.fit 66 (by decide))
  dsimp only at rb
  have rc := (fb3 ⟨6, a, b, c, n, s⟩).1 (hG.fit 67 (by decide))
  dsimp only at rc
  have rn := (fb4 ⟨6, a, b, c, n, s⟩).1 (hG.fit 69 (by decide))
  dsimp only at rn
  have HE := hideIt (And.intro (show codeI ⟨6, a, b, c, n, s⟩ = [] ++ [UInt8.ofNat (6 : Int).toNat] ++ [UInt8.ofNat a.toNat] ++ [UInt8.ofNat b.toNat] ++ [UInt8.ofNat c.toNat] ++ [UInt8.ofNat n.toNat] by rw [hG.code, show ltrs 6 = [65, 66, 67, 69] from by decide]; simp [encs, encL, fld, Ins.get]) hG.check)
  have HII := hideIt (show ∀ w1, Fr (fun _ => False) (w.alloc (.cells (icells ⟨6, a, b, c, n, s⟩) 23)) w1 → InsAt w1 w.heap.size ⟨6, a, b, c, n, s⟩ from fun w1 hF => (hF.block w.heap.size (by simp) (fun e => e)).trans (heap_new rfl))
  clear hG
  unfold icells hasV at *
  go_enter Try.func10, Try.ntmps10
  go_wp2_with fail
  refine Calls.mono (HC.out _) ?_
  rintro e w1 ⟨rfl, hF1⟩
  have HF1 := hideIt (((Fr.refl (fun _ => False) w).alloc _).trans hF1 (fun _ _ e => e))
  have hI := HII.out _ hF1
  have hlt : w.heap.size < w1.heap.size := hI.lt
  have c0 := hI.c0
  dsimp only at c0
  have HI := hideIt hI
  clear hF1 hI
  go_wp2_with fail
  refine Calls.mono (HH.out _) ?_
  rintro e wx ⟨rfl, rfl⟩
  go_wp2_with fail
  have hnb : ∀ k, ¬ blk none k := fun k ⟨_, e, _⟩ => by cases e
  have HW0 := hideIt (show WS w ⟨6, a, b, c, n, s⟩ wx.heap.size (wx.alloc (.cells #[.slice none 0 0, .bool false] 62)) [] from ⟨none, 0, ⟨heap_new rfl, World.ownsRow_nil _ _ _ _, hnb _⟩, HF1.out.alloc _, HI.out.fr ((Fr.refl (fun _ => False) _).alloc _) (fun e => e), hlt, fun k hk => absurd hk (hnb k)⟩)
  clear hnb c0
  refine Calls.mono (ws_int HW0.out 6 (by decide) (by decide) (by simp)) ?_
  rintro e w2 ⟨rfl, hW⟩
  have HW1 := hideIt hW
  obtain ⟨_, _, _, _, hI, _⟩ := hW
  have c1 := hI.c1
  dsimp only at c1
  clear hI
  go_wp2_with fail
  clear c1
  refine Calls.mono (ws_int HW1.out a (by omega) (by omega) (by simp)) ?_
  rintro e w3 ⟨rfl, hW⟩
  have HW2 := hideIt hW
  obtain ⟨_, _, _, _, hI, _⟩ := hW
  have c2 := hI.c2
  dsimp only at c2
  clear hI
  go_wp2_with fail
  clear c2
  refine Calls.mono (ws_int HW2.out b (by omega) (by omega) (by simp)) ?_
  rintro e w4 ⟨rfl, hW⟩
  have HW3 := hideIt hW
  obtain ⟨_, _, _, _, hI, _⟩ := hW
  have c3 := hI.c3
  dsimp only at c3
  clear hI
  go_wp2_with fail
  clear c3
  refine Calls.mono (ws_int HW3.out c (by omega) (by omega) (by simp)) ?_
  rintro e w5 ⟨rfl, hW⟩
  have HW4 := hideIt hW
  obtain ⟨_, _, _, _, hI, _⟩ := hW
  have c4 := hI.c4
  dsimp only at c4
  clear hI
  go_wp2_with fail
  clear c4
  refine Calls.mono (ws_int HW4.out n (by omega) (by omega) (by simp)) ?_
  rintro e w6 ⟨rfl, hW⟩
  have HW5 := hideIt hW
  clear hW
  go_wp2_with fail
  refine Calls.mono (ws_out HW5.out (by simp)) ?_
  rintro e wz ⟨ao, cap, rfl, hbs, hF, hn⟩
  rw [← HE.out.1] at hbs
  have HQ := hideIt (And.intro hbs (And.intro hF hn))
  have HLN := hideIt (show (codeI ⟨6, a, b, c, n, s⟩).length = _ from congrArg List.length HE.out.1)
  clear hbs hF hn
  go_wp2_with fail
  go_ret2
  exact ⟨ao, cap, by rw [HLN.out, HE.out.2]; simp, HQ.out.1, HQ.out.2⟩

set_option maxRecDepth 100000 in
set_option maxHeartbeats 2000000 in
theorem vbytes_7 (a b c n : Int) (s : ByteArray) (hG : Good ⟨7, a, b, c, n, s⟩ 7) (w : World) : Calls Try.prog 10 #[.agg (icells ⟨7, a, b, c, n, s⟩)] w (VBytesP ⟨7, a, b, c, n, s⟩ w) := by
  have HC := hideIt (fun w => by have := vcheck_any ⟨7, a, b, c, n, s⟩ w; rw [vchk_eq, hG.check] at this; exact this)
  have HH := hideIt (fun w => by have := vhas_any 7 w; rw [show hasT 7 = (true, true, true, false, false) from rfl] at this; exact this)
  have ra := (fb1 ⟨7, a, b, c, n, s⟩).1 (hG.fit 65 (by decide))
  dsimp only at ra
  have rb := (fb2 ⟨7, a, b, c, n, s⟩).1 (hG.fit 66 (by decide))
  dsimp only at rb
  have rc := (fb3 ⟨7, a, b, c, n, s⟩).1 (hG.fit 67 (by decide))
  dsimp only at rc
  have HE := hideIt (And.intro (show codeI ⟨7, a, b, c, n, s⟩ = [] ++ [UInt8.ofNat (7 : Int).toNat] ++ [UInt8.ofNat a.toNat] ++ [UInt8.ofNat b.toNat] ++ [UInt8.ofNat c.toNat] by rw [hG.code, show ltrs 7 = [65, 66, 67] from by decide]; simp [encs, encL, fld, Ins.get]) hG.check)
  have HII := hideIt (show ∀ w1, Fr (fun _ => False) (w.alloc (.cells (icells ⟨7, a, b, c, n, s⟩) 23)) w1 → InsAt w1 w.heap.size ⟨7, a, b, c, n, s⟩ from fun w1 hF => (hF.block w.heap.size (by simp) (fun e => e)).trans (heap_new rfl))
  clear hG
  unfold icells hasV at *
  go_enter Try.func10, Try.ntmps10
  go_wp2_with fail
  refine Calls.mono (HC.out _) ?_
  rintro e w1 ⟨rfl, hF1⟩
  have HF1 := hideIt (((Fr.refl (fun _ => False) w).alloc _).trans hF1 (fun _ _ e => e))
  have hI := HII.out _ hF1
  have hlt : w.heap.size < w1.heap.size := hI.lt
  have c0 := hI.c0
  dsimp only at c0
  have HI := hideIt hI
  clear hF1 hI
  go_wp2_with fail
  refine Calls.mono (HH.out _) ?_
  rintro e wx ⟨rfl, rfl⟩
  go_wp2_with fail
  have hnb : ∀ k, ¬ blk none k := fun k ⟨_, e, _⟩ => by cases e
  have HW0 := hideIt (show WS w ⟨7, a, b, c, n, s⟩ wx.heap.size (wx.alloc (.cells #[.slice none 0 0, .bool false] 62)) [] from ⟨none, 0, ⟨heap_new rfl, World.ownsRow_nil _ _ _ _, hnb _⟩, HF1.out.alloc _, HI.out.fr ((Fr.refl (fun _ => False) _).alloc _) (fun e => e), hlt, fun k hk => absurd hk (hnb k)⟩)
  clear hnb c0
  refine Calls.mono (ws_int HW0.out 7 (by decide) (by decide) (by simp)) ?_
  rintro e w2 ⟨rfl, hW⟩
  have HW1 := hideIt hW
  obtain ⟨_, _, _, _, hI, _⟩ := hW
  have c1 := hI.c1
  dsimp only at c1
  clear hI
  go_wp2_with fail
  clear c1
  refine Calls.mono (ws_int HW1.out a (by omega) (by omega) (by simp)) ?_
  rintro e w3 ⟨rfl, hW⟩
  have HW2 := hideIt hW
  obtain ⟨_, _, _, _, hI, _⟩ := hW
  have c2 := hI.c2
  dsimp only at c2
  clear hI
  go_wp2_with fail
  clear c2
  refine Calls.mono (ws_int HW2.out b (by omega) (by omega) (by simp)) ?_
  rintro e w4 ⟨rfl, hW⟩
  have HW3 := hideIt hW
  obtain ⟨_, _, _, _, hI, _⟩ := hW
  have c3 := hI.c3
  dsimp only at c3
  clear hI
  go_wp2_with fail
  clear c3
  refine Calls.mono (ws_int HW3.out c (by omega) (by omega) (by simp)) ?_
  rintro e w5 ⟨rfl, hW⟩
  have HW4 := hideIt hW
  clear hW
  go_wp2_with fail
  refine Calls.mono (ws_out HW4.out (by simp)) ?_
  rintro e wz ⟨ao, cap, rfl, hbs, hF, hn⟩
  rw [← HE.out.1] at hbs
  have HQ := hideIt (And.intro hbs (And.intro hF hn))
  have HLN := hideIt (show (codeI ⟨7, a, b, c, n, s⟩).length = _ from congrArg List.length HE.out.1)
  clear hbs hF hn
  go_wp2_with fail
  go_ret2
  exact ⟨ao, cap, by rw [HLN.out, HE.out.2]; simp, HQ.out.1, HQ.out.2⟩

set_option maxRecDepth 100000 in
set_option maxHeartbeats 2000000 in
theorem vbytes_8 (a b c n : Int) (s : ByteArray) (hG : Good ⟨8, a, b, c, n, s⟩ 8) (w : World) : Calls Try.prog 10 #[.agg (icells ⟨8, a, b, c, n, s⟩)] w (VBytesP ⟨8, a, b, c, n, s⟩ w) := by
  have HC := hideIt (fun w => by have := vcheck_any ⟨8, a, b, c, n, s⟩ w; rw [vchk_eq, hG.check] at this; exact this)
  have HH := hideIt (fun w => by have := vhas_any 8 w; rw [show hasT 8 = (true, true, true, false, false) from rfl] at this; exact this)
  have ra := (fb1 ⟨8, a, b, c, n, s⟩).1 (hG.fit 65 (by decide))
  dsimp only at ra
  have rb := (fb2 ⟨8, a, b, c, n, s⟩).1 (hG.fit 66 (by decide))
  dsimp only at rb
  have rc := (fb3 ⟨8, a, b, c, n, s⟩).1 (hG.fit 67 (by decide))
  dsimp only at rc
  have HE := hideIt (And.intro (show codeI ⟨8, a, b, c, n, s⟩ = [] ++ [UInt8.ofNat (8 : Int).toNat] ++ [UInt8.ofNat a.toNat] ++ [UInt8.ofNat b.toNat] ++ [UInt8.ofNat c.toNat] by rw [hG.code, show ltrs 8 = [65, 66, 67] from by decide]; simp [encs, encL, fld, Ins.get]) hG.check)
  have HII := hideIt (show ∀ w1, Fr (fun _ => False) (w.alloc (.cells (icells ⟨8, a, b, c, n, s⟩) 23)) w1 → InsAt w1 w.heap.size ⟨8, a, b, c, n, s⟩ from fun w1 hF => (hF.block w.heap.size (by simp) (fun e => e)).trans (heap_new rfl))
  clear hG
  unfold icells hasV at *
  go_enter Try.func10, Try.ntmps10
  go_wp2_with fail
  refine Calls.mono (HC.out _) ?_
  rintro e w1 ⟨rfl, hF1⟩
  have HF1 := hideIt (((Fr.refl (fun _ => False) w).alloc _).trans hF1 (fun _ _ e => e))
  have hI := HII.out _ hF1
  have hlt : w.heap.size < w1.heap.size := hI.lt
  have c0 := hI.c0
  dsimp only at c0
  have HI := hideIt hI
  clear hF1 hI
  go_wp2_with fail
  refine Calls.mono (HH.out _) ?_
  rintro e wx ⟨rfl, rfl⟩
  go_wp2_with fail
  have hnb : ∀ k, ¬ blk none k := fun k ⟨_, e, _⟩ => by cases e
  have HW0 := hideIt (show WS w ⟨8, a, b, c, n, s⟩ wx.heap.size (wx.alloc (.cells #[.slice none 0 0, .bool false] 62)) [] from ⟨none, 0, ⟨heap_new rfl, World.ownsRow_nil _ _ _ _, hnb _⟩, HF1.out.alloc _, HI.out.fr ((Fr.refl (fun _ => False) _).alloc _) (fun e => e), hlt, fun k hk => absurd hk (hnb k)⟩)
  clear hnb c0
  refine Calls.mono (ws_int HW0.out 8 (by decide) (by decide) (by simp)) ?_
  rintro e w2 ⟨rfl, hW⟩
  have HW1 := hideIt hW
  obtain ⟨_, _, _, _, hI, _⟩ := hW
  have c1 := hI.c1
  dsimp only at c1
  clear hI
  go_wp2_with fail
  clear c1
  refine Calls.mono (ws_int HW1.out a (by omega) (by omega) (by simp)) ?_
  rintro e w3 ⟨rfl, hW⟩
  have HW2 := hideIt hW
  obtain ⟨_, _, _, _, hI, _⟩ := hW
  have c2 := hI.c2
  dsimp only at c2
  clear hI
  go_wp2_with fail
  clear c2
  refine Calls.mono (ws_int HW2.out b (by omega) (by omega) (by simp)) ?_
  rintro e w4 ⟨rfl, hW⟩
  have HW3 := hideIt hW
  obtain ⟨_, _, _, _, hI, _⟩ := hW
  have c3 := hI.c3
  dsimp only at c3
  clear hI
  go_wp2_with fail
  clear c3
  refine Calls.mono (ws_int HW3.out c (by omega) (by omega) (by simp)) ?_
  rintro e w5 ⟨rfl, hW⟩
  have HW4 := hideIt hW
  clear hW
  go_wp2_with fail
  refine Calls.mono (ws_out HW4.out (by simp)) ?_
  rintro e wz ⟨ao, cap, rfl, hbs, hF, hn⟩
  rw [← HE.out.1] at hbs
  have HQ := hideIt (And.intro hbs (And.intro hF hn))
  have HLN := hideIt (show (codeI ⟨8, a, b, c, n, s⟩).length = _ from congrArg List.length HE.out.1)
  clear hbs hF hn
  go_wp2_with fail
  go_ret2
  exact ⟨ao, cap, by rw [HLN.out, HE.out.2]; simp, HQ.out.1, HQ.out.2⟩

set_option maxRecDepth 100000 in
set_option maxHeartbeats 2000000 in
theorem vbytes_9 (a b c n : Int) (s : ByteArray) (hG : Good ⟨9, a, b, c, n, s⟩ 9) (w : World) : Calls Try.prog 10 #[.agg (icells ⟨9, a, b, c, n, s⟩)] w (VBytesP ⟨9, a, b, c, n, s⟩ w) := by
  have HC := hideIt (fun w => by have := vcheck_any ⟨9, a, b, c, n, s⟩ w; rw [vchk_eq, hG.check] at this; exact this)
  have HH := hideIt (fun w => by have := vhas_any 9 w; rw [show hasT 9 = (true, true, true, false, false) from rfl] at this; exact this)
  have ra := (fb1 ⟨9, a, b, c, n, s⟩).1 (hG.fit 65 (by decide))
  dsimp only at ra
  have rb := (fb2 ⟨9, a, b, c, n, s⟩).1 (hG.fit 66 (by decide))
  dsimp only at rb
  have rc := (fb3 ⟨9, a, b, c, n, s⟩).1 (hG.fit 67 (by decide))
  dsimp only at rc
  have HE := hideIt (And.intro (show codeI ⟨9, a, b, c, n, s⟩ = [] ++ [UInt8.ofNat (9 : Int).toNat] ++ [UInt8.ofNat a.toNat] ++ [UInt8.ofNat b.toNat] ++ [UInt8.ofNat c.toNat] by rw [hG.code, show ltrs 9 = [65, 66, 67] from by decide]; simp [encs, encL, fld, Ins.get]) hG.check)
  have HII := hideIt (show ∀ w1, Fr (fun _ => False) (w.alloc (.cells (icells ⟨9, a, b, c, n, s⟩) 23)) w1 → InsAt w1 w.heap.size ⟨9, a, b, c, n, s⟩ from fun w1 hF => (hF.block w.heap.size (by simp) (fun e => e)).trans (heap_new rfl))
  clear hG
  unfold icells hasV at *
  go_enter Try.func10, Try.ntmps10
  go_wp2_with fail
  refine Calls.mono (HC.out _) ?_
  rintro e w1 ⟨rfl, hF1⟩
  have HF1 := hideIt (((Fr.refl (fun _ => False) w).alloc _).trans hF1 (fun _ _ e => e))
  have hI := HII.out _ hF1
  have hlt : w.heap.size < w1.heap.size := hI.lt
  have c0 := hI.c0
  dsimp only at c0
  have HI := hideIt hI
  clear hF1 hI
  go_wp2_with fail
  refine Calls.mono (HH.out _) ?_
  rintro e wx ⟨rfl, rfl⟩
  go_wp2_with fail
  have hnb : ∀ k, ¬ blk none k := fun k ⟨_, e, _⟩ => by cases e
  have HW0 := hideIt (show WS w ⟨9, a, b, c, n, s⟩ wx.heap.size (wx.alloc (.cells #[.slice none 0 0, .bool false] 62)) [] from ⟨none, 0, ⟨heap_new rfl, World.ownsRow_nil _ _ _ _, hnb _⟩, HF1.out.alloc _, HI.out.fr ((Fr.refl (fun _ => False) _).alloc _) (fun e => e), hlt, fun k hk => absurd hk (hnb k)⟩)
  clear hnb c0
  refine Calls.mono (ws_int HW0.out 9 (by decide) (by decide) (by simp)) ?_
  rintro e w2 ⟨rfl, hW⟩
  have HW1 := hideIt hW
  obtain ⟨_, _, _, _, hI, _⟩ := hW
  have c1 := hI.c1
  dsimp only at c1
  clear hI
  go_wp2_with fail
  clear c1
  refine Calls.mono (ws_int HW1.out a (by omega) (by omega) (by simp)) ?_
  rintro e w3 ⟨rfl, hW⟩
  have HW2 := hideIt hW
  obtain ⟨_, _, _, _, hI, _⟩ := hW
  have c2 := hI.c2
  dsimp only at c2
  clear hI
  go_wp2_with fail
  clear c2
  refine Calls.mono (ws_int HW2.out b (by omega) (by omega) (by simp)) ?_
  rintro e w4 ⟨rfl, hW⟩
  have HW3 := hideIt hW
  obtain ⟨_, _, _, _, hI, _⟩ := hW
  have c3 := hI.c3
  dsimp only at c3
  clear hI
  go_wp2_with fail
  clear c3
  refine Calls.mono (ws_int HW3.out c (by omega) (by omega) (by simp)) ?_
  rintro e w5 ⟨rfl, hW⟩
  have HW4 := hideIt hW
  clear hW
  go_wp2_with fail
  refine Calls.mono (ws_out HW4.out (by simp)) ?_
  rintro e wz ⟨ao, cap, rfl, hbs, hF, hn⟩
  rw [← HE.out.1] at hbs
  have HQ := hideIt (And.intro hbs (And.intro hF hn))
  have HLN := hideIt (show (codeI ⟨9, a, b, c, n, s⟩).length = _ from congrArg List.length HE.out.1)
  clear hbs hF hn
  go_wp2_with fail
  go_ret2
  exact ⟨ao, cap, by rw [HLN.out, HE.out.2]; simp, HQ.out.1, HQ.out.2⟩

set_option maxRecDepth 100000 in
set_option maxHeartbeats 2000000 in
theorem vbytes_10 (a b c n : Int) (s : ByteArray) (hG : Good ⟨10, a, b, c, n, s⟩ 10) (w : World) : Calls Try.prog 10 #[.agg (icells ⟨10, a, b, c, n, s⟩)] w (VBytesP ⟨10, a, b, c, n, s⟩ w) := by
  have HC := hideIt (fun w => by have := vcheck_any ⟨10, a, b, c, n, s⟩ w; rw [vchk_eq, hG.check] at this; exact this)
  have HH := hideIt (fun w => by have := vhas_any 10 w; rw [show hasT 10 = (true, true, true, false, false) from rfl] at this; exact this)
  have ra := (fb1 ⟨10, a, b, c, n, s⟩).1 (hG.fit 65 (by decide))
  dsimp only at ra
  have rb := (fb2 ⟨10, a, b, c, n, s⟩).1 (hG.fit 66 (by decide))
  dsimp only at rb
  have rc := (fb3 ⟨10, a, b, c, n, s⟩).1 (hG.fit 67 (by decide))
  dsimp only at rc
  have HE := hideIt (And.intro (show codeI ⟨10, a, b, c, n, s⟩ = [] ++ [UInt8.ofNat (10 : Int).toNat] ++ [UInt8.ofNat a.toNat] ++ [UInt8.ofNat b.toNat] ++ [UInt8.ofNat c.toNat] by rw [hG.code, show ltrs 10 = [65, 66, 67] from by decide]; simp [encs, encL, fld, Ins.get]) hG.check)
  have HII := hideIt (show ∀ w1, Fr (fun _ => False) (w.alloc (.cells (icells ⟨10, a, b, c, n, s⟩) 23)) w1 → InsAt w1 w.heap.size ⟨10, a, b, c, n, s⟩ from fun w1 hF => (hF.block w.heap.size (by simp) (fun e => e)).trans (heap_new rfl))
  clear hG
  unfold icells hasV at *
  go_enter Try.func10, Try.ntmps10
  go_wp2_with fail
  refine Calls.mono (HC.out _) ?_
  rintro e w1 ⟨rfl, hF1⟩
  have HF1 := hideIt (((Fr.refl (fun _ => False) w).alloc _).trans hF1 (fun _ _ e => e))
  have hI := HII.out _ hF1
  have hlt : w.heap.size < w1.heap.size := hI.lt
  have c0 := hI.c0
  dsimp only at c0
  have HI := hideIt hI
  clear hF1 hI
  go_wp2_with fail
  refine Calls.mono (HH.out _) ?_
  rintro e wx ⟨rfl, rfl⟩
  go_wp2_with fail
  have hnb : ∀ k, ¬ blk none k := fun k ⟨_, e, _⟩ => by cases e
  have HW0 := hideIt (show WS w ⟨10, a, b, c, n, s⟩ wx.heap.size (wx.alloc (.cells #[.slice none 0 0, .bool false] 62)) [] from ⟨none, 0, ⟨heap_new rfl, World.ownsRow_nil _ _ _ _, hnb _⟩, HF1.out.alloc _, HI.out.fr ((Fr.refl (fun _ => False) _).alloc _) (fun e => e), hlt, fun k hk => absurd hk (hnb k)⟩)
  clear hnb c0
  refine Calls.mono (ws_int HW0.out 10 (by decide) (by decide) (by simp)) ?_
  rintro e w2 ⟨rfl, hW⟩
  have HW1 := hideIt hW
  obtain ⟨_, _, _, _, hI, _⟩ := hW
  have c1 := hI.c1
  dsimp only at c1
  clear hI
  go_wp2_with fail
  clear c1
  refine Calls.mono (ws_int HW1.out a (by omega) (by omega) (by simp)) ?_
  rintro e w3 ⟨rfl, hW⟩
  have HW2 := hideIt hW
  obtain ⟨_, _, _, _, hI, _⟩ := hW
  have c2 := hI.c2
  dsimp only at c2
  clear hI
  go_wp2_with fail
  clear c2
  refine Calls.mono (ws_int HW2.out b (by omega) (by omega) (by simp)) ?_
  rintro e w4 ⟨rfl, hW⟩
  have HW3 := hideIt hW
  obtain ⟨_, _, _, _, hI, _⟩ := hW
  have c3 := hI.c3
  dsimp only at c3
  clear hI
  go_wp2_with fail
  clear c3
  refine Calls.mono (ws_int HW3.out c (by omega) (by omega) (by simp)) ?_
  rintro e w5 ⟨rfl, hW⟩
  have HW4 := hideIt hW
  clear hW
  go_wp2_with fail
  refine Calls.mono (ws_out HW4.out (by simp)) ?_
  rintro e wz ⟨ao, cap, rfl, hbs, hF, hn⟩
  rw [← HE.out.1] at hbs
  have HQ := hideIt (And.intro hbs (And.intro hF hn))
  have HLN := hideIt (show (codeI ⟨10, a, b, c, n, s⟩).length = _ from congrArg List.length HE.out.1)
  clear hbs hF hn
  go_wp2_with fail
  go_ret2
  exact ⟨ao, cap, by rw [HLN.out, HE.out.2]; simp, HQ.out.1, HQ.out.2⟩

set_option maxRecDepth 100000 in
set_option maxHeartbeats 2000000 in
theorem vbytes_11 (a b c n : Int) (s : ByteArray) (hG : Good ⟨11, a, b, c, n, s⟩ 11) (w : World) : Calls Try.prog 10 #[.agg (icells ⟨11, a, b, c, n, s⟩)] w (VBytesP ⟨11, a, b, c, n, s⟩ w) := by
  have HC := hideIt (fun w => by have := vcheck_any ⟨11, a, b, c, n, s⟩ w; rw [vchk_eq, hG.check] at this; exact this)
  have HH := hideIt (fun w => by have := vhas_any 11 w; rw [show hasT 11 = (true, true, true, false, false) from rfl] at this; exact this)
  have ra := (fb1 ⟨11, a, b, c, n, s⟩).1 (hG.fit 65 (by decide))
  dsimp only at ra
  have rb := (fb2 ⟨11, a, b, c, n, s⟩).1 (hG.fit 66 (by decide))
  dsimp only at rb
  have rc := (fb3 ⟨11, a, b, c, n, s⟩).1 (hG.fit 67 (by decide))
  dsimp only at rc
  have HE := hideIt (And.intro (show codeI ⟨11, a, b, c, n, s⟩ = [] ++ [UInt8.ofNat (11 : Int).toNat] ++ [UInt8.ofNat a.toNat] ++ [UInt8.ofNat b.toNat] ++ [UInt8.ofNat c.toNat] by rw [hG.code, show ltrs 11 = [65, 66, 67] from by decide]; simp [encs, encL, fld, Ins.get]) hG.check)
  have HII := hideIt (show ∀ w1, Fr (fun _ => False) (w.alloc (.cells (icells ⟨11, a, b, c, n, s⟩) 23)) w1 → InsAt w1 w.heap.size ⟨11, a, b, c, n, s⟩ from fun w1 hF => (hF.block w.heap.size (by simp) (fun e => e)).trans (heap_new rfl))
  clear hG
  unfold icells hasV at *
  go_enter Try.func10, Try.ntmps10
  go_wp2_with fail
  refine Calls.mono (HC.out _) ?_
  rintro e w1 ⟨rfl, hF1⟩
  have HF1 := hideIt (((Fr.refl (fun _ => False) w).alloc _).trans hF1 (fun _ _ e => e))
  have hI := HII.out _ hF1
  have hlt : w.heap.size < w1.heap.size := hI.lt
  have c0 := hI.c0
  dsimp only at c0
  have HI := hideIt hI
  clear hF1 hI
  go_wp2_with fail
  refine Calls.mono (HH.out _) ?_
  rintro e wx ⟨rfl, rfl⟩
  go_wp2_with fail
  have hnb : ∀ k, ¬ blk none k := fun k ⟨_, e, _⟩ => by cases e
  have HW0 := hideIt (show WS w ⟨11, a, b, c, n, s⟩ wx.heap.size (wx.alloc (.cells #[.slice none 0 0, .bool false] 62)) [] from ⟨none, 0, ⟨heap_new rfl, World.ownsRow_nil _ _ _ _, hnb _⟩, HF1.out.alloc _, HI.out.fr ((Fr.refl (fun _ => False) _).alloc _) (fun e => e), hlt, fun k hk => absurd hk (hnb k)⟩)
  clear hnb c0
  refine Calls.mono (ws_int HW0.out 11 (by decide) (by decide) (by simp)) ?_
  rintro e w2 ⟨rfl, hW⟩
  have HW1 := hideIt hW
  obtain ⟨_, _, _, _, hI, _⟩ := hW
  have c1 := hI.c1
  dsimp only at c1
  clear hI
  go_wp2_with fail
  clear c1
  refine Calls.mono (ws_int HW1.out a (by omega) (by omega) (by simp)) ?_
  rintro e w3 ⟨rfl, hW⟩
  have HW2 := hideIt hW
  obtain ⟨_, _, _, _, hI, _⟩ := hW
  have c2 := hI.c2
  dsimp only at c2
  clear hI
  go_wp2_with fail
  clear c2
  refine Calls.mono (ws_int HW2.out b (by omega) (by omega) (by simp)) ?_
  rintro e w4 ⟨rfl, hW⟩
  have HW3 := hideIt hW
  obtain ⟨_, _, _, _, hI, _⟩ := hW
  have c3 := hI.c3
  dsimp only at c3
  clear hI
  go_wp2_with fail
  clear c3
  refine Calls.mono (ws_int HW3.out c (by omega) (by omega) (by simp)) ?_
  rintro e w5 ⟨rfl, hW⟩
  have HW4 := hideIt hW
  clear hW
  go_wp2_with fail
  refine Calls.mono (ws_out HW4.out (by simp)) ?_
  rintro e wz ⟨ao, cap, rfl, hbs, hF, hn⟩
  rw [← HE.out.1] at hbs
  have HQ := hideIt (And.intro hbs (And.intro hF hn))
  have HLN := hideIt (show (codeI ⟨11, a, b, c, n, s⟩).length = _ from congrArg List.length HE.out.1)
  clear hbs hF hn
  go_wp2_with fail
  go_ret2
  exact ⟨ao, cap, by rw [HLN.out, HE.out.2]; simp, HQ.out.1, HQ.out.2⟩

set_option maxRecDepth 100000 in
set_option maxHeartbeats 2000000 in
theorem vbytes_12 (a b c n : Int) (s : ByteArray) (hG : Good ⟨12, a, b, c, n, s⟩ 12) (w : World) : Calls Try.prog 10 #[.agg (icells ⟨12, a, b, c, n, s⟩)] w (VBytesP ⟨12, a, b, c, n, s⟩ w) := by
  have HC := hideIt (fun w => by have := vcheck_any ⟨12, a, b, c, n, s⟩ w; rw [vchk_eq, hG.check] at this; exact this)
  have HH := hideIt (fun w => by have := vhas_any 12 w; rw [show hasT 12 = (true, false, false, true, false) from rfl] at this; exact this)
  have ra := (fb1 ⟨12, a, b, c, n, s⟩).1 (hG.fit 65 (by decide))
  dsimp only at ra
  have rn := (fb5 ⟨12, a, b, c, n, s⟩).1 (hG.fit 80 (by decide))
  dsimp only at rn
  have HE := hideIt (And.intro (show codeI ⟨12, a, b, c, n, s⟩ = [] ++ [UInt8.ofNat (12 : Int).toNat] ++ [UInt8.ofNat a.toNat] ++ [UInt8.ofNat n.toNat] by rw [hG.code, show ltrs 12 = [65, 80] from by decide]; simp [encs, encL, fld, Ins.get]) hG.check)
  have HII := hideIt (show ∀ w1, Fr (fun _ => False) (w.alloc (.cells (icells ⟨12, a, b, c, n, s⟩) 23)) w1 → InsAt w1 w.heap.size ⟨12, a, b, c, n, s⟩ from fun w1 hF => (hF.block w.heap.size (by simp) (fun e => e)).trans (heap_new rfl))
  clear hG
  unfold icells hasV at *
  go_enter Try.func10, Try.ntmps10
  go_wp2_with fail
  refine Calls.mono (HC.out _) ?_
  rintro e w1 ⟨rfl, hF1⟩
  have HF1 := hideIt (((Fr.refl (fun _ => False) w).alloc _).trans hF1 (fun _ _ e => e))
  have hI := HII.out _ hF1
  have hlt : w.heap.size < w1.heap.size := hI.lt
  have c0 := hI.c0
  dsimp only at c0
  have HI := hideIt hI
  clear hF1 hI
  go_wp2_with fail
  refine Calls.mono (HH.out _) ?_
  rintro e wx ⟨rfl, rfl⟩
  go_wp2_with fail
  have hnb : ∀ k, ¬ blk none k := fun k ⟨_, e, _⟩ => by cases e
  have HW0 := hideIt (show WS w ⟨12, a, b, c, n, s⟩ wx.heap.size (wx.alloc (.cells #[.slice none 0 0, .bool false] 62)) [] from ⟨none, 0, ⟨heap_new rfl, World.ownsRow_nil _ _ _ _, hnb _⟩, HF1.out.alloc _, HI.out.fr ((Fr.refl (fun _ => False) _).alloc _) (fun e => e), hlt, fun k hk => absurd hk (hnb k)⟩)
  clear hnb c0
  refine Calls.mono (ws_int HW0.out 12 (by decide) (by decide) (by simp)) ?_
  rintro e w2 ⟨rfl, hW⟩
  have HW1 := hideIt hW
  obtain ⟨_, _, _, _, hI, _⟩ := hW
  have c1 := hI.c1
  dsimp only at c1
  clear hI
  go_wp2_with fail
  clear c1
  refine Calls.mono (ws_int HW1.out a (by omega) (by omega) (by simp)) ?_
  rintro e w3 ⟨rfl, hW⟩
  have HW2 := hideIt hW
  obtain ⟨_, _, _, _, hI, _⟩ := hW
  have c2 := hI.c4
  dsimp only at c2
  clear hI
  go_wp2_with fail
  clear c2
  refine Calls.mono (ws_int HW2.out n (by omega) (by omega) (by simp)) ?_
  rintro e w4 ⟨rfl, hW⟩
  have HW3 := hideIt hW
  clear hW
  go_wp2_with fail
  refine Calls.mono (ws_out HW3.out (by simp)) ?_
  rintro e wz ⟨ao, cap, rfl, hbs, hF, hn⟩
  rw [← HE.out.1] at hbs
  have HQ := hideIt (And.intro hbs (And.intro hF hn))
  have HLN := hideIt (show (codeI ⟨12, a, b, c, n, s⟩).length = _ from congrArg List.length HE.out.1)
  clear hbs hF hn
  go_wp2_with fail
  go_ret2
  exact ⟨ao, cap, by rw [HLN.out, HE.out.2]; simp, HQ.out.1, HQ.out.2⟩

set_option maxRecDepth 100000 in
set_option maxHeartbeats 2000000 in
theorem vbytes_13 (a b c n : Int) (s : ByteArray) (hG : Good ⟨13, a, b, c, n, s⟩ 13) (w : World) : Calls Try.prog 10 #[.agg (icells ⟨13, a, b, c, n, s⟩)] w (VBytesP ⟨13, a, b, c, n, s⟩ w) := by
  have HC := hideIt (fun w => by have := vcheck_any ⟨13, a, b, c, n, s⟩ w; rw [vchk_eq, hG.check] at this; exact this)
  have HH := hideIt (fun w => by have := vhas_any 13 w; rw [show hasT 13 = (false, false, false, true, false) from rfl] at this; exact this)
  have rn := (fb5 ⟨13, a, b, c, n, s⟩).1 (hG.fit 80 (by decide))
  dsimp only at rn
  have HE := hideIt (And.intro (show codeI ⟨13, a, b, c, n, s⟩ = [] ++ [UInt8.ofNat (13 : Int).toNat] ++ [UInt8.ofNat n.toNat] by rw [hG.code, show ltrs 13 = [80] from by decide]; simp [encs, encL, fld, Ins.get]) hG.check)
  have HII := hideIt (show ∀ w1, Fr (fun _ => False) (w.alloc (.cells (icells ⟨13, a, b, c, n, s⟩) 23)) w1 → InsAt w1 w.heap.size ⟨13, a, b, c, n, s⟩ from fun w1 hF => (hF.block w.heap.size (by simp) (fun e => e)).trans (heap_new rfl))
  clear hG
  unfold icells hasV at *
  go_enter Try.func10, Try.ntmps10
  go_wp2_with fail
  refine Calls.mono (HC.out _) ?_
  rintro e w1 ⟨rfl, hF1⟩
  have HF1 := hideIt (((Fr.refl (fun _ => False) w).alloc _).trans hF1 (fun _ _ e => e))
  have hI := HII.out _ hF1
  have hlt : w.heap.size < w1.heap.size := hI.lt
  have c0 := hI.c0
  dsimp only at c0
  have HI := hideIt hI
  clear hF1 hI
  go_wp2_with fail
  refine Calls.mono (HH.out _) ?_
  rintro e wx ⟨rfl, rfl⟩
  go_wp2_with fail
  have hnb : ∀ k, ¬ blk none k := fun k ⟨_, e, _⟩ => by cases e
  have HW0 := hideIt (show WS w ⟨13, a, b, c, n, s⟩ wx.heap.size (wx.alloc (.cells #[.slice none 0 0, .bool false] 62)) [] from ⟨none, 0, ⟨heap_new rfl, World.ownsRow_nil _ _ _ _, hnb _⟩, HF1.out.alloc _, HI.out.fr ((Fr.refl (fun _ => False) _).alloc _) (fun e => e), hlt, fun k hk => absurd hk (hnb k)⟩)
  clear hnb c0
  refine Calls.mono (ws_int HW0.out 13 (by decide) (by decide) (by simp)) ?_
  rintro e w2 ⟨rfl, hW⟩
  have HW1 := hideIt hW
  obtain ⟨_, _, _, _, hI, _⟩ := hW
  have c1 := hI.c4
  dsimp only at c1
  clear hI
  go_wp2_with fail
  clear c1
  refine Calls.mono (ws_int HW1.out n (by omega) (by omega) (by simp)) ?_
  rintro e w3 ⟨rfl, hW⟩
  have HW2 := hideIt hW
  clear hW
  go_wp2_with fail
  refine Calls.mono (ws_out HW2.out (by simp)) ?_
  rintro e wz ⟨ao, cap, rfl, hbs, hF, hn⟩
  rw [← HE.out.1] at hbs
  have HQ := hideIt (And.intro hbs (And.intro hF hn))
  have HLN := hideIt (show (codeI ⟨13, a, b, c, n, s⟩).length = _ from congrArg List.length HE.out.1)
  clear hbs hF hn
  go_wp2_with fail
  go_ret2
  exact ⟨ao, cap, by rw [HLN.out, HE.out.2]; simp, HQ.out.1, HQ.out.2⟩

set_option maxRecDepth 100000 in
set_option maxHeartbeats 2000000 in
theorem vbytes_14 (a b c n : Int) (s : ByteArray) (hG : Good ⟨14, a, b, c, n, s⟩ 14) (w : World) : Calls Try.prog 10 #[.agg (icells ⟨14, a, b, c, n, s⟩)] w (VBytesP ⟨14, a, b, c, n, s⟩ w) := by
  have HC := hideIt (fun w => by have := vcheck_any ⟨14, a, b, c, n, s⟩ w; rw [vchk_eq, hG.check] at this; exact this)
  have HH := hideIt (fun w => by have := vhas_any 14 w; rw [show hasT 14 = (true, false, false, false, false) from rfl] at this; exact this)
  have ra := (fb1 ⟨14, a, b, c, n, s⟩).1 (hG.fit 65 (by decide))
  dsimp only at ra
  have HE := hideIt (And.intro (show codeI ⟨14, a, b, c, n, s⟩ = [] ++ [UInt8.ofNat (14 : Int).toNat] ++ [UInt8.ofNat a.toNat] by rw [hG.code, show ltrs 14 = [65] from by decide]; simp [encs, encL, fld, Ins.get]) hG.check)
  have HII := hideIt (show ∀ w1, Fr (fun _ => False) (w.alloc (.cells (icells ⟨14, a, b, c, n, s⟩) 23)) w1 → InsAt w1 w.heap.size ⟨14, a, b, c, n, s⟩ from fun w1 hF => (hF.block w.heap.size (by simp) (fun e => e)).trans (heap_new rfl))
  clear hG
  unfold icells hasV at *
  go_enter Try.func10, Try.ntmps10
  go_wp2_with fail
  refine Calls.mono (HC.out _) ?_
  rintro e w1 ⟨rfl, hF1⟩
  have HF1 := hideIt (((Fr.refl (fun _ => False) w).alloc _).trans hF1 (fun _ _ e => e))
  have hI := HII.out _ hF1
  have hlt : w.heap.size < w1.heap.size := hI.lt
  have c0 := hI.c0
  dsimp only at c0
  have HI := hideIt hI
  clear hF1 hI
  go_wp2_with fail
  refine Calls.mono (HH.out _) ?_
  rintro e wx ⟨rfl, rfl⟩
  go_wp2_with fail
  have hnb : ∀ k, ¬ blk none k := fun k ⟨_, e, _⟩ => by cases e
  have HW0 := hideIt (show WS w ⟨14, a, b, c, n, s⟩ wx.heap.size (wx.alloc (.cells #[.slice none 0 0, .bool false] 62)) [] from ⟨none, 0, ⟨heap_new rfl, World.ownsRow_nil _ _ _ _, hnb _⟩, HF1.out.alloc _, HI.out.fr ((Fr.refl (fun _ => False) _).alloc _) (fun e => e), hlt, fun k hk => absurd hk (hnb k)⟩)
  clear hnb c0
  refine Calls.mono (ws_int HW0.out 14 (by decide) (by decide) (by simp)) ?_
  rintro e w2 ⟨rfl, hW⟩
  have HW1 := hideIt hW
  obtain ⟨_, _, _, _, hI, _⟩ := hW
  have c1 := hI.c1
  dsimp only at c1
  clear hI
  go_wp2_with fail
  clear c1
  refine Calls.mono (ws_int HW1.out a (by omega) (by omega) (by simp)) ?_
  rintro e w3 ⟨rfl, hW⟩
  have HW2 := hideIt hW
  clear hW
  go_wp2_with fail
  refine Calls.mono (ws_out HW2.out (by simp)) ?_
  rintro e wz ⟨ao, cap, rfl, hbs, hF, hn⟩
  rw [← HE.out.1] at hbs
  have HQ := hideIt (And.intro hbs (And.intro hF hn))
  have HLN := hideIt (show (codeI ⟨14, a, b, c, n, s⟩).length = _ from congrArg List.length HE.out.1)
  clear hbs hF hn
  go_wp2_with fail
  go_ret2
  exact ⟨ao, cap, by rw [HLN.out, HE.out.2]; simp, HQ.out.1, HQ.out.2⟩

set_option maxRecDepth 100000 in
set_option maxHeartbeats 2000000 in
theorem vbytes_15 (a b c n : Int) (s : ByteArray) (hG : Good ⟨15, a, b, c, n, s⟩ 15) (w : World) : Calls Try.prog 10 #[.agg (icells ⟨15, a, b, c, n, s⟩)] w (VBytesP ⟨15, a, b, c, n, s⟩ w) := by
  have HC := hideIt (fun w => by have := vcheck_any ⟨15, a, b, c, n, s⟩ w; rw [vchk_eq, hG.check] at this; exact this)
  have HH := hideIt (fun w => by have := vhas_any 15 w; rw [show hasT 15 = (false, false, false, false, false) from rfl] at this; exact this)
  have HE := hideIt (And.intro (show codeI ⟨15, a, b, c, n, s⟩ = [] ++ [UInt8.ofNat (15 : Int).toNat] by rw [hG.code, show ltrs 15 = [] from by decide]; simp [encs, encL, fld, Ins.get]) hG.check)
  have HII := hideIt (show ∀ w1, Fr (fun _ => False) (w.alloc (.cells (icells ⟨15, a, b, c, n, s⟩) 23)) w1 → InsAt w1 w.heap.size ⟨15, a, b, c, n, s⟩ from fun w1 hF => (hF.block w.heap.size (by simp) (fun e => e)).trans (heap_new rfl))
  clear hG
  unfold icells hasV at *
  go_enter Try.func10, Try.ntmps10
  go_wp2_with fail
  refine Calls.mono (HC.out _) ?_
  rintro e w1 ⟨rfl, hF1⟩
  have HF1 := hideIt (((Fr.refl (fun _ => False) w).alloc _).trans hF1 (fun _ _ e => e))
  have hI := HII.out _ hF1
  have hlt : w.heap.size < w1.heap.size := hI.lt
  have c0 := hI.c0
  dsimp only at c0
  have HI := hideIt hI
  clear hF1 hI
  go_wp2_with fail
  refine Calls.mono (HH.out _) ?_
  rintro e wx ⟨rfl, rfl⟩
  go_wp2_with fail
  have hnb : ∀ k, ¬ blk none k := fun k ⟨_, e, _⟩ => by cases e
  have HW0 := hideIt (show WS w ⟨15, a, b, c, n, s⟩ wx.heap.size (wx.alloc (.cells #[.slice none 0 0, .bool false] 62)) [] from ⟨none, 0, ⟨heap_new rfl, World.ownsRow_nil _ _ _ _, hnb _⟩, HF1.out.alloc _, HI.out.fr ((Fr.refl (fun _ => False) _).alloc _) (fun e => e), hlt, fun k hk => absurd hk (hnb k)⟩)
  clear hnb c0
  refine Calls.mono (ws_int HW0.out 15 (by decide) (by decide) (by simp)) ?_
  rintro e w2 ⟨rfl, hW⟩
  have HW1 := hideIt hW
  clear hW
  go_wp2_with fail
  refine Calls.mono (ws_out HW1.out (by simp)) ?_
  rintro e wz ⟨ao, cap, rfl, hbs, hF, hn⟩
  rw [← HE.out.1] at hbs
  have HQ := hideIt (And.intro hbs (And.intro hF hn))
  have HLN := hideIt (show (codeI ⟨15, a, b, c, n, s⟩).length = _ from congrArg List.length HE.out.1)
  clear hbs hF hn
  go_wp2_with fail
  go_ret2
  exact ⟨ao, cap, by rw [HLN.out, HE.out.2]; simp, HQ.out.1, HQ.out.2⟩

theorem vbytes_any (i : Ins) (w : World) : Calls Try.prog 10 #[.agg (icells i)] w (VBytesP i w) := by
  rcases checkE_or i with h | h
  · obtain ⟨m, hG⟩ := good_of i h
    obtain ⟨op, a, b, c, n, s⟩ := i
    obtain rfl : op = m := hG.op
    have h1 := hG.lo
    have h2 := hG.hi
    obtain rfl | rfl | rfl | rfl | rfl | rfl | rfl | rfl | rfl | rfl | rfl | rfl | rfl | rfl | rfl : m = 1 ∨ m = 2 ∨ m = 3 ∨ m = 4 ∨ m = 5 ∨ m = 6 ∨ m = 7 ∨ m = 8 ∨ m = 9 ∨ m = 10 ∨ m = 11 ∨ m = 12 ∨ m = 13 ∨ m = 14 ∨ m = 15 := by omega
    · exact vbytes_1 a b c n s hG w
    · exact vbytes_2 a b c n s hG w
    · exact vbytes_3 a b c n s hG w
    · exact vbytes_4 a b c n s hG w
    · exact vbytes_5 a b c n s hG w
    · exact vbytes_6 a b c n s hG w
    · exact vbytes_7 a b c n s hG w
    · exact vbytes_8 a b c n s hG w
    · exact vbytes_9 a b c n s hG w
    · exact vbytes_10 a b c n s hG w
    · exact vbytes_11 a b c n s hG w
    · exact vbytes_12 a b c n s hG w
    · exact vbytes_13 a b c n s hG w
    · exact vbytes_14 a b c n s hG w
    · exact vbytes_15 a b c n s hG w
  · exact vbytes_bad i h w

theorem vsize_any (i : Ins) (w : World) : Calls Try.prog 15 #[.agg (icells i)] w fun e w' => e = .returned (.int .i64 (codeI i).length) ∧ Fr (fun _ => False) w w' := by
  have HB := hideIt (vbytes_any i)
  obtain ⟨op, a, b, c, n, s⟩ := i
  unfold icells
  go_enter Try.func15, Try.ntmps15
  go_wp2_with fail
  refine Calls.mono (HB.out _) ?_
  rintro e w1 ⟨ao, cap, rfl, _, hF, _⟩
  have HF := hideIt hF
  clear hF
  go_wp2_with fail
  go_ret
  exact ⟨rfl, ((Fr.refl _ _).alloc _).trans HF.out (fun _ _ e => e)⟩

end Go.Proofs.Ytpieaenfnajlfaa
