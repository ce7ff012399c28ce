/- Package hash, the document's: the ID of bytes (Sum), walked. -/
import Derived.Test.YtgnpdnkmhjocjaaDoorSw8
namespace Go.Proofs.YtgnpdnkmhjocjaaDoor
open Go.RowKit Go.IntWalk
set_option linter.unusedSimpArgs false
set_option linter.unusedVariables false

theorem message_len (b : List UInt8) : ∃ n, (Sha.message b).length = 64 * n ∧ 0 < n ∧ 64 * n ≤ b.length + 72 := by
  unfold Sha.message
  rw [List.length_append, ending_len]
  unfold nou
  exact ⟨(b.length + (9 + (119 - b.length % 64) % 64)) / 64, by omega, by omega, by omega⟩
/-- The bytes of word i, the last m of them, and all ahead, are laid. -/
def PIn (s : Sha.St) (i m : Nat) (ds : List UInt8) : Prop := ds.length = 32 ∧ ∀ t, (t < 4 * i ∨ (4 * i + 4 ≤ t + m ∧ t < 4 * i + 4)) → ds.getD t 0 = (Sha.name s).getD t 0
theorem PIn.step {s : Sha.St} {i m : Nat} {ds : List UInt8} (h : PIn s i m ds) (hi : i < 8) (hm : m < 4) (v : UInt8) (hv : v = (Sha.name s).getD (4 * i + (3 - m)) 0) : PIn s i (m + 1) (ds.set (4 * i + (3 - m)) v) := by
  have hl := h.1
  refine ⟨by rw [List.length_set]; exact hl, fun t ht => ?_⟩
  by_cases e : t = 4 * i + (3 - m)
  · subst e
    rw [hv]
    have : 4 * i + (3 - m) < ds.length := by omega
    simp [List.getD, this]
  · have := h.2 t (by omega)
    rw [← this]
    simp [List.getD, List.getElem?_set, Ne.symm e]
theorem PIn.next {s : Sha.St} {i : Nat} {ds : List UInt8} (h : PIn s i 4 ds) : PIn s (i + 1) 0 ds := ⟨h.1, fun t ht => h.2 t (by omega)⟩
theorem PIn.all {s : Sha.St} {ds : List UInt8} (h : PIn s 8 0 ds) : ds = Sha.name s := by
  apply List.ext_getElem
  · rw [h.1, name_len]
  · intro t g1 g2
    have := h.2 t (by rw [name_len] at g2; omega)
    simpa [List.getD, g1, g2] using this

set_option maxRecDepth 100000 in
set_option maxHeartbeats 8000000 in
theorem xsum_any (x : Bt) (w : World) (hx : BtAt w x) (hl : x.bs.length ≤ 4000) : Calls Tryd.prog 15 #[x.val] w fun e w' => e = .returned (.agg (bv (Sha.sum x.bs)).toArray) ∧ Fr (fun _ => False) w w' := by
  obtain ⟨n, hn⟩ : ∃ n, w.heap.size = n := ⟨_, rfl⟩
  obtain ⟨nB, hM, hB0, hBl⟩ := message_len x.bs
  have HSUM := hideIt (show Sha.sum x.bs = Sha.name (Sha.blkW Sha.block nB (Sha.message x.bs) Sha.first) by
    unfold Sha.sum
    rw [blocks_blkW, hM, Nat.mul_div_cancel_left nB (by decide)])
  have hA0 : ((w.alloc (.cells zA 30)).alloc (.cells #[.int .u32 0, .int .u32 0, .int .u32 0, .int .u32 0, .int .u32 0, .int .u32 0, .int .u32 0, .int .u32 0] 59)).heap[n]? = some (.cells zA 30 (0, 0)) := heap_old (heap_new hn.symm)
  have hB0' : ((w.alloc (.cells zA 30)).alloc (.cells #[.int .u32 0, .int .u32 0, .int .u32 0, .int .u32 0, .int .u32 0, .int .u32 0, .int .u32 0, .int .u32 0] 59)).heap[n + 1]? = some (.cells z8 59 (0, 0)) := heap_new (by simp [hn])
  have hf0 : Fr (fun _ => False) w ((w.alloc (.cells zA 30)).alloc (.cells #[.int .u32 0, .int .u32 0, .int .u32 0, .int .u32 0, .int .u32 0, .int .u32 0, .int .u32 0, .int .u32 0] 59)) := ((Fr.refl _ w).alloc _).alloc _
  have HT0 := hideIt (thereNew ((w.alloc (.cells zA 30)).alloc (.cells #[.int .u32 0, .int .u32 0, .int .u32 0, .int .u32 0, .int .u32 0, .int .u32 0, .int .u32 0, .int .u32 0] 59)) (n + 1) z8 59 hB0' (stA Sha.first).size rfl)
  have HI0 := hideIt (show (Tryd.prog.info? 59).map (·.size) = some (stA Sha.first).size by kernel_rfl)
  have HO0 := hideIt (stA_one Sha.first)
  have HW0 := hideIt (fun W (h : W = ((w.alloc (.cells zA 30)).alloc (.cells #[.int .u32 0, .int .u32 0, .int .u32 0, .int .u32 0, .int .u32 0, .int .u32 0, .int .u32 0, .int .u32 0] 59)).setCells (n + 1) 0 (stA Sha.first).toList) => show W.heap[n]? = some (.cells zA 30 (0, 0)) ∧ W.heap[n + 1]? = some (.cells (stA Sha.first) 59 (0, 0)) ∧ Fr (fun _ => False) w W by
    subst h
    have hS := store_over (V := stA Sha.first) hB0' rfl
    exact ⟨(hS.2.block n (Array.getElem?_eq_some_iff.1 hA0).1 (by omega)).trans hA0, hS.1, hf0.trans hS.2 (fun i hi e => by omega)⟩)
  have HX := hideIt hx
  have HL := hideIt hl
  have HN := hideIt hn
  have HML := hideIt hM
  have HB0 := hideIt hB0
  have HBL := hideIt hBl
  have HBF := hideIt (show Tryd.prog.built 59 [(0, .int .u32 1779033703), (1, .int .u32 3144134277), (2, .int .u32 1013904242), (3, .int .u32 2773480762), (4, .int .u32 1359893119), (5, .int .u32 2600822924), (6, .int .u32 528734635), (7, .int .u32 1541459225)] = some (stA Sha.first) by kernel_rfl)
  clear hA0 hB0' hf0 hx hl hM hB0 hBl
  generalize hSF : stA Sha.first = sF at HT0 HI0 HO0 HW0 HBF
  have HSF := hideIt hSF
  clear hSF
  have HMS := hideIt (fun W (hF : Fr (fun _ => False) w W) => xmessage_any x W (HX.out.fr hF (fun _ _ _ e => e)) HL.out)
  unfold Bt.val at HMS ⊢
  go_enter Tryd.func15, Tryd.ntmps15
  go_wp2_with (first | (refine wpList_build_eq rfl 59 _ rfl [(0, .int .u32 1779033703), (1, .int .u32 3144134277), (2, .int .u32 1013904242), (3, .int .u32 2773480762), (4, .int .u32 1359893119), (5, .int .u32 2600822924), (6, .int .u32 528734635), (7, .int .u32 1541459225)] (by simp [Act.eval, Act.put]) sF HBF.out ?_) | (refine wpList_store_abs rfl 59 (.tmp 3) (.tmp 10) rfl (n + 1) 0 sF rfl rfl HT0.out HI0.out HO0.out ?_; intro W1 hW1; obtain ⟨hA1, hB1, hF1⟩ := HW0.out W1 hW1; have HA1 := hideIt hA1; have HB1 := hideIt hB1; have HF1 := hideIt hF1; clear hW1 HW0 HT0 hA1 hB1 hF1))
  clear HBF
  refine Calls.mono (HMS.out _ HF1.out) ?_
  rintro e w2 ⟨am, cm, rfl, hrow, hF2⟩
  have HA2 := hideIt ((hF2.block n (Array.getElem?_eq_some_iff.1 HA1.out).1 (fun e => e)).trans HA1.out)
  have HB2 := hideIt ((hF2.block (n + 1) (Array.getElem?_eq_some_iff.1 HB1.out).1 (fun e => e)).trans HB1.out)
  have HF2 := hideIt (HF1.out.trans hF2 (fun _ _ e => e))
  obtain ⟨M, hMM⟩ : ∃ M, Sha.message x.bs = M := ⟨_, rfl⟩
  rw [hMM] at hrow HML HSUM ⊢
  rw [HML.out]
  have HKC := hideIt (xconsts_any w2)
  obtain ⟨g, rfl, hgc, hcap⟩ : ∃ g, am = some ⟨g, 0, none⟩ ∧ (∀ j (h : j < M.length), w2.cell? ⟨g, j, none⟩ = some (.int .u8 M[j].toNat)) ∧ M.length ≤ cm := by
    rcases hrow.form with ⟨_, e, _⟩ | ⟨g, cur, e, _, hle, _⟩
    · have h1 := HML.out
      have h2 := HB0.out
      rw [e] at h1
      simp at h1
      omega
    · subst e
      exact ⟨g, rfl, fun j hj => hrow.cell j hj, hle⟩
  have HGC := hideIt hgc
  have HCAP := hideIt hcap
  clear hrow hgc hcap hF2 HA1 HB1 HF1 HMS
  go_wp2_with fail
  refine Calls.mono HKC.out ?_
  rintro e w3 ⟨rfl, hK, hF3⟩
  obtain ⟨kg, hkg⟩ : ∃ k, w2.heap.size = k := ⟨_, rfl⟩
  rw [hkg] at hK
  have HA3 := hideIt ((hF3.block n (Array.getElem?_eq_some_iff.1 HA2.out).1 (fun e => e)).trans HA2.out)
  have HB3 := hideIt ((hF3.block (n + 1) (Array.getElem?_eq_some_iff.1 HB2.out).1 (fun e => e)).trans HB2.out)
  have HK3 := hideIt hK
  have HF3 := hideIt (HF2.out.trans hF3 (fun _ _ e => e))
  have HG3 := hideIt (fun j (h : j < M.length) => cellFr hF3 (HGC.out j h))
  have HGN := hideIt (show g ≠ n + 1 by
    intro e
    have h1 := HGC.out 0 (by have := HML.out; have := HB0.out; omega)
    have h2 := cellOfHeap HB2.out 0 (v := (stA Sha.first)[0]'(by decide)) (by rw [← HSF.out]; rfl)
    rw [e, h2] at h1
    simp [stA] at h1)
  have HKN := hideIt (show n + 1 < kg by rw [← hkg]; exact (Array.getElem?_eq_some_iff.1 HB2.out).1)
  rw [← HSF.out] at HB3
  have HKG := hideIt hkg
  clear hK hF3 HKC HA2 HB2 HF2 HGC hMM
  generalize sF = sG at *
  go_wp2_with fail
  go_loopw [4] (fun s4 wr => ∃ (k o r c : Nat), s4 = .slice (some ⟨g, o, none⟩) r c ∧ Hid (r = 64 * (nB - k)) ∧ k ≤ nB ∧ Hid (k < nB → o = 64 * k ∧ r ≤ c) ∧ Hid (wr.heap[n + 1]? = some (.cells (stA (Sha.blkW Sha.block k M Sha.first)) 59 (0, 0))) ∧ Hid (Fr (fun k => k = n + 1) w3 wr)) (fun s4 _ => slLen s4)
  case atStart => exact ⟨0, 0, 64 * nB, cm, rfl, hideIt rfl, by omega, hideIt (fun _ => ⟨rfl, by rw [← HML.out]; exact HCAP.out⟩), HB3, hideIt (Fr.refl _ _)⟩
  case round =>
    clear HB3
    obtain ⟨k, o, r, c, rfl, HRL, hk, HOC, HS, HF⟩ := hrel
    by_cases hlt : k < nB
    · obtain ⟨rfl, hrc⟩ := HOC.out hlt
      have hr := HRL.out
      have hr64 : 64 ≤ r := by omega
      have h1 : (0 : Int) < (r : Int) := by omega
      have h1b : 0 < r := by omega
      have hc64 : (64 : Int) ≤ (c : Int) := by omega
      have hr64i : (64 : Int) ≤ (r : Int) := by omega
      have hc64n : 64 ≤ c := by omega
      have hst : St32 (Sha.blkW Sha.block k M Sha.first) := blkW_all _ St32 (fun s b => St32.block s b) _ _ _ St32.first
      have HBS := hideIt (fun W (hF : Fr (fun i => i = n + 1) w3 W) => show BsAt W (some ⟨g, 64 * k, none⟩) ((M.drop (64 * k)).take 64) from Or.inr ⟨g, 64 * k, rfl, fun j hj => by
        have hj2 : 64 * k + j < M.length := by simp at hj; have := HML.out; omega
        have h := HG3.out (64 * k + j) hj2
        have h2 : W.cell? ⟨g, 64 * k + j, none⟩ = some (.int .u8 M[64 * k + j].toNat) := (World.cell?_of_block (a := ⟨g, 64 * k + j, none⟩) (hF.block g (block_lt_of_cell h) HGN.out)).trans h
        rw [h2]
        simp⟩)
      have HBLK := hideIt (xblock_any (Sha.blkW Sha.block k M Sha.first) hst (some ⟨g, 64 * k, none⟩) c ((M.drop (64 * k)).take 64) (by simp; have := HML.out; omega) kg wr.drew (HBS.out _ HF.out.drew) (HK3.out.fr HF.out.drew (by have := HKN.out; omega)))
      have HNX := hideIt (blkW_succ Sha.block k M Sha.first)
      rw [← HNX.out] at HBLK
      have HRG := hideIt (show wr.drew.rangeAt (n + 1) 0 (stA (Sha.blkW Sha.block k M Sha.first)).toList from rangeOf HS.out)
      generalize Sha.blkW Sha.block k M Sha.first = S at *
      obtain ⟨S2, hS2⟩ : ∃ S2, Sha.blkW Sha.block (k + 1) M Sha.first = S2 := ⟨_, rfl⟩
      rw [hS2] at HBLK HNX
      have HS2 := hideIt hS2
      have HIS := hideIt (show (Tryd.prog.info? 59).map (·.size) = some (stA S).toList.length by kernel_rfl)
      clear hS2 hst HBS hr hrc
      go_wp2_with fail
      refine wp_region_held_drew (S := (fun _ => True)) (by kernel_rfl) ?_ (fun hHeld => ?_)
      · trivial
      refine wpAnyH_take (i := 1) (v := ?v1) rfl (by kernel_rfl) (by kernel_rfl) (by kernel_rfl) (fun _ _ _ h => h) (Or.inl ⟨by kernel_rfl, ?hy1⟩) (by assumption) ?rest1
      case hy1 => intro w hSw; (try dsimp only at hSw); go_simp; (try with_reducible rfl)
      try simp only [Act.put, List.getElem_toArray, List.getElem_cons_zero, List.getElem_cons_succ, List.setIfInBounds_toArray, List.set_cons_zero, List.set_cons_succ]
      refine wpAnyH_take (i := 2) (v := .slice (some ⟨g, 64 * k, none⟩) 64 c) rfl (by kernel_rfl) (by kernel_rfl) (by kernel_rfl) (fun _ _ _ h => h) (Or.inl ⟨by kernel_rfl, fun w0 hSw => by go_simp⟩) (by assumption) ?_
      try simp only [Act.put, List.getElem_toArray, List.getElem_cons_zero, List.getElem_cons_succ, List.setIfInBounds_toArray, List.set_cons_zero, List.set_cons_succ]
      refine wpAnyH_take (i := 3) (v := ?v2) rfl (by kernel_rfl) (by kernel_rfl) (by kernel_rfl) (fun _ _ _ h => h) (Or.inl ⟨by kernel_rfl, ?hy2⟩) (by assumption) ?rest2
      case hy2 => intro w hSw; (try dsimp only at hSw); go_simp; (try with_reducible rfl)
      try simp only [Act.put, List.getElem_toArray, List.getElem_cons_zero, List.getElem_cons_succ, List.setIfInBounds_toArray, List.set_cons_zero, List.set_cons_succ]
      refine wpAnyH_ready (rs := [0]) (by kernel_rfl) (by simp) ?_
      refine AllReadyH.cons rfl (fun K hK => ?_) AllReadyH.nil
      rw [if_pos (by rfl)]
      refine wp_load_mid 59 (.tmp 3) rfl (n + 1) 0 rfl (stA S).toList _ HRG.out Tryd.underlying59 rfl HIS.out ?_
      refine hK.out _ _ ?_ (fun hHeld => ?_)
      · trivial
      clear hK K
      try simp only [Act.put, List.getElem_toArray, List.getElem_cons_zero, List.getElem_cons_succ, List.setIfInBounds_toArray, List.set_cons_zero, List.set_cons_succ]
      refine wpAnyH_ready (rs := [4]) (by kernel_rfl) (by simp) ?_
      refine AllReadyH.cons rfl (fun K hK => ?_) AllReadyH.nil
      go_simp
      refine Calls.mono HBLK.out ?_
      rintro e W4 ⟨rfl, hF4⟩
      have HS4 := hideIt ((hF4.block (n + 1) (Array.getElem?_eq_some_iff.1 HS.out).1 (fun e => e)).trans HS.out)
      have HF4 := hideIt (HF.out.trans ((Fr.refl _ wr).drew.trans hF4 (fun _ _ e => e)) (fun _ _ e => e.elim))
      refine hK.out _ _ ?_ (fun hHeld => ?_)
      · trivial
      clear hK K
      try simp only [Act.put, List.getElem_toArray, List.getElem_cons_zero, List.getElem_cons_succ, List.setIfInBounds_toArray, List.set_cons_zero, List.set_cons_succ]
      refine wpAnyH_ready (rs := [5]) (by kernel_rfl) (by simp) ?_
      refine AllReadyH.cons rfl (fun K hK => ?_) AllReadyH.nil
      rw [if_pos (by rfl)]
      refine wp_store_mid 59 (.tmp 3) (.tmp 21) rfl (n + 1) 0 (stA S2) rfl rfl (thereNew W4 (n + 1) _ 59 HS4.out (stA S2).size rfl) (by kernel_rfl) (stA_one _) ?_
      have HS5 := hideIt (store_over (V := stA S2) HS4.out rfl)
      have HF5 := hideIt (HF4.out.trans HS5.out.2 (fun _ _ e => e))
      have HV5 := hideIt HS5.out.1
      clear HS5
      generalize W4.setCells (n + 1) 0 (stA S2).toList = W5 at *
      refine hK.out _ _ ?_ (fun hHeld => ?_)
      · trivial
      clear hK K
      try simp only [Act.put, List.getElem_toArray, List.getElem_cons_zero, List.getElem_cons_succ, List.setIfInBounds_toArray, List.set_cons_zero, List.set_cons_succ]
      refine wpAnyH_done (by kernel_rfl) ?_ _
      clear hHeld HS4 HF4 hF4 HRG HIS HBLK HS HF
      rw [← HS2.out] at HV5
      by_cases hc : c = 64
      · subst hc
        have hr : r = 64 := by have h2 := HOC.out hlt; omega
        have hkn : k + 1 = nB := by have h2 := HRL.out; omega
        subst hr
        go_wp2_with fail
        exact ⟨⟨k + 1, _, _, _, rfl, hideIt (by omega), by omega, hideIt (fun e => by omega), HV5, HF5⟩, by simp [slLen]⟩
      · have hcn : ¬ (c : Int) = 64 := by omega
        have hcn2 : ¬ 64 = c := by omega
        have hoc := (HOC.out hlt).2
        go_wp2_with fail
        exact ⟨⟨k + 1, 64 * k + 64, r - 64, c - 64, by first | rfl | (congr 1), hideIt (by have := HRL.out; omega), by omega, hideIt (fun e => ⟨by omega, by omega⟩), HV5, HF5⟩, by simp [slLen]; omega⟩
    · obtain rfl : k = nB := by omega
      have hr : r = 0 := by rw [HRL.out]; omega
      have hr0 : ¬ (0 : Int) < (r : Int) := by omega
      clear HOC HRL
      have hS8 := HS.out
      have HFA := hideIt (HF3.out.trans HF.out (fun i hi e => by have := HN.out; omega))
      have HZA := hideIt ((HF.out.block n (Array.getElem?_eq_some_iff.1 HA3.out).1 (by omega)).trans HA3.out)
      have h32 : St32 (Sha.blkW Sha.block k M Sha.first) := blkW_all _ St32 (fun s b => St32.block s b) _ _ _ St32.first
      generalize Sha.blkW Sha.block k M Sha.first = S at *
      have c0 : wr.cell? ⟨n + 1, 0, none⟩ = some (.int .u32 (S.a : Int)) := cellOfHeap hS8 0 rfl
      have c1 : wr.cell? ⟨n + 1, 1, none⟩ = some (.int .u32 (S.b : Int)) := cellOfHeap hS8 1 rfl
      have c2 : wr.cell? ⟨n + 1, 2, none⟩ = some (.int .u32 (S.c : Int)) := cellOfHeap hS8 2 rfl
      have c3 : wr.cell? ⟨n + 1, 3, none⟩ = some (.int .u32 (S.d : Int)) := cellOfHeap hS8 3 rfl
      have c4 : wr.cell? ⟨n + 1, 4, none⟩ = some (.int .u32 (S.e : Int)) := cellOfHeap hS8 4 rfl
      have c5 : wr.cell? ⟨n + 1, 5, none⟩ = some (.int .u32 (S.f : Int)) := cellOfHeap hS8 5 rfl
      have c6 : wr.cell? ⟨n + 1, 6, none⟩ = some (.int .u32 (S.g : Int)) := cellOfHeap hS8 6 rfl
      have c7 : wr.cell? ⟨n + 1, 7, none⟩ = some (.int .u32 (S.h : Int)) := cellOfHeap hS8 7 rfl
      obtain ⟨p, hp⟩ : ∃ p, wr.heap.size = p := ⟨_, rfl⟩
      have HL0 := hideIt (show ((wr.alloc (.cells #[.int .u32 (S.a : Int), .int .u32 (S.b : Int), .int .u32 (S.c : Int), .int .u32 (S.d : Int), .int .u32 (S.e : Int), .int .u32 (S.f : Int), .int .u32 (S.g : Int), .int .u32 (S.h : Int)] 44)).alloc (.cells zA 30)).heap[p]? = some (.cells (uv [S.a, S.b, S.c, S.d, S.e, S.f, S.g, S.h]).toArray 44 (0, 0)) from heap_old (heap_new hp.symm))
      have HD0 := hideIt (show ((wr.alloc (.cells #[.int .u32 (S.a : Int), .int .u32 (S.b : Int), .int .u32 (S.c : Int), .int .u32 (S.d : Int), .int .u32 (S.e : Int), .int .u32 (S.f : Int), .int .u32 (S.g : Int), .int .u32 (S.h : Int)] 44)).alloc (.cells zA 30)).heap[p + 1]? = some (.cells (bv (List.replicate 32 0)).toArray 30 (0, 0)) from heap_new (by simp [hp]))
      have HZ0 := hideIt (show ((wr.alloc (.cells #[.int .u32 (S.a : Int), .int .u32 (S.b : Int), .int .u32 (S.c : Int), .int .u32 (S.d : Int), .int .u32 (S.e : Int), .int .u32 (S.f : Int), .int .u32 (S.g : Int), .int .u32 (S.h : Int)] 44)).alloc (.cells zA 30)).heap[n]? = some (.cells zA 30 (0, 0)) from heap_old (heap_old HZA.out))
      have HF0 := hideIt (show Fr (fun _ => False) w ((wr.alloc (.cells #[.int .u32 (S.a : Int), .int .u32 (S.b : Int), .int .u32 (S.c : Int), .int .u32 (S.d : Int), .int .u32 (S.e : Int), .int .u32 (S.f : Int), .int .u32 (S.g : Int), .int .u32 (S.h : Int)] 44)).alloc (.cells zA 30)) from (HFA.out.alloc _).alloc _)
      have HPN := hideIt (show n < p by rw [← hp]; exact (Array.getElem?_eq_some_iff.1 HZA.out).1)
      have HPI := hideIt (show PIn S 0 0 (List.replicate 32 0) from ⟨by simp, fun t ht => by omega⟩)
      have HST := hideIt (show ∀ t, 0 ≤ t → t < 8 → ([S.a, S.b, S.c, S.d, S.e, S.f, S.g, S.h] : List Nat).getD t 0 = stW S t from fun t _ _ => rfl)
      have HPP := hideIt hp
      have H32 := hideIt h32
      clear hS8 HFA HZA h32 HS HF HK3 HG3 HA3 HF3
      go_wp2_with fail
      clear c0 c1 c2 c3 c4 c5 c6 c7
      go_loopw [8] (fun s8 wx => ∃ (i : Nat) (ds : List UInt8) (ls : List Nat), s8 = .int .i64 i ∧ i ≤ 8 ∧ Hid (PIn S i 0 ds) ∧ Hid (∀ t, i ≤ t → t < 8 → ls.getD t 0 = stW S t) ∧ Hid (ls.length = 8) ∧ Hid (wx.heap[p]? = some (.cells (uv ls).toArray 44 (0, 0))) ∧ Hid (wx.heap[p + 1]? = some (.cells (bv ds).toArray 30 (0, 0))) ∧ Hid (wx.heap[n]? = some (.cells zA 30 (0, 0))) ∧ Hid (Fr (fun _ => False) w wx)) (fun s8 _ => 8 - (intOf s8).toNat)
      case atStart => exact ⟨0, _, _, rfl, by omega, HPI, HST, hideIt rfl, HL0, HD0, HZ0, HF0⟩
      case round =>
        clear HPI HST HL0 HD0 HZ0 HF0
        obtain ⟨i, ds, ls, rfl, hi, HPI, HST, HLN, HLS, HDS, HZS, HFS⟩ := hrel
        by_cases hlt8 : i < 8
        · have hi8 : (i : Int) < 8 := by omega
          have HI0 := hideIt (show ls.getD i 0 = stW S i / 256 ^ 0 by rw [HST.out i (Nat.le_refl _) hlt8]; simp)
          have HS1 := hideIt (show ∀ t, i < t → t < 8 → ls.getD t 0 = stW S t from fun t h1 h2 => HST.out t (by omega) h2)
          clear HST
          go_wp2_with fail
          go_loopw [9] (fun s9 wx => ∃ (m : Nat) (z : Int) (ds : List UInt8) (ls : List Nat), s9 = .int .i64 z ∧ m ≤ 4 ∧ Hid (z = 3 - (m : Int)) ∧ Hid (PIn S i m ds) ∧ Hid (∀ t, i < t → t < 8 → ls.getD t 0 = stW S t) ∧ Hid (ls.getD i 0 = stW S i / 256 ^ m) ∧ Hid (ls.length = 8) ∧ Hid (wx.heap[p]? = some (.cells (uv ls).toArray 44 (0, 0))) ∧ Hid (wx.heap[p + 1]? = some (.cells (bv ds).toArray 30 (0, 0))) ∧ Hid (wx.heap[n]? = some (.cells zA 30 (0, 0))) ∧ Hid (Fr (fun _ => False) w wx)) (fun s9 _ => (intOf s9 + 1).toNat)
          case atStart => exact ⟨0, 3, ds, ls, rfl, by omega, hideIt rfl, HPI, HS1, HI0, HLN, HLS, HDS, HZS, HFS⟩
          case round =>
            clear HPI HS1 HI0 HLN HLS HDS HZS HFS
            obtain ⟨m, z, ds, ls, rfl, hm, HZ, HPI, HS1, HI0, HLN, HLS, HDS, HZS, HFS⟩ := hrel
            by_cases hm4 : m < 4
            · obtain ⟨j, hj⟩ : ∃ j : Nat, 3 - m = j := ⟨_, rfl⟩
              obtain rfl : z = (j : Int) := by rw [HZ.out]; omega
              have hj4 : j < 4 := by omega
              have hyw : ls.getD i 0 < 4294967296 := by
                rw [HI0.out]
                exact Nat.lt_of_le_of_lt (Nat.div_le_self _ _) (stW_lt S H32.out i hlt8)
              have HNG := hideIt (show UInt8.ofNat (ls.getD i 0 % 256) = (Sha.name S).getD (4 * i + (3 - m)) 0 by
                rw [name_get S i (3 - m) hlt8 (by omega), HI0.out, show 3 - (3 - m) = m by omega])
              have HPS := hideIt (HPI.out.step hlt8 hm4 _ HNG.out)
              rw [hj] at HPS
              have cy : wr.cell? ⟨p, i, none⟩ = some (.int .u32 (ls.getD i 0 : Nat)) := cellOfHeap HLS.out i (uv_get ls i (by rw [HLN.out]; exact hlt8))
              have fy := frozen_of_row wr p i _ _ HLS.out
              have hdl := HPI.out.1
              have cd : wr.cell? ⟨p + 1, 4 * i + j, none⟩ = some (.int .u8 ((ds.getD (4 * i + j) 0).toNat : Int)) := cellOfHeap HDS.out (4 * i + j) (by
                have h2 : 4 * i + j < ds.length := by omega
                simp [bv, List.getD, h2])
              have fd := frozen_of_row wr (p + 1) (4 * i + j) _ _ HDS.out
              have HI1 := hideIt (show ls.getD i 0 / 256 = stW S i / 256 ^ (m + 1) by rw [HI0.out, Nat.div_div_eq_div_mul, Nat.pow_succ])
              have HSET := hideIt (uv_set ls i)
              have HGI := hideIt (show ∀ v, (ls.set i v).getD i 0 = v from fun v => by
                have : i < ls.length := by rw [HLN.out]; exact hlt8
                simp [List.getD, this])
              have HGO := hideIt (show ∀ v t, i < t → (ls.set i v).getD t 0 = ls.getD t 0 from fun v t h => by
                simp [List.getD, List.getElem?_set, show ¬ i = t by omega])
              generalize ls.getD i 0 = y at *
              have hvy : (((UInt8.ofNat (y % 256)).toNat : Nat) : Int) = (y : Int) % 256 := by simp
              obtain ⟨v, hv⟩ : ∃ v, UInt8.ofNat (y % 256) = v := ⟨_, rfl⟩
              rw [hv] at hvy HPS
              obtain ⟨yd, hyd⟩ : ∃ d, y / 256 = d := ⟨_, rfl⟩
              rw [hyd] at HI1
              have d1 : (y : Int).tdiv 256 = (yd : Int) := by rw [Int.tdiv_eq_ediv_of_nonneg (by omega)]; omega
              have d1b : (y : Int) / 256 = (yd : Int) := by omega
              have d2 : IntKind.u32.wrap (yd : Int) = (yd : Int) := by rw [IntKind.wrap_u32]; omega
              have H1 := heap_setCell_same wr (p + 1) (4 * i + j) _ _ (.int .u8 ((y : Int) % 256)) HDS.out
              have hse : (bv ds).toArray.setIfInBounds (4 * i + j) (.int .u8 ((y : Int) % 256)) = (bv (ds.set (4 * i + j) v)).toArray := by rw [← hvy]; simp [bv, List.map_set]
              rw [hse] at H1
              have f1 := (Fr.refl (fun k => k = p + 1) wr).setCell (p := ⟨p + 1, 4 * i + j, none⟩) (fun _ => rfl) (.int .u8 ((y : Int) % 256))
              have H1L := (f1.block p (Array.getElem?_eq_some_iff.1 HLS.out).1 (by omega)).trans HLS.out
              have H2 := heap_setCell_same (wr.setCell ⟨p + 1, 4 * i + j, none⟩ (.int .u8 ((y : Int) % 256))) p i _ _ (.int .u32 (yd : Int)) H1L
              rw [HSET.out yd] at H2
              have f2 := (Fr.refl (fun k => k = p) (wr.setCell ⟨p + 1, 4 * i + j, none⟩ (.int .u8 ((y : Int) % 256)))).setCell (p := ⟨p, i, none⟩) (fun _ => rfl) (.int .u32 (yd : Int))
              have H2D := hideIt ((f2.block (p + 1) (Array.getElem?_eq_some_iff.1 H1).1 (by omega)).trans H1)
              have H2L := hideIt H2
              have f12 : Fr (fun k => p ≤ k) wr _ := (f1.mono (fun k e => by omega)).trans (f2.mono (S' := fun k => p ≤ k) (fun k e => by omega)) (fun _ _ e => e)
              have H2Z := hideIt ((f12.block n (Array.getElem?_eq_some_iff.1 HZS.out).1 (by have := HPN.out; omega)).trans HZS.out)
              have H2F := hideIt (HFS.out.trans f12 (fun i hi e => by have := HPN.out; have := HN.out; omega))
              have HS2 := hideIt (show ∀ t, i < t → t < 8 → (ls.set i yd).getD t 0 = stW S t from fun t h1 h2 => by rw [HGO.out yd t h1]; exact HS1.out t h1 h2)
              have HI2 := hideIt (show (ls.set i yd).getD i 0 = stW S i / 256 ^ (m + 1) by rw [HGI.out yd]; exact HI1.out)
              have HL2 := hideIt (show (ls.set i yd).length = 8 by rw [List.length_set]; exact HLN.out)
              have w3 : IntKind.i64.wrap (4 * (i : Int)) = 4 * (i : Int) := by rw [IntKind.wrap_i64]; omega
              have w4 : IntKind.i64.wrap (4 * (i : Int) + (j : Int)) = 4 * (i : Int) + (j : Int) := by rw [IntKind.wrap_i64]; omega
              have w5 : IntKind.i64.wrap ((j : Int) - 1) = (j : Int) - 1 := by rw [IntKind.wrap_i64]; omega
              have n1 : (0 : Int) ≤ 4 * (i : Int) + (j : Int) := by omega
              have n2 : 4 * (i : Int) + (j : Int) < 32 := by omega
              have n3 : (4 * (i : Int) + (j : Int)).toNat = 4 * i + j := by omega
              have cy2 : (wr.setCell ⟨p + 1, 4 * i + j, none⟩ (.int .u8 ((y : Int) % 256))).cell? ⟨p, i, none⟩ = some (.int .u32 (y : Int)) := (World.cell?_of_block (a := ⟨p, i, none⟩) (f1.block p (Array.getElem?_eq_some_iff.1 HLS.out).1 (by omega))).trans cy
              have HZ3 := hideIt (show (j : Int) - 1 = 3 - ((m + 1 : Nat) : Int) by omega)
              clear H1 hse f1 H1L H2 f2 f12 hv hyd hvy hyw HNG HPI HS1 HI0 HLS HDS HZS HFS HSET HGI HGO HI1 hdl hj hj4
              go_wp2_with fail
              exact ⟨⟨m + 1, (j : Int) - 1, _, _, by first | rfl | go_num, by omega, HZ3, HPS, HS2, HI2, HL2, H2L, H2D, H2Z, H2F⟩, by simp [intOf]⟩
            · have hm5 : m = 4 := by omega
              have hz4 : z = -1 := by rw [HZ.out, hm5]; rfl
              subst hz4
              have HP2 := hideIt (show PIn S (i + 1) 0 ds by have h := HPI.out; rw [hm5] at h; exact h.next)
              have HS2 := hideIt (show ∀ t, i + 1 ≤ t → t < 8 → ls.getD t 0 = stW S t from fun t h1 h2 => HS1.out t (by omega) h2)
              clear hm5 HPI HS1 HI0 HZ
              go_wp2_with fail
              exact ⟨⟨i + 1, ds, ls, by go_num, by omega, HP2, HS2, HLN, HLS, HDS, HZS, HFS⟩, by simp [intOf]; omega⟩
        · have hi9 : i = 8 := by omega
          have hni : ¬ (i : Int) < 8 := by omega
          have hds : ds = Sha.name S := by have h := HPI.out; rw [hi9] at h; exact h.all
          subst hds
          have hnl := name_len S
          have HNS := HSUM.out
          generalize hNN : Sha.name S = NN at *
          have HRN := hideIt (show wr.rangeAt (p + 1) 0 (bv NN) from rangeOf HDS.out)
          have HIL := hideIt (show (Tryd.prog.info? 30).map (·.size) = some (bv NN).length by rw [bv_length, hnl]; kernel_rfl)
          have HIA := hideIt (show (Tryd.prog.info? 30).map (·.size) = some (bv NN).toArray.size by rw [List.size_toArray, bv_length, hnl]; kernel_rfl)
          have HTT := hideIt (thereNew wr n zA 30 HZS.out (bv NN).toArray.size (by rw [List.size_toArray, bv_length, hnl]; rfl))
          have HO1 := hideIt (show (bv NN).toArray.all (·.oneCell') = true by simp [bv, Value.oneCell'])
          have HSF2 := hideIt (store_over (V := (bv NN).toArray) HZS.out (by rw [List.size_toArray, bv_length, hnl]; rfl))
          have HNS2 := hideIt HNS
          clear HNS hNN hnl HPI HST HLS HDS HZS hi9
          go_wp2_with (first | (refine wpList_load_mid rfl 30 (.tmp 7) rfl (p + 1) 0 rfl (bv NN) _ HRN.out Tryd.underlying30 rfl HIL.out ?_) | (refine wpList_store_abs rfl 30 (.tmp 2) (.tmp 67) rfl n 0 (bv NN).toArray rfl rfl HTT.out HIA.out HO1.out ?_; intro W9 hW9; have HW9 := hideIt hW9; clear hW9))
          refine bodyPost_ret (results_cell_row Tryd.results15 _ _ n 30 (bv NN).toArray (0, 0) _ rfl ?_ Tryd.underlying30 rfl HIA.out) rfl ⟨by rw [HNS2.out], ?_⟩
          · rw [HW9.out]
            exact HSF2.out.1
          · rw [HW9.out]
            exact HFS.out.trans HSF2.out.2 (fun i hi e => by have := HN.out; omega)

end Go.Proofs.YtgnpdnkmhjocjaaDoor
