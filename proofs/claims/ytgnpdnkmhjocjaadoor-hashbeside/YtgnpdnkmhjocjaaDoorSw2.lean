/- Package hash, the laws: digests side by side (HashBeside), walked. -/
import Derived.Test.YtgnpdnkmhjocjaaDoorSw1
namespace Go.Proofs.YtgnpdnkmhjocjaaDoor
open Go.RowKit Go.IntWalk
set_option linter.unusedSimpArgs false
set_option linter.unusedVariables false

theorem bes_start (w wr : World) (pa pb pc : Nat) (hF : Fr (fun _ => False) w wr) (da : Dg wr pa []) (db : Dg wr pb []) (dc : Dg wr pc []) (h1 : w.heap.size ≤ pa) (h2 : pa < pb) (h3 : pb < pc) : Bes w wr pa pb pc [] [] [] none none none 0 0 0 [] [] [] :=
  have nb : ∀ k, ¬ blk none k := fun k h => by obtain ⟨a, e, _⟩ := h; cases e
  ⟨da, db, dc, row_nil _, row_nil _, row_nil _, fun k h => (nb k h).elim, fun k h => (nb k h).elim, fun k h => (nb k h).elim, fun k h => (nb k h).elim, fun k h => (nb k h).elim, fun k h => (nb k h).elim, hF, h1, h2, h3⟩

set_option maxRecDepth 100000 in
set_option maxHeartbeats 4000000 in
theorem hbeside_any (ao : Option Addr) (cap : Nat) (ls : List Bt) (hll : ls.length ≤ 9223372036854775807) (w : World) (hB : BtsAt w ao ls) (hG : Glob w) : Calls Tryd.prog 7 #[.slice ao ls.length cap] w fun e w' => e = .returned (.bool true) ∧ Fr (fun _ => False) w w' := by
  have HG := hideIt hG
  have HB := hideIt hB
  have HK := hideIt (hawake_any w hG)
  clear hG hB
  go_enter Tryd.func7, Tryd.ntmps7
  go_wp2_with fail
  refine Calls.mono HK.out ?_
  rintro e w1 ⟨rfl, hF1⟩
  have HF1 := hideIt hF1
  have HN1 := hideIt (gd_new w1 (HG.out.fr0 hF1))
  clear HK hF1
  go_wp2_with fail
  refine Calls.mono HN1.out ?_
  rintro e w2 ⟨rfl, hDa, hF2⟩
  obtain ⟨pa, hpa⟩ : ∃ p, w1.heap.size = p := ⟨_, rfl⟩
  rw [hpa] at hDa
  have HLA := hideIt (show w.heap.size ≤ pa by rw [← hpa]; exact HF1.out.size)
  have HF2 := hideIt (HF1.out.trans hF2 (fun _ _ e => e))
  have HDa := hideIt hDa
  have HN2 := hideIt (gd_new w2 (HG.out.fr0 HF2.out))
  clear HN1 hF2 hDa HF1
  go_wp2_with fail
  refine Calls.mono HN2.out ?_
  rintro e w3 ⟨rfl, hDb, hF3⟩
  obtain ⟨pb, hpb⟩ : ∃ p, w2.heap.size = p := ⟨_, rfl⟩
  rw [hpb] at hDb
  have HLB := hideIt (show pa < pb by rw [← hpb]; exact HDa.out.lt)
  have HDa := hideIt (HDa.out.fr hF3 (fun e => e))
  have HF3 := hideIt (HF2.out.trans hF3 (fun _ _ e => e))
  have HDb := hideIt hDb
  have HN3 := hideIt (gd_new w3 (HG.out.fr0 HF3.out))
  clear HN2 hF3 hDb HF2
  go_wp2_with fail
  refine Calls.mono HN3.out ?_
  rintro e w4 ⟨rfl, hDc, hF4⟩
  obtain ⟨pc, hpc⟩ : ∃ p, w3.heap.size = p := ⟨_, rfl⟩
  rw [hpc] at hDc
  have HLC := hideIt (show pb < pc by rw [← hpc]; exact HDb.out.lt)
  have HF4 := hideIt (HF3.out.trans hF4 (fun _ _ e => e))
  have HBS := hideIt (bes_start w w4 pa pb pc HF4.out (HDa.out.fr hF4 (fun e => e)) (HDb.out.fr hF4 (fun e => e)) hDc HLA.out HLB.out HLC.out)
  have HLO := hideIt (hlong_any ao cap ls 20 200 hll (by decide) w4 (HB.out.fr0 (HF4.out.mono (fun _ e => e.elim))))
  clear HN3 hF4 hDc HF3 HDa HDb
  go_wp2_with fail
  refine Calls.mono HLO.out ?_
  rintro e w5 ⟨rfl, b, rfl, hb⟩
  have HPC := hideIt hpc
  have HPB := hideIt hpb
  have HPA := hideIt hpa
  clear HLO
  cases b with
  | true =>
    go_wp2_with fail
    go_ret
    exact ⟨rfl, HF4.out⟩
  | false =>
    obtain ⟨hl20, hl200⟩ := hb rfl
    have HL2 := hideIt hl200
    clear hb hl200 HF4 HLA HLB HLC
    go_wp2_with fail
    go_loopw [7, 8, 9, 10] (fun s7 s8 s9 s10 wr => ∃ (i : Nat) (ea eb ec : Option Addr) (ca cb cc : Nat) (me mo ma : List UInt8), s7 = .slice ea me.length ca ∧ s8 = .slice eb mo.length cb ∧ s9 = .slice ec ma.length cc ∧ s10 = .int .i64 i ∧ i ≤ ls.length ∧ Hid (Bes w wr pa pb pc me mo ma ea eb ec ca cb cc me mo ma) ∧ Hid (me.length + mo.length = ma.length ∧ ma.length ≤ 200 * i)) (fun _ _ _ s10 _ => ls.length - (intOf s10).toNat)
    case atStart => exact ⟨0, none, none, none, 0, 0, 0, [], [], [], rfl, rfl, rfl, rfl, by omega, HBS, hideIt ⟨rfl, by simp⟩⟩
    case round =>
      clear HBS
      obtain ⟨i, ea, eb, ec, ca, cb, cc, me, mo, ma, rfl, rfl, rfl, rfl, hi, HBS, HSZ⟩ := hrel
      obtain ⟨hsz1, hsz2⟩ := HSZ.out
      have HS1 := hideIt hsz1
      have hmb : ma.length ≤ 4000 := by omega
      have heb : me.length ≤ 4000 := by omega
      have hob : mo.length ≤ 4000 := by omega
      have HMB := hideIt hmb
      have HEB := hideIt heb
      have HOB := hideIt hob
      have HS2 := hideIt hsz2
      clear hsz1 hsz2 hmb heb hob HSZ
      by_cases hlt : i < ls.length
      · have h1 : (i : Int) < (ls.length : Int) := by omega
        have HX200 := hideIt (HL2.out _ (List.getElem_mem hlt))
        obtain ⟨b, off, rfl, hc0, hbt0⟩ := HB.out.get i hlt
        have HXB := hideIt (fun k (hn : (ls[i]).bs ≠ []) => hbt0.lt hn k)
        have hbl : b < w.heap.size := block_lt_of_cell hc0
        unfold Bt.val at hc0
        have HC := hideIt (fun W (hF : Fr (fun _ => False) w W) => show W.cell? ⟨b, off + i, none⟩ = some (.slice (ls[i]).ao (ls[i]).bs.length (ls[i]).cap) ∧ BtAt W ls[i] from ⟨(World.cell?_of_block (a := ⟨b, off + i, none⟩) (hF.block b hbl (fun e => e))).trans hc0, hbt0.fr hF (fun _ _ _ e => e)⟩)
        have HGW := hideIt (HG.out.fr0 HBS.out.fr)
        generalize ls[i] = x at *
        clear hc0 hbt0 hbl
        have hc := (HC.out wr HBS.out.fr).1
        by_cases hpar : i % 2 = 0
        · have p1 : (i : Int).tmod 2 = 0 := by rw [Int.tmod_eq_emod_of_nonneg (by omega)]; omega
          have p2 : (i : Int) % 2 = 0 := by omega
          clear hpar
          have HW1 := hideIt (gd_write wr pa me HBS.out.da x (HC.out wr HBS.out.fr).2 (fun hn k hk => by have := HXB.out k hn hk; have := HBS.out.lo; have := HBS.out.lab; omega) HGW.out (by have := HX200.out; have := HEB.out; omega))
          unfold Bt.val at HW1
          go_wp2_with fail
          refine Calls.mono HW1.out ?_
          rintro e w6 ⟨rfl, hD6, hF6⟩
          have HB6 := hideIt (HBS.out.wra hD6 hF6)
          have hc6 := (HC.out w6 HB6.out.fr).1
          obtain ⟨e7, c7, w7, happ, hrow7, hF7, he7⟩ := app_row w6 27 ea ca me x.bs HB6.out.ra x.val (HC.out w6 HB6.out.fr).2.src (by have := HX200.out; have := HEB.out; omega)
          have HB7 := hideIt (HB6.out.apa hrow7 hF7 he7)
          unfold Bt.val at happ
          have HAPP := hideIt happ
          clear happ
          have HW7 := hideIt (gd_write w7 pc ma HB7.out.dc x (HC.out w7 HB7.out.fr).2 (fun hn k hk => by have := HXB.out k hn hk; have := HBS.out.lo; have := HBS.out.lab; have := HBS.out.lbc; omega) (HG.out.fr0 HB7.out.fr) (by have := HX200.out; have := HMB.out; omega))
          unfold Bt.val at HW7
          have hc7 := (HC.out w7 HB7.out.fr).1
          clear hc hD6 hF6 hrow7 hF7 he7 HBS HW1
          go_wp2_with (first | (at_builtin; refine wpList_append_run _ rfl (.tmp 43) (.tmp 47) 27 27 rfl _ _ _ _ rfl rfl HAPP.out ?_))
          refine Calls.mono HW7.out ?_
          rintro e w8 ⟨rfl, hD8, hF8⟩
          have HB8 := hideIt (HB7.out.wrc hD8 hF8)
          have hc8 := (HC.out w8 HB8.out.fr).1
          obtain ⟨e9, c9, w9, happ2, hrow9, hF9, he9⟩ := app_row w8 27 ec cc ma x.bs HB8.out.rc x.val (HC.out w8 HB8.out.fr).2.src (by have := HX200.out; have := HMB.out; omega)
          have HB9 := hideIt (HB8.out.apc hrow9 hF9 he9)
          unfold Bt.val at happ2
          have HS9 := hideIt (gd_sum w9 pc (ma ++ x.bs) HB9.out.dc (HG.out.fr0 HB9.out.fr) (by have := HX200.out; have := HMB.out; rw [List.length_append]; omega))
          have HAPP2 := hideIt happ2
          clear hc6 happ2 HAPP hc7 HB6 HB7 HW7 hD8 hF8 hrow9 hF9 he9
          go_wp2_with (first | (at_builtin; refine wpList_append_run _ rfl (.tmp 67) (.tmp 71) 27 27 rfl _ _ _ _ rfl rfl HAPP2.out ?_))
          refine Calls.mono HS9.out ?_
          rintro e wa ⟨rfl, hFa⟩
          have HBa := hideIt (HB9.out.fr0 hFa)
          have HSa := hideIt (gd_sum wa pc (ma ++ x.bs) HBa.out.dc (HG.out.fr0 HBa.out.fr) (by have := HX200.out; have := HMB.out; rw [List.length_append]; omega))
          have hnl : (Sha.sum (ma ++ x.bs)).length = 32 := name_len _
          generalize Sha.sum (ma ++ x.bs) = N at *
          have HNE := hideIt (fun w => show (binOp .neq 30 (.agg (bv N).toArray) (.agg (bv N).toArray)).run Tryd.prog w = .ok (.bool false) w by rw [ids_neq w N N hnl hnl]; simp)
          have HGR := hideIt (fun w (o : BinOp) (p q : Operand) => ids_grd w o p q N N)
          clear HB9 hFa HS9 HAPP2 hc8 HB8 hnl
          go_wp2_with fail
          refine Calls.mono HSa.out ?_
          rintro e wb ⟨rfl, hFb⟩
          have HBb := hideIt (HBa.out.fr0 hFb)
          have HLb := hideIt (gd_len wb pc (ma ++ x.bs) HBb.out.dc)
          rw [List.length_append] at HLb
          clear HBa hFb HSa
          go_wp2_with (first | (refine wpList_bin_want (by rfl) .neq 30 30 (.tmp 74) (.tmp 76) rfl (.agg (bv N).toArray) (.agg (bv N).toArray) (.bool false) rfl rfl (HNE.out _) (HGR.out _ .neq (.tmp 74) (.tmp 76)) ?_))
          refine Calls.mono HLb.out ?_
          rintro e wc ⟨rfl, rfl⟩
          go_wp2_with fail
          go_roundw
          case measure => simp [intOf]; omega
          case rel => exact ⟨i + 1, e7, eb, e9, c7, cb, c9, me ++ x.bs, mo, ma ++ x.bs, by rw [List.length_append], rfl, by rw [List.length_append], by go_num, by omega, HBb, hideIt ⟨by have := HS1.out; simp only [List.length_append]; omega, by have := HS2.out; have := HX200.out; simp only [List.length_append]; omega⟩⟩
        · have p1 : (i : Int).tmod 2 = 1 := by rw [Int.tmod_eq_emod_of_nonneg (by omega)]; omega
          have p2 : (i : Int) % 2 = 1 := by omega
          clear hpar
          have HW1 := hideIt (gd_write wr pb mo HBS.out.db x (HC.out wr HBS.out.fr).2 (fun hn k hk => by have := HXB.out k hn hk; have := HBS.out.lo; have := HBS.out.lab; omega) HGW.out (by have := HX200.out; have := HOB.out; omega))
          unfold Bt.val at HW1
          go_wp2_with fail
          refine Calls.mono HW1.out ?_
          rintro e w6 ⟨rfl, hD6, hF6⟩
          have HB6 := hideIt (HBS.out.wrb hD6 hF6)
          have hc6 := (HC.out w6 HB6.out.fr).1
          obtain ⟨e7, c7, w7, happ, hrow7, hF7, he7⟩ := app_row w6 27 eb cb mo x.bs HB6.out.rb x.val (HC.out w6 HB6.out.fr).2.src (by have := HX200.out; have := HOB.out; omega)
          have HB7 := hideIt (HB6.out.apb hrow7 hF7 he7)
          unfold Bt.val at happ
          have HAPP := hideIt happ
          clear happ
          have HW7 := hideIt (gd_write w7 pc ma HB7.out.dc x (HC.out w7 HB7.out.fr).2 (fun hn k hk => by have := HXB.out k hn hk; have := HBS.out.lo; have := HBS.out.lab; have := HBS.out.lbc; omega) (HG.out.fr0 HB7.out.fr) (by have := HX200.out; have := HMB.out; omega))
          unfold Bt.val at HW7
          have hc7 := (HC.out w7 HB7.out.fr).1
          clear hc hD6 hF6 hrow7 hF7 he7 HBS HW1
          go_wp2_with (first | (at_builtin; refine wpList_append_run _ rfl (.tmp 55) (.tmp 59) 27 27 rfl _ _ _ _ rfl rfl HAPP.out ?_))
          refine Calls.mono HW7.out ?_
          rintro e w8 ⟨rfl, hD8, hF8⟩
          have HB8 := hideIt (HB7.out.wrc hD8 hF8)
          have hc8 := (HC.out w8 HB8.out.fr).1
          obtain ⟨e9, c9, w9, happ2, hrow9, hF9, he9⟩ := app_row w8 27 ec cc ma x.bs HB8.out.rc x.val (HC.out w8 HB8.out.fr).2.src (by have := HX200.out; have := HMB.out; omega)
          have HB9 := hideIt (HB8.out.apc hrow9 hF9 he9)
          unfold Bt.val at happ2
          have HS9 := hideIt (gd_sum w9 pc (ma ++ x.bs) HB9.out.dc (HG.out.fr0 HB9.out.fr) (by have := HX200.out; have := HMB.out; rw [List.length_append]; omega))
          have HAPP2 := hideIt happ2
          clear hc6 happ2 HAPP hc7 HB6 HB7 HW7 hD8 hF8 hrow9 hF9 he9
          go_wp2_with (first | (at_builtin; refine wpList_append_run _ rfl (.tmp 67) (.tmp 71) 27 27 rfl _ _ _ _ rfl rfl HAPP2.out ?_))
          refine Calls.mono HS9.out ?_
          rintro e wa ⟨rfl, hFa⟩
          have HBa := hideIt (HB9.out.fr0 hFa)
          have HSa := hideIt (gd_sum wa pc (ma ++ x.bs) HBa.out.dc (HG.out.fr0 HBa.out.fr) (by have := HX200.out; have := HMB.out; rw [List.length_append]; omega))
          have hnl : (Sha.sum (ma ++ x.bs)).length = 32 := name_len _
          generalize Sha.sum (ma ++ x.bs) = N at *
          have HNE := hideIt (fun w => show (binOp .neq 30 (.agg (bv N).toArray) (.agg (bv N).toArray)).run Tryd.prog w = .ok (.bool false) w by rw [ids_neq w N N hnl hnl]; simp)
          have HGR := hideIt (fun w (o : BinOp) (p q : Operand) => ids_grd w o p q N N)
          clear HB9 hFa HS9 HAPP2 hc8 HB8 hnl
          go_wp2_with fail
          refine Calls.mono HSa.out ?_
          rintro e wb ⟨rfl, hFb⟩
          have HBb := hideIt (HBa.out.fr0 hFb)
          have HLb := hideIt (gd_len wb pc (ma ++ x.bs) HBb.out.dc)
          rw [List.length_append] at HLb
          clear HBa hFb HSa
          go_wp2_with (first | (refine wpList_bin_want (by rfl) .neq 30 30 (.tmp 74) (.tmp 76) rfl (.agg (bv N).toArray) (.agg (bv N).toArray) (.bool false) rfl rfl (HNE.out _) (HGR.out _ .neq (.tmp 74) (.tmp 76)) ?_))
          refine Calls.mono HLb.out ?_
          rintro e wc ⟨rfl, rfl⟩
          go_wp2_with fail
          go_roundw
          case measure => simp [intOf]; omega
          case rel => exact ⟨i + 1, ea, e7, e9, ca, c7, c9, me, mo ++ x.bs, ma ++ x.bs, rfl, by rw [List.length_append], by rw [List.length_append], by go_num, by omega, HBb, hideIt ⟨by have := HS1.out; simp only [List.length_append]; omega, by have := HS2.out; have := HX200.out; simp only [List.length_append]; omega⟩⟩
      · obtain rfl : i = ls.length := by omega
        have HMB2 := HMB.out
        have HEB2 := HEB.out
        have HOB2 := HOB.out
        have hwl : IntKind.i64.wrap ((me.length : Int) + (mo.length : Int)) = (ma.length : Int) := by have := HS1.out; rw [IntKind.wrap_i64]; omega
        have HWL := hideIt hwl
        clear HMB2 HEB2 HOB2 hwl
        obtain ⟨Na, hNa⟩ : ∃ N, Sha.sum me = N := ⟨_, rfl⟩
        obtain ⟨Nb, hNb⟩ : ∃ N, Sha.sum mo = N := ⟨_, rfl⟩
        obtain ⟨Nc, hNc⟩ : ∃ N, Sha.sum ma = N := ⟨_, rfl⟩
        have HEa := hideIt (fun w => show (binOp .eql 30 (.agg (bv Na).toArray) (.agg (bv Na).toArray)).run Tryd.prog w = .ok (.bool true) w by rw [ids_eql w Na Na (by rw [← hNa]; exact name_len _) (by rw [← hNa]; exact name_len _)]; simp)
        have HGa := hideIt (fun w (o : BinOp) (p q : Operand) => ids_grd w o p q Na Na)
        have HNa := hideIt hNa
        clear hNa
        have HEb := hideIt (fun w => show (binOp .eql 30 (.agg (bv Nb).toArray) (.agg (bv Nb).toArray)).run Tryd.prog w = .ok (.bool true) w by rw [ids_eql w Nb Nb (by rw [← hNb]; exact name_len _) (by rw [← hNb]; exact name_len _)]; simp)
        have HGb := hideIt (fun w (o : BinOp) (p q : Operand) => ids_grd w o p q Nb Nb)
        have HNb := hideIt hNb
        clear hNb
        have HEc := hideIt (fun w => show (binOp .eql 30 (.agg (bv Nc).toArray) (.agg (bv Nc).toArray)).run Tryd.prog w = .ok (.bool true) w by rw [ids_eql w Nc Nc (by rw [← hNc]; exact name_len _) (by rw [← hNc]; exact name_len _)]; simp)
        have HGc := hideIt (fun w (o : BinOp) (p q : Operand) => ids_grd w o p q Nc Nc)
        have HNc := hideIt hNc
        clear hNc
        have HQ1 := hideIt (gd_sum wr pa me HBS.out.da (HG.out.fr0 HBS.out.fr) (by have := HEB.out; omega))
        rw [HNa.out] at HQ1
        go_wp2_with fail
        refine Calls.mono HQ1.out ?_
        rintro e u0 ⟨rfl, hF⟩
        have HU0 := hideIt (HBS.out.fr0 hF)
        have HQ2 := hideIt (gd_hsum u0 ea ca me HU0.out.ra (HG.out.fr0 HU0.out.fr) (by have := HEB.out; omega))
        rw [HNa.out] at HQ2
        clear hF HQ1 HBS
        go_wp2_with fail
        refine Calls.mono HQ2.out ?_
        rintro e v0 ⟨rfl, hF⟩
        have HV0 := hideIt (HU0.out.fr0 hF)
        clear hF HQ2 HU0
        have HQ1 := hideIt (gd_sum v0 pb mo HV0.out.db (HG.out.fr0 HV0.out.fr) (by have := HOB.out; omega))
        rw [HNb.out] at HQ1
        go_wp2_with (first | (refine wpList_bin_want (by rfl) .eql 30 30 (.tmp 88) (.tmp 90) rfl (.agg (bv Na).toArray) (.agg (bv Na).toArray) (.bool true) rfl rfl (HEa.out _) (HGa.out _ .eql (.tmp 88) (.tmp 90)) ?_))
        refine Calls.mono HQ1.out ?_
        rintro e u1 ⟨rfl, hF⟩
        have HU1 := hideIt (HV0.out.fr0 hF)
        have HQ2 := hideIt (gd_hsum u1 eb cb mo HU1.out.rb (HG.out.fr0 HU1.out.fr) (by have := HOB.out; omega))
        rw [HNb.out] at HQ2
        clear hF HQ1 HV0
        go_wp2_with fail
        refine Calls.mono HQ2.out ?_
        rintro e v1 ⟨rfl, hF⟩
        have HV1 := hideIt (HU1.out.fr0 hF)
        clear hF HQ2 HU1
        have HQ1 := hideIt (gd_sum v1 pc ma HV1.out.dc (HG.out.fr0 HV1.out.fr) (by have := HMB.out; omega))
        rw [HNc.out] at HQ1
        go_wp2_with (first | (refine wpList_bin_want (by rfl) .eql 30 30 (.tmp 95) (.tmp 97) rfl (.agg (bv Nb).toArray) (.agg (bv Nb).toArray) (.bool true) rfl rfl (HEb.out _) (HGb.out _ .eql (.tmp 95) (.tmp 97)) ?_))
        refine Calls.mono HQ1.out ?_
        rintro e u2 ⟨rfl, hF⟩
        have HU2 := hideIt (HV1.out.fr0 hF)
        have HQ2 := hideIt (gd_hsum u2 ec cc ma HU2.out.rc (HG.out.fr0 HU2.out.fr) (by have := HMB.out; omega))
        rw [HNc.out] at HQ2
        clear hF HQ1 HV1
        go_wp2_with fail
        refine Calls.mono HQ2.out ?_
        rintro e v2 ⟨rfl, hF⟩
        have HV2 := hideIt (HU2.out.fr0 hF)
        clear hF HQ2 HU2
        have HZa := hideIt (gd_len v2 pa me HV2.out.da)
        have HZb := hideIt (gd_len v2 pb mo HV2.out.db)
        have HZc := hideIt (gd_len v2 pc ma HV2.out.dc)
        go_wp2_with (first | (refine wpList_bin_want (by rfl) .eql 30 30 (.tmp 102) (.tmp 104) rfl (.agg (bv Nc).toArray) (.agg (bv Nc).toArray) (.bool true) rfl rfl (HEc.out _) (HGc.out _ .eql (.tmp 102) (.tmp 104)) ?_))
        refine Calls.mono HZa.out ?_
        rintro e z0 ⟨rfl, rfl⟩
        go_wp2_with fail
        refine Calls.mono HZb.out ?_
        rintro e z1 ⟨rfl, rfl⟩
        have hwl := HWL.out
        go_wp2_with fail
        refine Calls.mono HZc.out ?_
        rintro e z2 ⟨rfl, rfl⟩
        go_wp2_with fail
        go_ret
        exact ⟨rfl, HV2.out.fr⟩

end Go.Proofs.YtgnpdnkmhjocjaaDoor
