/- ProgTells, part 17 of the road: what the program's functions do, each by its own walk. -/
import Derived.Test.YtojgikaoiegmpaaGreatDoorQ15
import Derived.Test.YtojgikaoiegmpaaGreatDoorQ16

/- Package prog: ID, walked. -/
namespace Go.Proofs.YtojgikaoiegmpaaGreatDoor
open Go.RowKit Go.IntWalk
set_option linter.unusedSimpArgs false
set_option linter.unusedVariables false
set_option maxRecDepth 100000

theorem results_row_tmp {P : Program} {fn : Func} {p q : Tmp} {ty : TypeId} (h : fn.results = #[.cell p ty, .tmp q]) (tmps : Array Value) (w : World) (g : Nat) (t : TypeId) (cs : Array Value) (fr : Nat × Nat) (d : TypeDesc) (v : Value)
    (hp : tmps.getD p undef = .pointer (some ⟨g, 0, none⟩)) (hg : w.heap[g]? = some (.cells cs t fr))
    (hu : P.underlying ty = some d) (hd : (match d with | .struct _ | .array _ _ => true | _ => false) = true) (hi : (P.info? ty).map (·.size) = some cs.size)
    (hq : tmps.getD q undef = v) :
    (results fn tmps).run P w = .ok (.tuple #[.agg cs, v]) w := by
  have hp' : tmps[p]?.getD undef = .pointer (some ⟨g, 0, none⟩) := by simpa using hp
  have hq' : tmps[q]?.getD undef = v := by simpa using hq
  simp [results, h, hp', hq', asAddr, Sem.run_bind, run_loadVar_row w g t ty cs fr d hg hu hd hi]

theorem full_cap {w : World} {ao : Option Addr} {cap : Nat} {bs : List UInt8} (h : Full w ao cap bs) : bs.length ≤ cap := by
  rcases h with ⟨_, rfl, rfl⟩ | ⟨g, zs, _, _, rfl, _⟩
  · simp
  · simp
theorem full_cap0 {w : World} {ao : Option Addr} {cap : Nat} {bs : List UInt8} (h : Full w ao cap bs) : ao = none → cap = 0 := by
  rintro rfl
  rcases h with ⟨_, _, e⟩ | ⟨g, zs, e, _⟩
  · exact e
  · cases e
/-- A transaction's ID. -/
noncomputable def idV (l : List Ins) : Array Value := if (chkF l).1 = 0 then (bv (Sha.sum (progB l))).toArray else zA
theorem sum_len (bs : List UInt8) : (Sha.sum bs).length = 32 := name_len _
theorem zA_len : zA.size = 32 := rfl
theorem idV_size (l : List Ins) : (idV l).size = 32 := by
  unfold idV
  split
  · rw [List.size_toArray, bv_length, sum_len]
  · rfl
theorem idV_one (l : List Ins) : (idV l).all (·.oneCell') = true := by
  unfold idV
  split
  · simp [bv, Value.oneCell']
  · simp [zA, Value.oneCell']
theorem idInfo (V : Array Value) (h : V.size = 32) : (Tryz.prog.info? 33).map (·.size) = some V.size := by rw [h]; kernel_rfl

set_option maxRecDepth 100000 in
set_option maxHeartbeats 4000000 in
theorem gid_any (ao : Option Addr) (cap : Nat) (l : List Ins) (hl : l.length ≤ 140737488355328) (w : World) (hB : InsRow w ao l) (hG : Glob w) : Calls Tryz.prog 11 #[.slice ao l.length cap] w fun e w' => e = .returned (.tuple #[.agg (idV l), .int .i64 (chkF l).1]) ∧ Fr (fun _ => False) w w' := by
  have hf1 : Fr (fun _ => False) w (w.alloc (.cells zA 33)) := (Fr.refl _ w).alloc _
  have HBY := hideIt (gbts ao cap l hl (w.alloc (.cells zA 33)) (hB.fr hf1 (fun _ _ _ e => e)))
  have HZ := hideIt (show (w.alloc (.cells zA 33)).heap[w.heap.size]? = some (.cells zA 33 (0, 0)) from heap_new rfl)
  have HF1 := hideIt hf1
  have HG := hideIt hG
  clear hf1 hB hG
  have h5 : (chkF l).1 = 0 → (progB l).length ≤ 512 := fun h => (chkF_zero h).2.2.2.2
  obtain ⟨V, hV⟩ : ∃ V, idV l = V := ⟨_, rfl⟩
  have hV32 : V.size = 32 := by rw [← hV]; exact idV_size l
  have HV1 := hideIt (show V.all (·.oneCell') = true by rw [← hV]; exact idV_one l)
  rw [hV]
  by_cases he : (chkF l).1 = 0
  · have HVV := hideIt (show (bv (Sha.sum (progB l))).toArray = V by rw [← hV]; unfold idV; rw [if_pos he])
    have hc : progC l = progB l := by unfold progC; rw [if_pos he]
    rw [hc, he] at HBY
    rw [he]
    have HLEN := hideIt (h5 he)
    clear hV h5 he hc
    generalize progB l = bs at *
    go_enter Tryz.func11, Tryz.ntmps11
    go_wp2_with fail
    refine Calls.mono HBY.out ?_
    rintro e w2 ⟨a2, c2, rfl, hf2, hF2, hn2⟩
    have HS := hideIt (hsum_any a2 c2 bs w2 hf2.bs (fun j hj => hf2.lt hj) (full_cap hf2) (HG.out.fr0 (HF1.out.trans hF2 (fun _ _ e => e))) (by have := HLEN.out; omega))
    have HZ2 := hideIt ((hF2.block w.heap.size (by simp) (fun e => e)).trans HZ.out)
    have HF2 := hideIt (HF1.out.trans hF2 (fun _ _ e => e))
    clear hf2 hF2 hn2 HBY
    go_wp2_with fail
    refine Calls.mono HS.out ?_
    rintro e w3 ⟨rfl, hF3⟩
    rw [HVV.out]
    have HZ3 := hideIt ((hF3.block w.heap.size (Array.getElem?_eq_some_iff.1 HZ2.out).1 (fun e => e)).trans HZ2.out)
    have HF3 := hideIt (HF2.out.trans hF3 (fun _ _ e => e))
    have HIN := hideIt (idInfo V hV32)
    have HTT := hideIt (thereNew w3 w.heap.size zA 33 HZ3.out V.size (by rw [hV32]; rfl))
    have HSF := hideIt (store_over (V := V) HZ3.out (by rw [hV32]; rfl))
    clear hF3 HS HZ2 HF2
    go_wp2_with (first | (refine wpList_store_mid rfl 33 (.tmp 2) (.tmp 16) rfl w.heap.size 0 V rfl rfl HTT.out HIN.out HV1.out ?_))
    refine bodyPost_ret (results_row_tmp Tryz.results11 _ _ w.heap.size 33 V (0, 0) _ (.int .i64 0) rfl ?_ Tryz.underlying33 rfl HIN.out rfl) rfl ⟨rfl, ?_⟩
    · exact HSF.out.1
    · exact HF3.out.trans HSF.out.2 (fun i hi e => by omega)
  · have HVV := hideIt (show zA = V by rw [← hV]; unfold idV; rw [if_neg he])
    have hc : progC l = [] := by unfold progC; rw [if_neg he]
    rw [hc] at HBY
    have hne : ((chkF l).1 == 0) = false := by simpa using he
    generalize (chkF l).1 = er at *
    clear hV h5 he hc
    dsimp only [List.length_nil] at HBY
    go_enter Tryz.func11, Tryz.ntmps11
    go_wp2_with fail
    refine Calls.mono HBY.out ?_
    rintro e w2 ⟨a2, c2, rfl, hf2, hF2, hn2⟩
    have HZ3 := hideIt ((hF2.block w.heap.size (by simp) (fun e => e)).trans HZ.out)
    have HF3 := hideIt (HF1.out.trans hF2 (fun _ _ e => e))
    have HIN := hideIt (idInfo V hV32)
    have HTT := hideIt (thereNew w2 w.heap.size zA 33 HZ3.out V.size (by rw [hV32]; rfl))
    have HSF := hideIt (store_over (V := V) HZ3.out (by rw [hV32]; rfl))
    clear hf2 hF2 hn2 HBY
    go_wp2_with (first | (refine wpList_store_mid rfl 33 (.tmp 2) (.tmp 13) rfl w.heap.size 0 V rfl (by rw [← HVV.out]; rfl) HTT.out HIN.out HV1.out ?_))
    refine bodyPost_ret (results_row_tmp Tryz.results11 _ _ w.heap.size 33 V (0, 0) _ (.int .i64 er) rfl ?_ Tryz.underlying33 rfl HIN.out rfl) rfl ⟨rfl, ?_⟩
    · exact HSF.out.1
    · exact HF3.out.trans HSF.out.2 (fun i hi e => by omega)

end Go.Proofs.YtojgikaoiegmpaaGreatDoor
