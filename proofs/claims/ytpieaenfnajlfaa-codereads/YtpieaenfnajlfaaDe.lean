/- Code: the document's Read: its reader beside the instruction. -/
import Derived.Test.YtpieaenfnajlfaaCt
import Derived.Test.YtpieaenfnajlfaaCi
import Derived.Test.YtpieaenfnajlfaaY5
namespace Go.Proofs.Ytpieaenfnajlfaa
open Go.RowKit Go.IntWalk Go.Lib
set_option linter.unusedSimpArgs false
set_option linter.unusedVariables false

/-- The document's reader under way, beside the instruction that it reads and the results' cells. -/
structure RS (w wk : World) (q : Nat) (ao : Option Addr) (cap : Nat) (bs : List UInt8) (s : Nat × Int × Int) (J : Ins) : Prop where
  y : YOk wk (w.heap.size + 2) ao cap bs s
  j : InsAt wk q J
  a : wk.heap[w.heap.size]? = some (.cells (icells zeroI) 23)
  f : wk.heap[w.heap.size + 1]? = some (.cells #[.int .i64 0, .int .i64 0] 36)
  fr : Fr (fun _ => False) w wk
  hq : w.heap.size + 2 < q
  nb : ∀ k, blk ao k → k < w.heap.size

theorem RS.step {w wk w' : World} {q : Nat} {ao : Option Addr} {cap : Nat} {bs : List UInt8} {s s' : Nat × Int × Int} {J : Ins} (h : RS w wk q ao cap bs s J) (hy : YOk w' (w.heap.size + 2) ao cap bs s') (hF : Fr (fun k => k = w.heap.size + 2) wk w') : RS w w' q ao cap bs s' J :=
  ⟨hy, h.j.fr hF (fun e => by have := h.hq; omega), (hF.block _ (Array.getElem?_eq_some_iff.1 h.a).1 (by omega)).trans h.a, (hF.block _ (Array.getElem?_eq_some_iff.1 h.f).1 (by omega)).trans h.f, h.fr.trans hF (fun k hk e => by omega), h.hq, h.nb⟩
theorem RS.stay {w wk w' : World} {q : Nat} {ao : Option Addr} {cap : Nat} {bs : List UInt8} {s : Nat × Int × Int} {J : Ins} (h : RS w wk q ao cap bs s J) (hF : Fr (fun _ => False) wk w') : RS w w' q ao cap bs s J :=
  ⟨⟨h.y.1.fr hF (fun e => e) (fun _ _ _ e => e), h.y.2⟩, h.j.fr hF (fun e => e), (hF.block _ (Array.getElem?_eq_some_iff.1 h.a).1 (fun e => e)).trans h.a, (hF.block _ (Array.getElem?_eq_some_iff.1 h.f).1 (fun e => e)).trans h.f, h.fr.trans hF (fun _ _ e => e), h.hq, h.nb⟩
theorem RS.into {w wk w' : World} {q : Nat} {ao : Option Addr} {cap : Nat} {bs : List UInt8} {s : Nat × Int × Int} {J J' : Ins} (h : RS w wk q ao cap bs s J) (hF : Fr (fun k => k = q) wk w') (hj : InsAt w' q J') : RS w w' q ao cap bs s J' :=
  ⟨⟨h.y.1.fr hF (by have := h.hq; omega) (fun k _ hk e => by have := h.nb k hk; have := h.hq; omega), h.y.2⟩, hj, (hF.block _ (Array.getElem?_eq_some_iff.1 h.a).1 (by have := h.hq; omega)).trans h.a, (hF.block _ (Array.getElem?_eq_some_iff.1 h.f).1 (by have := h.hq; omega)).trans h.f, h.fr.trans hF (fun k hk e => by have := h.hq; omega), h.hq, h.nb⟩
theorem RS.putN {w wk : World} {q : Nat} {ao : Option Addr} {cap : Nat} {bs : List UInt8} {s : Nat × Int × Int} {J : Ins} (h : RS w wk q ao cap bs s J) (f : Nat) (h1 : 1 ≤ f) (h4 : f ≤ 4) (v : Int) : RS w (wk.setCell ⟨q, f, none⟩ (.int .i64 v)) q ao cap bs s (J.put f v) :=
  h.into ((Fr.refl (fun k => k = q) wk).setCell (p := ⟨q, f, none⟩) (fun _ => rfl) _) (h.j.putN f h1 h4 v)
theorem RS.putS {w wk : World} {q : Nat} {ao : Option Addr} {cap : Nat} {bs : List UInt8} {s : Nat × Int × Int} {J : Ins} (h : RS w wk q ao cap bs s J) (v : ByteArray) : RS w (wk.setCell ⟨q, 5, none⟩ (.string v)) q ao cap bs s { J with s := v } :=
  h.into ((Fr.refl (fun k => k = q) wk).setCell (p := ⟨q, 5, none⟩) (fun _ => rfl) _) (h.j.putS v)

theorem rs_int {w wk : World} {q : Nat} {ao : Option Addr} {cap : Nat} {bs : List UInt8} {s s' : Nat × Int × Int} {J : Ins} (h : RS w wk q ao cap bs s J) (hb : bs.length ≤ 140737488355328) (lo hi v : Int) (hr : rInt bs lo hi s = (v, s')) :
    Calls Try.prog 44 #[.pointer (some ⟨w.heap.size + 2, 0, none⟩), .int .i64 lo, .int .i64 hi] wk fun e w' => e = .returned (.int .i64 v) ∧ RS w w' q ao cap bs s' J := by
  refine (yint_any (w.heap.size + 2) ao cap bs s lo hi wk h.y hb).mono ?_
  rintro e w' ⟨rfl, hy, hF⟩
  rw [hr] at hy ⊢
  exact ⟨rfl, h.step hy hF⟩
theorem rs_text {w wk : World} {q : Nat} {ao : Option Addr} {cap : Nat} {bs : List UInt8} {s s' : Nat × Int × Int} {J : Ins} (h : RS w wk q ao cap bs s J) (hb : bs.length ≤ 140737488355328) (hcl : bs.length ≤ cap) (hcm : cap ≤ maxLen) (x : List UInt8) (hr : rText bs 64 s = (x, s')) :
    Calls Try.prog 45 #[.pointer (some ⟨w.heap.size + 2, 0, none⟩), .int .i64 64] wk fun e w' => e = .returned (.string ⟨x.toArray⟩) ∧ RS w w' q ao cap bs s' J := by
  refine (ytext_any (w.heap.size + 2) ao cap bs s 64 wk h.y hb hcl hcm).mono ?_
  rintro e w' ⟨rfl, hy, hF⟩
  rw [hr] at hy ⊢
  exact ⟨rfl, h.step hy hF⟩

/-- What the document's Read tells, of an instruction and the reader's state behind it. -/
def endR (J : Ins) (s : Nat × Int × Int) : Ins × Int × Int × Int := if s.2.1 = 0 then (J, s.1, 0, 0) else (zeroI, 0, s.2.1, s.2.2)

theorem RS.held {w wk : World} {q : Nat} {ao : Option Addr} {cap : Nat} {bs : List UInt8} {s : Nat × Int × Int} {J : Ins} (h : RS w wk q ao cap bs s J) (w' : World) (hF : Fr (fun k => k = w.heap.size ∨ k = w.heap.size + 1) wk w') :
    InsAt w' q J ∧ w'.cell? ⟨w.heap.size + 2, 1, none⟩ = some (.int .i64 (s.1 : Int)) ∧ w'.cell? ⟨w.heap.size + 2, 2, none⟩ = some (.int .i64 s.2.1) ∧ w'.cell? ⟨w.heap.size + 2, 3, none⟩ = some (.int .i64 s.2.2) := by
  have hb := (hF.block _ h.y.1.lt (by omega)).trans h.y.1.box
  exact ⟨h.j.fr hF (fun e => by have := h.hq; omega), cellOfHeap hb 1 rfl, cellOfHeap hb 2 rfl, cellOfHeap hb 3 rfl⟩
theorem RS.adrew {w wk : World} {q : Nat} {ao : Option Addr} {cap : Nat} {bs : List UInt8} {s : Nat × Int × Int} {J : Ins} (h : RS w wk q ao cap bs s J) : wk.drew.heap[w.heap.size]? = some (.cells (icells zeroI) 23) := h.a
theorem RS.fdrew {w wk : World} {q : Nat} {ao : Option Addr} {cap : Nat} {bs : List UInt8} {s : Nat × Int × Int} {J : Ins} (h : RS w wk q ao cap bs s J) : wk.drew.heap[w.heap.size + 1]? = some (.cells #[.int .i64 0, .int .i64 0] 36) := h.f
theorem RS.flt {w wk : World} {q : Nat} {ao : Option Addr} {cap : Nat} {bs : List UInt8} {s : Nat × Int × Int} {J : Ins} (h : RS w wk q ao cap bs s J) : w.heap.size + 1 < wk.drew.heap.size := (Array.getElem?_eq_some_iff.1 h.f).1
theorem RS.frdrew {w wk : World} {q : Nat} {ao : Option Addr} {cap : Nat} {bs : List UInt8} {s : Nat × Int × Int} {J : Ins} (h : RS w wk q ao cap bs s J) : Fr (fun _ => False) w wk.drew := h.fr.drew

end Go.Proofs.Ytpieaenfnajlfaa
