/- SHA-256 of one block again and again, in a form that the kernel runs. Nothing here speaks of a program. -/
import Derived.Test.YtgnpdnkmhjocjaaDoorSh
namespace Go.Proofs.YtgnpdnkmhjocjaaDoor
namespace Sha
set_option linter.unusedSimpArgs false
set_option linter.unusedVariables false

/-- k of x, x reckoned first. -/
def frc (x : Nat) (k : Nat → St) : St := Nat.rec (k 0) (fun n _ => k (Nat.succ n)) x
theorem frc_eq (x : Nat) (k : Nat → St) : frc x k = k x := by cases x <;> rfl
def goR : List Nat → List Nat → Nat → Nat → Nat → Nat → Nat → Nat → Nat → Nat → (Nat → Nat → Nat → Nat → Nat → Nat → Nat → Nat → St) → St
  | kw :: l, w :: ws, a, b, c, d, e, f, g, h, k => frc (add (add (add (add h (upE e)) (ch e f g)) kw) w) fun t => frc (add t (add (upA a) (maj a b c))) fun a2 => frc (add d t) fun e2 => goR l ws a2 a b c e2 e f g k
  | _, _, a, b, c, d, e, f, g, h, k => k a b c d e f g h
theorem goR_none (ks ws : List Nat) (a b c d e f g h : Nat) (k : Nat → Nat → Nat → Nat → Nat → Nat → Nat → Nat → St) (hn : ks = [] ∨ ws = []) : goR ks ws a b c d e f g h k = k a b c d e f g h := by
  rcases hn with rfl | rfl
  · cases ws <;> rfl
  · cases ks <;> rfl
theorem goR_cons (kw w : Nat) (l ws : List Nat) (a b c d e f g h : Nat) (k : Nat → Nat → Nat → Nat → Nat → Nat → Nat → Nat → St) : goR (kw :: l) (w :: ws) a b c d e f g h k = frc (add (add (add (add h (upE e)) (ch e f g)) kw) w) fun t => frc (add t (add (upA a) (maj a b c))) fun a2 => frc (add d t) fun e2 => goR l ws a2 a b c e2 e f g k := rfl
/-- A state handed on word by word. -/
def St.to (s : St) (k : Nat → Nat → Nat → Nat → Nat → Nat → Nat → Nat → St) : St := k s.a s.b s.c s.d s.e s.f s.g s.h
theorem goR_eq (ks : List Nat) : ∀ (ws : List Nat) (s : St) (k : Nat → Nat → Nat → Nat → Nat → Nat → Nat → Nat → St), goR ks ws s.a s.b s.c s.d s.e s.f s.g s.h k = (foldW round ks ws s).to k := by
  induction ks with
  | nil => intro ws s k; rw [goR_none _ _ _ _ _ _ _ _ _ _ _ (Or.inl rfl), foldW_none _ _ _ _ (Or.inl rfl)]; rfl
  | cons x ks ih =>
    intro ws s k
    cases ws with
    | nil => rw [goR_none _ _ _ _ _ _ _ _ _ _ _ (Or.inr rfl), foldW_none _ _ _ _ (Or.inr rfl)]; rfl
    | cons w ws =>
      rw [foldW_cons, ← ih ws (round s x w) k, goR_cons]
      simp only [frc_eq, round, tT, tU]
def aBlk : List UInt8 := List.replicate 64 97
def aW : List Nat := [1633771873, 1633771873, 1633771873, 1633771873, 1633771873, 1633771873, 1633771873, 1633771873, 1633771873, 1633771873, 1633771873, 1633771873, 1633771873, 1633771873, 1633771873, 1633771873, 4127079996, 4127079996, 845026631, 845026631, 562127449, 562127449, 4142485024, 2340825851, 2097165901, 4202070679, 1214676619, 2864781893, 169889552, 2638362293, 2986790745, 619170806, 2545628807, 1752194553, 3897866632, 1354584167, 2037939211, 3798754737, 3125072781, 2053181897, 1764381550, 231544716, 3582021090, 2147669598, 1900325583, 2688439274, 112371858, 1110188099, 2407788112, 4108513933, 2210941747, 4027291822, 2910535786, 3783077996, 2655981588, 2366978167, 612225234, 1494184812, 815738812, 1069923231, 447001511, 943759201, 3929715958, 242742810]
set_option maxRecDepth 100000 in
theorem sched_a : sched aBlk = aW := by kernel_rfl
/-- A step that hands its words on, so many times. -/
def itrG (G : Nat → Nat → Nat → Nat → Nat → Nat → Nat → Nat → (Nat → Nat → Nat → Nat → Nat → Nat → Nat → Nat → St) → St) : Nat → Nat → Nat → Nat → Nat → Nat → Nat → Nat → Nat → St
  | 0, a, b, c, d, e, f, g, h => ⟨a, b, c, d, e, f, g, h⟩
  | n + 1, a, b, c, d, e, f, g, h => G a b c d e f g h (itrG G n)
/-- That block. -/
def stepL (ws : List Nat) (a b c d e f g h : Nat) (k : Nat → Nat → Nat → Nat → Nat → Nat → Nat → Nat → St) : St := goR K ws a b c d e f g h fun a2 b2 c2 d2 e2 f2 g2 h2 => frc (add a a2) fun a => frc (add b b2) fun b => frc (add c c2) fun c => frc (add d d2) fun d => frc (add e e2) fun e => frc (add f f2) fun f => frc (add g g2) fun g => frc (add h h2) fun h => k a b c d e f g h
theorem block_def (s : St) (b : List UInt8) : block s b = addSt s (foldW round K (sched b) s) := rfl
theorem stepL_eq (ws : List Nat) (s : St) (k : Nat → Nat → Nat → Nat → Nat → Nat → Nat → Nat → St) : stepL ws s.a s.b s.c s.d s.e s.f s.g s.h k = (addSt s (foldW round K ws s)).to k := by
  unfold stepL
  rw [goR_eq]
  generalize foldW round K ws s = v
  unfold St.to
  simp only [frc_eq, addSt]
def itr : Nat → Nat → Nat → Nat → Nat → Nat → Nat → Nat → Nat → St := itrG (stepL aW)
/-- A step, n times. -/
def rep (f : St → St) : Nat → St → St
  | 0, s => s
  | n + 1, s => rep f n (f s)
theorem rep_add (f : St → St) (n m : Nat) : ∀ s, rep f (n + m) s = rep f m (rep f n s) := by
  induction n with
  | zero => intro s; rw [Nat.zero_add]; rfl
  | succ n ih => intro s; rw [Nat.succ_add]; exact ih (f s)
theorem itrG_eq (G : Nat → Nat → Nat → Nat → Nat → Nat → Nat → Nat → (Nat → Nat → Nat → Nat → Nat → Nat → Nat → Nat → St) → St) (f : St → St) (hG : ∀ s k, G s.a s.b s.c s.d s.e s.f s.g s.h k = (f s).to k) (n : Nat) : ∀ s : St, s.to (itrG G n) = rep f n s := by
  induction n with
  | zero => intro s; rfl
  | succ n ih =>
    intro s
    rw [rep, ← ih (f s), ← hG s (itrG G n)]
    rfl
theorem itr_eq (n : Nat) (s : St) : s.to (itr n) = rep (fun s => block s aBlk) n s :=
  itrG_eq (stepL aW) (fun s => block s aBlk) (fun s k => (stepL_eq aW s k).trans (by rw [block_def, sched_a])) n s
theorem rep_of (n a b c d e f g h : Nat) (s : St) (hi : itr n a b c d e f g h = s) : rep (fun s => block s aBlk) n ⟨a, b, c, d, e, f, g, h⟩ = s := (itr_eq n ⟨a, b, c, d, e, f, g, h⟩).symm.trans hi
theorem blkW_rep (f : St → List UInt8 → St) (x : UInt8) (n : Nat) : ∀ (m : Nat) (s : St), n ≤ m → blkW f n (List.replicate (64 * m) x) s = rep (fun s => f s (List.replicate 64 x)) n s := by
  induction n with
  | zero => intro m s _; rfl
  | succ n ih =>
    intro m s h
    obtain ⟨k, rfl⟩ : ∃ k, m = k + 1 := ⟨m - 1, by omega⟩
    rw [blkW, rep, List.take_replicate, List.drop_replicate, Nat.min_eq_left (by omega), show 64 * (k + 1) - 64 = 64 * k by omega, ih k _ (by omega)]

end Sha
end Go.Proofs.YtgnpdnkmhjocjaaDoor
