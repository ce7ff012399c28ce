/- ProgTells, part 7 of the road: what the program's functions do, each by its own walk. -/
import Derived.KernelRfl

/- SHA-256, over plain numbers: words, blocks, messages. Nothing here speaks of a program. -/
namespace Go.Proofs.YtojgikaoiegmpaaGreatDoor
namespace Sha
set_option linter.unusedSimpArgs false
set_option linter.unusedVariables false
set_option maxRecDepth 100000

/-- Words are numbers below 2^32; sums go round. -/
def add (a b : Nat) : Nat := Nat.mod (Nat.add a b) 4294967296
/-- x turned right by n bits: P is 2^(32 - n), Q is 2^n. -/
def rotr (P Q x : Nat) : Nat := Nat.lor (Nat.mod (Nat.mul x P) 4294967296) (Nat.div x Q)
def ch (x y z : Nat) : Nat := Nat.xor (Nat.land x y) (Nat.land (Nat.xor 4294967295 x) z)
def maj (x y z : Nat) : Nat := Nat.xor (Nat.xor (Nat.land x y) (Nat.land x z)) (Nat.land y z)
def upA (x : Nat) : Nat := Nat.xor (Nat.xor (rotr 1073741824 4 x) (rotr 524288 8192 x)) (rotr 1024 4194304 x)
def upE (x : Nat) : Nat := Nat.xor (Nat.xor (rotr 67108864 64 x) (rotr 2097152 2048 x)) (rotr 128 33554432 x)
def loP (x : Nat) : Nat := Nat.xor (Nat.xor (rotr 33554432 128 x) (rotr 16384 262144 x)) (Nat.div x 8)
def loQ (x : Nat) : Nat := Nat.xor (Nat.xor (rotr 32768 131072 x) (rotr 8192 524288 x)) (Nat.div x 1024)

def K : List Nat := [
  0x428a2f98, 0x71374491, 0xb5c0fbcf, 0xe9b5dba5, 0x3956c25b, 0x59f111f1, 0x923f82a4, 0xab1c5ed5,
  0xd807aa98, 0x12835b01, 0x243185be, 0x550c7dc3, 0x72be5d74, 0x80deb1fe, 0x9bdc06a7, 0xc19bf174,
  0xe49b69c1, 0xefbe4786, 0x0fc19dc6, 0x240ca1cc, 0x2de92c6f, 0x4a7484aa, 0x5cb0a9dc, 0x76f988da,
  0x983e5152, 0xa831c66d, 0xb00327c8, 0xbf597fc7, 0xc6e00bf3, 0xd5a79147, 0x06ca6351, 0x14292967,
  0x27b70a85, 0x2e1b2138, 0x4d2c6dfc, 0x53380d13, 0x650a7354, 0x766a0abb, 0x81c2c92e, 0x92722c85,
  0xa2bfe8a1, 0xa81a664b, 0xc24b8b70, 0xc76c51a3, 0xd192e819, 0xd6990624, 0xf40e3585, 0x106aa070,
  0x19a4c116, 0x1e376c08, 0x2748774c, 0x34b0bcb5, 0x391c0cb3, 0x4ed8aa4a, 0x5b9cca4f, 0x682e6ff3,
  0x748f82ee, 0x78a5636f, 0x84c87814, 0x8cc70208, 0x90befffa, 0xa4506ceb, 0xbef9a3f7, 0xc67178f2]

/-- A state: eight words. -/
structure St where
  a : Nat
  b : Nat
  c : Nat
  d : Nat
  e : Nat
  f : Nat
  g : Nat
  h : Nat

def first : St := ⟨0x6a09e667, 0xbb67ae85, 0x3c6ef372, 0xa54ff53a, 0x510e527f, 0x9b05688c, 0x1f83d9ab, 0x5be0cd19⟩

/-- T of a round: k and w are its constant and its word. -/
def tT (s : St) (k w : Nat) : Nat := add (add (add (add s.h (upE s.e)) (ch s.e s.f s.g)) k) w
def tU (s : St) : Nat := add (upA s.a) (maj s.a s.b s.c)
def round (s : St) (k w : Nat) : St := ⟨add (tT s k w) (tU s), s.a, s.b, s.c, add s.d (tT s k w), s.e, s.f, s.g⟩
/-- All rounds: constants and words side by side. -/
def foldW (f : St → Nat → Nat → St) : List Nat → List Nat → St → St
  | k :: ks, w :: ws, s => foldW f ks ws (f s k w)
  | _, _, s => s
theorem foldW_cons (f : St → Nat → Nat → St) (k w : Nat) (ks ws : List Nat) (s : St) : foldW f (k :: ks) (w :: ws) s = foldW f ks ws (f s k w) := rfl
theorem foldW_none (f : St → Nat → Nat → St) (ks ws : List Nat) (s : St) (h : ks = [] ∨ ws = []) : foldW f ks ws s = s := by
  rcases h with rfl | rfl
  · cases ws <;> rfl
  · cases ks <;> rfl
theorem foldW_snoc (f : St → Nat → Nat → St) (ks : List Nat) : ∀ (ws : List Nat) (s : St) (i : Nat) (h1 : i < ks.length) (h2 : i < ws.length), foldW f (ks.take (i + 1)) (ws.take (i + 1)) s = f (foldW f (ks.take i) (ws.take i) s) (ks.getD i 0) (ws.getD i 0) := by
  induction ks with
  | nil => intro _ _ _ h1 _; simp at h1
  | cons k ks ih =>
    intro ws s i h1 h2
    cases ws with
    | nil => simp at h2
    | cons w ws =>
      cases i with
      | zero =>
        rw [List.take_succ_cons, List.take_succ_cons, foldW_cons, List.take_zero, List.take_zero, List.take_zero, List.take_zero, foldW_none f _ _ _ (Or.inl rfl), foldW_none f _ _ _ (Or.inl rfl), List.getD_cons_zero, List.getD_cons_zero]
      | succ i =>
        rw [List.take_succ_cons, List.take_succ_cons, foldW_cons, ih ws _ i (by simpa using h1) (by simpa using h2), List.take_succ_cons, List.take_succ_cons, foldW_cons, List.getD_cons_succ, List.getD_cons_succ]
theorem foldW_all (f : St → Nat → Nat → St) (P : St → Prop) (hf : ∀ s k w, P s → P (f s k w)) (ks : List Nat) : ∀ (ws : List Nat) (s : St), P s → P (foldW f ks ws s) := by
  induction ks with
  | nil => intro ws s h; rw [foldW_none f _ _ _ (Or.inl rfl)]; exact h
  | cons k ks ih =>
    intro ws s h
    cases ws with
    | nil => rw [foldW_none f _ _ _ (Or.inr rfl)]; exact h
    | cons w ws => rw [foldW_cons]; exact ih ws _ (hf s k w h)
def rounds (ks ws : List Nat) (s : St) : St := foldW round ks ws s
def addSt (s v : St) : St := ⟨add s.a v.a, add s.b v.b, add s.c v.c, add s.d v.d, add s.e v.e, add s.f v.f, add s.g v.g, add s.h v.h⟩

/-- Four bytes, the highest first. -/
def word (l : List UInt8) : Nat := l.foldl (fun n b => n * 256 + b.toNat) 0
/-- A block's own sixteen words. -/
def words : Nat → List UInt8 → List Nat
  | 0, _ => []
  | n + 1, l => word (l.take 4) :: words n (l.drop 4)
/-- One word more. -/
def more (l : List Nat) : Nat := add (add (add (loQ (l.getD (l.length - 2) 0)) (l.getD (l.length - 7) 0)) (loP (l.getD (l.length - 15) 0))) (l.getD (l.length - 16) 0)
def grow : Nat → List Nat → List Nat
  | 0, l => l
  | n + 1, l => grow n (l ++ [more l])
/-- A block's sixty-four words. -/
def sched (b : List UInt8) : List Nat := grow 48 (words 16 b)
/-- A state behind one block more. -/
def block (s : St) (b : List UInt8) : St := addSt s (rounds K (sched b) s)

/-- A state behind n blocks, whatever a block does. -/
def blkW (f : St → List UInt8 → St) : Nat → List UInt8 → St → St
  | 0, _, s => s
  | n + 1, l, s => blkW f n (l.drop 64) (f s (l.take 64))
def blocks (n : Nat) (l : List UInt8) (s : St) : St := blkW block n l s

/-- A number as n bytes, the highest first. -/
def bytesOf : Nat → Nat → List UInt8
  | 0, _ => []
  | n + 1, x => bytesOf n (x / 256) ++ [UInt8.ofNat (x % 256)]
/-- What stands behind a message of so many bytes. -/
def ending (size : Nat) : List UInt8 := 128 :: (List.replicate ((119 - size % 64) % 64) 0 ++ bytesOf 8 (size * 8))
def message (b : List UInt8) : List UInt8 := b ++ ending b.length
/-- A state as bytes. -/
def name (s : St) : List UInt8 := bytesOf 4 s.a ++ bytesOf 4 s.b ++ bytesOf 4 s.c ++ bytesOf 4 s.d ++ bytesOf 4 s.e ++ bytesOf 4 s.f ++ bytesOf 4 s.g ++ bytesOf 4 s.h
/-- The ID of bytes. -/
def sum (b : List UInt8) : List UInt8 := name (blocks ((message b).length / 64) (message b) first)

def hexDigit (n : Nat) : UInt8 := if n < 10 then UInt8.ofNat (48 + n) else UInt8.ofNat (87 + n)
def text (id : List UInt8) : List UInt8 := id.flatMap fun b => [hexDigit (b.toNat / 16), hexDigit (b.toNat % 16)]

theorem sum_none : text (sum []) = [101, 51, 98, 48, 99, 52, 52, 50, 57, 56, 102, 99, 49, 99, 49, 52, 57, 97, 102, 98, 102, 52, 99, 56, 57, 57, 54, 102, 98, 57, 50, 52, 50, 55, 97, 101, 52, 49, 101, 52, 54, 52, 57, 98, 57, 51, 52, 99, 97, 52, 57, 53, 57, 57, 49, 98, 55, 56, 53, 50, 98, 56, 53, 53] := by kernel_rfl

end Sha
end Go.Proofs.YtojgikaoiegmpaaGreatDoor

/- SHA-256, lists of words: how a block's words come about, byte by byte and word by word. -/
namespace Go.Proofs.YtojgikaoiegmpaaGreatDoor
namespace Sha
set_option linter.unusedSimpArgs false
set_option linter.unusedVariables false
set_option maxRecDepth 100000

theorem word_snoc (l : List UInt8) (b : UInt8) : word (l ++ [b]) = word l * 256 + b.toNat := by simp [word]
theorem word_lt (l : List UInt8) : word l < 256 ^ l.length := by
  have H : ∀ (l : List UInt8) (n : Nat), l.foldl (fun n b => n * 256 + b.toNat) n < (n + 1) * 256 ^ l.length := by
    intro l
    induction l with
    | nil => intro n; simp
    | cons b l ih =>
      intro n
      have h1 := ih (n * 256 + b.toNat)
      have h2 := UInt8.toNat_lt b
      have h3 : (n * 256 + b.toNat + 1) * 256 ^ l.length ≤ ((n + 1) * 256) * 256 ^ l.length := Nat.mul_le_mul_right _ (by omega)
      rw [List.foldl_cons, List.length_cons, Nat.pow_succ, Nat.mul_comm (256 ^ l.length) 256, ← Nat.mul_assoc]
      omega
  have := H l 0
  simpa [word] using this

/-- The words of a block's first k bytes. -/
def part (blk : List UInt8) (k : Nat) : List Nat := (List.range 64).map fun j => word (((blk.take k).drop (4 * j)).take 4)
theorem part_len (blk : List UInt8) (k : Nat) : (part blk k).length = 64 := by simp [part]
theorem part_get (blk : List UInt8) (k j : Nat) (hj : j < 64) : (part blk k).getD j 0 = word (((blk.take k).drop (4 * j)).take 4) := by simp [part, List.getD, hj]
theorem part_zero (blk : List UInt8) : part blk 0 = List.replicate 64 0 := by
  unfold part
  rw [List.eq_replicate_iff]
  refine ⟨by simp, fun x hx => ?_⟩
  obtain ⟨j, _, rfl⟩ := List.mem_map.1 hx
  simp [word]
theorem part_lt (blk : List UInt8) (k : Nat) : ∀ x ∈ part blk k, x < 4294967296 := by
  intro x hx
  obtain ⟨j, _, rfl⟩ := List.mem_map.1 hx
  have h1 := word_lt (((blk.take k).drop (4 * j)).take 4)
  have h2 : (((blk.take k).drop (4 * j)).take 4).length ≤ 4 := List.length_take_le _ _
  have h3 : 256 ^ (((blk.take k).drop (4 * j)).take 4).length ≤ 256 ^ 4 := Nat.pow_le_pow_right (by decide) h2
  have : (256 : Nat) ^ 4 = 4294967296 := by decide
  omega
/-- Where a byte goes to, there are at most three so far. -/
theorem part_small (blk : List UInt8) (k : Nat) (hk : k < 64) : (part blk k).getD (k / 4) 0 < 16777216 := by
  rw [part_get blk k (k / 4) (by omega)]
  have h1 := word_lt (((blk.take k).drop (4 * (k / 4))).take 4)
  have h2 : (((blk.take k).drop (4 * (k / 4))).take 4).length ≤ 3 := by simp; omega
  have h3 : 256 ^ (((blk.take k).drop (4 * (k / 4))).take 4).length ≤ 256 ^ 3 := Nat.pow_le_pow_right (by decide) h2
  have : (256 : Nat) ^ 3 = 16777216 := by decide
  omega
theorem part_succ (blk : List UInt8) (k : Nat) (hl : blk.length = 64) (hk : k < 64) : part blk (k + 1) = (part blk k).set (k / 4) ((part blk k).getD (k / 4) 0 * 256 + (blk[k]'(by omega)).toNat) := by
  have ht : blk.take (k + 1) = blk.take k ++ [blk[k]'(by omega)] := List.take_succ_eq_append_getElem (by omega)
  have hkl : (blk.take k).length = k := by simp; omega
  apply List.ext_getElem
  · simp [part]
  intro j h1 h2
  have hj : j < 64 := by simpa [part] using h1
  rw [List.getElem_set]
  split
  · rename_i e
    subst e
    rw [part_get blk k (k / 4) (by omega)]
    simp only [part, List.getElem_map, List.getElem_range]
    have a1 : ((blk.take k).drop (4 * (k / 4)) ++ [blk[k]'(by omega)]).take 4 = (blk.take k).drop (4 * (k / 4)) ++ [blk[k]'(by omega)] := List.take_of_length_le (by simp; omega)
    have a2 : ((blk.take k).drop (4 * (k / 4))).take 4 = (blk.take k).drop (4 * (k / 4)) := List.take_of_length_le (by simp; omega)
    rw [ht, List.drop_append_of_le_length (by omega), a1, a2, word_snoc]
  · rename_i e
    simp only [part, List.getElem_map, List.getElem_range]
    rw [ht]
    by_cases hlt : j < k / 4
    · rw [List.drop_append_of_le_length (by omega), List.take_append_of_le_length (by simp; omega)]
    · rw [List.drop_of_length_le (by simp; omega), List.drop_of_length_le (by simp; omega)]

theorem words_len (n : Nat) : ∀ l : List UInt8, (words n l).length = n := by
  induction n with
  | zero => intro l; rfl
  | succ n ih => intro l; simp [words, ih]
theorem words_get : ∀ (n : Nat) (l : List UInt8) (j : Nat) (h : j < (words n l).length), (words n l)[j] = word ((l.drop (4 * j)).take 4)
  | 0, l, j, h => by simp [words] at h
  | n + 1, l, 0, h => by simp [words]
  | n + 1, l, j + 1, h => by
    have := words_get n (l.drop 4) j (by simpa [words] using h)
    simp only [words, List.getElem_cons_succ, this, List.drop_drop]
    rw [show 4 + 4 * j = 4 * (j + 1) by omega]
/-- All of a block's bytes: its own sixteen words, and noughts. -/
theorem part_all (blk : List UInt8) (hl : blk.length = 64) : part blk 64 = words 16 blk ++ List.replicate 48 0 := by
  have ht : blk.take 64 = blk := List.take_of_length_le (by omega)
  apply List.ext_getElem
  · simp [part, words_len]
  intro j h1 h2
  have hj : j < 64 := by simpa [part] using h1
  simp only [part, List.getElem_map, List.getElem_range, ht]
  by_cases h16 : j < 16
  · rw [List.getElem_append_left (by rw [words_len]; exact h16), words_get]
  · rw [List.getElem_append_right (by rw [words_len]; omega), List.getElem_replicate, List.drop_of_length_le (by omega)]
    rfl

theorem grow_len (n : Nat) : ∀ l : List Nat, (grow n l).length = l.length + n := by
  induction n with
  | zero => intro l; rfl
  | succ n ih => intro l; simp [grow, ih]; omega
theorem grow_succ (n : Nat) : ∀ l : List Nat, grow (n + 1) l = grow n l ++ [more (grow n l)] := by
  induction n with
  | zero => intro l; rfl
  | succ n ih =>
    intro l
    rw [grow, ih]
    rfl
theorem more_lt (l : List Nat) : more l < 4294967296 := Nat.mod_lt _ (by decide)
theorem words_lt (n : Nat) : ∀ l : List UInt8, ∀ x ∈ words n l, x < 4294967296 := by
  induction n with
  | zero => intro l x hx; simp [words] at hx
  | succ n ih =>
    intro l x hx
    rcases List.mem_cons.1 hx with rfl | hx
    · have h1 := word_lt (l.take 4)
      have h2 : (l.take 4).length ≤ 4 := List.length_take_le _ _
      have h3 : 256 ^ (l.take 4).length ≤ 256 ^ 4 := Nat.pow_le_pow_right (by decide) h2
      have : (256 : Nat) ^ 4 = 4294967296 := by decide
      omega
    · exact ih _ x hx
theorem grow_lt (n : Nat) : ∀ l : List Nat, (∀ x ∈ l, x < 4294967296) → ∀ x ∈ grow n l, x < 4294967296 := by
  induction n with
  | zero => intro l h; exact h
  | succ n ih =>
    intro l h
    refine ih _ fun x hx => ?_
    rcases List.mem_append.1 hx with hx | hx
    · exact h x hx
    · obtain rfl := List.mem_singleton.1 hx
      exact more_lt l

/-- The words up to t, and noughts. -/
def upto (blk : List UInt8) (t : Nat) : List Nat := grow (t - 16) (words 16 blk) ++ List.replicate (64 - t) 0
theorem upto_len (blk : List UInt8) (t : Nat) (h : 16 ≤ t) (h2 : t ≤ 64) : (upto blk t).length = 64 := by simp [upto, grow_len, words_len]; omega
theorem upto_lt (blk : List UInt8) (t : Nat) : ∀ x ∈ upto blk t, x < 4294967296 := by
  intro x hx
  rcases List.mem_append.1 hx with hx | hx
  · exact grow_lt _ _ (words_lt 16 blk) x hx
  · have := (List.mem_replicate.1 hx).2
    omega
theorem upto_succ (blk : List UInt8) (t : Nat) (h : 16 ≤ t) (h2 : t < 64) :
    upto blk (t + 1) = (upto blk t).set t (add (add (add (loQ ((upto blk t).getD (t - 2) 0)) ((upto blk t).getD (t - 7) 0)) (loP ((upto blk t).getD (t - 15) 0))) ((upto blk t).getD (t - 16) 0)) := by
  have hl : (grow (t - 16) (words 16 blk)).length = t := by rw [grow_len, words_len]; omega
  have hg : ∀ j, j < t → (upto blk t).getD j 0 = (grow (t - 16) (words 16 blk)).getD j 0 := fun j hj => by
    unfold upto List.getD
    rw [List.getElem?_append_left (by omega)]
  rw [hg _ (by omega), hg _ (by omega), hg _ (by omega), hg _ (by omega)]
  have hm : more (grow (t - 16) (words 16 blk)) = add (add (add (loQ ((grow (t - 16) (words 16 blk)).getD (t - 2) 0)) ((grow (t - 16) (words 16 blk)).getD (t - 7) 0)) (loP ((grow (t - 16) (words 16 blk)).getD (t - 15) 0))) ((grow (t - 16) (words 16 blk)).getD (t - 16) 0) := by
    unfold more
    rw [hl]
  rw [← hm]
  unfold upto
  rw [show t + 1 - 16 = (t - 16) + 1 by omega, grow_succ, List.set_append_right _ _ (by omega), hl, Nat.sub_self, show 64 - t = (64 - (t + 1)) + 1 by omega, List.replicate_succ, List.set_cons_zero, List.append_assoc]
  rfl
theorem upto_first (blk : List UInt8) (hl : blk.length = 64) : upto blk 16 = part blk 64 := by
  rw [part_all blk hl]
  rfl
theorem upto_last (blk : List UInt8) : upto blk 64 = sched blk := by simp [upto, sched]

end Sha
end Go.Proofs.YtojgikaoiegmpaaGreatDoor
