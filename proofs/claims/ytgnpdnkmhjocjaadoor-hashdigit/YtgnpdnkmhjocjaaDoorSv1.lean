/- Names and their texts, on paper: what a text with another digit is. Nothing here speaks of a program. -/
import Derived.Test.YtgnpdnkmhjocjaaDoorSv0
import Derived.Test.YtgnpdnkmhjocjaaDoorSo
namespace Go.Proofs.YtgnpdnkmhjocjaaDoor
set_option linter.unusedSimpArgs false
set_option linter.unusedVariables false

theorem isDg_hex : ∀ n, n < 16 → isDg (hexC n).toNat = true := by decide
theorem dgN_hex : ∀ n, n < 16 → dgN (hexC n).toNat = n := by decide
set_option maxRecDepth 100000 in
theorem hexC_dg : ∀ c, c < 256 → isDg c = true → hexC (dgN c) = UInt8.ofNat c := by decide
theorem hexC_dg8 (c : UInt8) (h : isDg c.toNat = true) : hexC (dgN c.toNat) = c := by
  rw [hexC_dg c.toNat c.toNat_lt h]
  simp
theorem pairV_hex : ∀ x : List UInt8, pairV (hexL x) = x
  | [] => rfl
  | a :: x => by
    have la := a.toNat_lt
    rw [hexL_cons, pairV, pairV_hex x, dgN_hex _ (by omega), dgN_hex _ (by omega)]
    congr 1
    apply UInt8.toNat_inj.1
    simp
    omega
theorem hexL_pair : ∀ (n : Nat) (l : List UInt8), l.length = 2 * n → (∀ b ∈ l, isDg b.toNat = true) → hexL (pairV l) = l := by
  intro n
  induction n with
  | zero =>
    intro l h _
    obtain rfl := List.length_eq_zero_iff.1 (by simpa using h)
    rfl
  | succ n ih =>
    intro l h hd
    match l, h, hd with
    | a :: b :: l, h, hd =>
      have ha := hd a (by simp)
      have hb := hd b (by simp)
      have l1 := dgN_lt a.toNat
      have l2 := dgN_lt b.toNat
      rw [pairV, hexL_cons, ih l (by simp at h; omega) (fun c hc => hd c (by simp [hc]))]
      have e : (UInt8.ofNat (16 * dgN a.toNat + dgN b.toNat)).toNat = 16 * dgN a.toNat + dgN b.toNat := by simp; omega
      rw [e, show (16 * dgN a.toNat + dgN b.toNat) / 16 = dgN a.toNat by omega, show (16 * dgN a.toNat + dgN b.toNat) % 16 = dgN b.toNat by omega, hexC_dg8 a ha, hexC_dg8 b hb]
    | [a], h, _ => simp at h; omega
    | [], h, _ => simp at h
theorem hexL_dg : ∀ (x : List UInt8), ∀ b ∈ hexL x, isDg b.toNat = true
  | [], b, hb => by simp [hexL] at hb
  | a :: x, b, hb => by
    have la := a.toNat_lt
    rw [hexL_cons] at hb
    rcases List.mem_cons.1 hb with rfl | hb
    · exact isDg_hex _ (by omega)
    · rcases List.mem_cons.1 hb with rfl | hb
      · exact isDg_hex _ (by omega)
      · exact hexL_dg x b hb
theorem getD_mem {l : List UInt8} {j : Nat} (h : j < l.length) : l.getD j 0 ∈ l := by simp [List.getD, h]
theorem prs_dg (l : List UInt8) (hl : l.length = 64) (hd : ∀ b ∈ l, isDg b.toNat = true) : prs l = (pairV l, 0, 0) := by
  unfold prs
  rw [badAt_all l (fun j hj => hd _ (getD_mem hj)), if_neg (Nat.lt_irrefl _), if_pos hl]
theorem prs_hex (x : List UInt8) (hx : x.length = 32) : prs (hexL x) = (x, 0, 0) := by
  rw [prs_dg _ (by rw [hexL_len]; omega) (hexL_dg x), pairV_hex]

/-- A name's text with another byte in one place. -/
def tx (x : List UInt8) (a : Nat) (c : UInt8) : List UInt8 := (hexL x).set a c
theorem tx_len (x : List UInt8) (a : Nat) (c : UInt8) (hx : x.length = 32) : (tx x a c).length = 64 := by
  unfold tx
  rw [List.length_set, hexL_len]
  omega
theorem tx_get (x : List UInt8) (a : Nat) (c : UInt8) (hx : x.length = 32) (j : Nat) : (tx x a c).getD j 0 = if j = a ∧ a < 64 then c else (hexL x).getD j 0 := by
  unfold tx
  have hl : (hexL x).length = 64 := by rw [hexL_len]; omega
  by_cases e : j = a
  · subst e
    by_cases h : j < 64
    · have h2 : j < (hexL x).length := by omega
      simp [List.getD, h, h2]
    · have h2 : ¬ j < (hexL x).length := by omega
      rw [if_neg (fun e => h e.2)]
      simp [List.getD, h2]
  · rw [if_neg (fun h => e h.1)]
    simp [List.getD, List.getElem?_set, Ne.symm e]
theorem tx_bad (x : List UInt8) (a : Nat) (c : UInt8) (hx : x.length = 32) (ha : a < 64) (hc : isDg c.toNat = false) : prs (tx x a c) = (zeros32, 4, a) := by
  have hl := tx_len x a c hx
  have hh : (hexL x).length = 64 := by rw [hexL_len]; omega
  have hb : badAt (tx x a c) = a := badAt_bad _ a (by omega) (fun j hj => by
    rw [tx_get x a c hx, if_neg (by omega)]
    exact hexL_dg x _ (getD_mem (by omega))) (by rw [tx_get x a c hx, if_pos ⟨rfl, ha⟩]; exact hc)
  unfold prs
  rw [hb, if_pos (by omega)]
theorem tx_dg (x : List UInt8) (a : Nat) (c : UInt8) (hc : isDg c.toNat = true) : ∀ b ∈ tx x a c, isDg b.toNat = true := by
  intro b hb
  rcases List.mem_or_eq_of_mem_set hb with h | rfl
  · exact hexL_dg x b h
  · exact hc
theorem tx_good (x : List UInt8) (a : Nat) (c : UInt8) (hx : x.length = 32) (hc : isDg c.toNat = true) : prs (tx x a c) = (pairV (tx x a c), 0, 0) := prs_dg _ (tx_len x a c hx) (tx_dg x a c hc)
theorem tx_back (x : List UInt8) (a : Nat) (c : UInt8) (hx : x.length = 32) (hc : isDg c.toNat = true) : hexL (pairV (tx x a c)) = tx x a c := hexL_pair 32 _ (by rw [tx_len x a c hx]) (tx_dg x a c hc)
theorem pair_len (x : List UInt8) (a : Nat) (c : UInt8) (hx : x.length = 32) : (pairV (tx x a c)).length = 32 := (pairV_get 32 _ (by rw [tx_len x a c hx])).1
theorem pair_eq (x : List UInt8) (a : Nat) (c : UInt8) (hx : x.length = 32) (hc : isDg c.toNat = true) : (pairV (tx x a c) == x) = (tx x a c == hexL x) := by
  by_cases h : tx x a c = hexL x
  · rw [h, pairV_hex]
    simp
  · have h2 : ¬ pairV (tx x a c) = x := fun e => h (by rw [← tx_back x a c hx hc, e])
    rw [beq_eq_false_iff_ne.2 h, beq_eq_false_iff_ne.2 h2]
theorem pair_get (x : List UInt8) (a : Nat) (c : UInt8) (hx : x.length = 32) (i : Nat) (hi : i < 32) (hia : i ≠ a / 2) : (pairV (tx x a c)).getD i 0 = x.getD i 0 := by
  have h := (pairV_get 32 _ (by rw [tx_len x a c hx])).2 i hi
  obtain ⟨g1, g2⟩ := hexL_get x i (by omega)
  have lx := (x.getD i 0).toNat_lt
  rw [h, tx_get x a c hx, tx_get x a c hx, if_neg (by omega), if_neg (by omega), g1, g2, dgN_hex _ (by omega), dgN_hex _ (by omega)]
  clear h g1 g2
  generalize x.getD i 0 = v at *
  apply UInt8.toNat_inj.1
  simp
  omega
theorem pair_even (x : List UInt8) (a : Nat) (c : UInt8) (hx : x.length = 32) (ha : a < 64) (he : a % 2 = 0) : ((pairV (tx x a c)).getD (a / 2) 0).toNat % 16 = (x.getD (a / 2) 0).toNat % 16 := by
  have h := (pairV_get 32 _ (by rw [tx_len x a c hx])).2 (a / 2) (by omega)
  obtain ⟨g1, g2⟩ := hexL_get x (a / 2) (by omega)
  have lx := (x.getD (a / 2) 0).toNat_lt
  have l1 := dgN_lt ((tx x a c).getD (2 * (a / 2)) 0).toNat
  rw [h]
  rw [show (tx x a c).getD (2 * (a / 2) + 1) 0 = (hexL x).getD (2 * (a / 2) + 1) 0 by rw [tx_get x a c hx, if_neg (by omega)], g2, dgN_hex _ (by omega)]
  clear h g1 g2
  generalize x.getD (a / 2) 0 = v at *
  generalize dgN ((tx x a c).getD (2 * (a / 2)) 0).toNat = d at *
  have e : (UInt8.ofNat (16 * d + v.toNat % 16)).toNat = 16 * d + v.toNat % 16 := by simp; omega
  rw [e]
  omega
theorem pair_odd (x : List UInt8) (a : Nat) (c : UInt8) (hx : x.length = 32) (ha : a < 64) (he : a % 2 = 1) : ((pairV (tx x a c)).getD (a / 2) 0).toNat / 16 = (x.getD (a / 2) 0).toNat / 16 := by
  have h := (pairV_get 32 _ (by rw [tx_len x a c hx])).2 (a / 2) (by omega)
  obtain ⟨g1, g2⟩ := hexL_get x (a / 2) (by omega)
  have lx := (x.getD (a / 2) 0).toNat_lt
  have l1 := dgN_lt ((tx x a c).getD (2 * (a / 2) + 1) 0).toNat
  rw [h]
  rw [show (tx x a c).getD (2 * (a / 2)) 0 = (hexL x).getD (2 * (a / 2)) 0 by rw [tx_get x a c hx, if_neg (by omega)], g1, dgN_hex _ (by omega)]
  clear h g1 g2
  generalize x.getD (a / 2) 0 = v at *
  generalize dgN ((tx x a c).getD (2 * (a / 2) + 1) 0).toNat = d at *
  have e : (UInt8.ofNat (16 * (v.toNat / 16) + d)).toNat = 16 * (v.toNat / 16) + d := by simp; omega
  rw [e]
  omega
theorem tx_cat (x : List UInt8) (a : Nat) (c : UInt8) (hx : (hexL x).length = 64) (ha : a < 64) : (⟨(hexL x).toArray⟩ : ByteArray).extract 0 a ++ ⟨#[c]⟩ ++ (⟨(hexL x).toArray⟩ : ByteArray).extract (a + 1) 64 = ⟨(tx x a c).toArray⟩ := by
  apply ByteArray.ext
  rw [ByteArray.data_append, ByteArray.data_append, ByteArray.data_extract, ByteArray.data_extract]
  apply Array.ext'
  unfold tx
  rw [List.set_eq_take_append_cons_drop, if_pos (by omega)]
  simp
  exact List.take_of_length_le (by rw [List.length_drop]; omega)

end Go.Proofs.YtgnpdnkmhjocjaaDoor
