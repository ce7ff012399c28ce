/- SpanMeets, whole. -/
import Derived.Test.YtcbmkiiahdbipaaTu2
import Derived.Test.YtcbmkiiahdbipaaTu3
namespace Go.Proofs.Ytcbmkiiahdbipaa
open Go.RowKit
set_option linter.unusedSimpArgs false
set_option linter.unusedVariables false

theorem meets_all (a b : Sp) (k : ByteArray) (w : World) : Calls Try.prog 5 #[.agg #[.string a.1, .string a.2], .agg #[.string b.1, .string b.2], .string k] w fun e w' => e = .returned (.bool true) ∧ Fr (fun _ => False) w w' := by
  by_cases hx : KeyIn a k.toList
  · have he : NonE a := hx.nonE
    by_cases hy : KeyIn b k.toList
    · obtain ⟨h1, h2⟩ := key_max hx hy
      exact meets_c1 a b k w (decide_eq_true hx) (decide_eq_true h1) (decide_eq_true he) (decide_eq_true hy) (decide_eq_true h2)
    · by_cases hia : KeyIn a (Lib.maxS a.1 b.1).toList
      · exact meets_c2 a b k w (decide_eq_true hx) (decide_eq_true hia) (decide_eq_true he) (decide_eq_false hy)
      · exact meets_c3 a b k w (decide_eq_true hx) (decide_eq_false hia) (decide_eq_true he) (decide_eq_false hy)
  · by_cases hia : KeyIn a (Lib.maxS a.1 b.1).toList
    · exact meets_c4 a b k w (decide_eq_false hx) (decide_eq_true hia) (decide_eq_true hia.nonE)
    · by_cases he : NonE a
      · exact meets_c5 a b k w (decide_eq_false hx) (decide_eq_false hia) (decide_eq_true he)
      · exact meets_c6 a b k w (decide_eq_false hx) (decide_eq_false hia) (decide_eq_false he)

end Go.Proofs.Ytcbmkiiahdbipaa
