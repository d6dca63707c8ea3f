/- Contract: Copy. -/
import Derived.Test.YtjhbgedobkpdhaaGreatC3
import Derived.Test.YtjhbgedobkpdhaaGreatG9
namespace Go.Proofs.YtjhbgedobkpdhaaGreat
set_option linter.unusedVariables false
set_option linter.unusedSimpArgs false
open Go.ChangeShapes Go.WideShapes Go.ChangeAt Go.RowKit
theorem co_start {w0 w : World} {B n : Nat} {v : Value} {vs : List Value} {ls : List (List Sp)} (h : w.ownsRow B 27 1 v n vs) (hl : ls.length = n) (hv : VsCo w0 vs ls) : CoHalf w0 w B v n ls 0 :=
  ⟨hl, vs, h, fun j hj q => absurd q (Nat.not_lt_zero _), fun j hj _ => hv.at_ j hj⟩
end Go.Proofs.YtjhbgedobkpdhaaGreat
