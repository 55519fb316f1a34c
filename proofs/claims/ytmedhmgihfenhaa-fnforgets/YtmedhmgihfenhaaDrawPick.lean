/- The draws of the laws: once in a while; one of a list; a long text (DrawNum without grown_below, which Marks has too: not beside DrawNum). -/
import Derived.Test.YtmedhmgihfenhaaDrawNew
import Derived.Test.YtmedhmgihfenhaaUnPlain
import Derived.WalkMore
import Derived.Laws.OwnMore
namespace Go.Proofs.Ytmedhmgihfenhaa
open Go.RowKit
open Plain
set_option linter.unusedVariables false

theorem l01Once_any (B c n : Nat) (w : World) (hc : Cur B w c) (h0 : 0 < n) (h1 : n ≤ 4294967296) :
    Calls Try.prog 52 #[.pointer (some ⟨c, 0, none⟩), .int .i64 n] w fun e w' => ∃ b : Bool, e = .returned (.bool b) ∧ Cur B w' c ∧ w.grownBy w' (some c) := by
  have q := hide (l01Below_any B c n w hc h0 h1)
  go_enter Try.func52, Try.ntmps52
  go_wp2_with (go_at_call 45; refine (unhide q).mono ?_; rintro e w1 ⟨x, hx, rfl, hc1, hg1⟩)
  go_ret
  exact ⟨_, rfl, hc1, hg1⟩

theorem bv_set (l : List UInt8) (j x : Nat) (hx : x < 256) : bv (l.set j (UInt8.ofNat x)) = (bv l).set j (.int .u8 (x : Int)) := by
  unfold bv
  rw [List.map_set]
  congr 2
  simp only [UInt8.toNat_ofNat', Nat.reducePow, Nat.mod_eq_of_lt hx]

end Go.Proofs.Ytmedhmgihfenhaa
