/- Several texts in one. -/
import Derived.Test.YtihdgfihdecalaaGreatDoorProg
import Derived.Test.YtihdgfihdecalaaGreatDoorPlainA
import Derived.WalkKit
import Derived.WalkSpells
import Derived.ProofKit
import Derived.Handy
import Derived.Laws.IdiomStrings
import Derived.Deep.RegionHeld3
import Derived.Deep.QuietTactic
import Derived.BigQuiet
import Derived.WalkSmall
namespace Go.Proofs.YtihdgfihdecalaaGreatDoor
open Go.RowKit
open Plain
set_option linter.unusedVariables false

/-- A slice of one byte that was laid just now, as a string. -/
theorem one_str (W : World) (b : UInt8) : (convert 103 9 (.slice (some ⟨W.heap.size, 0, none⟩) 1 1)).run Tryz.prog (W.alloc (.cells #[.int .u8 (b.toNat : Int)] 5)) = .ok (.string ⟨[b].toArray⟩) (W.alloc (.cells #[.int .u8 (b.toNat : Int)] 5)) := by
  refine run_convert_bytes_back (P := Tryz.prog) _ 103 9 5 ⟨W.heap.size, 0, none⟩ 1 [b] Tryz.underlying103 Tryz.underlying5 Tryz.underlying9 ?_
  intro j hj
  have : j = 0 := by simp at hj; omega
  subst this
  simp [Addr.add]
end Go.Proofs.YtihdgfihdecalaaGreatDoor

namespace Go.Proofs.YtihdgfihdecalaaGreatDoor
open Go.RowKit
open Plain
set_option linter.unusedVariables false

set_option maxHeartbeats 1000000 in
set_option maxRecDepth 100000 in
theorem markText_any (N : Nat) (w : World) (h0 : 1 ≤ N) (h1 : N ≤ 1000000000) :
    Calls Tryz.prog 58 #[.int .i64 N] w fun e w' => e = .returned (.string ⟨(mkL N).toArray⟩) ∧ Below w.heap.size w w' := by
  have d0 : decide ((N : Int) ≤ 0) = false := by simp; omega
  go_enter Tryz.func58, Tryz.ntmps58
  go_wp2
  go_loopw [0, 3] (fun n v wr => ∃ (m : Nat) (suf : List UInt8), n = .int .i64 m ∧ m ≤ 1000000000 ∧ v = .string ⟨suf.toArray⟩ ∧ DecInv N m suf ∧ Below w.heap.size w wr)
    (fun n _ _ => (intOf n).toNat)
  case atStart => exact ⟨N, [], rfl, h1, rfl, DecInv.start N, Below.refl _ _⟩
  case round =>
    obtain ⟨m, suf, rfl, hm, rfl, hinv, hbel⟩ := hrel
    have hsl := hinv.2
    have hsl' : (⟨suf.toArray⟩ : ByteArray).size ≤ 20 := hsl
    by_cases hz : m = 0
    · subst hz
      have hd := hide hinv.mark
      clear hinv
      go_wp2
      go_ret
      exact ⟨by rw [mkL, ← unhide hd]; exact congrArg (fun b => Ending.returned (Value.string b)) (ByteArray.mk_append_mk [109] suf), hbel⟩
    · have dz1 : 0 < m := by omega
      have hst := hinv.step (by omega) hz
      have hf := fig_10 m
      have hcv : ∀ W : World, (convert 103 9 (.slice (some ⟨W.heap.size, 0, none⟩) 1 1)).run Tryz.prog (W.alloc (.cells #[.int .u8 (48 + (m : Int) % 10)] 5)) = .ok (.string ⟨[fig (m % 10)].toArray⟩) (W.alloc (.cells #[.int .u8 (48 + (m : Int) % 10)] 5)) := fun W => by
        rw [← hf]; exact one_str W (fig (m % 10))
      have HZ := hide hz
      clear hinv hz hf
      go_wp2
      go_roundw
      case rel => exact ⟨m / 10, fig (m % 10) :: suf, by go_num, by omega, congrArg Value.string (ByteArray.mk_append_mk [fig (m % 10)] suf), hst, hbel.alloc hbel.size _⟩
      case measure => have := unhide HZ; simp [intOf]; omega

end Go.Proofs.YtihdgfihdecalaaGreatDoor
