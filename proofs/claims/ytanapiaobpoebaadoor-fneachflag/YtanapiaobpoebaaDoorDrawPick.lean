/- The draws of the laws: once in a while; one of a list; a long text (DrawNum without grown_below, which Marks has too: not beside DrawNum). -/
import Derived.Test.YtanapiaobpoebaaDoorDrawNew
import Derived.Test.YtanapiaobpoebaaDoorUnPlain
import Derived.WalkMore
import Derived.Laws.OwnMore
namespace Go.Proofs.YtanapiaobpoebaaDoor
open Go.RowKit
open Plain
set_option linter.unusedVariables false

theorem l01Once_any (B c n : Nat) (w : World) (hc : Cur B w c) (h0 : 0 < n) (h1 : n ≤ 4294967296) :
    Calls Tryd.prog 33 #[.pointer (some ⟨c, 0, none⟩), .int .i64 n] w fun e w' => ∃ b : Bool, e = .returned (.bool b) ∧ Cur B w' c ∧ w.grownBy w' (some c) := by
  have q := hide (l01Below_any B c n w hc h0 h1)
  go_enter Tryd.func33, Tryd.ntmps33
  go_wp2_with (go_at_call 28; refine (unhide q).mono ?_; rintro e w1 ⟨x, hx, rfl, hc1, hg1⟩)
  go_ret
  exact ⟨_, rfl, hc1, hg1⟩

/-- One of a list of numbers. -/
theorem l01PickInt_any (B c g m cp : Nat) (w : World) (hc : Cur B w c) (hm : 0 < m) (hm2 : m ≤ 1000) (hne : g ≠ c) (hg : g < w.heap.size)
    (hl : ∀ j, j < m → ∃ z : Int, -9223372036854775808 ≤ z ∧ z ≤ 9223372036854775807 ∧ w.cell? ⟨g, j, none⟩ = some (.int .i64 z)) :
    Calls Tryd.prog 44 #[.pointer (some ⟨c, 0, none⟩), .slice (some ⟨g, 0, none⟩) m cp] w fun e w' => ∃ z : Int, -9223372036854775808 ≤ z ∧ z ≤ 9223372036854775807 ∧ e = .returned (.int .i64 z) ∧ Cur B w' c ∧ w.grownBy w' (some c) := by
  have q := hide (l01Below_any B c m w hc hm (by omega))
  have HL := hide hl
  clear hl hc
  go_enter Tryd.func44, Tryd.ntmps44
  go_wp2_with (go_at_call 28; refine (unhide q).mono ?_; rintro e w1 ⟨x, hx, rfl, hc1, hg1⟩; obtain ⟨z, hz1, hz2, hz3⟩ := unhide HL x hx; have hz4 : w1.cell? ⟨g, x, none⟩ = some (.int .i64 z) := (World.cell?_of_block (w := w) (a := ⟨g, x, none⟩) (hg1.block g hg (fun e => hne (by cases e; rfl)))).trans hz3)
  go_ret
  exact ⟨z, hz1, hz2, rfl, hc1, hg1⟩

theorem bv_set (l : List UInt8) (j x : Nat) (hx : x < 256) : bv (l.set j (UInt8.ofNat x)) = (bv l).set j (.int .u8 (x : Int)) := by
  unfold bv
  rw [List.map_set]
  congr 2
  simp only [UInt8.toNat_ofNat', Nat.reducePow, Nat.mod_eq_of_lt hx]

end Go.Proofs.YtanapiaobpoebaaDoor
