/- The draws of the law on frames: some text, some twelve places. -/
import Derived.Test.YtnlcknklghalkaaDoorDrawPick
import Derived.Test.YtnlcknklghalkaaDoorDrawPlaces
namespace Go.Proofs.YtnlcknklghalkaaDoor
open Go.RowKit
open Plain
set_option linter.unusedVariables false

theorem l01Below_lit (B c n : Nat) (z : Int) (hz : z = (n : Int)) (w : World) (hc : Cur B w c) (h0 : 0 < n) (h1 : n ≤ 4294967296) :
    Calls Tryd.prog 19 #[.pointer (some ⟨c, 0, none⟩), .int .i64 z] w fun e w' => ∃ x : Nat, x < n ∧ e = .returned (.int .i64 (x : Int)) ∧ Cur B w' c ∧ w.grownBy w' (some c) := by
  subst hz; exact l01Below_any B c n w hc h0 h1

set_option maxHeartbeats 1000000 in
/-- Some text. -/
theorem DrawHex_any (B len cap : Nat) (a : Option Addr) (w : World) (ha : Arg B w a len) (hB : B ≤ w.heap.size) :
    Calls Tryd.prog 8 #[.slice a len cap] w fun e w' => ∃ T : ByteArray, T.size ≤ 20001 ∧ e = .returned (.string T) ∧ Below w.heap.size w w' := by
  have q1 := l01New_any B len cap a w ha hB
  clear ha
  go_enter Tryd.func8, Tryd.ntmps8
  go_wp2_with fail
  refine q1.mono ?_
  rintro e w1 ⟨rfl, hc1, hg1⟩
  go_wp2_with fail
  refine (l01Once_any B w.heap.size 60 w1 hc1 (by omega) (by omega)).mono ?_
  rintro e w2 ⟨b, rfl, hc2, hg2⟩
  have hb2 := ((Below.refl w.heap.size w).grown hg1 (Nat.le_refl _) (fun k hk => by cases hk)).grown hg2 hg1.size (fun k hk => by cases hk; exact Nat.le_refl _)
  clear q1 hc1 hg1 hg2
  cases b with
  | true =>
    go_wp2_with fail
    refine (l01Below_lit B w.heap.size 2 2 rfl w2 hc2 (by omega) (by omega)).mono ?_
    rintro e w3 ⟨x, hx, rfl, hc3, hg3⟩
    have hb3 := hb2.grown hg3 hb2.size (fun k hk => by cases hk; exact Nat.le_refl _)
    clear hc2 hg3 hb2
    go_wp2_with fail
    refine (l01Long_any (20000 + x) 200 w3 (by omega) (by omega)).mono ?_
    rintro e w4 ⟨l, hl, rfl, hg4⟩
    have hb4 := below2 hb3 hg4
    go_wp2
    go_ret
    exact ⟨⟨l.toArray⟩, by (show l.length ≤ 20001); omega, rfl, hb4⟩
  | false =>
    go_wp2_with fail
    refine (l01Below_lit B w.heap.size 30 30 rfl w2 hc2 (by omega) (by omega)).mono ?_
    rintro e w3 ⟨x, hx, rfl, hc3, hg3⟩
    have hb3 := hb2.grown hg3 hb2.size (fun k hk => by cases hk; exact Nat.le_refl _)
    clear hc2 hg3 hb2
    go_wp2_with fail
    refine (l01Text_any B w.heap.size x w3 hc3 (by omega)).mono ?_
    rintro e w4 ⟨l, hl, rfl, hc4, hg4⟩
    have hb4 := hb3.grown hg4 hb3.size (fun k hk => by cases hk; exact Nat.le_refl _)
    go_wp2
    go_ret
    exact ⟨⟨l.toArray⟩, by (show l.length ≤ 20001); omega, rfl, hb4⟩
end Go.Proofs.YtnlcknklghalkaaDoor
