/- The draws of the laws: a number; a text that may be long. -/
import Derived.Test.YtbllfkgmnajliaaDoorDrawNum
namespace Go.Proofs.YtbllfkgmnajliaaDoor
open Go.RowKit
open Plain
set_option linter.unusedVariables false

theorem laid_cell {W : World} {t : TypeId} {c : Array Value} (j : Nat) (u : Value) (hj : c[j]? = some u) : (W.alloc (.cells c t)).cell? ⟨W.heap.size, j, none⟩ = some u := by
  have := World.news_of_block (cs := c) (t := t) (fr := (0, 0)) (heap_alloc_new W _) j u (by simpa using hj)
  rwa [Addr.add_lit, Nat.zero_add] at this

theorem pick_list {zs : List Int} (hz : ∀ z ∈ zs, -9223372036854775808 ≤ z ∧ z ≤ 9223372036854775807) (W : World) (t : TypeId) :
    ∀ j, j < zs.length → ∃ z : Int, -9223372036854775808 ≤ z ∧ z ≤ 9223372036854775807 ∧ (W.alloc (.cells (zs.map fun z => Value.int .i64 z).toArray t)).cell? ⟨W.heap.size, j, none⟩ = some (.int .i64 z) := by
  intro j hj
  have h := hz zs[j] (List.getElem_mem _)
  exact ⟨zs[j], h.1, h.2, laid_cell j _ (by simp [hj])⟩

/-- Some number below n, the number typed out. -/
theorem l01Below_lit (B c n : Nat) (z : Int) (hz : z = (n : Int)) (w : World) (hc : Cur B w c) (h0 : 0 < n) (h1 : n ≤ 4294967296) :
    Calls Tryd.prog 21 #[.pointer (some ⟨c, 0, none⟩), .int .i64 z] w fun e w' => ∃ x : Nat, x < n ∧ e = .returned (.int .i64 (x : Int)) ∧ Cur B w' c ∧ w.grownBy w' (some c) := by
  subst hz; exact l01Below_any B c n w hc h0 h1

set_option maxHeartbeats 1000000 in
set_option maxRecDepth 100000 in
theorem l01Number_any (B c : Nat) (w : World) (hc : Cur B w c) :
    Calls Tryd.prog 15 #[.pointer (some ⟨c, 0, none⟩)] w fun e w' => ∃ z : Int, -9223372036854775808 ≤ z ∧ z ≤ 9223372036854775807 ∧ e = .returned (.int .i64 z) ∧ Cur B w' c ∧ w.grownBy w' (some c) := by
  go_enter Tryd.func15, Tryd.ntmps15
  go_wp2_with fail
  refine (l01Below_lit B c 4 4 rfl w hc (by omega) (by omega)).mono ?_
  rintro e w1 ⟨x, hx, rfl, hc1, hg1⟩
  by_cases h0 : x = 0
  · subst h0
    go_wp2_with fail
    refine (l01PickInt_any B c w1.heap.size 10 10 _ (hc1.kept (World.grownBy_alloc _ _ none) (fun k hk => by cases hk)) (by omega) (by omega) (by have := hc1.lt; omega) (by simp) (pick_list (zs := [-1, 0, 127, 128, 16383, 16384, 1000000000, 1000000001, 9223372036854775807, -9223372036854775808]) (by decide) w1 3)).mono ?_
    rintro e w3 ⟨z, hz1, hz2, rfl, hc3, hg3⟩
    go_wp2
    go_ret
    exact ⟨z, hz1, hz2, rfl, hc3, (hg1.trans (World.grownBy_alloc _ _ _)).trans hg3⟩
  · have d0 : ((x : Int) == 0) = false := by simp; omega
    by_cases h1 : x = 1
    · subst h1
      go_wp2_with fail
      refine (l01Below_lit B c 1000000000 1000000000 rfl w1 hc1 (by omega) (by omega)).mono ?_
      rintro e w2 ⟨y, hy, rfl, hc2, hg2⟩
      go_wp2
      go_ret
      exact ⟨y, by omega, by omega, rfl, hc2, hg1.trans hg2⟩
    · have d1 : ((x : Int) == 1) = false := by simp; omega
      go_wp2_with fail
      refine (l01Below_lit B c 400 400 rfl w1 hc1 (by omega) (by omega)).mono ?_
      rintro e w2 ⟨y, hy, rfl, hc2, hg2⟩
      go_wp2
      go_ret
      exact ⟨y, by omega, by omega, rfl, hc2, hg1.trans hg2⟩

theorem DrawVarText_any (B len cap : Nat) (a : Option Addr) (w : World) (ha : Arg B w a len) (hB : B ≤ w.heap.size) :
    Calls Tryd.prog 5 #[.slice a len cap] w fun e w' => ∃ z : Int, -9223372036854775808 ≤ z ∧ z ≤ 9223372036854775807 ∧ e = .returned (.int .i64 z) ∧ Below w.heap.size w w' := by
  have q1 := hide (l01New_any B len cap a w ha hB)
  have q2 := hide (fun W hW => l01Number_any B w.heap.size W hW)
  clear ha
  go_enter Tryd.func5, Tryd.ntmps5
  go_wp2_with (first
    | (go_at_call 16; refine (unhide q1).mono ?_; rintro e w1 ⟨rfl, hc1, hg1⟩)
    | (go_at_call 15; refine (unhide q2 _ (by assumption)).mono ?_; rintro e w2 ⟨z, hz1, hz2, rfl, hc2, hg2⟩))
  go_ret
  exact ⟨z, hz1, hz2, rfl, ((Below.refl _ _).grown hg1 (Nat.le_refl _) (fun k hk => by cases hk)).grown hg2 hg1.size (fun k hk => by cases hk; exact Nat.le_refl _)⟩

set_option maxHeartbeats 1000000 in
/-- Some text. -/
theorem DrawHex_any (B len cap : Nat) (a : Option Addr) (w : World) (ha : Arg B w a len) (hB : B ≤ w.heap.size) :
    Calls Tryd.prog 10 #[.slice a len cap] w fun e w' => ∃ T : ByteArray, T.size ≤ 20001 ∧ e = .returned (.string T) ∧ Below w.heap.size w w' := by
  have q1 := l01New_any B len cap a w ha hB
  clear ha
  go_enter Tryd.func10, Tryd.ntmps10
  go_wp2_with fail
  refine q1.mono ?_
  rintro e w1 ⟨rfl, hc1, hg1⟩
  go_wp2_with fail
  refine (l01Once_any B w.heap.size 60 w1 hc1 (by omega) (by omega)).mono ?_
  rintro e w2 ⟨b, rfl, hc2, hg2⟩
  have hb2 := ((Below.refl w.heap.size w).grown hg1 (Nat.le_refl _) (fun k hk => by cases hk)).grown hg2 hg1.size (fun k hk => by cases hk; exact Nat.le_refl _)
  clear q1 hc1 hg1 hg2
  cases b with
  | true =>
    go_wp2_with fail
    refine (l01Below_lit B w.heap.size 2 2 rfl w2 hc2 (by omega) (by omega)).mono ?_
    rintro e w3 ⟨x, hx, rfl, hc3, hg3⟩
    have hb3 := hb2.grown hg3 hb2.size (fun k hk => by cases hk; exact Nat.le_refl _)
    clear hc2 hg3 hb2
    go_wp2_with fail
    refine (l01Long_any (20000 + x) 200 w3 (by omega) (by omega)).mono ?_
    rintro e w4 ⟨l, hl, rfl, hg4⟩
    have hb4 := below2 hb3 hg4
    go_wp2
    go_ret
    exact ⟨⟨l.toArray⟩, by (show l.length ≤ 20001); omega, rfl, hb4⟩
  | false =>
    go_wp2_with fail
    refine (l01Below_lit B w.heap.size 30 30 rfl w2 hc2 (by omega) (by omega)).mono ?_
    rintro e w3 ⟨x, hx, rfl, hc3, hg3⟩
    have hb3 := hb2.grown hg3 hb2.size (fun k hk => by cases hk; exact Nat.le_refl _)
    clear hc2 hg3 hb2
    go_wp2_with fail
    refine (l01Text_any B w.heap.size x w3 hc3 (by omega)).mono ?_
    rintro e w4 ⟨l, hl, rfl, hc4, hg4⟩
    have hb4 := hb3.grown hg4 hb3.size (fun k hk => by cases hk; exact Nat.le_refl _)
    go_wp2
    go_ret
    exact ⟨⟨l.toArray⟩, by (show l.length ≤ 20001); omega, rfl, hb4⟩
end Go.Proofs.YtbllfkgmnajliaaDoor
