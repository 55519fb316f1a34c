/- The draws of FnFlags. -/
import Derived.Test.YtmaoadgpcejepaaDoorDrawPick
import Derived.Test.YtmaoadgpcejepaaDoorOwn
import Derived.Test.YtmaoadgpcejepaaDoorFlagAll
namespace Go.Proofs.YtmaoadgpcejepaaDoor
open Go.RowKit
open Plain
set_option linter.unusedVariables false
set_option linter.unusedSimpArgs false

/-- One of a list of texts, laid just now. -/
theorem flag_str (zs : List ByteArray) (B c : Nat) (w : World) (hc : Cur B w c) (h0 : 0 < zs.length) (h1 : zs.length ≤ 1000) :
    Calls Tryd.prog 30 #[.pointer (some ⟨c, 0, none⟩), .slice (some ⟨w.heap.size, 0, none⟩) zs.length zs.length] (w.alloc (.cells (zs.map Value.string).toArray 9)) fun e w' => ∃ z : ByteArray, z ∈ zs ∧ e = .returned (.string z) ∧ Cur B w' c ∧ w.grownBy w' (some c) := by
  have hcl := hc.lt.2
  have hc0 : Cur B (w.alloc (.cells (zs.map Value.string).toArray 9)) c := hc.kept (World.grownBy_alloc _ _ none) (fun k hk => by cases hk)
  have hg0 : w.grownBy (w.alloc (.cells (zs.map Value.string).toArray 9)) (some c) := World.grownBy_alloc _ _ _
  have q := hide (l01Below_any B c zs.length _ hc0 h0 (by omega))
  have HL : Hid (∀ x : Nat, x < zs.length → ∃ z, z ∈ zs ∧ (w.alloc (.cells (zs.map Value.string).toArray 9)).cell? ⟨w.heap.size, x, none⟩ = some (.string z)) := fun x hx => by
    refine ⟨zs[x], List.getElem_mem _, ?_⟩
    have := (World.ownsRow_lit (size := 1) (e := 9) w (zs.map Value.string).toArray zs.length (Nat.le_refl _) (by unfold maxLen; omega) (by simp)).cellAt x (by omega)
    rw [this]
    simp [hx]
  have hne : w.heap.size ≠ c := by omega
  have hgl : w.heap.size < (w.alloc (.cells (zs.map Value.string).toArray 9)).heap.size := by simp
  generalize w.alloc (.cells (zs.map Value.string).toArray 9) = W at *
  have HG := hide hg0
  clear hc hc0 hg0
  go_enter Tryd.func30, Tryd.ntmps30
  go_wp2_with fail
  refine (unhide q).mono ?_
  rintro e w1 ⟨x, hx, rfl, hc1, hg1⟩
  obtain ⟨z, hz, hz3⟩ := unhide HL x hx
  have hz4 : w1.cell? ⟨w.heap.size, x, none⟩ = some (.string z) := (World.cell?_of_block (w := W) (a := ⟨w.heap.size, x, none⟩) (hg1.block _ hgl (fun e => hne (by cases e; rfl)))).trans hz3
  have HH := hide (g_join (unhide HG) hg1)
  have HC := hide hc1
  clear hz3 hc1 hg1 HG HL
  go_wp2
  go_ret
  exact ⟨z, hz, rfl, unhide HC, unhide HH⟩

/-- The cursor under way. -/
structure FC (B c : Nat) (w W : World) : Prop where
  cur : Cur B W c
  below : Below w.heap.size w W
  lt : w.heap.size ≤ c
theorem FC.call {B c : Nat} {w W W' : World} (h : FC B c w W) (hg : W.grownBy W' (some c)) (hc : Cur B W' c) : FC B c w W' :=
  ⟨hc, h.below.grown hg h.below.size (fun k hk => by cases hk; exact h.lt), h.lt⟩

set_option maxHeartbeats 1000000 in
set_option maxRecDepth 100000 in
theorem placeF_any (B c n : Nat) (w : World) (hc : Cur B w c) (hn0 : 0 < n) (hn : n ≤ 1000) :
    Calls Tryd.prog 29 #[.pointer (some ⟨c, 0, none⟩), .int .i64 n] w fun e w' => ∃ z : Int, -9223372036854775808 ≤ z ∧ z ≤ 9223372036854775807 ∧ e = .returned (.int .i64 z) ∧ Cur B w' c ∧ w.grownBy w' (some c) := by
  have hlt := hc.lt
  have HC := hide hc
  clear hc
  go_enter Tryd.func29, Tryd.ntmps29
  go_wp2_with fail
  refine (l01Once_any B c 15 _ (unhide HC) (by omega) (by omega)).mono ?_
  rintro e w1 ⟨b, rfl, hc1, hg1⟩
  have hs1 := hg1.size
  have HC1 := hide hc1
  clear hc1
  have hb : b = true ∨ b = false := by cases b <;> simp
  rcases hb with rfl | rfl
  · go_wp2_with fail
    refine (l01PickInt_any B c w1.heap.size 5 5 _ ((unhide HC1).kept (World.grownBy_alloc _ _ none) (fun k hk => by cases hk)) (by omega) (by omega) (by omega) (by simp) (fun j hj => ?_)).mono ?_
    · match j, hj with
      | 0, _ => exact ⟨_, by omega, by omega, cell_of_row _ _ 0 _ _ (0, 0) (heap_alloc_new _ _)⟩
      | 1, _ => exact ⟨_, by omega, by omega, cell_of_row _ _ 1 _ _ (0, 0) (heap_alloc_new _ _)⟩
      | 2, _ => exact ⟨_, by omega, by omega, cell_of_row _ _ 2 _ _ (0, 0) (heap_alloc_new _ _)⟩
      | 3, _ => exact ⟨_, by omega, by omega, cell_of_row _ _ 3 _ _ (0, 0) (heap_alloc_new _ _)⟩
      | 4, _ => exact ⟨_, by omega, by omega, cell_of_row _ _ 4 _ _ (0, 0) (heap_alloc_new _ _)⟩
    · rintro e w2 ⟨z, hz1, hz2, rfl, hc2, hg2⟩
      go_wp2
      go_ret
      exact ⟨z, hz1, hz2, rfl, hc2, hg1.trans ((World.grownBy_alloc _ _ _).trans hg2)⟩
  · go_wp2_with fail
    refine (l01Below_any B c n _ (unhide HC1) hn0 (by omega)).mono ?_
    rintro e w2 ⟨x, hx, rfl, hc2, hg2⟩
    go_wp2
    go_ret
    exact ⟨_, by omega, by omega, rfl, hc2, hg1.trans hg2⟩

set_option maxHeartbeats 2000000 in
set_option maxRecDepth 100000 in
theorem DrawFlagsAfter_any (B len cap : Nat) (a : Option Addr) (w : World) (ha : Arg B w a len) (hB : B ≤ w.heap.size) :
    Calls Tryd.prog 12 #[.slice a len cap] w fun e w' => ∃ z h u : Int, e = .returned (.tuple #[.int .i64 z, .int .i64 h, .int .i64 u]) ∧ i64R z ∧ i64R h ∧ i64R u ∧ Below w.heap.size w w' := by
  have q1 := hide (l01New_any B len cap a w ha hB)
  clear ha
  go_enter Tryd.func12, Tryd.ntmps12
  go_wp2_with fail
  refine (unhide q1).mono ?_
  rintro e w1 ⟨rfl, hc1, hg1⟩
  have C1 : Hid (FC B w.heap.size w w1) := ⟨hc1, g_below hg1, Nat.le_refl _⟩
  clear q1 hg1 hc1
  go_wp2_with fail
  refine (placeF_any B w.heap.size 32 w1 (unhide C1).cur (by omega) (by omega)).mono ?_
  rintro e w2 ⟨z, z0, z1, rfl, hc2, hg2⟩
  have C2 := hide ((unhide C1).call hg2 hc2)
  clear hc2 hg2 C1
  go_wp2_with fail
  refine (placeF_any B w.heap.size 4 w2 (unhide C2).cur (by omega) (by omega)).mono ?_
  rintro e w3 ⟨h, h0, h1, rfl, hc3, hg3⟩
  have C3 := hide ((unhide C2).call hg3 hc3)
  clear hc3 hg3 C2
  go_wp2_with fail
  refine (placeF_any B w.heap.size 32 w3 (unhide C3).cur (by omega) (by omega)).mono ?_
  rintro e w4 ⟨u, u0, u1, rfl, hc4, hg4⟩
  have C4 := hide ((unhide C3).call hg4 hc4)
  clear hc4 hg4 C3
  go_wp2
  go_ret3
  exact ⟨z, h, u, rfl, ⟨z0, z1⟩, ⟨h0, h1⟩, ⟨u0, u1⟩, (unhide C4).below⟩

set_option maxHeartbeats 2000000 in
set_option maxRecDepth 100000 in
theorem DrawReadFlags_any (B len cap : Nat) (a : Option Addr) (w : World) (ha : Arg B w a len) (hB : B ≤ w.heap.size) :
    Calls Tryd.prog 13 #[.slice a len cap] w fun e w' => ∃ t : ByteArray, e = .returned (.string t) ∧ t.size ≤ 1048576 ∧ Below w.heap.size w w' := by
  have q1 := hide (l01New_any B len cap a w ha hB)
  clear ha
  go_enter Tryd.func13, Tryd.ntmps13
  go_wp2_with fail
  refine (unhide q1).mono ?_
  rintro e w1 ⟨rfl, hc1, hg1⟩
  have C1 : Hid (FC B w.heap.size w w1) := ⟨hc1, g_below hg1, Nat.le_refl _⟩
  clear q1 hg1 hc1
  go_wp2_with fail
  refine (l01Below_any B w.heap.size 32 w1 (unhide C1).cur (by omega) (by omega)).mono ?_
  rintro e w2 ⟨k, hk, rfl, hc2, hg2⟩
  have C2 := hide ((unhide C1).call hg2 hc2)
  clear hc2 hg2 C1
  go_wp2_with fail
  refine (flag_str [⟨#[40, 41]⟩, ⟨#[40, 115, 101, 101, 110, 41]⟩, ⟨#[40, 68, 101, 108, 101, 116, 101, 100, 32, 83, 69, 69, 78, 41]⟩, ⟨#[40, 115, 101, 101, 110, 32, 115, 101, 101, 110, 41]⟩, ⟨#[40, 32, 115, 101, 101, 110, 41]⟩, ⟨#[40, 115, 101, 101, 110, 32, 41]⟩, ⟨#[115, 101, 101, 110]⟩, ⟨#[]⟩, ⟨#[40]⟩, ⟨#[40, 119, 104, 97, 116, 41]⟩, ⟨#[40, 100, 114, 97, 102, 116, 32, 32, 115, 101, 101, 110, 41]⟩] B w.heap.size w2 (unhide C2).cur (by decide) (by decide)).mono ?_
  rintro e w3 ⟨more, hmo, rfl, hc3, hg3⟩
  have C3 := hide ((unhide C2).call hg3 hc3)
  have l2 : more.size ≤ 20 := by
    have : ∀ z ∈ ([⟨#[40, 41]⟩, ⟨#[40, 115, 101, 101, 110, 41]⟩, ⟨#[40, 68, 101, 108, 101, 116, 101, 100, 32, 83, 69, 69, 78, 41]⟩, ⟨#[40, 115, 101, 101, 110, 32, 115, 101, 101, 110, 41]⟩, ⟨#[40, 32, 115, 101, 101, 110, 41]⟩, ⟨#[40, 115, 101, 101, 110, 32, 41]⟩, ⟨#[115, 101, 101, 110]⟩, ⟨#[]⟩, ⟨#[40]⟩, ⟨#[40, 119, 104, 97, 116, 41]⟩, ⟨#[40, 100, 114, 97, 102, 116, 32, 32, 115, 101, 101, 110, 41]⟩] : List ByteArray), z.size ≤ 20 := by decide
    exact this _ hmo
  clear hc3 hg3 C2 hmo
  go_wp2_with fail
  refine (l01Once_any B w.heap.size 3 w3 (unhide C3).cur (by omega) (by omega)).mono ?_
  rintro e w4 ⟨bb, rfl, hc4, hg4⟩
  have C4 := hide ((unhide C3).call hg4 hc4)
  clear hc4 hg4 C3
  cases bb with
  | true =>
    go_wp2
    go_ret
    exact ⟨more, rfl, by omega, (unhide C4).below⟩
  | false =>
    go_wp2_with fail
    refine (spec_FlagsText_any (k : Int) w4).mono ?_
    rintro e w5 ⟨rfl, hb5⟩
    have B5 := hide ((unhide C4).below.trans (hb5.mono (unhide C4).below.size))
    have hts : (⟨(flagsL (k : Int)).toArray⟩ : ByteArray).size ≤ 60 := by
      show (flagsL (k : Int)).toArray.size ≤ 60
      have := flTo_len (k : Int) 5 (by omega)
      unfold flagsL
      split
      · simp; omega
      · simp
    generalize (⟨(flagsL (k : Int)).toArray⟩ : ByteArray) = T at *
    clear hb5 C4
    go_wp2
    go_ret
    exact ⟨T, rfl, by omega, unhide B5⟩
end Go.Proofs.YtmaoadgpcejepaaDoor
