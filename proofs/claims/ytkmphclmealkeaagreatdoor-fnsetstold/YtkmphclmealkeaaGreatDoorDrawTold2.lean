/- The draws of FnSetsTold: what is added, joined, read. -/
import Derived.Test.YtkmphclmealkeaaGreatDoorDrawTold
import Derived.Test.YtkmphclmealkeaaGreatDoorSetText
import Derived.Test.YtkmphclmealkeaaGreatDoorTextsPlain
namespace Go.Proofs.YtkmphclmealkeaaGreatDoor
open Go.RowKit
open Plain
set_option linter.unusedVariables false

/-- One of a list of texts, laid just now. -/
theorem pick_str (zs : List ByteArray) (B c : Nat) (w : World) (hc : Cur B w c) (h0 : 0 < zs.length) (h1 : zs.length ≤ 1000) :
    Calls Tryz.prog 44 #[.pointer (some ⟨c, 0, none⟩), .slice (some ⟨w.heap.size, 0, none⟩) zs.length zs.length] (w.alloc (.cells (zs.map Value.string).toArray 9)) fun e w' => ∃ z : ByteArray, z ∈ zs ∧ e = .returned (.string z) ∧ Cur B w' c ∧ w.grownBy w' (some c) := by
  have hcl := hc.lt.2
  have hc0 : Cur B (w.alloc (.cells (zs.map Value.string).toArray 9)) c := hc.kept (World.grownBy_alloc _ _ none) (fun k hk => by cases hk)
  have hg0 : w.grownBy (w.alloc (.cells (zs.map Value.string).toArray 9)) (some c) := World.grownBy_alloc _ _ _
  have q := hide (l01Below_any B c zs.length _ hc0 h0 (by omega))
  have HL : Hid (∀ x : Nat, x < zs.length → ∃ z, z ∈ zs ∧ (w.alloc (.cells (zs.map Value.string).toArray 9)).cell? ⟨w.heap.size, x, none⟩ = some (.string z)) := fun x hx => by
    refine ⟨zs[x], List.getElem_mem _, ?_⟩
    have := (World.ownsRow_lit (size := 1) (e := 9) w (zs.map Value.string).toArray zs.length (Nat.le_refl _) (by unfold maxLen; omega) (by simp)).cellAt x (by omega)
    rw [this]
    simp [hx]
  have hne : w.heap.size ≠ c := by omega
  have hgl : w.heap.size < (w.alloc (.cells (zs.map Value.string).toArray 9)).heap.size := by simp
  generalize w.alloc (.cells (zs.map Value.string).toArray 9) = W at *
  have HG := hide hg0
  clear hc hc0 hg0
  go_enter Tryz.func44, Tryz.ntmps44
  go_wp2_with fail
  refine (unhide q).mono ?_
  rintro e w1 ⟨x, hx, rfl, hc1, hg1⟩
  obtain ⟨z, hz, hz3⟩ := unhide HL x hx
  have hz4 : w1.cell? ⟨w.heap.size, x, none⟩ = some (.string z) := (World.cell?_of_block (w := W) (a := ⟨w.heap.size, x, none⟩) (hg1.block _ hgl (fun e => hne (by cases e; rfl)))).trans hz3
  have HH := hide (g_join (unhide HG) hg1)
  have HC := hide hc1
  clear hz3 hc1 hg1 HG HL
  go_wp2
  go_ret
  exact ⟨z, hz, rfl, unhide HC, unhide HH⟩

/-- The cursor under way. -/
structure CS (B c : Nat) (w W : World) : Prop where
  cur : Cur B W c
  below : Below w.heap.size w W
  lt : w.heap.size ≤ c
theorem CS.call {B c : Nat} {w W W' : World} (h : CS B c w W) (hg : W.grownBy W' (some c)) (hc : Cur B W' c) : CS B c w W' :=
  ⟨hc, h.below.grown hg h.below.size (fun k hk => by cases hk; exact h.lt), h.lt⟩

set_option maxHeartbeats 2000000 in
set_option maxRecDepth 100000 in
theorem DrawSetAdd_any (B len cap : Nat) (a : Option Addr) (w : World) (ha : Arg B w a len) (hB : B ≤ w.heap.size) :
    Calls Tryz.prog 11 #[.slice a len cap] w fun e w' => ∃ (v : Value) (s : List Rg) (lo hi : Int), e = .returned (.tuple #[v, .int .i64 lo, .int .i64 hi]) ∧ s.length ≤ 41 ∧ (-9223372036854775808 ≤ lo ∧ lo ≤ 9223372036854775807) ∧ (-9223372036854775808 ≤ hi ∧ hi ≤ 9223372036854775807) ∧ OwnR w.heap.size w' v s ∧ Below w.heap.size w w' := by
  have q1 := hide (l01New_any B len cap a w ha hB)
  clear ha
  go_enter Tryz.func11, Tryz.ntmps11
  go_wp2_with fail
  refine (unhide q1).mono ?_
  rintro e w1 ⟨rfl, hc1, hg1⟩
  have C1 : Hid (CS B w.heap.size w w1) := ⟨hc1, g_below hg1, Nat.le_refl _⟩
  clear q1 hg1 hc1
  go_wp2_with fail
  refine (pick_of [0, 1, 3, 8, 9998, 10000, 12] B w.heap.size w1 (unhide C1).cur (by decide) (by decide)).mono ?_
  rintro e w2 ⟨lo, hlo, rfl, hc2, hg2⟩
  have C2 := hide ((unhide C1).call hg2 hc2)
  have l1 : 0 ≤ lo ∧ lo ≤ 10000 := by simp at hlo; omega
  clear hc2 hg2 C1 hlo
  go_wp2_with fail
  refine (pick_of [0, 1, 4, -1] B w.heap.size w2 (unhide C2).cur (by decide) (by decide)).mono ?_
  rintro e w3 ⟨d, hd, rfl, hc3, hg3⟩
  have C3 := hide ((unhide C2).call hg3 hc3)
  have l2 : -1 ≤ d ∧ d ≤ 4 := by simp at hd; omega
  clear hc3 hg3 C2 hd
  go_wp2_with fail
  refine (l01Once_any B w.heap.size 10 w3 (unhide C3).cur (by omega) (by omega)).mono ?_
  rintro e w4 ⟨bb, rfl, hc4, hg4⟩
  have C4 := hide ((unhide C3).call hg4 hc4)
  clear hc4 hg4 C3
  cases bb with
  | false =>
    go_wp2_with fail
    refine (l05Any_any B w.heap.size w4 (unhide C4).cur).mono ?_
    rintro e w5 ⟨v, s, rfl, hs, hss⟩
    have C5 := hide ((unhide C4).call hss.grown hss.cur)
    have O5 := hide hss.own
    have hz4 := (unhide C4).below.size
    clear hss C4
    go_wp2
    go_ret3
    exact ⟨v, s, _, _, rfl, hs, by omega, by omega, g_based (unhide O5) hz4, (unhide C5).below⟩
  | true =>
    go_wp2_with fail
    refine (pick_of [9223372036854775807, 10000, -9223372036854775808] B w.heap.size w4 (unhide C4).cur (by decide) (by decide)).mono ?_
    rintro e w5 ⟨hi', hh, rfl, hc5, hg5⟩
    have C5 := hide ((unhide C4).call hg5 hc5)
    have l3 : -9223372036854775808 ≤ hi' ∧ hi' ≤ 9223372036854775807 := by simp at hh; omega
    clear hc5 hg5 C4 hh
    go_wp2_with fail
    refine (l05Any_any B w.heap.size w5 (unhide C5).cur).mono ?_
    rintro e w6 ⟨v, s, rfl, hs, hss⟩
    have C6 := hide ((unhide C5).call hss.grown hss.cur)
    have O6 := hide hss.own
    have hz5 := (unhide C5).below.size
    clear hss C5
    go_wp2
    go_ret3
    exact ⟨v, s, _, _, rfl, hs, by omega, by omega, g_based (unhide O6) hz5, (unhide C6).below⟩

set_option maxHeartbeats 2000000 in
theorem DrawSetJoin_any (B len cap : Nat) (a : Option Addr) (w : World) (ha : Arg B w a len) (hB : B ≤ w.heap.size) :
    Calls Tryz.prog 16 #[.slice a len cap] w fun e w' => ∃ (v u : Value) (s t : List Rg), e = .returned (.tuple #[v, u]) ∧ s.length ≤ 41 ∧ t.length ≤ 41 ∧ OwnR w.heap.size w' v s ∧ OwnR w.heap.size w' u t ∧ Below w.heap.size w w' := by
  have q1 := hide (l01New_any B len cap a w ha hB)
  clear ha
  go_enter Tryz.func16, Tryz.ntmps16
  go_wp2_with fail
  refine (unhide q1).mono ?_
  rintro e w1 ⟨rfl, hc1, hg1⟩
  have z1 := hc1.lt
  have C1 : Hid (CS B w.heap.size w w1) := ⟨hc1, g_below hg1, Nat.le_refl _⟩
  clear q1 hg1 hc1
  go_wp2_with fail
  refine (l05Any_any B w.heap.size w1 (unhide C1).cur).mono ?_
  rintro e w2 ⟨v, s, rfl, hs, hss⟩
  have C2 := hide ((unhide C1).call hss.grown hss.cur)
  have H2 := hide hss
  clear hss
  go_wp2_with fail
  refine (l05Any_any B w.heap.size w2 (unhide C2).cur).mono ?_
  rintro e w3 ⟨u, t, rfl, ht, htt⟩
  have C3 := hide ((unhide C2).call htt.grown htt.cur)
  have o1 := hide (World.ownsRow.kept (unhide H2).own htt.grown (own_apart (unhide H2).own (by omega)))
  have o2 := hide htt.own
  have y1 := (unhide C1).below.size
  have y2 := (unhide C2).below.size
  clear htt H2 C1 C2
  go_wp2
  go_ret2
  exact ⟨v, u, s, t, rfl, hs, ht, g_based (unhide o1) y1, g_based (unhide o2) y2, (unhide C3).below⟩

set_option maxHeartbeats 4000000 in
set_option maxRecDepth 100000 in
theorem DrawReadSet_any (B len cap : Nat) (a : Option Addr) (w : World) (ha : Arg B w a len) (hB : B ≤ w.heap.size) :
    Calls Tryz.prog 19 #[.slice a len cap] w fun e w' => ∃ (t : ByteArray) (last : Int), e = .returned (.tuple #[.string t, .int .i64 last]) ∧ t.size ≤ 1048576 ∧ (0 ≤ last ∧ last ≤ 10000) ∧ Below w.heap.size w w' := by
  have q1 := hide (l01New_any B len cap a w ha hB)
  clear ha
  go_enter Tryz.func19, Tryz.ntmps19
  go_wp2_with fail
  refine (unhide q1).mono ?_
  rintro e w1 ⟨rfl, hc1, hg1⟩
  have C1 : Hid (CS B w.heap.size w w1) := ⟨hc1, g_below hg1, Nat.le_refl _⟩
  clear q1 hg1 hc1
  go_wp2_with fail
  refine (pick_of [1, 5, 9999, 0, 10000] B w.heap.size w1 (unhide C1).cur (by decide) (by decide)).mono ?_
  rintro e w2 ⟨last, hla, rfl, hc2, hg2⟩
  have C2 := hide ((unhide C1).call hg2 hc2)
  have l1 : 0 ≤ last ∧ last ≤ 10000 := by simp at hla; omega
  clear hc2 hg2 C1 hla
  go_wp2_with fail
  refine (pick_str [⟨#[]⟩, ⟨#[42]⟩, ⟨#[53, 58, 42]⟩, ⟨#[42, 58, 51]⟩, ⟨#[55, 44, 49, 44, 50]⟩, ⟨#[51, 58, 49]⟩, ⟨#[48]⟩, ⟨#[49, 58]⟩, ⟨#[44]⟩, ⟨#[49, 48, 48, 48, 48]⟩, ⟨#[49, 44, 44, 50]⟩, ⟨#[52, 58, 120]⟩, ⟨#[48, 48, 49, 50]⟩, ⟨#[48, 48, 48, 49, 50]⟩, ⟨#[50, 58, 50, 44, 51]⟩] B w.heap.size w2 (unhide C2).cur (by decide) (by decide)).mono ?_
  rintro e w3 ⟨more, hmo, rfl, hc3, hg3⟩
  have C3 := hide ((unhide C2).call hg3 hc3)
  have l2 : more.size ≤ 5 := by
    have : ∀ z ∈ ([⟨#[]⟩, ⟨#[42]⟩, ⟨#[53, 58, 42]⟩, ⟨#[42, 58, 51]⟩, ⟨#[55, 44, 49, 44, 50]⟩, ⟨#[51, 58, 49]⟩, ⟨#[48]⟩, ⟨#[49, 58]⟩, ⟨#[44]⟩, ⟨#[49, 48, 48, 48, 48]⟩, ⟨#[49, 44, 44, 50]⟩, ⟨#[52, 58, 120]⟩, ⟨#[48, 48, 49, 50]⟩, ⟨#[48, 48, 48, 49, 50]⟩, ⟨#[50, 58, 50, 44, 51]⟩] : List ByteArray), z.size ≤ 5 := by decide
    exact this _ hmo
  clear hc3 hg3 C2 hmo
  go_wp2_with fail
  refine (belowS_lit B w.heap.size 3 3 rfl w3 (unhide C3).cur (by omega) (by omega)).mono ?_
  rintro e w4 ⟨k, hk, rfl, hc4, hg4⟩
  have C4 := hide ((unhide C3).call hg4 hc4)
  clear hc4 hg4 C3
  go_wp2_with fail
  refine (l05Any_any B w.heap.size w4 (unhide C4).cur).mono ?_
  rintro e w5 ⟨v, s, rfl, hs, hss⟩
  have C5 := hide ((unhide C4).call hss.grown hss.cur)
  have R5 := hide (OwnR.read hss.own)
  clear hss C4
  go_wp2_with fail
  refine (spec_SetText_any s v w5 (by omega) (unhide R5)).mono ?_
  rintro e w6 ⟨rfl, hb6⟩
  have B6 := hide ((unhide C5).below.trans (hb6.mono (unhide C5).below.size))
  have tl := text_len (s := s)
  have hts : (⟨(setTextL s).toArray⟩ : ByteArray).size ≤ 1680 := by show (setTextL s).toArray.size ≤ 1680; simpa using tl
  generalize (⟨(setTextL s).toArray⟩ : ByteArray) = T at *
  clear hb6 C5 R5 tl
  by_cases h0 : k = 0
  · subst h0
    go_wp2
    go_ret2
    exact ⟨_, _, rfl, by omega, l1, unhide B6⟩
  · by_cases h1 : k = 1
    · subst h1
      have hcat : (T ++ (⟨#[44]⟩ : ByteArray) ++ more).size ≤ 1048576 := by
        rw [ByteArray.size_append, ByteArray.size_append]
        have : (⟨#[44]⟩ : ByteArray).size = 1 := rfl
        omega
      go_wp2
      go_ret2
      exact ⟨_, _, rfl, hcat, l1, unhide B6⟩
    · have h2 : k = 2 := by omega
      subst h2
      go_wp2
      go_ret2
      exact ⟨_, _, rfl, by omega, l1, unhide B6⟩
end Go.Proofs.YtkmphclmealkeaaGreatDoor
