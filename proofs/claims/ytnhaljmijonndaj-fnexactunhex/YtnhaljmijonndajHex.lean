/- Figures: what both Hex answer. -/
import Derived.Test.YtnhaljmijonndajRows
import Derived.Test.YtnhaljmijonndajVar
import Derived.Test.YtnhaljmijonndajHexPlain
import Derived.WalkKit
import Derived.WalkSpells
import Derived.ProofKit
import Derived.Handy
import Derived.Deep.RegionHeld3
import Derived.Deep.AppendLies
namespace Go.Proofs.Ytnhaljmijonndaj
open Go.RowKit
open Plain
set_option linter.unusedVariables false

theorem l01Figure_any (x : Int) (w : World) (h0 : 0 ≤ x) (h1 : x < 16) :
    Calls Try.prog 25 #[.int .i64 x] w fun e w' => e = .returned (.int .u8 (figI x)) ∧ w = w' := by
  unfold figI
  obtain ⟨n, rfl⟩ := Int.eq_ofNat_of_zero_le h0
  rw [Int.toNat_natCast]
  by_cases h : n < 10
  · rw [fig_low h]
    go_enter Try.func25, Try.ntmps25
    go_wp2
    go_ret
    exact ⟨rfl, rfl⟩
  · rw [fig_high h (by omega)]
    go_enter Try.func25, Try.ntmps25
    go_wp2
    go_ret
    exact ⟨by go_num, rfl⟩

set_option maxHeartbeats 1000000 in
set_option maxRecDepth 100000 in
theorem spec_Hex_yes (s : ByteArray) (w : World) (hs : s.size ≤ 20000) :
    Calls Try.prog 17 #[.string s] w fun e w' => e = .returned (.tuple #[.string ⟨(hexL s.data.toList).toArray⟩, .bool true]) ∧ Below w.heap.size w w' := by
  obtain ⟨i0, hi, hz0, hz1, hz2⟩ := info_parts Try.infoU8
  have hd : decide ((20000 : Int) < s.size) = false := by simp; omega
  go_enter Try.func17, Try.ntmps17
  go_wp2
  go_loopw [4, 5] (fun v i wr => ∃ k : Nat, k ≤ s.size ∧ i = .int .i64 k ∧ wr.ownsRow w.heap.size 5 1 v (hexL (s.data.toList.take k)).length (bv (hexL (s.data.toList.take k))) ∧ w.heap.size ≤ wr.heap.size ∧ Below w.heap.size w wr)
    (fun _ i _ => s.size - (intOf i).toNat)
  case atStart => exact ⟨0, Nat.zero_le _, rfl, World.ownsRow_lit w #[] 0 (Nat.le_refl _) (Nat.zero_le _) rfl, by simp, (Below.refl _ _).alloc (Nat.le_refl _) _⟩
  case round =>
    obtain ⟨k, hk, rfl, hown, hsz, hbel⟩ := hrel
    have hlen := hex_len hk
    by_cases hlt : k < s.size
    · have hst := hide (hex_step hlt)
      have hx : s[k].toNat < 256 := s[k].toNat_lt
      have hlen' := hide hlen
      have hI1 : (0 : Int) ≤ (k : Int) := by omega
      have hI2 : (k : Int) < (s.size : Int) := by omega
      obtain ⟨L, hL⟩ : ∃ L, L = (hexL (s.data.toList.take k)).length := ⟨_, rfl⟩
      have hL2 : L ≤ 40000 := by omega
      rw [← hL] at hown
      have hL' := hide hL
      clear hlen hL
      have q1 : IntKind.i64.wrap (s[k].toNat : Int) = (s[k].toNat : Int) := by rw [IntKind.wrap_i64]; omega
      have q2 : IntKind.i64.wrap ((s[k].toNat : Int) / 16) = (s[k].toNat : Int) / 16 := by rw [IntKind.wrap_i64]; omega
      have q3 : (s[k].toNat : Int).tmod 16 = (s[k].toNat : Int) % 16 := Int.tmod_eq_emod_of_nonneg (by omega)
      go_wp2_with fail
      go_region_held3 (fun _ => True) (trivial) (first
        | (go_at_call 25; refine (l01Figure_any _ _ ?_ ?_).mono ?_; omega; omega; rintro e w1 ⟨rfl, rfl⟩)
        | (refine step_append_lies _ (by rfl) _ _ _ (by rfl) w.heap.size 5 i0 (.int .u8 0) 1 1 Try.underlying34 hi hz0 hz1 hz2 rfl (by decide) _ L _ (by rfl) ((hown.alloc _).drew) ⟨wr.heap.size, 0, none⟩ 2 2 (figs s[k].toNat) (by rfl) (by rfl) (World.news_of_block (cs := (figs s[k].toNat).toArray) (t := 5) (fr := (0, 0)) (heap_alloc_new wr _)) (figs_one _) (by omega) (by unfold maxLen; omega) (by omega) (by simp; omega) (wr.heap.size + 1) (by simp) ?_; intro g cap w1 hown1 hgrow hat hglt))
      all_goals
        have ho1 : w1.ownsRow w.heap.size 5 1 (.slice (some ⟨g, 0, none⟩) (L + 2) cap) (hexL (s.data.toList.take (k + 1))).length (bv (hexL (s.data.toList.take (k + 1)))) := by
          rw [unhide hst, bv_append, bv_figs, List.length_append, ← unhide hL']; exact hown1
        have hb1 : Below w.heap.size w w1 := ((hbel.alloc hsz _).drew).grown hgrow (by simp; omega) (fun j hj => (hown.lt j hj).1)
        have hs1 : w.heap.size ≤ w1.heap.size := by have := hb1.size; omega
        clear hown hown1 hgrow hat hbel q1 q2 q3
        go_wp2
        go_roundw
        case rel => exact ⟨k + 1, by omega, by go_num, ho1, hs1, hb1⟩
        case measure => simp [intOf]; omega
    · have e : s.data.toList.take k = s.data.toList := take_all (by omega)
      rw [e] at hown
      have hcv := own_str rfl hown
      clear hown e hlen
      go_wp2
      go_ret2
      exact ⟨rfl, hbel⟩

theorem spec_Hex_no (s : ByteArray) (w : World) (h : 20000 < s.size) :
    Calls Try.prog 17 #[.string s] w fun e w' => e = .returned (.tuple #[.string ⟨#[]⟩, .bool false]) ∧ Below w.heap.size w w' := by
  go_enter Try.func17, Try.ntmps17
  go_wp2
  go_ret2
  exact ⟨rfl, Below.refl _ _⟩

theorem impl_Hex_no (s : ByteArray) (w : World) (h : 20000 < s.size) :
    Calls Try.prog 18 #[.string s] w fun e w' => e = .returned (.tuple #[.string ⟨#[]⟩, .bool false]) ∧ Below w.heap.size w w' := by
  go_enter Try.func18, Try.ntmps18
  go_wp2
  go_ret2
  exact ⟨rfl, Below.refl _ _⟩
end Go.Proofs.Ytnhaljmijonndaj
