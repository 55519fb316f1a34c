/- Figures: what the program's Hex answers. -/
import Derived.Test.YtbllfkgmnajliaaDoorHex
namespace Go.Proofs.YtbllfkgmnajliaaDoor
open Go.RowKit
open Plain
set_option linter.unusedVariables false

theorem index_figs {κ : IntKind} (y : Int) (h0 : 0 ≤ y) (h1 : y < 16) (w : World) :
    (Instr.index 9 (.string ⟨#[48, 49, 50, 51, 52, 53, 54, 55, 56, 57, 97, 98, 99, 100, 101, 102]⟩) (.int κ y)).run Tryd.prog w = .ok (.int .u8 (figI y)) w := by
  obtain ⟨n, rfl⟩ := Int.eq_ofNat_of_zero_le h0
  have hn : n < 16 := by omega
  have hs : (⟨#[48, 49, 50, 51, 52, 53, 54, 55, 56, 57, 97, 98, 99, 100, 101, 102]⟩ : ByteArray).size = 16 := rfl
  rw [run_index_string _ _ _ _ _ Tryd.underlying9, dif_pos ⟨by omega, by rw [hs]; omega⟩]
  congr 2
  match n, hn with
  | 0, _ => rfl | 1, _ => rfl | 2, _ => rfl | 3, _ => rfl | 4, _ => rfl | 5, _ => rfl | 6, _ => rfl | 7, _ => rfl
  | 8, _ => rfl | 9, _ => rfl | 10, _ => rfl | 11, _ => rfl | 12, _ => rfl | 13, _ => rfl | 14, _ => rfl | 15, _ => rfl

set_option maxHeartbeats 1000000 in
set_option maxRecDepth 100000 in
theorem impl_Hex_yes (s : ByteArray) (w : World) (hs : s.size ≤ 20000) :
    Calls Tryd.prog 13 #[.string s] w fun e w' => e = .returned (.tuple #[.string ⟨(hexL s.data.toList).toArray⟩, .bool true]) ∧ Below w.heap.size w w' := by
  obtain ⟨i0, hi, hz0, hz1, hz2⟩ := info_parts Tryd.infoU8
  have hd : decide ((20000 : Int) < s.size) = false := by simp; omega
  go_enter Tryd.func13, Tryd.ntmps13
  go_wp2_with (at_make; refine wpList_make_own _ rfl _ _ 22 rfl w.heap.size 5 i0 (.int .u8 0) 1 Tryd.underlying22 hi hz0 hz1 _ _ _ (2 * s.size) rfl rfl (by omega) (by rw [hz2]; omega) (by unfold maxLen; omega) (Nat.le_refl _) ?_)
  intro w0 hown0 hgrow0
  have hb0 : Below w.heap.size w w0 := (Below.refl _ _).grown hgrow0 (Nat.le_refl _) (fun j hj => by cases hj)
  clear hgrow0
  go_wp2
  go_loopw [4, 16] (fun v i wr => ∃ k : Nat, k ≤ s.size ∧ i = .int .i64 k ∧ wr.ownsRow w.heap.size 5 1 v (hexL (s.data.toList.take k)).length (bv (hexL (s.data.toList.take k))) ∧ w.heap.size ≤ wr.heap.size ∧ Below w.heap.size w wr)
    (fun _ i _ => s.size - (intOf i).toNat)
  case atStart => exact ⟨0, Nat.zero_le _, rfl, hown0, by have := hb0.size; omega, hb0⟩
  case round =>
    obtain ⟨k, hk, rfl, hown, hsz, hbel⟩ := hrel
    have hlen := hex_len hk
    by_cases hlt : k < s.size
    · have hst := hide (hex_step hlt)
      have hx : s[k].toNat < 256 := s[k].toNat_lt
      have hlen' := hide hlen
      obtain ⟨L, hL⟩ : ∃ L, L = (hexL (s.data.toList.take k)).length := ⟨_, rfl⟩
      have hL2 : L ≤ 40000 := by omega
      rw [← hL] at hown
      have hL' := hide hL
      clear hlen hL
      have q2 : IntKind.u8.wrap ((s[k].toNat : Int) / 16) = (s[k].toNat : Int) / 16 := by rw [IntKind.wrap_u8]; omega
      have q3 : (s[k].toNat : Int).tmod 16 = (s[k].toNat : Int) % 16 := Int.tmod_eq_emod_of_nonneg (by omega)
      have x1 := index_figs (κ := .u8) ((s[k].toNat : Int) / 16) (by omega) (by omega)
      have x2 := index_figs (κ := .u8) ((s[k].toNat : Int) % 16) (by omega) (by omega)
      go_wp2_with fail
      go_region_held3 (fun _ => True) (trivial) (first
        | (refine step_append_lies _ (by rfl) _ _ _ (by rfl) w.heap.size 5 i0 (.int .u8 0) 1 1 Tryd.underlying22 hi hz0 hz1 hz2 rfl (by decide) _ L _ (by rfl) ((hown.alloc _).drew) ⟨wr.heap.size, 0, none⟩ 2 2 (figs s[k].toNat) (by rfl) (by rfl) (World.news_of_block (cs := (figs s[k].toNat).toArray) (t := 5) (fr := (0, 0)) (heap_alloc_new wr _)) (figs_one _) (by omega) (by unfold maxLen; omega) (by omega) (by simp; omega) (wr.heap.size + 1) (by simp) ?_; intro g cap w1 hown1 hgrow hat hglt))
      all_goals
        have ho1 : w1.ownsRow w.heap.size 5 1 (.slice (some ⟨g, 0, none⟩) (L + 2) cap) (hexL (s.data.toList.take (k + 1))).length (bv (hexL (s.data.toList.take (k + 1)))) := by
          rw [unhide hst, bv_append, bv_figs, List.length_append, ← unhide hL']; exact hown1
        have hb1 : Below w.heap.size w w1 := ((hbel.alloc hsz _).drew).grown hgrow (by simp; omega) (fun j hj => (hown.lt j hj).1)
        have hs1 : w.heap.size ≤ w1.heap.size := by have := hb1.size; omega
        clear hown hown1 hgrow hat hbel q2 q3 x1 x2
        go_wp2
        go_roundw
        case rel => exact ⟨k + 1, by omega, by go_num, ho1, hs1, hb1⟩
        case measure => simp [intOf]; omega
    · have e : s.data.toList.take k = s.data.toList := take_all (by omega)
      rw [e] at hown
      have hcv := own_str rfl hown
      clear hown e hlen
      go_wp2
      go_ret2
      exact ⟨rfl, hbel⟩
end Go.Proofs.YtbllfkgmnajliaaDoor
