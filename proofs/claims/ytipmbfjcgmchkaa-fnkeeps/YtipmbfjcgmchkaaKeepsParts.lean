/- What the law of what is kept calls: numbers of what the power leaves, disks that are the same, beginnings of a text. -/
import Derived.Test.YtipmbfjcgmchkaaDrawPlacesI
import Derived.Test.YtipmbfjcgmchkaaKeepsPlain
import Derived.Test.YtipmbfjcgmchkaaRightDisk
namespace Go.Proofs.Ytipmbfjcgmchkaa
open Go.RowKit
open Plain
set_option linter.unusedVariables false
set_option linter.unusedSimpArgs false

theorem iv_app (l m : List Int) : iv (l ++ m) = iv l ++ iv m := List.map_append ..
set_option maxHeartbeats 1000000 in
set_option maxRecDepth 100000 in
theorem lefts_any (l : List Int) (v : Value) (B : Nat) (w : World) (hl : l.length = 12) (hall : ∀ x ∈ l, 0 ≤ x ∧ x < 10000) (h : OwnI B w v l) :
    Calls Try.prog 11 #[v] w fun e w' => ∃ (v' : Value) (l' : List Int), l'.length = 6 ∧ e = .returned v' ∧ OwnI w.heap.size w' v' l' ∧ Below w.heap.size w w' := by
  obtain ⟨i0, hi, hz0, hz1, hz2⟩ := info_parts Try.infoInt
  obtain ⟨a, c, rfl, hcell⟩ := h.shape
  have HC := hide hcell
  have HL := hide hl
  have HA := hide hall
  have hll : l.length ≤ 12 ∧ 12 ≤ l.length := by omega
  clear h hcell hl hall
  go_enter Try.func11, Try.ntmps11
  go_wp2
  go_loopw [3, 4] (fun v i wr => ∃ (o : List Int), o.length ≤ 6 ∧ i = .int .i64 (o.length : Int) ∧ OwnI w.heap.size wr v o ∧ Below w.heap.size w wr) (fun _ i _ => 6 - (intOf i).toNat)
  case atStart => exact ⟨[], Nat.zero_le _, rfl, World.ownsRow_lit w #[] 0 (Nat.le_refl _) (Nat.zero_le _) rfl, (Below.refl _ _).alloc (Nat.le_refl _) _⟩
  case round =>
    obtain ⟨o, ho, rfl, hown, hbel⟩ := hrel
    obtain ⟨k, hk⟩ : ∃ k, k = o.length := ⟨_, rfl⟩
    have HK := hide hk
    unfold OwnI at hown
    rw [← hk] at ho hown ⊢
    clear hk
    have hszr : w.heap.size ≤ wr.heap.size := hbel.size
    by_cases hlt : k < 6
    · have hkl : k < l.length := by omega
      obtain ⟨g, hga, hgl, c0⟩ := unhide HC k l[k] (List.getElem?_eq_getElem hkl)
      obtain ⟨hx0, hx1⟩ := unhide HA l[k] (List.getElem_mem hkl)
      rw [← hbel.cell (p := ⟨g, _, none⟩) hgl] at c0
      subst hga
      generalize l[k] = x at *
      have hik : (0 : Int) ≤ (k : Int) := by omega
      have hil : (k : Int) < (l.length : Int) := by omega
      go_wp2_with (at_builtin; refine wpList_append_own _ rfl _ _ 28 rfl w.heap.size 3 i0 (.int .i64 0) 1 8 Try.underlying28 hi hz0 hz1 hz2 rfl (by decide) _ _ _ rfl (hown.alloc _) ⟨wr.heap.size, 0, none⟩ 1 1 [.int .i64 (x % 300)] rfl rfl (World.news_of_block (cs := #[.int .i64 (x % 300)]) (t := 3) (fr := (0, 0)) (heap_alloc_new wr _)) (by intro u hu; simp at hu; subst hu; rfl) (by unfold maxLen; omega) (by omega) (by simp; omega) ?_; intro v' w4 hown' hgrow _)
      have hb4 : Below w.heap.size w w4 := (hbel.alloc hszr _).grown hgrow (by simp; omega) (fun k hk => (hown.lt k hk).1)
      have ho4 : OwnI w.heap.size w4 v' (o ++ [x % 300]) := by
        unfold OwnI
        rw [iv_app, List.length_append, ← unhide HK]; exact hown'
      clear hown hown' hgrow hbel
      go_wp2
      go_roundw
      case rel => exact ⟨o ++ [x % 300], by simp [← unhide HK]; omega, by simp [← unhide HK], ho4, hb4⟩
      case measure => simp [intOf]; omega
    · have hk6 : k = 6 := by omega
      have HO := hide hown
      clear hown
      subst hk6
      go_wp2
      go_ret
      exact ⟨_, o, (unhide HK).symm, rfl, by unfold OwnI; rw [← unhide HK]; exact unhide HO, hbel⟩

set_option maxHeartbeats 1000000 in
theorem begins_any (a b : ByteArray) (w : World) (ha : a.size ≤ 1048576) (hb : b.size ≤ 1048576) (h : begB a b) :
    Calls Try.prog 17 #[.string a, .string b] w fun e w' => e = .returned (.bool true) ∧ w' = w := by
  obtain ⟨h1, h2⟩ := h
  have h1I : (a.size : Int) ≤ (b.size : Int) := by omega
  have H2 := hide h2
  clear h2
  go_enter Try.func17, Try.ntmps17
  go_wp2
  go_ret
  refine ⟨?_, rfl⟩
  show Ending.returned (Value.bool ((b.extract 0 a.size).toList == a.toList)) = _
  rw [unhide H2]
  simp

set_option maxHeartbeats 1000000 in
set_option maxRecDepth 100000 in
theorem sameDisk_same (l : List Fl) (v1 v2 : Value) (B1 B2 : Nat) (w : World) (hs : l.length ≤ 1048576) (h1 : OwnF B1 w v1 l) (h2 : OwnF B2 w v2 l) :
    Calls Try.prog 14 #[.agg #[v1], .agg #[v2]] w fun e w' => e = .returned (.bool true) ∧ Below w.heap.size w w' := by
  obtain ⟨a1, c1, rfl, hc1⟩ := h1.shape
  obtain ⟨a2, c2, rfl, hc2⟩ := h2.shape
  have H1 := hide hc1
  have H2 := hide hc2
  clear h1 h2 hc1 hc2
  go_enter Try.func14, Try.ntmps14
  go_wp2
  have hb0 := ((Below.refl w.heap.size w).alloc (Nat.le_refl _) (.cells #[.slice a1 l.length c1] 26)).alloc (by simp) (.cells #[.slice a2 l.length c2] 26)
  have e0 : ((w.alloc (.cells #[.slice a1 l.length c1] 26)).alloc (.cells #[.slice a2 l.length c2] 26)).cell? ⟨w.heap.size, 0, none⟩ = some (.slice a1 l.length c1) := by go_simp
  have e1 : ((w.alloc (.cells #[.slice a1 l.length c1] 26)).alloc (.cells #[.slice a2 l.length c2] 26)).cell? ⟨w.heap.size + 1, 0, none⟩ = some (.slice a2 l.length c2) := by go_simp
  generalize ((w.alloc (.cells #[.slice a1 l.length c1] 26)).alloc (.cells #[.slice a2 l.length c2] 26)) = W at *
  go_loopw [5] (fun i wr => ∃ k q : Nat, k ≤ l.length ∧ i = .int .i64 k ∧ wr = W.drewN q) (fun i _ => l.length - (intOf i).toNat)
  case atStart => exact ⟨0, 0, Nat.zero_le _, rfl, rfl⟩
  case round =>
    obtain ⟨k, q, hk, rfl, rfl⟩ := hrel
    by_cases hlt : k < l.length
    · have hgk : l[k]? = some l[k] := List.getElem?_eq_getElem hlt
      obtain ⟨g, hga, hgl, x0, x1, x2⟩ := unhide H1 k l[k] hgk
      obtain ⟨g', hga', hgl', y0, y1, y2⟩ := unhide H2 k l[k] hgk
      rw [← hb0.cell (p := ⟨g, _, none⟩) hgl] at x0 x1 x2
      rw [← hb0.cell (p := ⟨g', _, none⟩) hgl'] at y0 y1 y2
      subst hga hga'
      generalize l[k] = f at *
      have hik : (0 : Int) ≤ (k : Int) := by omega
      have hil : (k : Int) < (l.length : Int) := by omega
      go_wp2
      go_quiet (fail)
      go_wp2
      go_roundw
      case rel => exact ⟨k + 1, _, by omega, by go_num, rfl⟩
      case measure => simp [intOf]; omega
    · go_wp2
      go_ret
      exact ⟨rfl, below_draws hb0 _⟩
end Go.Proofs.Ytipmbfjcgmchkaa
