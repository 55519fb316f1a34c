/-
  FnExactFileAt: at every disk and name the program's FileAt answers as the specification's: the law returns true, and the arguments read as they did; no condition (what is of over 2^20 values and bytes is passed by the law itself).
-/
import Derived.Test.YtipmbfjcgmchkaaRows
import Derived.Test.YtipmbfjcgmchkaaAt
import Derived.Test.YtipmbfjcgmchkaaOpenDisk
import Derived.Test.YtipmbfjcgmchkaaRegion
import Derived.WalkKit
import Derived.ProofKit
import Derived.OpenShut
import Derived.ShutString
import Derived.ChangeOld
import Derived.Below
import Derived.Carry
namespace Go.Proofs.Ytipmbfjcgmchkaa.fnExactFileAt
open Go.ChangeShapes Go.WideShapes Go.ChangeAt Go.RowKit
open Go.ChangeMaps (open_string shut_string)
open Plain
set_option linter.unusedVariables false

theorem own : ownKnob Try.prog.godebug = none := by kernel_rfl
theorem laidOut : laidOutB Try.prog = true := by kernel_rfl

theorem walk (a0 : Option Addr) (cap0 : Nat) (l0 : List Fl) (s1 : ByteArray) (w : World) (m0 : l0.length ≤ maxLen) (h0 : ArgF w.heap.size w a0 l0) (m1 : s1.size ≤ maxLen) :
    Calls Try.prog 6 #[.agg #[.slice a0 l0.length cap0], .string s1] w fun e w' => e = .returned (.bool true) ∧ Below w.heap.size w w' := by
  unfold maxLen at m1
  by_cases hnm : s1.size ≤ 1048576
  · have HA := hide h0
    clear h0
    go_enter Try.func6, Try.ntmps6
    go_wp2_with fail
    have hb0 := (Below.refl w.heap.size w).alloc (Nat.le_refl _) (.cells #[.slice a0 l0.length cap0] 51)
    have e0 : (w.alloc (.cells #[.slice a0 l0.length cap0] 51)).cell? ⟨w.heap.size, 0, none⟩ = some (.slice a0 l0.length cap0) := by go_simp
    have hsz : w.heap.size < (w.alloc (.cells #[.slice a0 l0.length cap0] 51)).heap.size := by simp
    generalize w.alloc (.cells #[.slice a0 l0.length cap0] 51) = W at *
    refine (szDisk_any a0 l0.length cap0 l0 W rfl m0 ((unhide HA).up hb0)).mono ?_
    rintro e w1 ⟨⟨m, rfl, hmm⟩, hb1⟩
    have e1 := (hb1.cell (p := ⟨w.heap.size, 0, none⟩) hsz).trans e0
    have B1 := hide (hb0.trans (hb1.mono (by omega)))
    rcases hmm with rfl | ⟨q, rfl, hq, hsm⟩
    · go_wp2
      go_ret
      exact ⟨rfl, unhide B1⟩
    have HS := hide hsm
    have hs0 := hsm.1
    clear hsm hb1
    have hsz1 : w.heap.size < w1.heap.size := World.block_lt_of_cell? _ _ e1
    go_wp2_with fail
    refine (toDisk_any a0 cap0 l0 w1 hs0 ((unhide HA).up (unhide B1))).mono ?_
    rintro e w2 ⟨v2, rfl, own2, hb2⟩
    have e2 := (hb2.cell (p := ⟨w.heap.size, 0, none⟩) hsz1).trans e1
    have B2 := hide ((unhide B1).trans (hb2.mono (by omega)))
    have hsz2 : w.heap.size < w2.heap.size := World.block_lt_of_cell? _ _ e2
    go_wp2_with fail
    refine (spec_FileAt_any l0 s1 v2 _ w2 hs0 own2).mono ?_
    rintro e w3 ⟨rfl, hb3⟩
    have e3 := (hb3.cell (p := ⟨w.heap.size, 0, none⟩) hsz2).trans e2
    have B3 := hide ((unhide B2).trans (hb3.mono (by omega)))
    have hsz3 : w.heap.size < w3.heap.size := World.block_lt_of_cell? _ _ e3
    clear own2 hb2 hb3 e1 e2
    have HI := hide (fun v B wx (hx : OwnF B wx v l0) => impl_FileAt_any l0 s1 v B wx (unhide HS) hx)
    obtain ⟨tx, ok, htx⟩ : ∃ tx ok, fileAtV l0 s1.toList = .tuple #[.string tx, .bool ok] := by
      unfold fileAtV
      cases posL l0 s1.toList <;> exact ⟨_, _, rfl⟩
    rw [htx] at HI ⊢
    clear htx
    go_wp2_with fail
    refine (toDisk_any a0 cap0 l0 w3 hs0 ((unhide HA).up (unhide B3))).mono ?_
    rintro e w4 ⟨v4, rfl, own4, hb4⟩
    have e4 := (hb4.cell (p := ⟨w.heap.size, 0, none⟩) hsz3).trans e3
    have B4 := hide ((unhide B3).trans (hb4.mono (by omega)))
    have hsz4 : w.heap.size < w4.heap.size := World.block_lt_of_cell? _ _ e4
    obtain ⟨b4, c4, rfl, _⟩ := OwnF.shape own4
    clear hb4 e3
    go_wp2_with fail
    have x5 : (w4.alloc (.cells #[.slice b4 l0.length c4] 26)).cell? ⟨w4.heap.size, 0, none⟩ = some (.slice b4 l0.length c4) := by go_simp
    have hb5 := (Below.refl w4.heap.size w4).alloc (Nat.le_refl _) (.cells #[.slice b4 l0.length c4] 26)
    have e5 := (hb5.cell (p := ⟨w.heap.size, 0, none⟩) hsz4).trans e4
    have own5 := own_stays own4 hb5
    have B5 := hide ((unhide B4).trans (hb5.mono (by omega)))
    have hsz5 : w4.heap.size < (w4.alloc (.cells #[.slice b4 l0.length c4] 26)).heap.size := by simp
    clear own4 hb5 e4
    generalize w4.alloc (.cells #[.slice b4 l0.length c4] 26) = W5 at *
    refine (unhide HI _ _ W5 own5).mono ?_
    rintro e w6 ⟨rfl, hb6⟩
    have x6 := (hb6.cell (p := ⟨w4.heap.size, 0, none⟩) hsz5).trans x5
    have e6 := (hb6.cell (p := ⟨w.heap.size, 0, none⟩) (by show w.heap.size < _; omega)).trans e5
    have O6 := hide (own_stays own5 hb6)
    have B6 := hide ((unhide B5).trans (hb6.mono (by omega)))
    have hsz6 : w4.heap.size < w6.heap.size := World.block_lt_of_cell? _ _ x6
    clear own5 hb6 e5 x5
    go_wp2
    refine wp_region_held_drew (S := fun w' => w'.cell? ⟨w4.heap.size, 0, none⟩ = some (.slice b4 l0.length c4) ∧ w'.cell? ⟨w.heap.size, 0, none⟩ = some (.slice a0 l0.length cap0)) (by kernel_rfl) (⟨x6, e6⟩) (fun hHeld => ?_)
    refine takeVal 0 (some 42) ?_ rfl (by kernel_rfl) (by kernel_rfl) (by kernel_rfl) rfl (fun _ _ _ h => h) (by rfl) (by assumption) ?_ ?_
    rotate_left
    · (intro w hSw; (try dsimp only at hSw); go_simp <;> with_reducible rfl)
    simp only [Act.put, List.setIfInBounds_toArray, List.set_cons_zero, List.set_cons_succ]
    refine takeVal 1 (some 43) ?_ rfl (by kernel_rfl) (by kernel_rfl) (by kernel_rfl) rfl (fun _ _ _ h => h) (by rfl) (by assumption) ?_ ?_
    rotate_left
    · (intro w hSw; (try dsimp only at hSw); go_simp <;> with_reducible rfl)
    simp only [Act.put, List.setIfInBounds_toArray, List.set_cons_zero, List.set_cons_succ]
    refine wpAnyH_ready (rs := [2]) (by kernel_rfl) (by simp) ?_
    refine AllReadyH.cons rfl (fun K hK => ?_) AllReadyH.nil
    go_simp
    refine (toDisk_any a0 cap0 l0 w6.drew hs0 ((unhide HA).up (unhide B6).drew)).mono ?_
    rintro e w7 ⟨v7, rfl, own7, hb7⟩
    go_wp2_with fail
    refine hK.out _ _ (⟨(hb7.cell (p := ⟨w4.heap.size, 0, none⟩) hsz6).trans x6, (hb7.cell (p := ⟨w.heap.size, 0, none⟩) (by show w.heap.size < w6.heap.size; omega)).trans e6⟩) (fun hHeld2 => ?_)
    clear hK K hHeld
    have hHeld := hHeld2; clear hHeld2
    try simp only [Act.put, List.setIfInBounds_toArray, List.set_cons_zero, List.set_cons_succ]
    refine wpAnyH_ready (rs := [3]) (by kernel_rfl) (by simp) ?_
    refine AllReadyH.cons rfl (fun K hK => ?_) AllReadyH.nil
    go_simp
    refine (eqDisk_same l0 _ v7 _ _ w7 hs0 (own_stays (w := w6.drew) (unhide O6) hb7) own7).mono ?_
    rintro e w8 ⟨rfl, hb8⟩
    go_wp2_with fail
    refine hK.out _ _ (⟨(hb8.cell (p := ⟨w4.heap.size, 0, none⟩) (by have := hb7.size; show w4.heap.size < w7.heap.size; exact Nat.lt_of_lt_of_le hsz6 this)).trans hHeld.1, (hb8.cell (p := ⟨w.heap.size, 0, none⟩) (by have := hb7.size; show w.heap.size < w7.heap.size; exact Nat.lt_of_lt_of_le (show w.heap.size < w6.heap.size by omega) this)).trans hHeld.2⟩) (fun hHeld2 => ?_)
    clear hK K hHeld
    have hHeld := hHeld2; clear hHeld2
    try simp only [Act.put, List.setIfInBounds_toArray, List.set_cons_zero, List.set_cons_succ]
    refine takeVal 4 (some 46) ?_ rfl (by kernel_rfl) (by kernel_rfl) (by kernel_rfl) rfl (fun _ _ _ h => h) (by rfl) (by assumption) ?_ ?_
    rotate_left
    · (intro w hSw; (try dsimp only at hSw); go_simp <;> with_reducible rfl)
    simp only [Act.put, List.setIfInBounds_toArray, List.set_cons_zero, List.set_cons_succ]
    refine wpAnyH_done (by kernel_rfl) ?_ _
    go_wp2
    go_ret
    exact ⟨rfl, ((unhide B6).drew.trans (hb7.mono (by have := (unhide B6).size; exact this))).trans (hb8.mono (Nat.le_trans (unhide B6).size hb7.size))⟩
  · clear h0
    go_enter Try.func6, Try.ntmps6
    go_wp2
    go_ret
    exact ⟨rfl, by go_grown⟩

set_option maxRecDepth 100000 in
theorem lifted (os : Os) (started : os.Started) (H : Type) (enc : TypeId × Value → H) :
    ReturnsInHanded {} Try.checked os 6 .any (Rows.fnExactFileAtSpec.pre6 enc Try.prog Try.f6 Rows.fnExactFileAtRow.domain false) (Rows.fnExactFileAtSpec.post enc Try.prog Try.f6 false true false false) := by
  refine returnsInHanded_of_change (C := Try.checked) own started (by kernel_rfl) Try.func6
    (ChangeSpec.witness6 (enc := enc) (C := Try.checked) false ⟨#[], #[.agg #[.slice none 0 0], .string ByteArray.empty], []⟩ 8 (by kernel_rfl) (by kernel_rfl) (by kernel_rfl) (by kernel_rfl)) ?_
  intro W base args ds gs before hval0 hW hcnd _
  have hval : ∀ (j : Nat) t v, Try.f6.params[j]? = some t → args[j]? = some v → Value.okWide Try.prog W .any base t v := hval0
  have hW' := hW
  obtain ⟨p, q, hA0, hV, rfl, hfz, hnd⟩ := hW
  have hA : DataW.TrodAll enc Try.prog W 0 (fun _ => true) true Try.f6.params.toList args.toList ds p := hA0
  rw [Try.params6] at hA hval
  obtain ⟨v0, vs0, d0, ds0, p0, q0, hargs, rfl, rfl, h0, r0⟩ := trodAll_cons hA
  obtain ⟨v1, vs1, d1, ds1, p1, q1, rfl, rfl, rfl, h1, r1⟩ := trodAll_cons r0
  obtain ⟨rfl, rfl, rfl⟩ := trodAll_nil r1
  obtain rfl : args = #[v0, v1] := by cases args; simp_all
  obtain ⟨rfl, rfl⟩ := trodVars_none hV
  have k0 := h0
  have lt0 : ∀ x ∈ p0, x.block < W.heap.size := by obtain ⟨m, hm⟩ := k0; exact DataW.trod_lt m _ _ _ hm
  have k1 := h1
  have lt1 : ∀ x ∈ p1, x.block < W.heap.size := by obtain ⟨m, hm⟩ := k1; exact DataW.trod_lt m _ _ _ hm
  obtain ⟨a0, cap0, l0, rfl, m0, g0⟩ := open_disk (hval 0 51 v0 rfl rfl) h0
  obtain ⟨s1, rfl, _, _, m1⟩ := open_string Try.underlying9 (hval 1 9 v1 rfl rfl) h1
  clear hA0 hval0
  refine (walk a0 cap0 l0 s1 W m0 g0 m1).mono fun e W' ⟨he, bel⟩ => ?_
  subst he
  exact ⟨_, rfl, _, _, _, [], _, [], hW', trodAll_mk1 (shut_bool Try.underlying4 _), (trodAll_cons_mk (Below.trod laidOut (by kernel_rfl) (of_decide_eq_true (by kernel_rfl)) k0 bel lt0) (trodAll_cons_mk (Below.trod laidOut (by kernel_rfl) (of_decide_eq_true (by kernel_rfl)) k1 bel lt1) trodAll_mk0)), rfl, bel.frame _, fun h => by cases h⟩

theorem over : Rows.fnExactFileAtRow.holds Try.pinned (OpenSpec.ofChange Rows.fnExactFileAtSpec) :=
  OpenClaim.holds_of_wide 6 Try.f6 rfl rfl rfl rfl rfl rfl rfl ⟨rfl, rfl, rfl, rfl, rfl⟩ rfl rfl rfl rfl rfl (by kernel_rfl) Try.func6 (by kernel_rfl)
    (of_decide_eq_true (by kernel_rfl)) (by unfold Func.isWrapper; first | (rw [if_pos (by decide +kernel)]; kernel_rfl) | (rw [if_neg (by decide +kernel)]; exact ⟨rfl, rfl⟩))
    (fun os started H enc _ => lifted os started H enc)

theorem proved : Rows.FnExactFileAtSaid := over
#print axioms proved
end Go.Proofs.Ytipmbfjcgmchkaa.fnExactFileAt
