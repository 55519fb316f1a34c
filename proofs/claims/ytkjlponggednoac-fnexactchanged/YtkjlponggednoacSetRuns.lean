/- The set of what is marked: the specification's l05Set. -/
import Derived.Test.YtkjlponggednoacSetBits
namespace Go.Proofs.Ytkjlponggednoac
open Go.RowKit
open Plain
set_option linter.unusedVariables false

theorem news_two {W : World} (x y : Value) : ∀ j u, ([x, y] : List Value)[j]? = some u → (W.alloc (.cells #[x, y] 63)).cell? ((⟨W.heap.size, 0, none⟩ : Addr).add j) = some u := fun j u hj =>
  World.news_of_block (cs := #[x, y]) (t := 63) (fr := (0, 0)) (heap_alloc_new W _) j u (by simpa using hj)
namespace Plain
theorem set_last (a : List Rg) (r : Rg) (x : Int) : (rgs (a ++ [r])).set (a.length * 2 + 1) (.int .i64 x) = rgs (a ++ [⟨r.lo, x⟩]) := by
  rw [rgs_setHi (a ++ [r]) a.length r x (by simp)]
  congr 1
  rw [List.set_append_right _ _ (Nat.le_refl _), Nat.sub_self]
  rfl
theorem setV_1 {f : Nat → Bool} (h : (setOf f).length ≤ 40) : setV f = (setOf f, true) := if_pos h
theorem setV_0 {f : Nat → Bool} (h : ¬ (setOf f).length ≤ 40) : setV f = ([], false) := if_neg h
theorem okS_setOf {f : Nat → Bool} (h0 : f 0 = false) : okS (setOf f) = decide ((setOf f).length ≤ 40) := by rw [okS, setOf_ok f h0, Bool.true_and]
end Plain

set_option maxHeartbeats 4000000 in
set_option maxRecDepth 100000 in
theorem l05Set_any (f : Nat → Bool) (h0 : f 0 = false) (gB B : Nat) (w : World) (h : w.ownsRow B 4 1 (.slice (some ⟨gB, 0, none⟩) 10001 10001) 10001 (bitsRow f)) :
    Calls Try.prog 65 #[.slice (some ⟨gB, 0, none⟩) 10001 10001] w fun e w' => ∃ v', e = .returned (.tuple #[v', .bool (setV f).2]) ∧ OwnR w.heap.size w' v' (setV f).1 ∧ Below w.heap.size w w' := by
  obtain ⟨i0, hi, hz0, hz1, hz2⟩ := info_parts Try.infoRange
  have hgB : gB < w.heap.size := (h.lt _ rfl).2
  have C := hide (fun (W : World) (hb : Below w.heap.size w W) (i : Nat) (hi : i < 10001) => show W.cell? ⟨gB, i, none⟩ = some (.bool (f i)) by rw [hb.cell (p := ⟨gB, i, none⟩) hgB, h.cellAt i (by omega), bitsRow_get f hi])
  clear h
  have RL := hide (fun j => runs_len f j)
  have INV := hide (fun j hj => runs_inv f h0 j hj)
  have H0 := hide h0
  clear h0
  go_enter Try.func65, Try.ntmps65
  go_wp2
  go_loopw [4, 5] (fun v n wr => ∃ j : Nat, j ≤ 9999 ∧ n = .int .i64 ((j : Int) + 1) ∧ wr.ownsRow w.heap.size 63 2 v (runsTo f j).length (rgs (runsTo f j)) ∧ w.heap.size ≤ wr.heap.size ∧ Below w.heap.size w wr) (fun _ n _ => 10000 - (intOf n).toNat)
  case atStart => exact ⟨0, Nat.zero_le _, rfl, World.ownsRow_lit w #[] 0 (Nat.le_refl _) (Nat.zero_le _) rfl, by simp, (Below.refl _ _).alloc (Nat.le_refl _) _⟩
  case round =>
    obtain ⟨j, hj, rfl, hown, hsz, hbel⟩ := hrel
    have hlen := unhide RL j
    by_cases hlt : j < 9999
    · have d9 : decide ((j : Int) + 1 ≤ 9999) = true := by rw [decide_eq_true_eq]; omega
      have cb : wr.cell? ⟨gB, j + 1, none⟩ = some (.bool (f (j + 1))) := unhide C wr hbel (j + 1) (by omega)
      have ca : wr.cell? ⟨gB, j, none⟩ = some (.bool (f j)) := unhide C wr hbel j (by omega)
      have hij : (0 : Int) ≤ (j : Int) + 1 := by omega
      have hij2 : (j : Int) + 1 < 10001 := by omega
      have hij3 : (j : Int) < 10001 := by omega
      cases hb : f (j + 1) with
      | false =>
        rw [hb] at cb
        have R := hide (runsTo_off hb)
        have OW := hide hown
        have BW := hide hbel
        clear hown hbel
        go_wp2
        go_roundw
        case rel => exact ⟨j + 1, by omega, by go_num, by rw [unhide R]; exact unhide OW, hsz, unhide BW⟩
        case measure => simp [intOf]; omega
      | true =>
        rw [hb] at cb
        cases hc : f j with
        | false =>
          rw [hc] at ca
          have R := hide (runsTo_new hb hc)
          obtain ⟨va, vc, rfl⟩ := g_shape hown
          generalize runsTo f j = l at *
          have OW := hide hown
          clear hown
          go_wp2_with (at_builtin; refine wpList_append_own _ rfl _ _ 38 rfl w.heap.size 63 i0 _ 2 16 Try.underlying38 hi hz0 hz1 hz2 rfl (by decide) _ _ _ rfl ((unhide OW).alloc _) ⟨wr.heap.size, 0, none⟩ 1 1 [.int .i64 ((j : Int) + 1), .int .i64 0] rfl rfl (news_two _ _) ?c2 ?c3 ?c4 ?c5 ?_)
          case c2 => intro u hu; simp at hu; rcases hu with rfl | rfl <;> rfl
          case c3 => unfold maxLen; omega
          case c4 => omega
          case c5 => simp; omega
          intro v' w1 hown' hgrow _
          obtain ⟨g', cap', rfl⟩ := ownsRow_succ hown'
          have own1 : w1.ownsRow w.heap.size 63 2 (.slice (some ⟨g', 0, none⟩) (l.length + 1) cap') (l.length + 1) (rgs (l ++ [⟨(j : Int) + 1, 0⟩])) := by
            rw [rgs_append]; exact hown'
          obtain ⟨y, hy⟩ := g_some own1 (j := l.length * 2 + 1) (by omega)
          have fz := own1.frozenAt (l.length * 2 + 1)
          have st := (own1.stored (l.length * 2 + 1) (.int .i64 ((j : Int) + 1))).1
          rw [set_last] at st
          have ST := hide st
          have hb1 : Below w.heap.size w w1 := (hbel.alloc hsz _).grown hgrow (by simp; omega) (fun k hk => ((unhide OW).lt k hk).1)
          have B1 := hide (hb1.setCell (p := ⟨g', l.length * 2 + 1, none⟩) (own1.lt g' rfl).1 (.int .i64 ((j : Int) + 1)))
          have hs1 : w.heap.size ≤ w1.heap.size := hb1.size
          have hli : (0 : Int) ≤ (l.length : Int) := by omega
          clear hown' hgrow own1 st hb1 hbel OW
          go_wp2
          go_roundw
          case rel => exact ⟨j + 1, by omega, by go_num, by rw [unhide R, List.length_append]; exact unhide ST, by simpa using hs1, unhide B1⟩
          case measure => simp [intOf]; omega
        | true =>
          rw [hc] at ca
          obtain ⟨a, r, hrs, hr⟩ := (unhide INV j (by omega)).2.2.1 hc
          have R := hide (runsTo_on hb hc hrs)
          rw [hrs] at hown hlen
          rw [List.length_append] at hown hlen
          have own2 : wr.ownsRow w.heap.size 63 2 u4 (a.length + 1) (rgs (a ++ [r])) := hown
          obtain ⟨g', cap', rfl⟩ := ownsRow_succ own2
          obtain ⟨y, hy⟩ := g_some own2 (j := a.length * 2 + 1) (by omega)
          have fz := own2.frozenAt (a.length * 2 + 1)
          have st := (own2.stored (a.length * 2 + 1) (.int .i64 ((j : Int) + 1))).1
          rw [set_last] at st
          have ST := hide st
          have B1 := hide (hbel.setCell (p := ⟨g', a.length * 2 + 1, none⟩) (own2.lt g' rfl).1 (.int .i64 ((j : Int) + 1)))
          have hli : (0 : Int) ≤ (a.length : Int) := by omega
          clear hown own2 st hbel hrs
          go_wp2
          go_roundw
          case rel => exact ⟨j + 1, by omega, by go_num, by rw [unhide R, List.length_append]; exact unhide ST, by simpa using hsz, unhide B1⟩
          case measure => simp [intOf]; omega
    · have hj9 : j = 9999 := by omega
      subst hj9
      have OWN : OwnR w.heap.size wr u4 (setOf f) := hown
      have q0 := spec_SetOk_any (setOf f) u4 wr (by show (runsTo f 9999).length ≤ 1048576; omega) OWN.read
      rw [okS_setOf (unhide H0)] at q0
      have Q0 := hide q0
      have OW := hide OWN
      have BW := hide hbel
      clear q0 OWN hown hbel C INV RL
      by_cases h40 : (setOf f).length ≤ 40
      · rw [decide_eq_true h40] at Q0
        have V := hide (setV_1 h40)
        go_wp2_with (go_at_call 63; refine (unhide Q0).mono ?_; rintro e w1 ⟨rfl, q1, rfl⟩)
        go_ret2
        refine ⟨_, by rw [unhide V]; rfl, ?_, below_drewN (unhide BW) q1⟩
        rw [unhide V]
        exact unhide OW
      · rw [decide_eq_false h40] at Q0
        have V := hide (setV_0 h40)
        go_wp2_with (go_at_call 63; refine (unhide Q0).mono ?_; rintro e w1 ⟨rfl, q1, rfl⟩)
        go_ret2
        refine ⟨_, by rw [unhide V]; rfl, ?_, (below_drewN (unhide BW) q1).alloc (by exact hsz) _⟩
        rw [unhide V]
        exact World.ownsRow_lit _ #[] 0 hsz (Nat.zero_le _) rfl
end Go.Proofs.Ytkjlponggednoac
