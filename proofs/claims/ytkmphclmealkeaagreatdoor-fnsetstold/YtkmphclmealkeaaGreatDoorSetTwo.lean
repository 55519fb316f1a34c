/- What two sets have: the specification's l05Two, SetJoin, SetMeet. -/
import Derived.Test.YtkmphclmealkeaaGreatDoorSetRuns
namespace Go.Proofs.YtkmphclmealkeaaGreatDoor
open Go.RowKit
open Plain
set_option linter.unusedVariables false

namespace Plain
def twoTo (a b : List Rg) (both : Bool) (n i : Nat) : Bool := if i < n then twoB a b both i else bitsOf a i
theorem twoTo_zero (a b : List Rg) (both : Bool) : twoTo a b both 0 = bitsOf a := by funext i; unfold twoTo; rw [if_neg (by omega)]
theorem twoTo_step (a b : List Rg) (both : Bool) (n : Nat) (c : Bool) (h : c = twoB a b both n) : setBit (twoTo a b both n) n c = twoTo a b both (n + 1) := by
  funext i
  unfold setBit twoTo
  by_cases e : i = n
  · subst e; rw [if_pos rfl, if_pos (by omega), h]
  · rw [if_neg e]
    by_cases h2 : i < n
    · rw [if_pos h2, if_pos (by omega)]
    · rw [if_neg h2, if_neg (by omega)]
theorem twoTo_all (a b : List Rg) (both : Bool) : bitsRow (twoTo a b both 10001) = bitsRow (twoB a b both) := bitsRow_congr fun i hi => by unfold twoTo; rw [if_pos hi]
theorem twoTo_at (a b : List Rg) (both : Bool) (n : Nat) : twoTo a b both n n = bitsOf a n := by unfold twoTo; rw [if_neg (by omega)]
theorem twoB_zero {a b : List Rg} {both : Bool} (h1 : okS a = true) (h2 : okS b = true) : twoB a b both 0 = false := by
  unfold twoB
  rw [bitsOf_zero (okS_parts h1).1, bitsOf_zero (okS_parts h2).1]
  cases both <;> rfl
theorem twoV_in {a b : List Rg} {both : Bool} (h1 : okS a = true) (h2 : okS b = true) : twoV a b both = setV (twoB a b both) := if_pos ⟨h1, h2⟩
theorem twoV_no {a b : List Rg} {both : Bool} (h : ¬ (okS a = true ∧ okS b = true)) : twoV a b both = ([], false) := if_neg h
end Plain

set_option maxHeartbeats 4000000 in
set_option maxRecDepth 100000 in
theorem l05Two_any (a b : List Rg) (both : Bool) (va vb : Value) (w : World) (ha : a.length ≤ 1048576) (hb : b.length ≤ 1048576) (h1 : ReadR w va a) (h2 : ReadR w vb b) :
    Calls Tryz.prog 43 #[va, vb, .bool both] w fun e w' => ∃ v', e = .returned (.tuple #[v', .bool (twoV a b both).2]) ∧ OwnR w.heap.size w' v' (twoV a b both).1 ∧ Below w.heap.size w w' := by
  have QA := hide (spec_SetOk_any a va w ha h1)
  have QB := hide (fun q => spec_SetOk_any b vb (w.drewN q) hb (h2.up (below_drewN (Below.refl _ _) q)))
  have R1 := hide h1
  have R2 := hide h2
  clear h1 h2
  cases oa : okS a with
  | false =>
    rw [oa] at QA
    have V := hide (twoV_no (both := both) (show ¬ (okS a = true ∧ okS b = true) by rw [oa]; rintro ⟨h, _⟩; cases h))
    go_enter Tryz.func43, Tryz.ntmps43
    go_wp2_with (go_at_call 22; refine (unhide QA).mono ?_; rintro e w1 ⟨rfl, q1, rfl⟩)
    go_ret2
    refine ⟨_, by rw [unhide V]; rfl, ?_, (below_drewN (Below.refl _ _) q1).alloc (Nat.le_refl _) _⟩
    rw [unhide V]
    exact World.ownsRow_lit _ #[] 0 (Nat.le_refl _) (Nat.zero_le _) rfl
  | true =>
    rw [oa] at QA
    cases ob : okS b with
    | false =>
      rw [ob] at QB
      have V := hide (twoV_no (both := both) (show ¬ (okS a = true ∧ okS b = true) by rw [ob]; rintro ⟨_, h⟩; cases h))
      go_enter Tryz.func43, Tryz.ntmps43
      go_wp2_with fail
      refine (unhide QA).mono ?_
      rintro e w1 ⟨rfl, q1, rfl⟩
      go_wp2_with fail
      refine (unhide QB q1).mono ?_
      rintro e w2 ⟨rfl, q2, rfl⟩
      go_wp2
      go_ret2
      refine ⟨_, by rw [unhide V]; rfl, ?_, (below_drewN (Below.refl _ _) (q1 + q2)).alloc (Nat.le_refl _) _⟩
      rw [unhide V]
      exact World.ownsRow_lit _ #[] 0 (Nat.le_refl _) (Nat.zero_le _) rfl
    | true =>
      rw [ob] at QB
      have V := hide (twoV_in (both := both) oa ob)
      have Z0 := hide (twoB_zero (both := both) oa ob)
      have CA := hide (fun W (hr : ReadR W va a) => l05Bits_any a va W oa hr)
      have CB := hide (fun W (hr : ReadR W vb b) => l05Bits_any b vb W ob hr)
      clear oa ob
      go_enter Tryz.func43, Tryz.ntmps43
      go_wp2_with fail
      refine (unhide QA).mono ?_
      rintro e w1 ⟨rfl, q1, rfl⟩
      go_wp2_with fail
      refine (unhide QB q1).mono ?_
      rintro e w2 ⟨rfl, q2, rfl⟩
      have B2 : Hid (Below w.heap.size w (w.drewN (q1 + q2))) := below_drewN (Below.refl _ _) (q1 + q2)
      go_wp2_with fail
      generalize w.drewN (q1 + q2) = w2 at *
      refine (unhide CA w2 ((unhide R1).up (unhide B2))).mono ?_
      rintro e w3 ⟨g, rfl, o3, hb3⟩
      have B3 := hide ((unhide B2).trans (hb3.mono (unhide B2).size))
      have O3 := hide o3
      have hg3 : g < w3.heap.size := (o3.lt g rfl).2
      have hgw : w.heap.size ≤ g := Nat.le_trans (unhide B2).size (o3.lt g rfl).1
      clear o3 hb3
      go_wp2_with fail
      refine (unhide CB w3 ((unhide R2).up (unhide B3))).mono ?_
      rintro e w4 ⟨g2, rfl, o4, hb4⟩
      have hg4 : w3.heap.size ≤ g2 := (o4.lt g2 rfl).1
      have O4 := hide o4
      have P4 : Hid (w4.ownsRow w.heap.size 4 1 (.slice (some ⟨g, 0, none⟩) 10001 10001) 10001 (bitsRow (bitsOf a))) := g_based (g_stays (unhide O3) hb4) (unhide B2).size
      have B4 := hide ((unhide B3).trans (hb4.mono (unhide B3).size))
      have hgl4 : g2 < w4.heap.size := (o4.lt g2 rfl).2
      have hs4 : w3.heap.size ≤ w4.heap.size := hb4.size
      clear o4 hb4 O3 CA CB QA QB
      go_wp2
      go_loopw [10] (fun n wq => ∃ m : Nat, m ≤ 10001 ∧ n = .int .i64 m ∧ wq.ownsRow w.heap.size 4 1 (.slice (some ⟨g, 0, none⟩) 10001 10001) 10001 (bitsRow (twoTo a b both m)) ∧ wq.ownsRow w3.heap.size 4 1 (.slice (some ⟨g2, 0, none⟩) 10001 10001) 10001 (bitsRow (bitsOf b)) ∧ Below w.heap.size w wq) (fun n _ => 10001 - (intOf n).toNat)
      case atStart => exact ⟨0, Nat.zero_le _, rfl, by rw [twoTo_zero]; exact unhide P4, unhide O4, unhide B4⟩
      case round =>
        obtain ⟨m, hm, rfl, hp, ho, hbq⟩ := hrel
        by_cases hlm : m < 10001
        · have dm : decide ((m : Int) < 10001) = true := by rw [decide_eq_true_eq]; omega
          have c1 : wr.cell? ⟨g, m, none⟩ = some (.bool (bitsOf a m)) := by rw [hp.cellAt m (by omega), bitsRow_get _ hlm, twoTo_at]
          have c2 : wr.cell? ⟨g2, m, none⟩ = some (.bool (bitsOf b m)) := by rw [ho.cellAt m (by omega), bitsRow_get _ hlm]
          have fz := hp.frozenAt m
          have hgg : g ≠ g2 := by omega
          have ST := hide (fun (c : Bool) (hc : c = twoB a b both m) => show (wr.setCell ⟨g, m, none⟩ (.bool c)).ownsRow w.heap.size 4 1 (.slice (some ⟨g, 0, none⟩) 10001 10001) 10001 (bitsRow (twoTo a b both (m + 1))) by
            have := (hp.stored m (.bool c)).1
            rw [bitsRow_set, twoTo_step a b both m c hc] at this
            exact this)
          have SO := hide (fun (c : Bool) => g_aside ho (g_store (j := m) (g_self wr (some g)) (.bool c)) (fun k hk => by cases hk; intro h; exact hgg (Option.some.inj h).symm))
          have SB := hide (fun (c : Bool) => hbq.setCell (p := ⟨g, m, none⟩) hgw (.bool c))
          clear hp ho hbq
          have TW : Hid (∀ c, both = c → twoB a b both m = if c then bitsOf a m && bitsOf b m else bitsOf a m || bitsOf b m) := fun c hc => by subst hc; rfl
          cases both with
          | true =>
            have T := unhide TW true rfl
            cases ha' : bitsOf a m with
            | true =>
              rw [ha'] at c1 T
              have T' := hide (show bitsOf b m = twoB a b true m by rw [T]; rfl)
              clear T
              go_wp2
              go_roundw
              case rel => exact ⟨m + 1, by omega, by go_num, unhide ST _ (unhide T'), unhide SO _, unhide SB _⟩
              case measure => simp [intOf]; omega
            | false =>
              rw [ha'] at c1 T
              have T' := hide (show false = twoB a b true m by rw [T]; rfl)
              clear T
              go_wp2
              go_roundw
              case rel => exact ⟨m + 1, by omega, by go_num, unhide ST _ (unhide T'), unhide SO _, unhide SB _⟩
              case measure => simp [intOf]; omega
          | false =>
            have T := unhide TW false rfl
            cases ha' : bitsOf a m with
            | true =>
              rw [ha'] at c1 T
              have T' := hide (show true = twoB a b false m by rw [T]; rfl)
              clear T
              go_wp2
              go_roundw
              case rel => exact ⟨m + 1, by omega, by go_num, unhide ST _ (unhide T'), unhide SO _, unhide SB _⟩
              case measure => simp [intOf]; omega
            | false =>
              rw [ha'] at c1 T
              have T' := hide (show bitsOf b m = twoB a b false m by rw [T]; rfl)
              clear T
              go_wp2
              go_roundw
              case rel => exact ⟨m + 1, by omega, by go_num, unhide ST _ (unhide T'), unhide SO _, unhide SB _⟩
              case measure => simp [intOf]; omega
        · have hm1 : m = 10001 := by omega
          subst hm1
          rw [twoTo_all] at hp
          have QS := hide (l05Set_any (twoB a b both) (unhide Z0) g w.heap.size _ hp)
          have BQ := hide hbq
          clear hp ho hbq
          go_wp2_with (go_at_call 48; refine (unhide QS).mono ?_; rintro e w5 ⟨v5, rfl, o5, hb5⟩)
          go_ret2
          refine ⟨_, by rw [unhide V]; rfl, ?_, (unhide BQ).trans (hb5.mono (unhide BQ).size)⟩
          rw [unhide V]
          exact g_based o5 (unhide BQ).size

theorem spec_SetJoin_any (a b : List Rg) (va vb : Value) (w : World) (ha : a.length ≤ 1048576) (hb : b.length ≤ 1048576) (h1 : ReadR w va a) (h2 : ReadR w vb b) :
    Calls Tryz.prog 18 #[va, vb] w fun e w' => ∃ v', e = .returned (.tuple #[v', .bool (twoV a b false).2]) ∧ OwnR w.heap.size w' v' (twoV a b false).1 ∧ Below w.heap.size w w' := by
  have Q := hide (l05Two_any a b false va vb w ha hb h1 h2)
  clear h1 h2
  go_enter Tryz.func18, Tryz.ntmps18
  go_wp2_with (go_at_call 43; refine (unhide Q).mono ?_; rintro e w1 ⟨v1, rfl, o1, hb1⟩)
  go_ret2
  exact ⟨v1, rfl, o1, hb1⟩
end Go.Proofs.YtkmphclmealkeaaGreatDoor
