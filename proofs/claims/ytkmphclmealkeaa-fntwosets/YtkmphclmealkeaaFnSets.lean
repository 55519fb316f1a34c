/- FnSets's walk, over whatever contracts of the program's own functions. -/
import Derived.Test.YtkmphclmealkeaaDrawSets
import Derived.Test.YtkmphclmealkeaaDrawPlaces
import Derived.Test.YtkmphclmealkeaaSameSet
namespace Go.Proofs.Ytkmphclmealkeaa
open Go.RowKit
open Plain
set_option linter.unusedVariables false

namespace Plain
theorem size_bound {s : List Rg} (h : okS s = true) : 0 ≤ sizeL s ∧ sizeL s ≤ 400000 := by
  have := sizeTo_bound (okS_parts h).1 s.length (Nat.le_refl _)
  rw [sizeTo_all h] at this
  have h2 := (okS_parts h).2
  omega
end Plain

/-- What is asked of the program's functions on sets. -/
structure SetsOk (w : World) : Prop where
  add : ∀ (s : List Rg) (lo hi : Int) (v : Value) (B : Nat) (W : World), s.length ≤ 1048576 → (-9223372036854775808 ≤ lo ∧ lo ≤ 9223372036854775807) → (-9223372036854775808 ≤ hi ∧ hi ≤ 9223372036854775807) → OwnR B W v s → Below w.heap.size w W → Calls Try.prog 10 #[v, .int .i64 lo, .int .i64 hi] W fun e w' => ∃ v', e = .returned (.tuple #[v', .bool (putV s lo hi true).2]) ∧ OwnR W.heap.size w' v' (putV s lo hi true).1 ∧ Below W.heap.size W w'
  drop : ∀ (s : List Rg) (lo hi : Int) (v : Value) (B : Nat) (W : World), s.length ≤ 1048576 → (-9223372036854775808 ≤ lo ∧ lo ≤ 9223372036854775807) → (-9223372036854775808 ≤ hi ∧ hi ≤ 9223372036854775807) → OwnR B W v s → Below w.heap.size w W → Calls Try.prog 11 #[v, .int .i64 lo, .int .i64 hi] W fun e w' => ∃ v', e = .returned (.tuple #[v', .bool (putV s lo hi false).2]) ∧ OwnR W.heap.size w' v' (putV s lo hi false).1 ∧ Below W.heap.size W w'
  has : ∀ (s : List Rg) (n : Int) (v : Value) (B : Nat) (W : World), s.length ≤ 1048576 → OwnR B W v s → Below w.heap.size w W → Calls Try.prog 13 #[v, .int .i64 n] W fun e w' => e = .returned (.bool (hasB s n)) ∧ Below W.heap.size W w'
  ok : ∀ (s : List Rg) (v : Value) (B : Nat) (W : World), s.length ≤ 1048576 → OwnR B W v s → Below w.heap.size w W → Calls Try.prog 14 #[v] W fun e w' => e = .returned (.bool (okS s)) ∧ Below W.heap.size W w'
  size : ∀ (s : List Rg) (v : Value) (B : Nat) (W : World), s.length ≤ 1048576 → OwnR B W v s → Below w.heap.size w W → Calls Try.prog 15 #[v] W fun e w' => e = .returned (.int .i64 (sizeL s)) ∧ Below W.heap.size W w'

/-- Three sets that stay. -/
structure TS (w W : World) (v x y : Value) (s a d : List Rg) : Prop where
  o1 : OwnR w.heap.size W v s
  o2 : OwnR w.heap.size W x a
  o3 : OwnR w.heap.size W y d
  below : Below w.heap.size w W
theorem TS.up {w W W' : World} {v x y : Value} {s a d : List Rg} (h : TS w W v x y s a d) (hb : Below W.heap.size W W') : TS w W' v x y s a d :=
  ⟨h.o1.up hb, h.o2.up hb, h.o3.up hb, h.below.trans (hb.mono h.below.size)⟩

set_option maxHeartbeats 8000000 in
set_option maxRecDepth 100000 in
theorem FnSets_walk (len cap : Nat) (a : Option Addr) (w : World) (ha : Arg w.heap.size w a len) (CI : SetsOk w) :
    Calls Try.prog 3 #[.slice a len cap] w fun e w' => e = .returned (.bool true) ∧ Below w.heap.size w w' := by
  have hl := ha.1
  have q0 := bigS_any len cap a w (by omega)
  rw [decide_eq_false (show ¬ (1048576 : Int) < (len : Int) by omega)] at q0
  have Q0 := hide q0
  have D1 := hide (DrawSets_any w.heap.size len cap a w ha (Nat.le_refl _))
  have D2 := hide (fun W (hb : Below w.heap.size w W) => DrawPlaces_any w.heap.size len cap a W (ha.below hb) hb.size)
  have CC := hide CI
  clear q0 ha CI
  go_enter Try.func3, Try.ntmps3
  go_wp2_with fail
  refine (unhide Q0).mono ?_
  rintro e w0 ⟨rfl, hw⟩
  subst w0
  go_wp2_with fail
  refine (unhide D1).mono ?_
  rintro e w1 ⟨v, u, s, t, rfl, hs1, hs2, _, _, o1, _, b1⟩
  have O1 := hide o1
  have B1 := hide b1
  clear Q0 D1 o1 b1
  go_wp2_with fail
  refine (unhide D2 w1 (unhide B1)).mono ?_
  rintro e w2 ⟨vp, lp, hlp, hall, rfl, ownP, hb2⟩
  obtain ⟨gp, cp, rfl⟩ : ∃ gp cp, vp = .slice (some ⟨gp, 0, none⟩) 12 cp := by
    rcases ownP.2 with ⟨_, h⟩ | ⟨g, c, cur, h, _⟩
    · cases h
    · exact ⟨g, c, h⟩
  obtain ⟨p0, p1, hp0, hp1, c0, c1⟩ : ∃ p0 p1 : Nat, p0 < 10000 ∧ p1 < 10000 ∧ w2.cell? ⟨gp, 0, none⟩ = some (.int .i64 (p0 : Int)) ∧ w2.cell? ⟨gp, 1, none⟩ = some (.int .i64 (p1 : Int)) := by
    refine ⟨lp[0], lp[1], hall _ (List.getElem_mem _), hall _ (List.getElem_mem _), ?_, ?_⟩
    · rw [ownP.cellAt 0 (by decide)]; unfold iv; rw [List.getElem?_map, List.getElem?_eq_getElem (by omega)]; rfl
    · rw [ownP.cellAt 1 (by decide)]; unfold iv; rw [List.getElem?_map, List.getElem?_eq_getElem (by omega)]; rfl
  have B2 := hide ((unhide B1).trans (hb2.mono (unhide B1).size))
  have O2 := hide ((unhide O1).up hb2)
  clear O1 B1 D2 ownP hall hlp hb2
  obtain ⟨x0, hx0⟩ : ∃ x, x = p0 % 20 := ⟨_, rfl⟩
  obtain ⟨x1, hx1⟩ : ∃ x, x = p1 % 5 := ⟨_, rfl⟩
  have e0 : (p0 : Int) % 20 = (x0 : Int) := by rw [hx0]; omega
  have e1 : (p1 : Int) % 5 = (x1 : Int) := by rw [hx1]; omega
  have hx0' : x0 < 20 := by omega
  have hx1' : x1 < 5 := by omega
  clear hx0 hx1 hp0 hp1
  go_wp2_with fail
  rw [e0, e1]
  clear e0 e1 c0 c1
  obtain ⟨lo, hlo⟩ : ∃ z : Int, z = 1 + (x0 : Int) := ⟨_, rfl⟩
  obtain ⟨hi, hhi⟩ : ∃ z : Int, z = 1 + (x0 : Int) + (x1 : Int) := ⟨_, rfl⟩
  rw [← hhi, ← hlo]
  have g1 : 1 ≤ lo := by omega
  have g2 : lo ≤ hi := by omega
  have g3 : hi ≤ 24 := by omega
  clear hlo hhi hx0' hx1'
  obtain ⟨a1, a2, a3⟩ := put_room (c := true) hs1 (show s.length ≤ 39 by omega) g1 g2 (by omega)
  obtain ⟨d1, d2, d3⟩ := put_room (c := false) hs1 (show s.length ≤ 39 by omega) g1 g2 (by omega)
  have SZ := put_size hs1 (show s.length ≤ 39 by omega) g1 g2 (by omega)
  have HA : Hid (∀ n : Nat, n ≤ 9999 → hasB (setOf (putB s lo hi true)) (n : Int) = if lo ≤ (n : Int) ∧ (n : Int) ≤ hi then true else hasB s (n : Int)) := fun n hn => put_has (s := s) (lo := lo) (hi := hi) (c := true) hs1 g1 hn
  have HD : Hid (∀ n : Nat, n ≤ 9999 → hasB (setOf (putB s lo hi false)) (n : Int) = if lo ≤ (n : Int) ∧ (n : Int) ≤ hi then false else hasB s (n : Int)) := fun n hn => put_has (s := s) (lo := lo) (hi := hi) (c := false) hs1 g1 hn
  have qa := (unhide CC).add s lo hi v w.heap.size w2 (by omega) ⟨by omega, by omega⟩ ⟨by omega, by omega⟩ (unhide O2 |> fun h => g_based h (Nat.le_refl _)) (unhide B2)
  rw [a1] at qa
  have qd := hide (fun (W : World) h1 h2 => (unhide CC).drop s lo hi v w.heap.size W (by omega) ⟨by omega, by omega⟩ ⟨by omega, by omega⟩ h1 h2)
  rw [d1] at qd
  have zb := size_bound a2
  have zd := size_bound d2
  generalize setOf (putB s lo hi true) = A at *
  generalize setOf (putB s lo hi false) = D at *
  have QA := hide qa
  clear qa a1 d1
  refine (unhide QA).mono ?_
  rintro e w3 ⟨va, rfl, oa, hb3⟩
  have B3 := hide ((unhide B2).trans (hb3.mono (unhide B2).size))
  have O3 := hide ((unhide O2).up hb3)
  have OA := hide (g_based oa (unhide B2).size)
  clear oa hb3 B2 O2 QA
  go_wp2_with fail
  refine (unhide qd w3 (unhide O3) (unhide B3)).mono ?_
  rintro e w4 ⟨vd, rfl, od, hb4⟩
  have T4 : Hid (TS w w4 v va vd s A D) := ⟨(unhide O3).up hb4, OwnR.up (unhide OA) hb4, g_based od (unhide B3).size, (unhide B3).trans (hb4.mono (unhide B3).size)⟩
  clear od hb4 qd B3 O3 OA
  go_wp2
  go_loopw [12] (fun n wr => ∃ k : Nat, k ≤ 40 ∧ n = .int .i64 k ∧ TS w wr v va vd s A D) (fun n _ => 40 - (intOf n).toNat)
  case atStart => exact ⟨0, Nat.zero_le _, rfl, unhide T4⟩
  case round =>
    obtain ⟨k, hk, rfl, hts⟩ := hrel
    have TT := hide hts
    clear hts
    by_cases hlt : k < 40
    · have dk : decide ((k : Int) < 40) = true := by rw [decide_eq_true_eq]; omega
      have hA := unhide HA k (by omega)
      have hD := unhide HD k (by omega)
      go_wp2_with fail
      refine (spec_SetHas_any s (k : Int) v wr (by omega) (unhide TT).o1.read).mono ?_
      rintro e wz ⟨rfl, hwz⟩
      subst wz
      have qA := (unhide CC).has A (k : Int) va w.heap.size wr (by omega) (unhide TT).o2 (unhide TT).below
      have qD := hide (fun (W : World) h1 h2 => (unhide CC).has D (k : Int) vd w.heap.size W (by omega) h1 h2)
      rw [hA] at qA
      rw [hD] at qD
      have QA := hide qA
      clear qA hA hD
      generalize hasB s (k : Int) = was at *
      by_cases hin : lo ≤ (k : Int) ∧ (k : Int) ≤ hi
      · rw [if_pos hin] at QA qD
        have t1 : decide ((k : Int) < lo) = false := by rw [decide_eq_false_iff_not]; omega
        have t2 : decide (hi < (k : Int)) = false := by rw [decide_eq_false_iff_not]; omega
        cases was
        all_goals
          go_wp2_with fail
          refine (unhide QA).mono ?_
          rintro e w5 ⟨rfl, hb5⟩
          have T5 := hide ((unhide TT).up hb5)
          clear hb5 TT QA
          go_wp2_with fail
          refine (unhide qD w5 (unhide T5).o3 (unhide T5).below).mono ?_
          rintro e w6 ⟨rfl, hb6⟩
          have T6 := hide ((unhide T5).up hb6)
          clear hb6 T5 qD
          go_wp2
          go_roundw
          case rel => exact ⟨k + 1, by omega, by go_num, unhide T6⟩
          case measure => simp [intOf]; omega
      · rw [if_neg hin] at QA qD
        by_cases hlo : (k : Int) < lo
        · have t1 : decide ((k : Int) < lo) = true := by rw [decide_eq_true_eq]; omega
          cases was
          all_goals
            go_wp2_with fail
            refine (unhide QA).mono ?_
            rintro e w5 ⟨rfl, hb5⟩
            have T5 := hide ((unhide TT).up hb5)
            clear hb5 TT QA
            go_wp2_with fail
            refine (unhide qD w5 (unhide T5).o3 (unhide T5).below).mono ?_
            rintro e w6 ⟨rfl, hb6⟩
            have T6 := hide ((unhide T5).up hb6)
            clear hb6 T5 qD
            go_wp2
            go_roundw
            case rel => exact ⟨k + 1, by omega, by go_num, unhide T6⟩
            case measure => simp [intOf]; omega
        · have t1 : decide ((k : Int) < lo) = false := by rw [decide_eq_false_iff_not]; omega
          have t2 : decide (hi < (k : Int)) = true := by rw [decide_eq_true_eq]; omega
          cases was
          all_goals
            go_wp2_with fail
            refine (unhide QA).mono ?_
            rintro e w5 ⟨rfl, hb5⟩
            have T5 := hide ((unhide TT).up hb5)
            clear hb5 TT QA
            go_wp2_with fail
            refine (unhide qD w5 (unhide T5).o3 (unhide T5).below).mono ?_
            rintro e w6 ⟨rfl, hb6⟩
            have T6 := hide ((unhide T5).up hb6)
            clear hb6 T5 qD
            go_wp2
            go_roundw
            case rel => exact ⟨k + 1, by omega, by go_num, unhide T6⟩
            case measure => simp [intOf]; omega
    · have dk : decide ((k : Int) < 40) = false := by rw [decide_eq_false_iff_not]; omega
      clear HA HD
      go_wp2_with fail
      refine ((unhide CC).ok A va w.heap.size wr (by omega) (unhide TT).o2 (unhide TT).below).mono ?_
      rintro e w5 ⟨rfl, hb5⟩
      have T5 := hide ((unhide TT).up hb5)
      rw [a2]
      clear hb5 TT
      go_wp2_with fail
      refine ((unhide CC).ok D vd w.heap.size w5 (by omega) (unhide T5).o3 (unhide T5).below).mono ?_
      rintro e w6 ⟨rfl, hb6⟩
      have T6 := hide ((unhide T5).up hb6)
      rw [d2]
      clear hb6 T5
      go_wp2_with fail
      refine ((unhide CC).size A va w.heap.size w6 (by omega) (unhide T6).o2 (unhide T6).below).mono ?_
      rintro e w7 ⟨rfl, hb7⟩
      have T7 := hide ((unhide T6).up hb7)
      clear hb7 T6
      go_wp2_with fail
      refine ((unhide CC).size D vd w.heap.size w7 (by omega) (unhide T7).o3 (unhide T7).below).mono ?_
      rintro e w8 ⟨rfl, hb8⟩
      have T8 := hide ((unhide T7).up hb8)
      clear hb8 T7
      have hdec : (sizeL A - sizeL D == hi - lo + 1) = true := by rw [SZ]; exact beq_self_eq_true _
      go_wp2
      go_ret
      exact ⟨rfl, (unhide T8).below⟩
end Go.Proofs.Ytkmphclmealkeaa
