/- FnTwoSets's walk, over whatever contracts of the program's own functions. -/
import Derived.Test.YtkmphclmealkeaaDrawSets
import Derived.Test.YtkmphclmealkeaaSameSet
import Derived.Test.YtkmphclmealkeaaFnSets
namespace Go.Proofs.Ytkmphclmealkeaa
open Go.RowKit
open Plain
set_option linter.unusedVariables false

/-- What is asked of the program's functions on two sets. -/
structure TwoOk (w : World) : Prop where
  join : ∀ (s t : List Rg) (v u : Value) (B C : Nat) (W : World), s.length ≤ 1048576 → t.length ≤ 1048576 → OwnR B W v s → OwnR C W u t → Below w.heap.size w W → Calls Try.prog 16 #[v, u] W fun e w' => ∃ v', e = .returned (.tuple #[v', .bool (twoV s t false).2]) ∧ OwnR W.heap.size w' v' (twoV s t false).1 ∧ Below W.heap.size W w'
  meet : ∀ (s t : List Rg) (v u : Value) (B C : Nat) (W : World), s.length ≤ 1048576 → t.length ≤ 1048576 → OwnR B W v s → OwnR C W u t → Below w.heap.size w W → Calls Try.prog 17 #[v, u] W fun e w' => ∃ v', e = .returned (.tuple #[v', .bool (twoV s t true).2]) ∧ OwnR W.heap.size w' v' (twoV s t true).1 ∧ Below W.heap.size W w'
  has : ∀ (s : List Rg) (n : Int) (v : Value) (B : Nat) (W : World), s.length ≤ 1048576 → OwnR B W v s → Below w.heap.size w W → Calls Try.prog 13 #[v, .int .i64 n] W fun e w' => e = .returned (.bool (hasB s n)) ∧ Below W.heap.size W w'
  ok : ∀ (s : List Rg) (v : Value) (B : Nat) (W : World), s.length ≤ 1048576 → OwnR B W v s → Below w.heap.size w W → Calls Try.prog 14 #[v] W fun e w' => e = .returned (.bool (okS s)) ∧ Below W.heap.size W w'
  size : ∀ (s : List Rg) (v : Value) (B : Nat) (W : World), s.length ≤ 1048576 → OwnR B W v s → Below w.heap.size w W → Calls Try.prog 15 #[v] W fun e w' => e = .returned (.int .i64 (sizeL s)) ∧ Below W.heap.size W w'

/-- Four sets that stay. -/
structure TwoS (w W : World) (v u x y : Value) (s t j m : List Rg) : Prop where
  o1 : OwnR w.heap.size W v s
  o2 : OwnR w.heap.size W u t
  o3 : OwnR w.heap.size W x j
  o4 : OwnR w.heap.size W y m
  below : Below w.heap.size w W
theorem TwoS.up {w W W' : World} {v u x y : Value} {s t j m : List Rg} (h : TwoS w W v u x y s t j m) (hb : Below W.heap.size W W') : TwoS w W' v u x y s t j m :=
  ⟨h.o1.up hb, h.o2.up hb, h.o3.up hb, h.o4.up hb, h.below.trans (hb.mono h.below.size)⟩

set_option maxHeartbeats 8000000 in
set_option maxRecDepth 100000 in
theorem FnTwoSets_walk (len cap : Nat) (a : Option Addr) (w : World) (ha : Arg w.heap.size w a len) (CI : TwoOk w) :
    Calls Try.prog 4 #[.slice a len cap] w fun e w' => e = .returned (.bool true) ∧ Below w.heap.size w w' := by
  have hl := ha.1
  have q0 := bigS_any len cap a w (by omega)
  rw [decide_eq_false (show ¬ (1048576 : Int) < (len : Int) by omega)] at q0
  have Q0 := hide q0
  have D1 := hide (DrawSets_any w.heap.size len cap a w ha (Nat.le_refl _))
  have CC := hide CI
  clear q0 ha CI
  go_enter Try.func4, Try.ntmps4
  go_wp2_with fail
  refine (unhide Q0).mono ?_
  rintro e w0 ⟨rfl, hw⟩
  subst w0
  go_wp2_with fail
  refine (unhide D1).mono ?_
  rintro e w1 ⟨v, u, s, t, rfl, hs1, hs2, ht1, ht2, o1, o2, b1⟩
  have O1 := hide o1
  have O2 := hide o2
  have B1 := hide b1
  clear Q0 D1 o1 o2 b1
  have hr : s.length + t.length ≤ 40 := by omega
  have hr' : t.length + s.length ≤ 40 := by omega
  obtain ⟨j1, j2⟩ := two_room (both := false) hs1 ht1 hr
  obtain ⟨m1, m2⟩ := two_room (both := true) hs1 ht1 hr
  have k1 := (two_room (both := false) ht1 hs1 hr').1
  rw [two_swap t s] at k1
  have SZ := two_size hs1 ht1 hr
  have HJ : Hid (∀ n : Nat, n ≤ 9999 → hasB (setOf (twoB s t false)) (n : Int) = (hasB s (n : Int) || hasB t (n : Int))) := fun n hn => two_has (both := false) hs1 ht1 hn
  have HM : Hid (∀ n : Nat, n ≤ 9999 → hasB (setOf (twoB s t true)) (n : Int) = (hasB s (n : Int) && hasB t (n : Int))) := fun n hn => two_has (both := true) hs1 ht1 hn
  have qj := (unhide CC).join s t v u w.heap.size w.heap.size w1 (by omega) (by omega) (unhide O1) (unhide O2) (unhide B1)
  rw [j1] at qj
  have qm := hide (fun (W : World) h1 h2 h3 => (unhide CC).meet s t v u w.heap.size w.heap.size W (by omega) (by omega) h1 h2 h3)
  rw [m1] at qm
  have qk := hide (fun (W : World) h1 h2 h3 => (unhide CC).join t s u v w.heap.size w.heap.size W (by omega) (by omega) h1 h2 h3)
  rw [k1] at qk
  have zj := size_bound j2
  have zm := size_bound m2
  have zs := size_bound hs1
  have zt := size_bound ht1
  have lj := (okS_two j2).2
  have lm := (okS_two m2).2
  generalize setOf (twoB s t false) = J at *
  generalize setOf (twoB s t true) = M at *
  have QJ := hide qj
  clear qj j1 m1 k1
  go_wp2_with fail
  refine (unhide QJ).mono ?_
  rintro e w3 ⟨vj, rfl, oj, hb3⟩
  have B3 := hide ((unhide B1).trans (hb3.mono (unhide B1).size))
  have P1 := hide ((unhide O1).up hb3)
  have P2 := hide ((unhide O2).up hb3)
  have PJ := hide (g_based oj (unhide B1).size)
  clear oj hb3 B1 O1 O2 QJ
  go_wp2_with fail
  refine (unhide qm w3 (unhide P1) (unhide P2) (unhide B3)).mono ?_
  rintro e w4 ⟨vm, rfl, om, hb4⟩
  have T4 : Hid (TwoS w w4 v u vj vm s t J M) := ⟨(unhide P1).up hb4, (unhide P2).up hb4, OwnR.up (unhide PJ) hb4, g_based om (unhide B3).size, (unhide B3).trans (hb4.mono (unhide B3).size)⟩
  clear om hb4 qm B3 P1 P2 PJ
  go_wp2
  go_loopw [9] (fun n wr => ∃ k : Nat, k ≤ 40 ∧ n = .int .i64 k ∧ TwoS w wr v u vj vm s t J M) (fun n _ => 40 - (intOf n).toNat)
  case atStart => exact ⟨0, Nat.zero_le _, rfl, unhide T4⟩
  case round =>
    obtain ⟨k, hk, rfl, hts⟩ := hrel
    have TT := hide hts
    clear hts
    by_cases hlt : k < 40
    · have dk : decide ((k : Int) < 40) = true := by rw [decide_eq_true_eq]; omega
      have hJ := unhide HJ k (by omega)
      have hM := unhide HM k (by omega)
      go_wp2_with fail
      refine (spec_SetHas_any s (k : Int) v wr (by omega) (unhide TT).o1.read).mono ?_
      rintro e wz ⟨rfl, hwz⟩
      subst wz
      go_wp2_with fail
      refine (spec_SetHas_any t (k : Int) u wr (by omega) (unhide TT).o2.read).mono ?_
      rintro e wz ⟨rfl, hwz⟩
      subst wz
      have qJ := (unhide CC).has J (k : Int) vj w.heap.size wr (by omega) (unhide TT).o3 (unhide TT).below
      have qM := hide (fun (W : World) h1 h2 => (unhide CC).has M (k : Int) vm w.heap.size W (by omega) h1 h2)
      rw [hJ] at qJ
      rw [hM] at qM
      have QJ := hide qJ
      clear qJ hJ hM
      generalize hasB s (k : Int) = x at *
      generalize hasB t (k : Int) = y at *
      cases x <;> cases y
      all_goals
        go_wp2_with fail
        refine (unhide QJ).mono ?_
        rintro e w5 ⟨rfl, hb5⟩
        have T5 := hide ((unhide TT).up hb5)
        clear hb5 TT QJ
        go_wp2_with fail
        refine (unhide qM w5 (unhide T5).o4 (unhide T5).below).mono ?_
        rintro e w6 ⟨rfl, hb6⟩
        have T6 := hide ((unhide T5).up hb6)
        clear hb6 T5 qM
        go_wp2
        go_roundw
        case rel => exact ⟨k + 1, by omega, by go_num, unhide T6⟩
        case measure => simp [intOf]; omega
    · have dk : decide ((k : Int) < 40) = false := by rw [decide_eq_false_iff_not]; omega
      clear HJ HM
      go_wp2_with fail
      refine (unhide qk wr (unhide TT).o2 (unhide TT).o1 (unhide TT).below).mono ?_
      rintro e w5 ⟨vk, rfl, ok5, hb5⟩
      have T5 := hide ((unhide TT).up hb5)
      have OK5 := hide ok5
      clear hb5 TT ok5 qk
      go_wp2_with fail
      refine (sameSet_same J vj vk w5 (by omega) (unhide T5).o3.read (OwnR.read (unhide OK5))).mono ?_
      rintro e w6 ⟨rfl, q, rfl⟩
      have T6 := hide ((unhide T5).up (below_drewN (Below.refl _ _) q))
      clear T5
      go_wp2_with fail
      refine ((unhide CC).size J vj w.heap.size _ (by omega) (unhide T6).o3 (unhide T6).below).mono ?_
      rintro e w7 ⟨rfl, hb7⟩
      have T7 := hide ((unhide T6).up hb7)
      clear hb7 T6
      go_wp2_with fail
      refine ((unhide CC).size M vm w.heap.size w7 (by omega) (unhide T7).o4 (unhide T7).below).mono ?_
      rintro e w8 ⟨rfl, hb8⟩
      have T8 := hide ((unhide T7).up hb8)
      clear hb8 T7
      go_wp2_with fail
      refine ((unhide CC).size s v w.heap.size w8 (by omega) (unhide T8).o1 (unhide T8).below).mono ?_
      rintro e w9 ⟨rfl, hb9⟩
      have T9 := hide ((unhide T8).up hb9)
      clear hb9 T8
      go_wp2_with fail
      refine ((unhide CC).size t u w.heap.size w9 (by omega) (unhide T9).o2 (unhide T9).below).mono ?_
      rintro e wa ⟨rfl, hba⟩
      have TA := hide ((unhide T9).up hba)
      clear hba T9
      have hdec : (sizeL J + sizeL M == sizeL s + sizeL t) = true := by rw [SZ]; exact beq_self_eq_true _
      go_wp2_with fail
      refine ((unhide CC).ok J vj w.heap.size wa (by omega) (unhide TA).o3 (unhide TA).below).mono ?_
      rintro e wb ⟨rfl, hbb⟩
      have TB := hide ((unhide TA).up hbb)
      rw [j2]
      clear hbb TA
      go_wp2
      go_ret
      exact ⟨rfl, (unhide TB).below⟩
end Go.Proofs.Ytkmphclmealkeaa
