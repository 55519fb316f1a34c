/- Numbers put into a set, or taken out of it: the specification's l05Put, SetAdd, SetDrop. -/
import Derived.Test.YtkjlponggednoacSetRuns
import Derived.Deep.AppendSrc
namespace Go.Proofs.Ytkjlponggednoac
open Go.RowKit
open Plain
set_option linter.unusedVariables false

/-- An append whose run is known. -/
theorem g_append_run {P : Program} {ops : Array Oper} {rest : List Oper} {o : Oper} {a : Act} {w w' : World} {Q : Exit → Act → World → Prop} (hgd : o.guard = none) (s x : Operand) (t : TypeId)
    (ho : o.op = .call { callee := .builtin .append, args := #[s, x], argTypes := #[t, t] }) (v1 v2 v' : Value) (hs : a.eval s = v1) (hx : a.eval x = v2)
    (hr : (Builtin.append_ #[t, t] o.type #[v1, v2]).run P w = .ok v' w') (h : wpList P ops Q rest (a.put o.dst v') w') : wpList P ops Q (o :: rest) a w := by
  refine wpList_plain hgd fun K hK => ?_
  unfold Oper.wp execOp
  simp only [ho, resolve, invoke, builtin, Sem.run_bind, Sem.run_pure, Result.andThen_ok, List.map_toArray, List.map_cons, List.map_nil, hs, hx, hr]
  exact hK _ _ h
/-- A row of ranges behind an empty row of one's own. -/
theorem append_ranges (l : List Rg) (v : Value) (B base b : Nat) (w : World) (hs : l.length ≤ 1048576) (h : OwnR B w v l) (hb : w.heap[b]? = some (.cells #[] 63 (0, 0))) (hB : base ≤ b) :
    ∃ v' w', (Builtin.append_ #[38, 38] 38 #[.slice (some ⟨b, 0, none⟩) 0 0, v]).run Try.prog w = .ok v' w' ∧ OwnR base w' v' l ∧ w.grownBy w' (some b) := by
  obtain ⟨i0, hi, hz0, hz1, hz2⟩ := info_parts Try.infoRange
  have hown : w.ownsRow base 63 2 (.slice (some ⟨b, 0, none⟩) 0 0) 0 [] := ⟨rfl, .inr ⟨b, 0, #[], rfl, hB, hb, Nat.le_refl _, Nat.zero_le _, rfl, rfl⟩⟩
  have hbl : b < w.heap.size := (Array.getElem?_eq_some_iff.1 hb).1
  unfold OwnR at h
  rcases h.2 with ⟨rfl, h0⟩ | ⟨g, c, cur, rfl, _, hg, hlc, hcm, hcs, hct⟩
  · have e : l = [] := List.eq_nil_of_length_eq_zero h0
    subst e
    refine ⟨.slice (some ⟨b, 0, none⟩) 0 0, w, ?_, hown, ⟨rfl, rfl, rfl, Nat.le_refl _, fun _ _ _ => rfl⟩⟩
    have := run_append_room_src w 38 38 38 63 i0 Try.underlying38 hi b 0 0 0 (.slice none 0 0) 0 [] (Src.ofNil w Try.underlying38 0) (by omega) (fun j hj => by simp at hj) (fun j hj => by simp at hj)
    simpa [World.setCells] using this
  · have hcell : ∀ j u, (rgs l)[j]? = some u → w.cell? ((⟨g, 0, none⟩ : Addr).add j) = some u := fun j u hu => by
      have hj : j < l.length * 2 := by
        have := (List.getElem?_eq_some_iff.1 hu).1
        rwa [rgs_length] at this
      have hadd : (⟨g, 0, none⟩ : Addr).add j = ⟨g, j, none⟩ := by unfold Addr.add; split <;> simp_all
      rw [hadd, h.cellAt j (by simpa using hj), hu]
    have hone : ∀ u ∈ rgs l, u.oneCell' = true := fun u hu => by
      unfold rgs at hu
      obtain ⟨r, _, hr⟩ := List.mem_flatMap.1 hu
      simp [rgl] at hr
      rcases hr with rfl | rfl <;> rfl
    obtain ⟨v', w', hr, ho, hgr, _⟩ := run_append_own (P := Try.prog) w base 38 38 63 i0 _ 2 16 Try.underlying38 hi hz0 hz1 hz2 rfl (by decide) (.slice (some ⟨b, 0, none⟩) 0 0) 0 [] hown ⟨g, 0, none⟩ l.length c (rgs l) (rgs_length l) hcell hone (by unfold maxLen; omega) (by omega) (by omega)
    refine ⟨v', w', hr, ?_, hgr⟩
    unfold OwnR
    simpa using ho

namespace Plain
def putTo (s : List Rg) (lo n : Int) (c : Bool) (i : Nat) : Bool := if lo ≤ (i : Int) ∧ (i : Int) < n then c else bitsOf s i
theorem putTo_start (s : List Rg) (lo : Int) (c : Bool) : putTo s lo lo c = bitsOf s := by
  funext i; unfold putTo; rw [if_neg (by omega)]
theorem putTo_step (s : List Rg) (lo : Int) (c : Bool) (n : Nat) (h : lo ≤ (n : Int)) : setBit (putTo s lo n c) n c = putTo s lo ((n : Int) + 1) c := by
  funext i
  unfold setBit putTo
  by_cases e : i = n
  · subst e; rw [if_pos rfl, if_pos (by omega)]
  · rw [if_neg e]
    by_cases h2 : lo ≤ (i : Int) ∧ (i : Int) < n
    · rw [if_pos h2, if_pos (by omega)]
    · rw [if_neg h2, if_neg (by omega)]
theorem putTo_end (s : List Rg) (lo hi : Int) (c : Bool) : putTo s lo (hi + 1) c = putB s lo hi c := by
  funext i
  unfold putTo putB
  by_cases h : lo ≤ (i : Int) ∧ (i : Int) ≤ hi
  · rw [if_pos h, if_pos (by omega)]
  · rw [if_neg h, if_neg (by omega)]
theorem putB_zero {s : List Rg} {lo hi : Int} {c : Bool} {p : Int} (h : okFrom p s = true) (h1 : 1 ≤ lo) : putB s lo hi c 0 = false := by
  unfold putB; rw [if_neg (by simp; omega)]; exact bitsOf_zero h
theorem putV_no {s : List Rg} {lo hi : Int} {c : Bool} (h : ¬ (okS s = true ∧ 1 ≤ lo ∧ lo ≤ hi ∧ hi ≤ 9999)) : putV s lo hi c = (s, false) := if_neg h
theorem putV_in {s : List Rg} {lo hi : Int} {c : Bool} (h : okS s = true ∧ 1 ≤ lo ∧ lo ≤ hi ∧ hi ≤ 9999) : putV s lo hi c = if (setOf (putB s lo hi c)).length ≤ 40 then (setOf (putB s lo hi c), true) else (s, false) := if_pos h
end Plain

set_option maxHeartbeats 4000000 in
set_option maxRecDepth 100000 in
theorem l05Put_any (s : List Rg) (lo hi : Int) (c : Bool) (v : Value) (B : Nat) (w : World) (hs : s.length ≤ 1048576) (h : OwnR B w v s) :
    Calls Try.prog 54 #[v, .int .i64 lo, .int .i64 hi, .bool c] w fun e w' => ∃ v', e = .returned (.tuple #[v', .bool (putV s lo hi c).2]) ∧ OwnR w.heap.size w' v' (putV s lo hi c).1 ∧ Below w.heap.size w w' := by
  have hx0 : (w.alloc (.cells #[] 63)).heap[w.heap.size]? = some (.cells #[] 63 (0, 0)) := heap_alloc_new _ _
  have hb0 := (Below.refl w.heap.size w).alloc (Nat.le_refl _) (.cells #[] 63)
  have hsz0 : (w.alloc (.cells #[] 63)).heap.size = w.heap.size + 1 := by simp
  obtain ⟨v1, w1, hrun, own1, hg1⟩ := append_ranges s v B w.heap.size w.heap.size _ hs (h.up hb0) hx0 (Nat.le_refl _)
  have hb1 : Below w.heap.size w w1 := hb0.grown hg1 (by omega) (fun k e => by have := Option.some.inj e; omega)
  obtain ⟨xa, xc, rfl⟩ := g_shape own1
  have rd := h.read.up hb1
  obtain ⟨ya, yc, rfl⟩ := g_shape h
  have q0 := spec_SetOk_any s _ w1 hs rd
  have Q0 := hide q0
  have OW := hide own1
  have B1 := hide hb1
  have RD := hide rd
  clear h hx0 hb0 hsz0 own1 hg1 hb1 q0 rd
  by_cases hin : okS s = true ∧ 1 ≤ lo ∧ lo ≤ hi ∧ hi ≤ 9999
  · have V := hide (putV_in (c := c) hin)
    obtain ⟨hok, h1, h2, h3⟩ := hin
    rw [hok] at Q0
    have L : Hid (∀ W, Calls Try.prog 38 #[.int .i64 lo, .int .i64 1, .int .i64 hi] W fun e w' => e = .returned (.bool true) ∧ w' = W) := fun W => by
      have := l01In_is lo 1 hi W
      rw [decide_eq_true h1, decide_eq_true h2] at this
      exact this
    have d9 : decide ((9999 : Int) < hi) = false := by rw [decide_eq_false_iff_not]; omega
    have QB := hide (fun W (hr : ReadR W (.slice ya s.length yc) s) => l05Bits_any s _ W hok hr)
    have Z0 := hide (putB_zero (hi := hi) (c := c) (okS_parts hok).1 h1)
    clear hok
    go_enter Try.func54, Try.ntmps54
    go_wp2_with (first
      | (at_builtin; refine g_append_run rfl _ _ 38 rfl _ _ _ rfl rfl hrun ?_)
      | (go_at_call 63; refine (unhide Q0).mono ?_; rintro e w2 ⟨rfl, q1, rfl⟩)
      | (go_at_call 38; refine (unhide L _).mono ?_; rintro e w3 ⟨rfl, hw3⟩; subst hw3))
    clear hrun
    refine (unhide QB _ ((unhide RD).up (below_drewN (Below.refl _ _) q1))).mono ?_
    rintro e w4 ⟨g, rfl, ob, hb4⟩
    have hg : w1.heap.size ≤ g := (ob.lt g rfl).1
    obtain ⟨ln, rfl⟩ : ∃ ln : Nat, lo = (ln : Int) := ⟨lo.toNat, by omega⟩
    have OB := hide ob
    have B4 : Hid (Below w1.heap.size w1 w4) := (below_drewN (Below.refl _ _) q1).trans hb4
    clear QB ob hb4 RD
    go_wp2
    go_loopw [12] (fun n wq => ∃ m : Nat, (ln : Int) ≤ m ∧ (m : Int) ≤ hi + 1 ∧ n = .int .i64 m ∧ wq.ownsRow w1.heap.size 4 1 (.slice (some ⟨g, 0, none⟩) 10001 10001) 10001 (bitsRow (putTo s ln m c)) ∧ Below w1.heap.size w1 wq) (fun n _ => (hi + 1).toNat - (intOf n).toNat)
    case atStart => exact ⟨ln, Int.le_refl _, by omega, rfl, by rw [putTo_start]; exact unhide OB, unhide B4⟩
    case round =>
      obtain ⟨m, hm1, hm2, rfl, hownq, hbq⟩ := hrel
      by_cases hlm : (m : Int) ≤ hi
      · have dm : decide ((m : Int) ≤ hi) = true := by simpa using hlm
        obtain ⟨y, hy⟩ := g_some hownq (j := m) (by omega)
        have fz := hownq.frozenAt m
        have st := (hownq.stored m (.bool c)).1
        rw [bitsRow_set, putTo_step s ln c m hm1] at st
        have ST := hide st
        have BQ := hide (hbq.setCell (p := ⟨g, m, none⟩) hg (.bool c))
        clear hownq hbq st
        go_wp2
        go_roundw
        case rel => exact ⟨m + 1, by omega, by omega, by go_num, unhide ST, unhide BQ⟩
        case measure => simp [intOf]; omega
      · have dm : decide ((m : Int) ≤ hi) = false := by simpa using hlm
        have e : (m : Int) = hi + 1 := by omega
        rw [e, putTo_end] at hownq
        have QS := hide (l05Set_any (putB s ln hi c) (unhide Z0) g w1.heap.size _ hownq)
        have BQ := hide hbq
        clear hownq hbq e
        generalize hf : putB s ln hi c = f at *
        by_cases h40 : (setOf f).length ≤ 40
        · have V1 := hide (setV_1 h40)
          rw [if_pos h40] at V
          rw [unhide V1] at QS
          go_wp2_with (go_at_call 65; refine (unhide QS).mono ?_; rintro e w5 ⟨v5, rfl, o5, hb5⟩)
          go_ret2
          have hbF := (unhide B1).trans (((unhide BQ).trans (hb5.mono (unhide BQ).size)).mono (unhide B1).size)
          refine ⟨_, by rw [unhide V]; rfl, ?_, hbF⟩
          rw [unhide V]
          exact g_based o5 (Nat.le_trans (unhide B1).size (unhide BQ).size)
        · have V1 := hide (setV_0 h40)
          rw [if_neg h40] at V
          rw [unhide V1] at QS
          go_wp2_with (go_at_call 65; refine (unhide QS).mono ?_; rintro e w5 ⟨v5, rfl, o5, hb5⟩)
          go_ret2
          have hb15 := (unhide BQ).trans (hb5.mono (unhide BQ).size)
          refine ⟨_, by rw [unhide V]; rfl, ?_, (unhide B1).trans (hb15.mono (unhide B1).size)⟩
          rw [unhide V]
          exact g_stays (unhide OW) hb15
  · have V := hide (putV_no (c := c) hin)
    cases hok : okS s with
    | false =>
      rw [hok] at Q0
      go_enter Try.func54, Try.ntmps54
      go_wp2_with (first
        | (at_builtin; refine g_append_run rfl _ _ 38 rfl _ _ _ rfl rfl hrun ?_)
        | (go_at_call 63; refine (unhide Q0).mono ?_; rintro e w2 ⟨rfl, q1, rfl⟩))
      go_ret2
      refine ⟨_, by rw [unhide V]; rfl, ?_, below_drewN (unhide B1) q1⟩
      rw [unhide V]
      exact unhide OW
    | true =>
      rw [hok] at Q0
      by_cases hA : 1 ≤ lo ∧ lo ≤ hi
      · have L : Hid (∀ W, Calls Try.prog 38 #[.int .i64 lo, .int .i64 1, .int .i64 hi] W fun e w' => e = .returned (.bool true) ∧ w' = W) := fun W => by
          have := l01In_is lo 1 hi W
          rw [decide_eq_true hA.1, decide_eq_true hA.2] at this
          exact this
        have d9 : decide ((9999 : Int) < hi) = true := by
          rw [decide_eq_true_eq]
          by_cases h9 : 9999 < hi
          · exact h9
          · exact absurd ⟨hok, hA.1, hA.2, by omega⟩ hin
        clear hin hok
        go_enter Try.func54, Try.ntmps54
        go_wp2_with (first
          | (at_builtin; refine g_append_run rfl _ _ 38 rfl _ _ _ rfl rfl hrun ?_)
          | (go_at_call 63; refine (unhide Q0).mono ?_; rintro e w2 ⟨rfl, q1, rfl⟩)
          | (go_at_call 38; refine (unhide L _).mono ?_; rintro e w3 ⟨rfl, hw3⟩; subst hw3))
        go_ret2
        refine ⟨_, by rw [unhide V]; rfl, ?_, below_drewN (unhide B1) q1⟩
        rw [unhide V]
        exact unhide OW
      · have L : Hid (∀ W, Calls Try.prog 38 #[.int .i64 lo, .int .i64 1, .int .i64 hi] W fun e w' => e = .returned (.bool false) ∧ w' = W) := fun W => by
          have := l01In_is lo 1 hi W
          have e : (decide ((1 : Int) ≤ lo) && decide (lo ≤ hi)) = false := by
            rw [Bool.and_eq_false_iff]
            by_cases h : 1 ≤ lo
            · right; simp; omega
            · left; simp; omega
          rw [e] at this
          exact this
        clear hin hok
        go_enter Try.func54, Try.ntmps54
        go_wp2_with (first
          | (at_builtin; refine g_append_run rfl _ _ 38 rfl _ _ _ rfl rfl hrun ?_)
          | (go_at_call 63; refine (unhide Q0).mono ?_; rintro e w2 ⟨rfl, q1, rfl⟩)
          | (go_at_call 38; refine (unhide L _).mono ?_; rintro e w3 ⟨rfl, hw3⟩; subst hw3))
        go_ret2
        refine ⟨_, by rw [unhide V]; rfl, ?_, below_drewN (unhide B1) q1⟩
        rw [unhide V]
        exact unhide OW

theorem spec_SetAdd_any (s : List Rg) (lo hi : Int) (v : Value) (B : Nat) (w : World) (hs : s.length ≤ 1048576) (h : OwnR B w v s) :
    Calls Try.prog 33 #[v, .int .i64 lo, .int .i64 hi] w fun e w' => ∃ v', e = .returned (.tuple #[v', .bool (putV s lo hi true).2]) ∧ OwnR w.heap.size w' v' (putV s lo hi true).1 ∧ Below w.heap.size w w' := by
  have Q := hide (l05Put_any s lo hi true v B w hs h)
  clear h
  go_enter Try.func33, Try.ntmps33
  go_wp2_with (go_at_call 54; refine (unhide Q).mono ?_; rintro e w1 ⟨v1, rfl, o1, hb1⟩)
  go_ret2
  exact ⟨v1, rfl, o1, hb1⟩
end Go.Proofs.Ytkjlponggednoac
