/- The draws of the laws on sets: right sets. -/
import Derived.Test.YtgdihceikhkddaaDrawPick
import Derived.Test.YtgdihceikhkddaaSetA
import Derived.Test.YtgdihceikhkddaaPlainA
namespace Go.Proofs.Ytgdihceikhkddaa
open Go.RowKit
open Plain
set_option linter.unusedVariables false

theorem belowS_lit (B c n : Nat) (z : Int) (hz : z = (n : Int)) (w : World) (hc : Cur B w c) (h0 : 0 < n) (h1 : n ≤ 4294967296) :
  Calls Try.prog 14 #[.pointer (some ⟨c, 0, none⟩), .int .i64 z] w fun e w' => ∃ x : Nat, x < n ∧ e = .returned (.int .i64 (x : Int)) ∧ Cur B w' c ∧ w.grownBy w' (some c) := by
 subst hz; exact l01Below_any B c n w hc h0 h1

/-- A set under way, the cursor beside it. -/
structure SS (B c : Nat) (w W : World) (v : Value) (s : List Rg) : Prop where
 own : OwnR w.heap.size W v s
 cur : Cur B W c
 grown : w.grownBy W (some c)
theorem SS.call {B c : Nat} {w W W' : World} {v : Value} {s : List Rg} (h : SS B c w W v s) (hl : c < w.heap.size) (hg : W.grownBy W' (some c)) (hc : Cur B W' c) : SS B c w W' v s :=
 ⟨World.ownsRow.kept h.own hg (own_apart h.own hl), hc, g_join h.grown hg⟩
theorem SS.made {B c : Nat} {w W W' : World} {v v' : Value} {s s' : List Rg} (h : SS B c w W v s) (hb : Below W.heap.size W W') (ho : OwnR W.heap.size W' v' s') : SS B c w W' v' s' :=
 ⟨g_based ho h.grown.size, h.cur.kept (g_grown hb none) (fun k hk => by cases hk), g_then h.grown hb⟩
theorem SS.alloc {B c : Nat} {w W : World} {v : Value} {s : List Rg} (h : SS B c w W v s) (o : Obj) : SS B c w (W.alloc o) v s :=
 ⟨h.own.alloc o, h.cur.kept (World.grownBy_alloc _ _ none) (fun k hk => by cases hk), g_then h.grown ((Below.refl _ _).alloc (Nat.le_refl _) _)⟩

theorem put_some {s : List Rg} {lo hi : Int} (h : okS s = true) (h1 : 1 ≤ lo) (h2 : lo ≤ hi) (h3 : hi ≤ 9999) : 0 < (setOf (putB s lo hi true)).length := by
 obtain ⟨n, rfl⟩ := Int.eq_ofNat_of_zero_le (show 0 ≤ lo by omega)
 have e := put_has (hi := hi) (c := true) h h1 (n := n) (by omega)
 have : putB s (n : Int) hi true n = true := by unfold putB; rw [if_pos ⟨Int.le_refl _, h2⟩]
 rw [this] at e
 cases hx : setOf (putB s (n : Int) hi true) with
 | nil => rw [hx] at e; cases e
 | cons a b => exact Nat.succ_pos _
theorem own_someR {B : Nat} {W : World} {v : Value} {l : List Rg} (h : OwnR B W v l) (hl : 0 < l.length) : ∃ g cp, v = .slice (some ⟨g, 0, none⟩) l.length cp := by
 unfold OwnR at h
 rcases h.2 with ⟨_, h0⟩ | ⟨g, c, cur, rfl, _⟩
 ·omega
 ·exact ⟨g, c, rfl⟩

set_option maxHeartbeats 4000000 in
set_option maxRecDepth 100000 in
theorem l05Draw_any (B c : Nat) (w : World) (hc : Cur B w c) :
  Calls Try.prog 24 #[.pointer (some ⟨c, 0, none⟩)] w fun e w' => ∃ (v : Value) (s : List Rg), e = .returned v ∧ okS s = true ∧ s.length ≤ 5 ∧ SS B c w w' v s ∧ ∃ g cp, v = .slice (some ⟨g, 0, none⟩) s.length cp := by
 have hcl := hc.lt.2
 have S0 : Hid (SS B c w (w.alloc (.cells #[] 60)) (.slice (some ⟨w.heap.size, 0, none⟩) 0 0) []) :=
  ⟨World.ownsRow_lit w #[] 0 (Nat.le_refl _) (Nat.zero_le _) rfl, hc.kept (World.grownBy_alloc _ _ none) (fun k hk => by cases hk), World.grownBy_alloc _ _ _⟩
 have LIT := hide (fun (W : World) (n : Nat) (z : Int) (hz : z = (n : Int)) (hC : Cur B W c) (h0 : 0 < n) (h1 : n ≤ 4294967296) => belowS_lit B c n z hz W hC h0 h1)
 clear hc
 go_enter Try.func24, Try.ntmps24
 go_wp2
 go_loopw [3, 4] (fun v i wr => ∃ (k : Nat) (s : List Rg), k ≤ 4 ∧ i = .int .i64 k ∧ okS s = true ∧ s.length ≤ k ∧ SS B c w wr v s ∧ ∃ g cp, v = .slice (some ⟨g, 0, none⟩) s.length cp) (fun _ i _ => 5 - (intOf i).toNat)
 case atStart => exact ⟨0, [], Nat.zero_le _, rfl, rfl, Nat.zero_le _, uh S0, _, _, rfl⟩
 case round =>
  obtain ⟨k, s, hk, rfl, hok, hlen, hss, hsv⟩ := hrel
  have SV := hide hsv; clear hsv; have SSk := hide hss; have OK := hide hok; clear hss hok; go_wp2_with fail
  refine (uh LIT wr 5 5 rfl (uh SSk).cur (by omega) (by omega)).mono ?_
  rintro e w1 ⟨x, hx, rfl, hc1, hg1⟩
  have S1 := hide ((uh SSk).call hcl hg1 hc1); clear hc1 hg1 SSk
  by_cases hkx : k < x
  ·have dk : decide ((k : Int) < (x : Int)) = true := by rw [decide_eq_true_eq]; omega
   go_wp2_with fail
   refine (uh LIT w1 14 14 rfl (uh S1).cur (by omega) (by omega)).mono ?_
   rintro e w2 ⟨a, ha, rfl, hc2, hg2⟩
   have S2 := hide ((uh S1).call hcl hg2 hc2); clear hc2 hg2 S1; go_wp2_with fail
   refine (uh LIT w2 4 4 rfl (uh S2).cur (by omega) (by omega)).mono ?_
   rintro e w3 ⟨b, hb, rfl, hc3, hg3⟩
   have S3 := hide ((uh S2).call hcl hg3 hc3); clear hc3 hg3 S2
   obtain ⟨r1, r2, r3⟩ := put_room (c := true) (uh OK) (show s.length ≤ 39 by omega) (show (1 : Int) ≤ 1 + (a : Int) by omega) (show 1 + (a : Int) ≤ 1 + (a : Int) + (b : Int) by omega) (by omega)
   have q := spec_SetAdd_any s (1 + (a : Int)) (1 + (a : Int) + (b : Int)) _ w.heap.size w3 (by omega) (uh S3).own
   rw [r1] at q
   have Q := hide q; have R2 := hide r2
   have NE := hide (put_some (uh OK) (show (1 : Int) ≤ 1 + (a : Int) by omega) (show 1 + (a : Int) ≤ 1 + (a : Int) + (b : Int) by omega) (by omega))
   clear q r1 r2 SV; go_wp2_with fail
   refine (uh Q).mono ?_
   rintro e w4 ⟨v4, rfl, o4, hb4⟩
   have SV := hide (own_someR o4 (uh NE)); have S4 := hide ((uh S3).made hb4 o4); clear o4 hb4 S3 Q
   go_wp2
   go_roundw
   case rel => exact ⟨k + 1, _, by omega, by go_num, uh R2, by omega, uh S4, uh SV⟩
   case measure => simp [intOf]; omega
  ·have dk : decide ((k : Int) < (x : Int)) = false := by rw [decide_eq_false_iff_not]; omega
   go_wp2_with fail
   refine (l01Once_any B c 10 w1 (uh S1).cur (by omega) (by omega)).mono ?_
   rintro e w2 ⟨bb, rfl, hc2, hg2⟩
   have S2 := hide ((uh S1).call hcl hg2 hc2); clear hc2 hg2 S1
   cases bb with
   | false =>
    go_wp2
    go_ret
    exact ⟨_, s, rfl, uh OK, by omega, uh S2, uh SV⟩
   | true =>
    obtain ⟨r1, r2, r3⟩ := put_room (c := true) (uh OK) (show s.length ≤ 39 by omega) (show (1 : Int) ≤ 9998 by omega) (show (9998 : Int) ≤ 9999 by omega) (by omega)
    have q := spec_SetAdd_any s 9998 9999 _ w.heap.size w2 (by omega) (uh S2).own
    rw [r1] at q
    have Q := hide q; have R2 := hide r2
    have NE := hide (put_some (uh OK) (show (1 : Int) ≤ 9998 by omega) (show (9998 : Int) ≤ 9999 by omega) (by omega))
    clear q r1 r2 SV; go_wp2_with fail
    refine (uh Q).mono ?_
    rintro e w4 ⟨v4, rfl, o4, hb4⟩
    have SV := hide (own_someR o4 (uh NE)); have S4 := hide ((uh S2).made hb4 o4); clear o4 hb4 S2 Q
    go_wp2
    go_ret
    exact ⟨_, _, rfl, uh R2, by omega, uh S4, uh SV⟩

end Go.Proofs.Ytgdihceikhkddaa
