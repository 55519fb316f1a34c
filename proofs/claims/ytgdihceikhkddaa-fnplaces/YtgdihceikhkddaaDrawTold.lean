/- The draws of FnSetsTold: any set, right or wrong. -/
import Derived.Test.YtgdihceikhkddaaDrawSets
namespace Go.Proofs.Ytgdihceikhkddaa
open Go.RowKit
open Plain
set_option linter.unusedVariables false

theorem SS.app {B c : Nat} {w W W' : World} {v v' : Value} {s s' : List Rg} (h : SS B c w W v s) (hl : c < w.heap.size) (hg : W.grownBy W' v.ownBlock) (ho : OwnR w.heap.size W' v' s') : SS B c w W' v' s' := by
 have hb : Below w.heap.size W W' := (Below.refl _ _).grown hg h.grown.size (fun k hk => (h.own.lt k hk).1)
 refine ⟨ho, h.cur.kept hg (fun k hk => Nat.lt_of_lt_of_le hl (h.own.lt k hk).1), ?_⟩
 exact ⟨hb.os.trans h.grown.os, hb.tape.trans h.grown.tape, hb.output.trans h.grown.output, Nat.le_trans h.grown.size hb.size, fun k hk hne => (hb.block k hk).trans (h.grown.block k hk hne)⟩
theorem rgs_one {s : List Rg} : ∀ u ∈ rgs s, u.oneCell' = true := by
 intro u hu
 unfold rgs at hu
 obtain ⟨r, _, hr⟩ := List.mem_flatMap.1 hu
 simp [rgl] at hr
 rcases hr with rfl | rfl <;> rfl
theorem rgs_news {B g cp : Nat} {W : World} {s : List Rg} (h : OwnR B W (.slice (some ⟨g, 0, none⟩) s.length cp) s) : ∀ j u, (rgs s)[j]? = some u → W.cell? ((⟨g, 0, none⟩ : Addr).add j) = some u := by
 intro j u hj
 have hlt : j < s.length * 2 := by rw [← rgs_length]; exact (List.getElem?_eq_some_iff.1 hj).1
 have := h.cellAt j hlt
 rw [show ((⟨g, 0, none⟩ : Addr).add j) = ⟨g, j, none⟩ by simp [Addr.add]; omega, this]
 exact hj

/-- One of a list of numbers, laid just now. -/
theorem pick_of (zs : List Int) (B c : Nat) (w : World) (hc : Cur B w c) (h0 : 0 < zs.length) (h1 : zs.length ≤ 1000) :
  Calls Try.prog 26 #[.pointer (some ⟨c, 0, none⟩), .slice (some ⟨w.heap.size, 0, none⟩) zs.length zs.length] (w.alloc (.cells (zs.map (Value.int .i64)).toArray 3)) fun e w' => ∃ z : Int, z ∈ zs ∧ e = .returned (.int .i64 z) ∧ Cur B w' c ∧ w.grownBy w' (some c) := by
 have hcl := hc.lt.2
 have hc0 : Cur B (w.alloc (.cells (zs.map (Value.int .i64)).toArray 3)) c := hc.kept (World.grownBy_alloc _ _ none) (fun k hk => by cases hk)
 have hg0 : w.grownBy (w.alloc (.cells (zs.map (Value.int .i64)).toArray 3)) (some c) := World.grownBy_alloc _ _ _
 have q := hide (l01Below_any B c zs.length _ hc0 h0 (by omega))
 have HL : Hid (∀ x : Nat, x < zs.length → ∃ z, z ∈ zs ∧ (w.alloc (.cells (zs.map (Value.int .i64)).toArray 3)).cell? ⟨w.heap.size, x, none⟩ = some (.int .i64 z)) := fun x hx => by
  refine ⟨zs[x], List.getElem_mem _, ?_⟩
  have := (World.ownsRow_lit (size := 1) (e := 3) w (zs.map (Value.int .i64)).toArray zs.length (Nat.le_refl _) (by unfold maxLen; omega) (by simp)).cellAt x (by omega)
  rw [this]
  simp [hx]
 have hne : w.heap.size ≠ c := by omega
 have hgl : w.heap.size < (w.alloc (.cells (zs.map (Value.int .i64)).toArray 3)).heap.size := by simp
 generalize w.alloc (.cells (zs.map (Value.int .i64)).toArray 3) = W at *
 have HG := hide hg0; clear hc hc0 hg0
 go_enter Try.func26, Try.ntmps26
 go_wp2_with fail
 refine (uh q).mono ?_
 rintro e w1 ⟨x, hx, rfl, hc1, hg1⟩
 obtain ⟨z, hz, hz3⟩ := uh HL x hx
 have hz4 : w1.cell? ⟨w.heap.size, x, none⟩ = some (.int .i64 z) := (World.cell?_of_block (w := W) (a := ⟨w.heap.size, x, none⟩) (hg1.block _ hgl (fun e => hne (by cases e; rfl)))).trans hz3
 have HH := hide (g_join (uh HG) hg1); have HC := hide hc1; clear hz3 hc1 hg1 HG HL
 go_wp2
 go_ret
 exact ⟨z, hz, rfl, uh HC, uh HH⟩

set_option maxHeartbeats 4000000 in
set_option maxRecDepth 100000 in
theorem l05Any_any (B c : Nat) (w : World) (hc : Cur B w c) :
  Calls Try.prog 21 #[.pointer (some ⟨c, 0, none⟩)] w fun e w' => ∃ (v : Value) (s : List Rg), e = .returned v ∧ s.length ≤ 41 ∧ SS B c w w' v s := by
 have hcl := hc.lt.2
 obtain ⟨i0, hi, hz0, hz1, hz2⟩ := info_parts Try.infoRange
 have S0 : SS B c w (w.alloc (.cells #[] 60)) (.slice (some ⟨w.heap.size, 0, none⟩) 0 0) [] :=
  ⟨World.ownsRow_lit w #[] 0 (Nat.le_refl _) (Nat.zero_le _) rfl, hc.kept (World.grownBy_alloc _ _ none) (fun k hk => by cases hk), World.grownBy_alloc _ _ _⟩
 have LIT := hide (fun (W : World) (n : Nat) (z : Int) (hz : z = (n : Int)) (hC : Cur B W c) (h0 : 0 < n) (h1 : n ≤ 4294967296) => belowS_lit B c n z hz W hC h0 h1)
 have q1 := hide (l05Draw_any B c _ S0.cur); have HS0 := hide S0; clear hc S0
 go_enter Try.func21, Try.ntmps21
 go_wp2_with fail
 refine (uh q1).mono ?_
 rintro e w1 ⟨v1, s, rfl, _, hlen, hss, g, cp, rfl⟩
 have S1 := hide ((uh HS0).call hcl hss.grown hss.cur); have O1 := hide hss.own; clear hss HS0 q1
 have hsz : w.heap.size ≤ w1.heap.size := (uh S1).grown.size
 go_wp2_with (at_builtin; refine wpList_append_own _ rfl _ _ 25 rfl w.heap.size 60 i0 _ 2 16 Try.underlying25 hi hz0 hz1 hz2 rfl (by decide) _ _ _ rfl (uh S1).own ⟨g, 0, none⟩ s.length cp (rgs s) rfl (rgs_length s) (rgs_news (uh O1)) ?c2 ?c3 ?c4 ?c5 ?_)
 case c2 => exact rgs_one
 case c3 => unfold maxLen; simp; omega
 case c4 => simp; omega
 case c5 => omega
 intro v2 w2 hown2 hgrow2 hnil
 obtain ⟨g2, c2, rfl⟩ : ∃ g2 c2, v2 = .slice (some ⟨g2, 0, none⟩) s.length c2 := by
  rcases hown2.2 with ⟨h, _⟩ | ⟨g2, c2, cur, h, _⟩
  ·exact absurd h hnil
  ·exact ⟨g2, c2, by simpa using h⟩
 clear hnil
 have S2 := hide ((uh S1).app hcl hgrow2 (show OwnR w.heap.size w2 (.slice (some ⟨g2, 0, none⟩) s.length c2) s by unfold OwnR; simpa [rgs] using hown2))
 clear hown2 hgrow2 S1 O1; go_wp2_with fail
 refine (uh LIT w2 10 10 rfl (uh S2).cur (by omega) (by omega)).mono ?_
 rintro e w3 ⟨x, hx, rfl, hc3, hg3⟩
 have S3 := hide ((uh S2).call hcl hg3 hc3); clear hc3 hg3 S2
 by_cases h0 : x = 0
 ·subst h0
  go_wp2_with fail
  refine (pick_of [0, 5, 9998] B c w3 (uh S3).cur (by decide) (by decide)).mono ?_
  rintro e w4 ⟨z1, _, rfl, hc4, hg4⟩
  have S4 := hide ((uh S3).call hcl hg4 hc4); clear hc4 hg4 S3; go_wp2_with fail
  refine (pick_of [4, 9999, 10000] B c w4 (uh S4).cur (by decide) (by decide)).mono ?_
  rintro e w5 ⟨z2, _, rfl, hc5, hg5⟩
  have S5 := hide ((uh S4).call hcl hg5 hc5); clear hc5 hg5 S4
  have hsz5 : w.heap.size ≤ w5.heap.size := (uh S5).grown.size
  go_wp2_with (at_builtin; refine wpList_append_own _ rfl _ _ 25 rfl w.heap.size 60 i0 _ 2 16 Try.underlying25 hi hz0 hz1 hz2 rfl (by decide) _ _ _ rfl ((uh S5).alloc _).own ⟨w5.heap.size, 0, none⟩ 1 1 [.int .i64 z1, .int .i64 z2] rfl rfl (news_two _ _) ?c2 ?c3 ?c4 ?c5 ?_)
  case c2 => intro u hu; simp at hu; rcases hu with rfl | rfl <;> rfl
  case c3 => unfold maxLen; omega
  case c4 => omega
  case c5 => simp; omega
  intro v6 w6 hown6 hgrow6 _
  have S6 := hide (((uh S5).alloc _).app hcl hgrow6 (show OwnR w.heap.size w6 v6 (s ++ [⟨z1, z2⟩]) by unfold OwnR; rw [rgs_append, List.length_append]; exact hown6))
  clear hown6 hgrow6 S5
  go_wp2
  go_ret
  exact ⟨_, _, rfl, by simp; omega, uh S6⟩
 ·by_cases h1 : x = 1
  ·subst h1
   have hsz3 : w.heap.size ≤ w3.heap.size := (uh S3).grown.size
   have SL := hide ((uh S3).made ((Below.refl _ _).alloc (Nat.le_refl _) (.cells #[.int .i64 1, .int .i64 1] 60)) (show OwnR w3.heap.size _ (.slice (some ⟨w3.heap.size, 0, none⟩) 1 1) [⟨1, 1⟩] from World.ownsRow_lit w3 #[.int .i64 1, .int .i64 1] 1 (Nat.le_refl _) (by decide) rfl))
   have OL := hide ((uh S3).alloc (.cells #[.int .i64 1, .int .i64 1] 60)).own
   go_wp2_with (at_builtin; refine wpList_append_own _ rfl _ _ 25 rfl w.heap.size 60 i0 _ 2 16 Try.underlying25 hi hz0 hz1 hz2 rfl (by decide) _ _ _ rfl (uh SL).own ⟨g2, 0, none⟩ s.length c2 (rgs s) rfl (rgs_length s) (rgs_news (uh OL)) ?c2 ?c3 ?c4 ?c5 ?_)
   case c2 => exact rgs_one
   case c3 => unfold maxLen; simp; omega
   case c4 => simp; omega
   case c5 => simp; omega
   intro v6 w6 hown6 hgrow6 _
   have S6 := hide ((uh SL).app hcl hgrow6 (show OwnR w.heap.size w6 v6 ([⟨1, 1⟩] ++ s) by unfold OwnR; rw [rgs_append, List.length_append]; exact hown6))
   clear hown6 hgrow6 S3 SL OL
   go_wp2
   go_ret
   exact ⟨_, _, rfl, by simp; omega, uh S6⟩
  ·by_cases h2 : x = 2
   ·subst h2
    go_wp2
    go_loopw [3, 4] (fun v i wr => ∃ (k : Nat) (t : List Rg), i = .int .i64 k ∧ t.length = s.length + k ∧ t.length ≤ 41 ∧ SS B c w wr v t) (fun _ i _ => 50 - (intOf i).toNat)
    case atStart => exact ⟨0, s, rfl, rfl, by omega, uh S3⟩
    case round =>
     obtain ⟨k, t, rfl, htk, ht41, hst⟩ := hrel
     have HST := hide hst; have HTK := hide htk
     have hk41 : k ≤ 41 := by omega
     obtain ⟨at', ct, hvt⟩ := g_shape hst.own
     subst hvt
     clear hst htk S3; go_wp2_with fail
     refine (uh LIT wr 2 2 rfl (uh HST).cur (by omega) (by omega)).mono ?_
     rintro e w4 ⟨y, hy, rfl, hc4, hg4⟩
     have S4 := hide ((uh HST).call hcl hg4 hc4); clear hc4 hg4 HST
     have hsz4 : w.heap.size ≤ w4.heap.size := (uh S4).grown.size
     by_cases hlt : t.length < 40 + y
     ·have hd : decide ((t.length : Int) < 40 + (y : Int)) = true := by rw [decide_eq_true_eq]; omega
      go_wp2_with (at_builtin; refine wpList_append_own _ rfl _ _ 25 rfl w.heap.size 60 i0 _ 2 16 Try.underlying25 hi hz0 hz1 hz2 rfl (by decide) _ _ _ rfl ((uh S4).alloc _).own ⟨w4.heap.size, 0, none⟩ 1 1 [.int .i64 (100 + 3 * (k : Int)), .int .i64 (101 + 3 * (k : Int))] rfl rfl (news_two _ _) ?c2 ?c3 ?c4 ?c5 ?_)
      case c2 => intro u hu; simp at hu; rcases hu with rfl | rfl <;> rfl
      case c3 => unfold maxLen; omega
      case c4 => omega
      case c5 => simp; omega
      intro v6 w6 hown6 hgrow6 _
      have S6 := hide (((uh S4).alloc _).app hcl hgrow6 (show OwnR w.heap.size w6 v6 (t ++ [⟨100 + 3 * (k : Int), 101 + 3 * (k : Int)⟩]) by unfold OwnR; rw [rgs_append, List.length_append]; exact hown6))
      clear hown6 hgrow6 S4
      go_wp2
      go_roundw
      case rel => exact ⟨k + 1, _, by go_num, by simp; have := uh HTK; omega, by simp; omega, uh S6⟩
      case measure => simp [intOf]; omega
     ·have hd : decide ((t.length : Int) < 40 + (y : Int)) = false := by rw [decide_eq_false_iff_not]; omega
      go_wp2
      go_ret
      exact ⟨_, t, rfl, ht41, uh S4⟩
   ·have d1 : ((x : Int) == 1) = false := by rw [beq_eq_false_iff_ne]; omega
    have d0 : ((x : Int) == 0) = false := by rw [beq_eq_false_iff_ne]; omega
    have d2 : ((x : Int) == 2) = false := by rw [beq_eq_false_iff_ne]; omega
    go_wp2
    go_ret
    exact ⟨_, s, rfl, by omega, uh S3⟩
end Go.Proofs.Ytgdihceikhkddaa
