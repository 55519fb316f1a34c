/- The draws of what one knows of a box. Made by gen_drawseens.py. -/
import Derived.Test.YtgdihceikhkddaaDrawLine
import Derived.Test.YtgdihceikhkddaaSnRead
namespace Go.Proofs.Ytgdihceikhkddaa
open Go.RowKit Go.ChangeShapes Go.WideShapes Go.ChangeAt Go.Deep
open Plain
set_option linter.unusedVariables false
set_option linter.unusedSimpArgs false

theorem OwnSn.snoc {B : Nat} {w : World} {v : Value} {l : List Sn} {x : Sn} (h : w.ownsRow B 34 3 v (l.length + 1) (rowC snC l ++ snC x)) : OwnSn B w v (l ++ [x]) := by
 unfold OwnSn
 rw [rowC_snoc, List.length_append]
 exact h
set_option maxHeartbeats 16000000 in
set_option maxRecDepth 100000 in
theorem l13Seens_any (B c : Nat) (w : World) (hc : Cur B w c) :
  Calls Try.prog 12 #[.pointer (some ⟨c, 0, none⟩)] w fun e w' => ∃ (l : List Sn) (v : Value), e = .returned v ∧ l.length ≤ 6 ∧ OwnSn w.heap.size w' v l ∧ Cur B w' c ∧ w.grownBy w' (some c) := by
 have hcl := hc.lt.2
 have CLO : Hid (c < w.heap.size) := hcl
 have CU := hide hc; have BB := hide (g_self w (some c))
 have LIT := hide (fun (W : World) (n : Nat) (z : Int) (hz : z = (n : Int)) (hC : Cur B W c) (h0 : 0 < n) (h1 : n ≤ 4294967296) => belowS_lit B c n z hz W hC h0 h1)
 clear hc
 obtain ⟨iS, hS, hS0, hS1, hS2⟩ := info_parts Try.infoSeen
 go_enter Try.func12, Try.ntmps12
 obtain ⟨w1, hL⟩ : ∃ X, X = w.alloc (.cells #[] 34) := ⟨_, rfl⟩
 have oL : OwnSn w.heap.size w1 (.slice (some ⟨w.heap.size, 0, none⟩) 0 0) [] := by rw [hL]; exact World.ownsRow_lit (size := 3) (e := 34) w #[] 0 (Nat.le_refl _) (Nat.zero_le _) rfl
 have hbn : Below w.heap.size w w1 := by rw [hL]; exact (Below.refl _ _).alloc (Nat.le_refl _) _
 have EL := hL.symm; clear hL
 replace CU := hide ((uh CU).kept (below_g0 hbn) (fun k hk => by cases hk))
 have sz1 := hide (hbn.size); replace BB := hide (g_then (uh BB) hbn); clear hbn; have L := hide oL; clear oL
 go_wp2
 clear EL
 obtain ⟨REL, HREL⟩ : ∃ REL : Value → Value → World → Prop, Hid (REL = fun v i wr => ∃ (l : List Sn), l.length ≤ 6 ∧ i = .int .i64 (l.length : Nat) ∧ OwnSn w.heap.size wr v l ∧ Cur B wr c ∧ w.grownBy wr (some c)) := ⟨_, rfl⟩
 go_loopw [3, 4] (fun v i wr => REL v i wr) (fun _ i _ => 7 - (intOf i).toNat)
 case atStart => rw [uh HREL]; exact ⟨[], Nat.zero_le _, rfl, uh L, uh CU, uh BB⟩
 clear L CU BB
 case round =>
  rw [uh HREL] at hrel
  obtain ⟨l, hl6, rfl, oL, cu, gr⟩ := hrel
  obtain ⟨wo, hwo⟩ : ∃ wo, wo = wr := ⟨_, rfl⟩
  subst hwo
  obtain ⟨aL, cL, rfl⟩ := g_shape oL
  have LBW : w.heap.size ≤ wo.heap.size := gr.size
  have L := hide oL; have CU := hide cu; have BB := hide gr
  have LBL : Hid (w.heap.size ≤ w.heap.size) := Nat.le_refl _
  clear oL cu gr
  obtain ⟨n, hn⟩ : ∃ n, n = l.length := ⟨_, rfl⟩
  have HN := hide hn
  rw [← hn] at L ⊢
  have hn6 : n ≤ 6 := by omega
  clear hn; go_wp2_with fail
  refine (uh LIT _ 7 7 rfl (uh CU) (by decide) (by decide)).mono ?_
  rintro e wr1 ⟨x, hx, rfl, hc, hg⟩
  replace L : Hid (OwnSn w.heap.size wr1 (.slice aL n cL) (l)) := g_aside (uh L) hg (fun z hz hz2 => by have q1_ := Option.some.inj hz; have q2_ := (World.ownsRow.lt (uh L) z hz2).1; have q3_ := uh LBL; omega)
  have sz101 := hide (hg.size); replace BB := hide (g_join (uh BB) hg); clear CU; have CU := hide hc; clear hg hc
  by_cases hlt : (n : Int) < (x : Int)
  ·have dl : decide ((n : Int) < (x : Int)) = true := decide_eq_true hlt
   have n1 : IntKind.i64.wrap ((n : Int) + 1) = (n : Int) + 1 := by rw [IntKind.wrap_i64]; omega
   go_wp2_with fail
   refine (uh LIT _ 32 32 rfl (uh CU) (by decide) (by decide)).mono ?_
   rintro e wy2 ⟨f, hf, rfl, hc, hg⟩
   replace L : Hid (OwnSn w.heap.size wy2 (.slice aL n cL) (l)) := g_aside (uh L) hg (fun z hz hz2 => by have q1_ := Option.some.inj hz; have q2_ := (World.ownsRow.lt (uh L) z hz2).1; have q3_ := uh LBL; omega)
   have sz102 := hide (hg.size); replace BB := hide (g_join (uh BB) hg); clear CU; have CU := hide hc; clear hg hc; go_wp2_with fail
   refine (uh LIT _ 9 9 rfl (uh CU) (by decide) (by decide)).mono ?_
   rintro e wy3 ⟨z, hz, rfl, hc, hg⟩
   replace L : Hid (OwnSn w.heap.size wy3 (.slice aL n cL) (l)) := g_aside (uh L) hg (fun z hz hz2 => by have q1_ := Option.some.inj hz; have q2_ := (World.ownsRow.lt (uh L) z hz2).1; have q3_ := uh LBL; omega)
   have sz103 := hide (hg.size); replace BB := hide (g_join (uh BB) hg); clear CU; have CU := hide hc; clear hg hc; clear dl
   have n2 : IntKind.i64.wrap (1 + (z : Int)) = 1 + (z : Int) := by rw [IntKind.wrap_i64]; omega
   have lw4 := (uh BB).size
   go_wp2_with (at_builtin; refine wpList_append_own _ rfl _ _ 24 rfl w.heap.size 34 iS _ 3 24 Try.underlying24 hS hS0 hS1 hS2 rfl (by decide) _ _ _ rfl (World.ownsRow.alloc (uh L) _) ⟨wy3.heap.size, 0, none⟩ 1 1 (snC ⟨(n : Int) + 1, (f : Int), 1 + (z : Int)⟩) rfl rfl (newsC _ _) ?c2 ?c3 ?c4 ?c5 ?_)
   case c2 => intro u hu; simp [snC] at hu; (try rcases hu with rfl | rfl | rfl) <;> (try rcases hu with rfl | rfl) <;> (try subst hu) <;> rfl
   case c3 => unfold maxLen; omega
   case c4 => omega
   case c5 => have q1_ := (uh BB).size; have sz101_ := uh sz101; have sz102_ := uh sz102; have sz103_ := uh sz103; simp; omega
   intro vL4 wy4 hown hgr _
   have oa := World.ownsRow.alloc (uh L) (.cells ((snC ⟨(n : Int) + 1, (f : Int), 1 + (z : Int)⟩) : List Value).toArray 34)
   have L_ : Hid (OwnSn w.heap.size wy4 vL4 (l ++ [⟨(n : Int) + 1, (f : Int), 1 + (z : Int)⟩])) := by exact OwnSn.snoc hown
   have BB_ : Hid (w.grownBy wy4 (some c)) := g_new (g_alloc (uh BB) (.cells ((snC ⟨(n : Int) + 1, (f : Int), 1 + (z : Int)⟩) : List Value).toArray 34)) hgr (fun b hb => by have q2_ := (World.ownsRow.lt (uh L) b hb).1; have q1_ := (uh BB).size; have sz101_ := uh sz101; have sz102_ := uh sz102; have sz103_ := uh sz103; omega)
   have sz104 : Hid (wy3.heap.size ≤ wy4.heap.size) := by have q3_ := hgr.size; simp at q3_; show _ ≤ _; omega
   replace L := L_; clear L_; replace BB := BB_; clear BB_
   replace CU := hide (((uh CU).kept (World.grownBy_alloc _ _ none) (fun k hk => by cases hk)).kept hgr (fun k hk => by have q2_ := (World.ownsRow.lt oa k hk).1; have q3_ := uh CLO; omega))
   clear hown hgr oa lw4
   go_wp2
   go_roundw
   case rel => rw [uh HREL]; exact ⟨l ++ [⟨(n : Int) + 1, (f : Int), 1 + (z : Int)⟩], by rw [List.length_append, ← uh HN]; show n + 1 ≤ 6; omega, by rw [List.length_append, ← uh HN]; show _ = Value.int .i64 ((n + 1 : Nat) : Int); go_num, uh L, uh CU, uh BB⟩
   case measure => simp [intOf]; omega
  ·have dl : decide ((n : Int) < (x : Int)) = false := decide_eq_false hlt
   go_wp2
   go_ret
   exact ⟨l, _, rfl, by rw [← uh HN]; exact hn6, by rw [show l.length = n from (uh HN).symm] at *; exact uh L, uh CU, uh BB⟩
end Go.Proofs.Ytgdihceikhkddaa
