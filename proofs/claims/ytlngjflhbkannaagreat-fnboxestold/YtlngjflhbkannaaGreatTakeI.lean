/- Those that are told to go are taken out: the program's takeDeleted. Made by gen_takei.py. -/
import Derived.Test.YtlngjflhbkannaaGreatFfA
import Derived.Test.YtlngjflhbkannaaGreatDwB
import Derived.Test.YtlngjflhbkannaaGreatCpA
import Derived.Test.YtlngjflhbkannaaGreatRuA
import Derived.Test.YtlngjflhbkannaaGreatIsA
import Derived.Test.YtlngjflhbkannaaGreatBoxNameS
namespace Go.Proofs.YtlngjflhbkannaaGreat
open Go.RowKit
open Plain
set_option linter.unusedVariables false
set_option linter.unusedSimpArgs false

namespace Plain
theorem andI : ∀ a : Fin 32, bits .and .i64 (a.val : Int) 8 = andTo a.val 8 5 ∧ 0 ≤ andTo a.val 8 5 := by decide +kernel
theorem and_8 {a : Int} (h : flOk a = true) : bits .and .i64 a 8 = andTo a 8 5 ∧ (!(andTo a 8 5 == 0)) = decide (0 < andTo a 8 5) := by
 have h2 : 0 ≤ a ∧ a ≤ 31 := by unfold flOk at h; rw [Bool.and_eq_true] at h; exact ⟨of_decide_eq_true h.1, of_decide_eq_true h.2⟩
 obtain ⟨x, rfl⟩ := fin_of h2.1 h2.2
 refine ⟨(andI x).1, ?_⟩
 have := (andI x).2
 rw [Bool.eq_iff_iff]
 simp
 omega
end Plain
theorem has_any (a : Int) (w : World) (h : flOk a = true) : Calls Tryz.prog 129 #[.int .i64 a, .int .i64 8] w fun e w' => e = .returned (.bool (decide (0 < andTo a 8 5))) ∧ w' = w := by
 obtain ⟨b1, b2⟩ := and_8 h
 have V := hide b2; clear b2 h
 generalize andTo a 8 5 = z at *
 go_enter Tryz.func129, Tryz.ntmps129
 go_wp2
 go_ret
 exact ⟨by rw [← uh V]; rfl, rfl⟩
set_option maxHeartbeats 8000000 in
set_option maxRecDepth 100000 in
theorem takeDeleted_any (b : Bx) (s : List Rg) (vs lv v1 v2 v3 v4 v5 v6 v7 : Value) (q B : Nat) (w : World) (hl : b.mails.length ≤ 30) (hsl : s.length ≤ 1048576) (hfl : ∀ m ∈ b.mails, flOk m.flags = true) (hR : ReadO w vs s) (hq : HasObj w q 97 [lv, v1, v2, v3, v4, v5, v6, v7]) (h : OwnMl B w lv b.mails) :
  Calls Tryz.prog 72 #[.pointer (some ⟨q, 0, none⟩), vs] w fun e w' => ∃ gv lv', e = .returned gv ∧ HasObj w' q 97 [lv', v1, v2, v3, v4, v5, v6, v7] ∧ OwnI w.heap.size w' gv (goneM s b.mails) ∧ OwnMl w.heap.size w' lv' (leftM s b.mails) ∧ GrownBut w w' (fun k => k = q) := by
 obtain ⟨iI, hI, hI0, hI1, hI2⟩ := info_parts Tryz.infoIntR
 obtain ⟨iM, hM, hM0, hM1, hM2⟩ := info_parts Tryz.infoMail
 obtain ⟨a0, c0, rfl⟩ := g_shape h
 have k0 := hq.cell 0 rfl; have HQ := hide hq; have HR := hide hR; have HFL := hide hfl
 have HM := hide (fun (W : World) hb k f hx => ml_read (W := W) h hb (k := k) (f := f) hx)
 clear h hR hq hfl
 go_enter Tryz.func72, Tryz.ntmps72
 go_wp2
 clear k0
 go_loopw [5, 6, 13] (fun vl vg i wr => ∃ k : Nat, k ≤ b.mails.length ∧ i = .int .i64 k ∧ OwnMl w.heap.size wr vl (leftTo8 b s k) ∧ OwnI w.heap.size wr vg (goneTo8 b s k) ∧ Below w.heap.size w wr) (fun _ _ i _ => b.mails.length - (intOf i).toNat)
 case atStart => exact ⟨0, Nat.zero_le _, rfl, World.ownsRow_nil _ _ _ _, OwnI.nil _ _, Below.refl _ _⟩
 case round =>
  obtain ⟨k, hk, rfl, hvl, hvg, hbel⟩ := hrel
  obtain ⟨wo, hwo⟩ : ∃ wo, wo = wr := ⟨_, rfl⟩
  subst hwo
  by_cases hlt : k < b.mails.length
  ·have hgk : b.mails[k]? = some b.mails[k] := List.getElem?_eq_getElem hlt
   obtain ⟨avl, cvl, rfl⟩ := g_shape hvl
   obtain ⟨avg, cvg, rfl⟩ := g_shape hvg
   obtain ⟨g, c, e, hg, c0', c1, c2, c3⟩ := uh HM wo hbel k _ hgk
   cases e
   have hff := uh HFL _ (List.getElem_mem hlt); have NG := hide (goneTo8_next (s := s) hgk); have NL := hide (leftTo8_next (s := s) hgk); have LG := goneTo8_len b s k; have LL := leftTo8_len b s k
   generalize b.mails[k] = f at *
   have HFF := hide hff
   have i1 : (0 : Int) ≤ (k : Int) := by omega
   have i2 : (k : Int) < (b.mails.length : Int) := by omega
   have OL := hide hvl; have OG := hide hvg
   have LM : Hid (∀ x, Value.ownBlock (.slice avl (leftTo8 b s k).length cvl) = some x → x < wo.heap.size) := fun x hx => (hvl.lt x hx).2
   have BB := hide hbel; clear hvl hvg hbel hgk hff
   obtain ⟨wr1, hM⟩ : ∃ X, X = wo.alloc (.cells ([.int .i64 f.uid, .int .i64 f.flags, .int .i64 f.mod, .string f.text] : List Value).toArray 100) := ⟨_, rfl⟩
   have Mx : HasObj wr1 wo.heap.size 100 [.int .i64 f.uid, .int .i64 f.flags, .int .i64 f.mod, .string f.text] := by rw [hM]; exact HasObj.new _ _ _
   have hbn : Below wo.heap.size wo wr1 := by rw [hM]; exact (Below.refl _ _).alloc (Nat.le_refl _) _
   have loM : w.heap.size ≤ wo.heap.size := (uh BB).size
   have EM := hM.symm; clear hM; replace OL := hide ((uh OL).up hbn); replace OG := hide ((uh OG).up hbn); have sz101 := hide (hbn.size); replace BB := hide (below_y (uh BB) hbn); clear hbn; have M := hide Mx; clear Mx; have Mc0_1 := (uh M).cell 0 rfl; have Mc1_1 := (uh M).cell 1 rfl; have Mc2_1 := (uh M).cell 2 rfl; have Mc3_1 := (uh M).cell 3 rfl; go_wp2_with fail; clear Mc0_1 Mc1_1 Mc2_1 Mc3_1 EM
   refine (impl_SetHas_any s vs f.uid _ hsl ((uh HR).up (uh BB))).mono ?_
   rintro e wr2 ⟨rfl, hb⟩
   replace M := hide ((uh M).ups hb); replace OL := hide ((uh OL).up hb); replace OG := hide ((uh OG).up hb); have sz102 := hide (hb.size); replace BB := hide (below_y (uh BB) hb); clear hb; clear c0' c1 c2 c3
   cases hu : hasB s f.uid with
   | false =>
    have IG : Hid (isGone s f = false) := by show _ = _; unfold isGone; rw [hu]; rfl
    clear hu; have Mc0_2 := (uh M).cell 0 rfl; have Mc1_2 := (uh M).cell 1 rfl; have Mc2_2 := (uh M).cell 2 rfl; have Mc3_2 := (uh M).cell 3 rfl; have lw3 := (uh BB).size
    go_wp2_with (at_builtin; refine wpList_append_own _ rfl _ _ 95 rfl w.heap.size 100 iM _ 4 40 Tryz.underlying95 hM hM0 hM1 hM2 rfl (by decide) _ _ _ rfl (World.ownsRow.alloc (uh OL) _) ⟨wr2.heap.size, 0, none⟩ 1 1 (mlC f) rfl rfl (newsC _ _) ?c2 ?c3 ?c4 ?c5 ?_)
    clear Mc0_2 Mc1_2 Mc2_2 Mc3_2
    case c2 => intro u hu; simp [mlC, tbC, rgl] at hu; (try rcases hu with rfl | rfl | rfl | rfl) <;> (try rcases hu with rfl | rfl) <;> (try subst hu) <;> rfl
    case c3 => unfold maxLen; omega
    case c4 => omega
    case c5 => have q1_ := (uh BB).size; have sz101_ := uh sz101; have sz102_ := uh sz102; simp; omega
    intro vOL3 wra3 hown hgr _
    have oa := World.ownsRow.alloc (uh OL) (.cells ((mlC f) : List Value).toArray 100)
    have M_ := hide (((uh M).alloc (.cells ((mlC f) : List Value).toArray 100)).kept hgr (fun e => by have := uh LM _ e.symm; omega))
    have OG_ : Hid (OwnI w.heap.size wra3 (.slice avg (goneTo8 b s k).length cvg) (goneTo8 b s k)) := g_aside (World.ownsRow.alloc (uh OG) (.cells ((mlC f) : List Value).toArray 100)) hgr (fun x hx => rows_apart (oa) (World.ownsRow.alloc (uh OG) (.cells ((mlC f) : List Value).toArray 100)) (by decide) x hx)
    have OL_ : Hid (OwnMl w.heap.size wra3 vOL3 (leftTo8 b s k ++ [f])) := by exact OwnMl.snoc hown
    have BB_ : Hid (Below w.heap.size w wra3) := ((uh BB).alloc (uh BB).size _).grown hgr (by have q1_ := (uh BB).size; simp; omega) (fun b hb => by have q2_ := (World.ownsRow.lt (uh OL) b hb).1; have q1_ := (uh BB).size; have sz101_ := uh sz101; have sz102_ := uh sz102; omega)
    have sz103 : Hid (wr2.heap.size ≤ wra3.heap.size) := by have q3_ := hgr.size; simp at q3_; show _ ≤ _; omega
    replace M := M_; clear M_; replace OL := OL_; clear OL_; replace OG := OG_; clear OG_; replace BB := BB_; clear BB_; clear hown hgr oa lw3
    go_wp2
    go_roundw
    case rel =>
     refine ⟨k + 1, by omega, by go_num, ?_, ?_, uh BB⟩
     ·rw [uh NL, if_neg (by rw [uh IG]; decide)]; exact uh OL
     ·rw [uh NG, if_neg (by rw [uh IG]; decide)]; exact uh OG
    case measure => simp [intOf]; omega
   | true =>
    have Mc0_2 := (uh M).cell 0 rfl; have Mc1_2 := (uh M).cell 1 rfl; have Mc2_2 := (uh M).cell 2 rfl; have Mc3_2 := (uh M).cell 3 rfl; go_wp2_with fail; clear Mc0_2 Mc1_2 Mc2_2 Mc3_2
    refine (has_any f.flags _ (uh HFF)).mono ?_
    rintro e wr3 ⟨rfl, hw⟩
    subst wr3
    cases hv : decide (0 < andTo f.flags 8 5) with
    | false =>
     have IG : Hid (isGone s f = false) := by show _ = _; unfold isGone; rw [hu, hv]; rfl
     clear hu hv; have Mc0_3 := (uh M).cell 0 rfl; have Mc1_3 := (uh M).cell 1 rfl; have Mc2_3 := (uh M).cell 2 rfl; have Mc3_3 := (uh M).cell 3 rfl; have lw4 := (uh BB).size
     go_wp2_with (at_builtin; refine wpList_append_own _ rfl _ _ 95 rfl w.heap.size 100 iM _ 4 40 Tryz.underlying95 hM hM0 hM1 hM2 rfl (by decide) _ _ _ rfl (World.ownsRow.alloc (uh OL) _) ⟨wr2.heap.size, 0, none⟩ 1 1 (mlC f) rfl rfl (newsC _ _) ?c2 ?c3 ?c4 ?c5 ?_)
     clear Mc0_3 Mc1_3 Mc2_3 Mc3_3
     case c2 => intro u hu; simp [mlC, tbC, rgl] at hu; (try rcases hu with rfl | rfl | rfl | rfl) <;> (try rcases hu with rfl | rfl) <;> (try subst hu) <;> rfl
     case c3 => unfold maxLen; omega
     case c4 => omega
     case c5 => have q1_ := (uh BB).size; have sz101_ := uh sz101; have sz102_ := uh sz102; simp; omega
     intro vOL4 wrb4 hown hgr _
     have oa := World.ownsRow.alloc (uh OL) (.cells ((mlC f) : List Value).toArray 100)
     have M_ := hide (((uh M).alloc (.cells ((mlC f) : List Value).toArray 100)).kept hgr (fun e => by have := uh LM _ e.symm; omega))
     have OG_ : Hid (OwnI w.heap.size wrb4 (.slice avg (goneTo8 b s k).length cvg) (goneTo8 b s k)) := g_aside (World.ownsRow.alloc (uh OG) (.cells ((mlC f) : List Value).toArray 100)) hgr (fun x hx => rows_apart (oa) (World.ownsRow.alloc (uh OG) (.cells ((mlC f) : List Value).toArray 100)) (by decide) x hx)
     have OL_ : Hid (OwnMl w.heap.size wrb4 vOL4 (leftTo8 b s k ++ [f])) := by exact OwnMl.snoc hown
     have BB_ : Hid (Below w.heap.size w wrb4) := ((uh BB).alloc (uh BB).size _).grown hgr (by have q1_ := (uh BB).size; simp; omega) (fun b hb => by have q2_ := (World.ownsRow.lt (uh OL) b hb).1; have q1_ := (uh BB).size; have sz101_ := uh sz101; have sz102_ := uh sz102; omega)
     have sz103 : Hid (wr2.heap.size ≤ wrb4.heap.size) := by have q3_ := hgr.size; simp at q3_; show _ ≤ _; omega
     replace M := M_; clear M_; replace OL := OL_; clear OL_; replace OG := OG_; clear OG_; replace BB := BB_; clear BB_; clear hown hgr oa lw4
     go_wp2
     go_roundw
     case rel =>
      refine ⟨k + 1, by omega, by go_num, ?_, ?_, uh BB⟩
      ·rw [uh NL, if_neg (by rw [uh IG]; decide)]; exact uh OL
      ·rw [uh NG, if_neg (by rw [uh IG]; decide)]; exact uh OG
     case measure => simp [intOf]; omega
    | true =>
     have IG : Hid (isGone s f = true) := by show _ = _; unfold isGone; rw [hu, hv]; rfl
     clear hu hv; have Mc0_3 := (uh M).cell 0 rfl; have Mc1_3 := (uh M).cell 1 rfl; have Mc2_3 := (uh M).cell 2 rfl; have Mc3_3 := (uh M).cell 3 rfl; have lw4 := (uh BB).size
     go_wp2_with (at_builtin; refine wpList_append_own _ rfl _ _ 108 rfl w.heap.size 3 iI _ 1 8 Tryz.underlying108 hI hI0 hI1 hI2 rfl (by decide) _ _ _ rfl (World.ownsRow.alloc (uh OG) _) ⟨wr2.heap.size, 0, none⟩ 1 1 [.int .i64 (f.uid)] rfl rfl (newsC _ _) ?c2 ?c3 ?c4 ?c5 ?_)
     clear Mc0_3 Mc1_3 Mc2_3 Mc3_3
     case c2 => intro u hu; simp [mlC, tbC, rgl] at hu; (try rcases hu with rfl | rfl | rfl | rfl) <;> (try rcases hu with rfl | rfl) <;> (try subst hu) <;> rfl
     case c3 => unfold maxLen; omega
     case c4 => omega
     case c5 => have q1_ := (uh BB).size; have sz101_ := uh sz101; have sz102_ := uh sz102; simp; omega
     intro vOG4 wr4 hown hgr _
     have oa := World.ownsRow.alloc (uh OG) (.cells ([.int .i64 (f.uid)] : List Value).toArray 3)
     have M_ := hide (((uh M).alloc (.cells ([.int .i64 (f.uid)] : List Value).toArray 3)).kept hgr (fun e => ((uh M).alloc (.cells ([.int .i64 (f.uid)] : List Value).toArray 3)).not_row (by decide) oa e.symm))
     have OL_ : Hid (OwnMl w.heap.size wr4 (.slice avl (leftTo8 b s k).length cvl) (leftTo8 b s k)) := g_aside (World.ownsRow.alloc (uh OL) (.cells ([.int .i64 (f.uid)] : List Value).toArray 3)) hgr (fun x hx => rows_apart (oa) (World.ownsRow.alloc (uh OL) (.cells ([.int .i64 (f.uid)] : List Value).toArray 3)) (by decide) x hx)
     have OG_ : Hid (OwnI w.heap.size wr4 vOG4 (goneTo8 b s k ++ [f.uid])) := by exact OwnI.snoc hown
     have BB_ : Hid (Below w.heap.size w wr4) := ((uh BB).alloc (uh BB).size _).grown hgr (by have q1_ := (uh BB).size; simp; omega) (fun b hb => by have q2_ := (World.ownsRow.lt (uh OG) b hb).1; have q1_ := (uh BB).size; have sz101_ := uh sz101; have sz102_ := uh sz102; omega)
     have sz103 : Hid (wr2.heap.size ≤ wr4.heap.size) := by have q3_ := hgr.size; simp at q3_; show _ ≤ _; omega
     replace M := M_; clear M_; replace OL := OL_; clear OL_; replace OG := OG_; clear OG_; replace BB := BB_; clear BB_; clear hown hgr oa lw4
     go_wp2
     go_roundw
     case rel =>
      refine ⟨k + 1, by omega, by go_num, ?_, ?_, uh BB⟩
      ·rw [uh NL, if_pos (uh IG)]; exact uh OL
      ·rw [uh NG, if_pos (uh IG)]; exact uh OG
     case measure => simp [intOf]; omega
  ·obtain rfl : k = b.mails.length := by omega
   rw [leftTo8_all] at hvl
   rw [goneTo8_all] at hvg
   have hq1 := (uh HQ).up hbel (uh HQ).lt; have f0 := hq1.frozen 0; have k0 := hq1.cell 0 rfl
   obtain ⟨avl, cvl, rfl⟩ := g_shape hvl
   have Q2 := hide (hq1.set 0 (.slice avl (leftM s b.mails).length cvl))
   have OL := hide (hq1.row (j := 0) (by decide) hvl (.slice avl (leftM s b.mails).length cvl))
   have OG := hide (hq1.row (j := 0) (by decide) hvg (.slice avl (leftM s b.mails).length cvl))
   have GB : Hid (GrownBut w (wo.setCell ⟨q, 0, none⟩ (.slice avl (leftM s b.mails).length cvl)) (fun k => k = q)) := ((GrownBut.below hbel rfl).then (GrownBut.of (g_store (j := 0) (g_self wo (some q)) (.slice avl (leftM s b.mails).length cvl)))).mono (fun k _ hx => by rcases hx with hx | hx; exact absurd hx id; exact (Option.some.inj hx).symm)
   clear hvl hvg hbel hq1
   go_wp2
   go_ret
   exact ⟨_, _, rfl, uh Q2, uh OG, uh OL, uh GB⟩
end Go.Proofs.YtlngjflhbkannaaGreat
