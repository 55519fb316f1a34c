/- Flags that are told change: the program's flag. Made by gen_flagi.py. -/
import Derived.Test.YtlngjflhbkannaaGreatDwB
import Derived.Test.YtlngjflhbkannaaGreatRuA
import Derived.Test.YtlngjflhbkannaaGreatIsA
import Derived.Test.YtlngjflhbkannaaGreatBoxNameS
import Derived.Test.YtlngjflhbkannaaGreatUidSetI
import Derived.Deep.AppendLies
namespace Go.Proofs.YtlngjflhbkannaaGreat
open Go.RowKit
open Plain
set_option linter.unusedVariables false
set_option linter.unusedSimpArgs false

theorem setFlags1_any (old how bits : Int) (ch cb : Nat) (w : World) (h1 : HasObj w ch 3 [.int .i64 how]) (h2 : HasObj w cb 3 [.int .i64 bits]) :
  Calls Tryz.prog 83 #[.int .i64 old, .pointer (some ⟨ch, 0, none⟩), .pointer (some ⟨cb, 0, none⟩)] w fun e w' => e = .returned (.int .i64 (afterV old how bits)) ∧ w' = w := by
 have c1 := h1.cell 0 rfl; have c2 := h2.cell 0 rfl; have Q := hide (impl_FlagsAfter_any old how bits w); clear h1 h2
 go_enter Tryz.func83, Tryz.ntmps83
 go_wp2_with fail
 refine (uh Q).mono ?_
 rintro e w1 ⟨rfl, hw⟩
 subst w1
 go_wp2
 go_ret
 exact ⟨rfl, rfl⟩
abbrev afters (ch cb : Nat) : Value := .func (.func 83) #[] #[.pointer (some ⟨ch, 0, none⟩), .pointer (some ⟨cb, 0, none⟩)]
set_option maxHeartbeats 8000000 in
set_option maxRecDepth 100000 in
theorem flag_any (b : Bx) (s : List Rg) (vs v : Value) (B ch cb : Nat) (how bits since : Int) (w : World) (hl : b.mails.length ≤ 30) (hsl : s.length ≤ 1048576) (RS : ∀ W, w.grownBy W v.ownBlock → ReadO W vs s) (hch : HasObj w ch 3 [.int .i64 how]) (hcb : HasObj w cb 3 [.int .i64 bits]) (h : OwnMl B w v b.mails) :
  Calls Tryz.prog 85 #[v, vs, afters ch cb, .int .i64 since, .int .i64 (b.mod + 1)] w fun e w' => ∃ v1 v2, e = .returned (.tuple #[v1, v2]) ∧ OwnI w.heap.size w' v1 (newU s how bits since b.mails) ∧ OwnI w.heap.size w' v2 (lateU s since b.mails) ∧ OwnMl B w' v (b.mails.map (newM b s how bits since)) ∧ w.grownBy w' v.ownBlock := by
 obtain ⟨iI, hI, hI0, hI1, hI2⟩ := info_parts Tryz.infoIntR
 obtain ⟨a0, c0, rfl⟩ := g_shape h
 have HO := hide h; have HCH := hide hch; have HCB := hide hcb; have HRS := hide RS; clear h hch hcb RS
 go_enter Tryz.func85, Tryz.ntmps85
 go_wp2
 go_loopw [12, 13, 19] (fun vc vl i wr => ∃ k : Nat, k ≤ b.mails.length ∧ i = .int .i64 k ∧ OwnI w.heap.size wr vc (newTo b s how bits since k) ∧ OwnI w.heap.size wr vl (lateTo b s since k) ∧ (∀ x, vc.ownBlock = some x → vl.ownBlock ≠ some x) ∧ OwnMl B wr (.slice a0 b.mails.length c0) (flRow b s how bits since k) ∧ w.grownBy wr (Value.ownBlock (.slice a0 b.mails.length c0))) (fun _ _ i _ => b.mails.length - (intOf i).toNat)
 case atStart => exact ⟨0, Nat.zero_le _, rfl, OwnI.nil _ _, OwnI.nil _ _, (fun x hx => by cases hx), by rw [flRow_zero]; exact uh HO, g_self _ _⟩
 case round =>
  obtain ⟨k, hk, rfl, hvc, hvl, hsep, hrow, hgr⟩ := hrel
  obtain ⟨wo, hwo⟩ : ∃ wo, wo = wr := ⟨_, rfl⟩
  subst hwo
  by_cases hlt : k < b.mails.length
  ·have hgk : b.mails[k]? = some b.mails[k] := List.getElem?_eq_getElem hlt
   obtain ⟨avc, cvc, rfl⟩ := g_shape hvc
   obtain ⟨avl, cvl, rfl⟩ := g_shape hvl
   have hrow2 : wo.ownsRow B 100 4 (.slice a0 b.mails.length c0) b.mails.length (rowC mlC (flRow b s how bits since k)) := by have h9 := hrow; unfold OwnMl at h9; rw [flRow_len] at h9; exact h9
   rcases hrow2.2 with ⟨_, e0⟩ | ⟨g, cp, cur, e, hgB, _, _⟩
   ·omega
   cases e
   have gl := ((uh HO).lt g rfl).2; have AT := flRow_at (s := s) (how := how) (bits := bits) (since := since) hgk
   obtain ⟨c0', c1, c2, c3⟩ := ml_cells hrow2 AT hlt
   have NR := hide (flRow_next (s := s) (how := how) (bits := bits) (since := since) hgk)
   have NS := hide (fun h => flRow_same (s := s) (how := how) (bits := bits) (since := since) hgk h)
   have NN := hide (newTo_next (s := s) (how := how) (bits := bits) (since := since) hgk); have NL := hide (lateTo_next (s := s) (since := since) hgk); have LN := newTo_len b s how bits since k; have LL := lateTo_len b s since k; have FL := hide (flRow_len b s how bits since k); have AT := hide AT
   generalize b.mails[k] = f at *
   have CH := hide ((uh HCH).kept hgr (fun e => (uh HCH).not_row (by decide) (uh HO) e.symm))
   have CB := hide ((uh HCB).kept hgr (fun e => (uh HCB).not_row (by decide) (uh HO) e.symm))
   have ngh : g ≠ ch := fun e => (uh HCH).not_row (by decide) (uh HO) (by rw [← e]; rfl)
   have ngb : g ≠ cb := fun e => (uh HCB).not_row (by decide) (uh HO) (by rw [← e]; rfl)
   have i1 : (0 : Int) ≤ (k : Int) := by omega
   have i2 : (k : Int) < (b.mails.length : Int) := by omega
   have gle := hgr.size; have OC := hide hvc; have OL := hide hvl; have SEP := hide hsep; have RM := hide hrow2; have BB := hide hgr; clear hvc hvl hsep hrow hrow2 hgr hgk
   obtain ⟨wr1, hM⟩ : ∃ X, X = wo.alloc (.cells ([.int .i64 f.uid, .int .i64 f.flags, .int .i64 f.mod, .string f.text] : List Value).toArray 100) := ⟨_, rfl⟩
   have Mx : HasObj wr1 wo.heap.size 100 [.int .i64 f.uid, .int .i64 f.flags, .int .i64 f.mod, .string f.text] := by rw [hM]; exact HasObj.new _ _ _
   have hbn : Below wo.heap.size wo wr1 := by rw [hM]; exact (Below.refl _ _).alloc (Nat.le_refl _) _
   have neCHM : ch ≠ wo.heap.size := Nat.ne_of_lt (uh CH).lt
   have neCBM : cb ≠ wo.heap.size := Nat.ne_of_lt (uh CB).lt
   have loM : w.heap.size ≤ wo.heap.size := (uh BB).size
   have EM := hM.symm; clear hM; replace RM := hide (g_stays (uh RM) hbn); replace CH := hide ((uh CH).ups hbn); replace CB := hide ((uh CB).ups hbn); replace OC := hide ((uh OC).up hbn); replace OL := hide ((uh OL).up hbn); have sz101 := hide (hbn.size); replace BB := hide (g_then (uh BB) hbn); clear hbn; have M := hide Mx; clear Mx; have Mc0_1 := (uh M).cell 0 rfl; have Mc1_1 := (uh M).cell 1 rfl; have Mc2_1 := (uh M).cell 2 rfl; have Mc3_1 := (uh M).cell 3 rfl; go_wp2_with fail; clear Mc0_1 Mc1_1 Mc2_1 Mc3_1 EM
   refine (impl_SetHas_any s vs f.uid _ hsl (uh HRS _ (uh BB))).mono ?_
   rintro e wr2 ⟨rfl, hb⟩
   replace RM := hide (g_stays (uh RM) hb); replace CH := hide ((uh CH).ups hb); replace CB := hide ((uh CB).ups hb); replace M := hide ((uh M).ups hb); replace OC := hide ((uh OC).up hb); replace OL := hide ((uh OL).up hb); have sz102 := hide (hb.size); replace BB := hide (g_then (uh BB) hb); clear hb; clear c0' c1 c2 c3
   cases hu : hasB s f.uid with
   | false =>
    have IN : Hid (isNew s how bits since f = false) := by show _ = _; unfold isNew; rw [hu]; rfl
    have IL : Hid (isLate s since f = false) := by show _ = _; unfold isLate; rw [hu]; rfl
    clear hu
    go_wp2
    go_roundw
    case rel =>
     refine ⟨k + 1, by omega, by go_num, ?_, ?_, uh SEP, ?_, uh BB⟩
     ·rw [uh NN, if_neg (by rw [uh IN]; decide)]; exact uh OC
     ·rw [uh NL, if_neg (by rw [uh IL]; decide)]; exact uh OL
     ·rw [uh NS (uh IN)]; unfold OwnMl; rw [uh FL]; exact uh RM
    case measure => simp [intOf]; omega
   | true =>
    obtain ⟨r1, hr1⟩ : ∃ r, decide (0 ≤ since) = r := ⟨_, rfl⟩
    obtain ⟨r2, hr2⟩ : ∃ r, decide (since < f.mod) = r := ⟨_, rfl⟩
    have IL : Hid (isLate s since f = (r1 && r2)) := by show _ = _; unfold isLate; rw [hu, hr1, hr2]; rfl
    have IN : Hid (isNew s how bits since f = (!(r1 && r2) && !(afterV f.flags how bits == f.flags))) := by show _ = _; unfold isNew; rw [hu, hr1, hr2]; rfl
    clear hu
    have lOC : ∀ x, Value.ownBlock (.slice avc (newTo b s how bits since k).length cvc) = some x → x < wr2.heap.size := fun x hx => (World.ownsRow.lt (uh OC) x hx).2
    cases r1 with
    | false =>
     replace IL : Hid (isLate s since f = false) := uh IL
     have CHc0_2 := (uh CH).cell 0 rfl; have CBc0_3 := (uh CB).cell 0 rfl; have Mc0_4 := (uh M).cell 0 rfl; have Mc1_4 := (uh M).cell 1 rfl; have Mc2_4 := (uh M).cell 2 rfl; have Mc3_4 := (uh M).cell 3 rfl; go_wp2_with fail; clear CHc0_2 CBc0_3 Mc0_4 Mc1_4 Mc2_4 Mc3_4
     refine (setFlags1_any f.flags how bits ch cb _ (uh CH) (uh CB)).mono ?_
     rintro e wra3 ⟨rfl, hw⟩
     subst wra3
     have Mc0_5 := (uh M).cell 0 rfl; have Mc1_5 := (uh M).cell 1 rfl; have Mc2_5 := (uh M).cell 2 rfl; have Mc3_5 := (uh M).cell 3 rfl
     obtain ⟨af, haf⟩ : ∃ y, y = afterV f.flags how bits := ⟨_, rfl⟩
     rw [← haf] at IN ⊢
     have HAF := hide haf; clear haf
     by_cases hd : af = f.flags
     ·have dn : (af == f.flags) = true := beq_iff_eq.2 hd
      have IN_ : Hid (isNew s how bits since f = false) := by show _ = _; rw [uh IN, dn]; rfl
      clear IN; have IN := IN_; clear IN_ hd
      go_wp2
      go_roundw
      case rel =>
       refine ⟨k + 1, by omega, by go_num, ?_, ?_, uh SEP, ?_, uh BB⟩
       ·rw [uh NN, if_neg (by rw [uh IN]; decide)]; exact uh OC
       ·rw [uh NL, if_neg (by rw [uh IL]; decide)]; exact uh OL
       ·rw [uh NS (uh IN)]; unfold OwnMl; rw [uh FL]; exact uh RM
      case measure => simp [intOf]; omega
     have dn : (af == f.flags) = false := beq_eq_false_iff_ne.2 hd
     have IN_ : Hid (isNew s how bits since f = true) := by show _ = _; rw [uh IN, dn]; rfl
     clear IN; have IN := IN_; clear IN_ hd
     have NM : Hid (newM b s how bits since f = ⟨f.uid, af, b.mod + 1, f.text⟩) := by show _ = _; unfold newM; rw [uh IN, uh HAF]; rfl
     obtain ⟨d0, d1, d2, d3⟩ := ml_cells (uh RM) (uh AT) hlt
     have f1 := World.ownsRow.frozenAt (uh RM) (k * 4 + 1); have f2 := World.ownsRow.frozenAt (uh RM) (k * 4 + 2)
     obtain ⟨wran4, hst⟩ : ∃ X, X = (wr2.setCell ⟨g, k * 4 + 1, none⟩ (.int .i64 af)).setCell ⟨g, k * 4 + 2, none⟩ (.int .i64 (b.mod + 1)) := ⟨_, rfl⟩
     have gst : wr2.grownBy wran4 (some g) := by rw [hst]; exact g_store (g_store (g_self _ (some g)) _) _
     have RM_ : Hid (wran4.ownsRow B 100 4 (.slice (some ⟨g, 0, none⟩) b.mails.length c0) b.mails.length (rowC mlC ((flRow b s how bits since k).set k ⟨f.uid, af, b.mod + 1, f.text⟩))) := by show wran4.ownsRow B 100 4 (.slice (some ⟨g, 0, none⟩) b.mails.length c0) b.mails.length (rowC mlC ((flRow b s how bits since k).set k ⟨f.uid, af, b.mod + 1, f.text⟩)); rw [hst]; exact row_putTwo (uh RM) (uh AT) af (b.mod + 1)
     have CH_ := hide ((uh CH).kept gst (fun e => ngh (Option.some.inj e).symm))
     have CB_ := hide ((uh CB).kept gst (fun e => ngb (Option.some.inj e).symm))
     have M_ := hide ((uh M).kept gst (fun e => by have := Option.some.inj e; omega))
     have OC_ : Hid (OwnI w.heap.size wran4 (.slice avc (newTo b s how bits since k).length cvc) (newTo b s how bits since k)) := g_aside (uh OC) gst (fun x hx => by have := Option.some.inj hx; subst this; exact rows_apart (uh RM) (uh OC) (by decide) g rfl)
     have OL_ : Hid (OwnI w.heap.size wran4 (.slice avl (lateTo b s since k).length cvl) (lateTo b s since k)) := g_aside (uh OL) gst (fun x hx => by have := Option.some.inj hx; subst this; exact rows_apart (uh RM) (uh OL) (by decide) g rfl)
     have BB_ : Hid (w.grownBy wran4 (Value.ownBlock (.slice (some ⟨g, 0, none⟩) b.mails.length c0))) := g_join (uh BB) gst
     have szs := hide gst.size; replace RM := RM_; clear RM_; replace CH := CH_; clear CH_; replace CB := CB_; clear CB_; replace M := M_; clear M_; replace OC := OC_; clear OC_; replace OL := OL_; clear OL_; replace BB := BB_; clear BB_; have Est := hst.symm; clear hst gst; have Mc0_6 := (uh M).cell 0 rfl; have Mc1_6 := (uh M).cell 1 rfl; have Mc2_6 := (uh M).cell 2 rfl; have Mc3_6 := (uh M).cell 3 rfl
     have lOL : ∀ x, Value.ownBlock (.slice avl (lateTo b s since k).length cvl) = some x → x < wran4.heap.size := fun x hx => (World.ownsRow.lt (uh OL) x hx).2
     have lw5 := (uh BB).size
     go_wp2_with (at_builtin; refine wpList_append_lies _ rfl _ _ 108 rfl w.heap.size 3 iI _ 1 8 Tryz.underlying108 hI hI0 hI1 hI2 rfl (by decide) _ _ _ rfl (World.ownsRow.alloc (uh OC) _) ⟨wran4.heap.size, 0, none⟩ 1 1 [.int .i64 (f.uid)] rfl rfl (newsC _ _) ?c2 (by decide) ?c3 ?c4 ?c5 (wran4.heap.size + 1) (by simp) ?_)
     clear Mc0_5 Mc1_5 Mc2_5 Mc3_5 d0 d1 d2 d3 f1 f2 dn Mc0_6 Mc1_6 Mc2_6 Mc3_6 Est
     case c2 => intro u hu; simp [mlC, tbC, rgl] at hu; (try rcases hu with rfl | rfl | rfl | rfl) <;> (try rcases hu with rfl | rfl) <;> (try subst hu) <;> rfl
     case c3 => unfold maxLen; omega
     case c4 => omega
     case c5 => have q1_ := (uh BB).size; have sz101_ := uh sz101; have sz102_ := uh sz102; have szs_ := uh szs; simp; omega
     intro gOC5 capOC5 wran5 hown hgr hat hlt_
     have oa := World.ownsRow.alloc (uh OC) (.cells ([.int .i64 (f.uid)] : List Value).toArray 3)
     have CH_ := hide (((uh CH).alloc (.cells ([.int .i64 (f.uid)] : List Value).toArray 3)).kept hgr (fun e => by have q1_ := (World.ownsRow.lt oa _ e.symm).1; have q2_ := (uh HCH).lt; omega))
     have CB_ := hide (((uh CB).alloc (.cells ([.int .i64 (f.uid)] : List Value).toArray 3)).kept hgr (fun e => by have q1_ := (World.ownsRow.lt oa _ e.symm).1; have q2_ := (uh HCB).lt; omega))
     have M_ := hide (((uh M).alloc (.cells ([.int .i64 (f.uid)] : List Value).toArray 3)).kept hgr (fun e => ((uh M).alloc (.cells ([.int .i64 (f.uid)] : List Value).toArray 3)).not_row (by decide) oa e.symm))
     have OL_ : Hid (OwnI w.heap.size wran5 (.slice avl (lateTo b s since k).length cvl) (lateTo b s since k)) := g_aside (World.ownsRow.alloc (uh OL) (.cells ([.int .i64 (f.uid)] : List Value).toArray 3)) hgr (fun x hx => uh SEP x hx)
     have OC_ : Hid (OwnI w.heap.size wran5 (.slice (some ⟨gOC5, 0, none⟩) ((newTo b s how bits since k).length + 1) capOC5) (newTo b s how bits since k ++ [f.uid])) := by exact OwnI.snoc hown
     have BB_ : Hid (w.grownBy wran5 (Value.ownBlock (.slice (some ⟨g, 0, none⟩) b.mails.length c0))) := g_new (g_alloc (uh BB) (.cells ([.int .i64 (f.uid)] : List Value).toArray 3)) hgr (fun b hb => by have q2_ := (World.ownsRow.lt (uh OC) b hb).1; have q1_ := (uh BB).size; have sz101_ := uh sz101; have sz102_ := uh sz102; have szs_ := uh szs; omega)
     have sz103 : Hid (wran4.heap.size ≤ wran5.heap.size) := by have q3_ := hgr.size; simp at q3_; show _ ≤ _; omega
     replace CH := CH_; clear CH_; replace CB := CB_; clear CB_; replace M := M_; clear M_; replace OC := OC_; clear OC_; replace OL := OL_; clear OL_; replace BB := BB_; clear BB_
     replace RM := hide (g_aside (World.ownsRow.alloc (uh RM) (.cells ([.int .i64 (f.uid)] : List Value).toArray 3)) hgr (fun x hx => rows_apart oa (World.ownsRow.alloc (uh RM) (.cells ([.int .i64 (f.uid)] : List Value).toArray 3)) (by decide) x hx))
     have SEP_ : Hid (∀ x, (Value.slice (some ⟨gOC5, 0, none⟩) ((newTo b s how bits since k).length + 1) 0).ownBlock = some x → (Value.slice avl (lateTo b s since k).length cvl).ownBlock ≠ some x) := fun x hx hx2 => by
      have e1 : gOC5 = x := Option.some.inj hx
      rcases hat with hat | hat
      ·exact uh SEP x (by rw [← e1]; exact hat) hx2
      ·have q1 := lOL x hx2; omega
     replace SEP := SEP_; clear SEP_; clear hown hgr oa lw5 hat hlt_
     go_wp2
     go_roundw
     case rel =>
      refine ⟨k + 1, by omega, by go_num, ?_, ?_, uh SEP, ?_, uh BB⟩
      ·rw [uh NN, if_pos (uh IN)]; exact uh OC
      ·rw [uh NL, if_neg (by rw [uh IL]; decide)]; exact uh OL
      ·rw [uh NR, uh NM]; unfold OwnMl; rw [List.length_set, uh FL]; exact uh RM
     case measure => simp [intOf]; omega
    | true =>
     cases r2 with
     | false =>
      replace IL : Hid (isLate s since f = false) := uh IL
      have CHc0_2 := (uh CH).cell 0 rfl; have CBc0_3 := (uh CB).cell 0 rfl; have Mc0_4 := (uh M).cell 0 rfl; have Mc1_4 := (uh M).cell 1 rfl; have Mc2_4 := (uh M).cell 2 rfl; have Mc3_4 := (uh M).cell 3 rfl; go_wp2_with fail; clear CHc0_2 CBc0_3 Mc0_4 Mc1_4 Mc2_4 Mc3_4
      refine (setFlags1_any f.flags how bits ch cb _ (uh CH) (uh CB)).mono ?_
      rintro e wrb3 ⟨rfl, hw⟩
      subst wrb3
      have Mc0_5 := (uh M).cell 0 rfl; have Mc1_5 := (uh M).cell 1 rfl; have Mc2_5 := (uh M).cell 2 rfl; have Mc3_5 := (uh M).cell 3 rfl
      obtain ⟨af, haf⟩ : ∃ y, y = afterV f.flags how bits := ⟨_, rfl⟩
      rw [← haf] at IN ⊢
      have HAF := hide haf; clear haf
      by_cases hd : af = f.flags
      ·have dn : (af == f.flags) = true := beq_iff_eq.2 hd
       have IN_ : Hid (isNew s how bits since f = false) := by show _ = _; rw [uh IN, dn]; rfl
       clear IN; have IN := IN_; clear IN_ hd
       go_wp2
       go_roundw
       case rel =>
        refine ⟨k + 1, by omega, by go_num, ?_, ?_, uh SEP, ?_, uh BB⟩
        ·rw [uh NN, if_neg (by rw [uh IN]; decide)]; exact uh OC
        ·rw [uh NL, if_neg (by rw [uh IL]; decide)]; exact uh OL
        ·rw [uh NS (uh IN)]; unfold OwnMl; rw [uh FL]; exact uh RM
       case measure => simp [intOf]; omega
      have dn : (af == f.flags) = false := beq_eq_false_iff_ne.2 hd
      have IN_ : Hid (isNew s how bits since f = true) := by show _ = _; rw [uh IN, dn]; rfl
      clear IN; have IN := IN_; clear IN_ hd
      have NM : Hid (newM b s how bits since f = ⟨f.uid, af, b.mod + 1, f.text⟩) := by show _ = _; unfold newM; rw [uh IN, uh HAF]; rfl
      obtain ⟨d0, d1, d2, d3⟩ := ml_cells (uh RM) (uh AT) hlt
      have f1 := World.ownsRow.frozenAt (uh RM) (k * 4 + 1); have f2 := World.ownsRow.frozenAt (uh RM) (k * 4 + 2)
      obtain ⟨wrbn4, hst⟩ : ∃ X, X = (wr2.setCell ⟨g, k * 4 + 1, none⟩ (.int .i64 af)).setCell ⟨g, k * 4 + 2, none⟩ (.int .i64 (b.mod + 1)) := ⟨_, rfl⟩
      have gst : wr2.grownBy wrbn4 (some g) := by rw [hst]; exact g_store (g_store (g_self _ (some g)) _) _
      have RM_ : Hid (wrbn4.ownsRow B 100 4 (.slice (some ⟨g, 0, none⟩) b.mails.length c0) b.mails.length (rowC mlC ((flRow b s how bits since k).set k ⟨f.uid, af, b.mod + 1, f.text⟩))) := by show wrbn4.ownsRow B 100 4 (.slice (some ⟨g, 0, none⟩) b.mails.length c0) b.mails.length (rowC mlC ((flRow b s how bits since k).set k ⟨f.uid, af, b.mod + 1, f.text⟩)); rw [hst]; exact row_putTwo (uh RM) (uh AT) af (b.mod + 1)
      have CH_ := hide ((uh CH).kept gst (fun e => ngh (Option.some.inj e).symm))
      have CB_ := hide ((uh CB).kept gst (fun e => ngb (Option.some.inj e).symm))
      have M_ := hide ((uh M).kept gst (fun e => by have := Option.some.inj e; omega))
      have OC_ : Hid (OwnI w.heap.size wrbn4 (.slice avc (newTo b s how bits since k).length cvc) (newTo b s how bits since k)) := g_aside (uh OC) gst (fun x hx => by have := Option.some.inj hx; subst this; exact rows_apart (uh RM) (uh OC) (by decide) g rfl)
      have OL_ : Hid (OwnI w.heap.size wrbn4 (.slice avl (lateTo b s since k).length cvl) (lateTo b s since k)) := g_aside (uh OL) gst (fun x hx => by have := Option.some.inj hx; subst this; exact rows_apart (uh RM) (uh OL) (by decide) g rfl)
      have BB_ : Hid (w.grownBy wrbn4 (Value.ownBlock (.slice (some ⟨g, 0, none⟩) b.mails.length c0))) := g_join (uh BB) gst
      have szs := hide gst.size; replace RM := RM_; clear RM_; replace CH := CH_; clear CH_; replace CB := CB_; clear CB_; replace M := M_; clear M_; replace OC := OC_; clear OC_; replace OL := OL_; clear OL_; replace BB := BB_; clear BB_; have Est := hst.symm; clear hst gst; have Mc0_6 := (uh M).cell 0 rfl; have Mc1_6 := (uh M).cell 1 rfl; have Mc2_6 := (uh M).cell 2 rfl; have Mc3_6 := (uh M).cell 3 rfl
      have lOL : ∀ x, Value.ownBlock (.slice avl (lateTo b s since k).length cvl) = some x → x < wrbn4.heap.size := fun x hx => (World.ownsRow.lt (uh OL) x hx).2
      have lw5 := (uh BB).size
      go_wp2_with (at_builtin; refine wpList_append_lies _ rfl _ _ 108 rfl w.heap.size 3 iI _ 1 8 Tryz.underlying108 hI hI0 hI1 hI2 rfl (by decide) _ _ _ rfl (World.ownsRow.alloc (uh OC) _) ⟨wrbn4.heap.size, 0, none⟩ 1 1 [.int .i64 (f.uid)] rfl rfl (newsC _ _) ?c2 (by decide) ?c3 ?c4 ?c5 (wrbn4.heap.size + 1) (by simp) ?_)
      clear Mc0_5 Mc1_5 Mc2_5 Mc3_5 d0 d1 d2 d3 f1 f2 dn Mc0_6 Mc1_6 Mc2_6 Mc3_6 Est
      case c2 => intro u hu; simp [mlC, tbC, rgl] at hu; (try rcases hu with rfl | rfl | rfl | rfl) <;> (try rcases hu with rfl | rfl) <;> (try subst hu) <;> rfl
      case c3 => unfold maxLen; omega
      case c4 => omega
      case c5 => have q1_ := (uh BB).size; have sz101_ := uh sz101; have sz102_ := uh sz102; have szs_ := uh szs; simp; omega
      intro gOC5 capOC5 wrbn5 hown hgr hat hlt_
      have oa := World.ownsRow.alloc (uh OC) (.cells ([.int .i64 (f.uid)] : List Value).toArray 3)
      have CH_ := hide (((uh CH).alloc (.cells ([.int .i64 (f.uid)] : List Value).toArray 3)).kept hgr (fun e => by have q1_ := (World.ownsRow.lt oa _ e.symm).1; have q2_ := (uh HCH).lt; omega))
      have CB_ := hide (((uh CB).alloc (.cells ([.int .i64 (f.uid)] : List Value).toArray 3)).kept hgr (fun e => by have q1_ := (World.ownsRow.lt oa _ e.symm).1; have q2_ := (uh HCB).lt; omega))
      have M_ := hide (((uh M).alloc (.cells ([.int .i64 (f.uid)] : List Value).toArray 3)).kept hgr (fun e => ((uh M).alloc (.cells ([.int .i64 (f.uid)] : List Value).toArray 3)).not_row (by decide) oa e.symm))
      have OL_ : Hid (OwnI w.heap.size wrbn5 (.slice avl (lateTo b s since k).length cvl) (lateTo b s since k)) := g_aside (World.ownsRow.alloc (uh OL) (.cells ([.int .i64 (f.uid)] : List Value).toArray 3)) hgr (fun x hx => uh SEP x hx)
      have OC_ : Hid (OwnI w.heap.size wrbn5 (.slice (some ⟨gOC5, 0, none⟩) ((newTo b s how bits since k).length + 1) capOC5) (newTo b s how bits since k ++ [f.uid])) := by exact OwnI.snoc hown
      have BB_ : Hid (w.grownBy wrbn5 (Value.ownBlock (.slice (some ⟨g, 0, none⟩) b.mails.length c0))) := g_new (g_alloc (uh BB) (.cells ([.int .i64 (f.uid)] : List Value).toArray 3)) hgr (fun b hb => by have q2_ := (World.ownsRow.lt (uh OC) b hb).1; have q1_ := (uh BB).size; have sz101_ := uh sz101; have sz102_ := uh sz102; have szs_ := uh szs; omega)
      have sz103 : Hid (wrbn4.heap.size ≤ wrbn5.heap.size) := by have q3_ := hgr.size; simp at q3_; show _ ≤ _; omega
      replace CH := CH_; clear CH_; replace CB := CB_; clear CB_; replace M := M_; clear M_; replace OC := OC_; clear OC_; replace OL := OL_; clear OL_; replace BB := BB_; clear BB_
      replace RM := hide (g_aside (World.ownsRow.alloc (uh RM) (.cells ([.int .i64 (f.uid)] : List Value).toArray 3)) hgr (fun x hx => rows_apart oa (World.ownsRow.alloc (uh RM) (.cells ([.int .i64 (f.uid)] : List Value).toArray 3)) (by decide) x hx))
      have SEP_ : Hid (∀ x, (Value.slice (some ⟨gOC5, 0, none⟩) ((newTo b s how bits since k).length + 1) 0).ownBlock = some x → (Value.slice avl (lateTo b s since k).length cvl).ownBlock ≠ some x) := fun x hx hx2 => by
       have e1 : gOC5 = x := Option.some.inj hx
       rcases hat with hat | hat
       ·exact uh SEP x (by rw [← e1]; exact hat) hx2
       ·have q1 := lOL x hx2; omega
      replace SEP := SEP_; clear SEP_; clear hown hgr oa lw5 hat hlt_
      go_wp2
      go_roundw
      case rel =>
       refine ⟨k + 1, by omega, by go_num, ?_, ?_, uh SEP, ?_, uh BB⟩
       ·rw [uh NN, if_pos (uh IN)]; exact uh OC
       ·rw [uh NL, if_neg (by rw [uh IL]; decide)]; exact uh OL
       ·rw [uh NR, uh NM]; unfold OwnMl; rw [List.length_set, uh FL]; exact uh RM
      case measure => simp [intOf]; omega
     | true =>
      replace IL : Hid (isLate s since f = true) := uh IL
      replace IN : Hid (isNew s how bits since f = false) := uh IN
      have Mc0_2 := (uh M).cell 0 rfl; have Mc1_2 := (uh M).cell 1 rfl; have Mc2_2 := (uh M).cell 2 rfl; have Mc3_2 := (uh M).cell 3 rfl; have lw3 := (uh BB).size
      go_wp2_with (at_builtin; refine wpList_append_lies _ rfl _ _ 108 rfl w.heap.size 3 iI _ 1 8 Tryz.underlying108 hI hI0 hI1 hI2 rfl (by decide) _ _ _ rfl (World.ownsRow.alloc (uh OL) _) ⟨wr2.heap.size, 0, none⟩ 1 1 [.int .i64 (f.uid)] rfl rfl (newsC _ _) ?c2 (by decide) ?c3 ?c4 ?c5 (wr2.heap.size + 1) (by simp) ?_)
      clear Mc0_2 Mc1_2 Mc2_2 Mc3_2
      case c2 => intro u hu; simp [mlC, tbC, rgl] at hu; (try rcases hu with rfl | rfl | rfl | rfl) <;> (try rcases hu with rfl | rfl) <;> (try subst hu) <;> rfl
      case c3 => unfold maxLen; omega
      case c4 => omega
      case c5 => have q1_ := (uh BB).size; have sz101_ := uh sz101; have sz102_ := uh sz102; simp; omega
      intro gOL3 capOL3 wrc3 hown hgr hat hlt_
      have oa := World.ownsRow.alloc (uh OL) (.cells ([.int .i64 (f.uid)] : List Value).toArray 3)
      have CH_ := hide (((uh CH).alloc (.cells ([.int .i64 (f.uid)] : List Value).toArray 3)).kept hgr (fun e => by have q1_ := (World.ownsRow.lt oa _ e.symm).1; have q2_ := (uh HCH).lt; omega))
      have CB_ := hide (((uh CB).alloc (.cells ([.int .i64 (f.uid)] : List Value).toArray 3)).kept hgr (fun e => by have q1_ := (World.ownsRow.lt oa _ e.symm).1; have q2_ := (uh HCB).lt; omega))
      have M_ := hide (((uh M).alloc (.cells ([.int .i64 (f.uid)] : List Value).toArray 3)).kept hgr (fun e => ((uh M).alloc (.cells ([.int .i64 (f.uid)] : List Value).toArray 3)).not_row (by decide) oa e.symm))
      have OC_ : Hid (OwnI w.heap.size wrc3 (.slice avc (newTo b s how bits since k).length cvc) (newTo b s how bits since k)) := g_aside (World.ownsRow.alloc (uh OC) (.cells ([.int .i64 (f.uid)] : List Value).toArray 3)) hgr (fun x hx hx2 => uh SEP x hx2 hx)
      have OL_ : Hid (OwnI w.heap.size wrc3 (.slice (some ⟨gOL3, 0, none⟩) ((lateTo b s since k).length + 1) capOL3) (lateTo b s since k ++ [f.uid])) := by exact OwnI.snoc hown
      have BB_ : Hid (w.grownBy wrc3 (Value.ownBlock (.slice (some ⟨g, 0, none⟩) b.mails.length c0))) := g_new (g_alloc (uh BB) (.cells ([.int .i64 (f.uid)] : List Value).toArray 3)) hgr (fun b hb => by have q2_ := (World.ownsRow.lt (uh OL) b hb).1; have q1_ := (uh BB).size; have sz101_ := uh sz101; have sz102_ := uh sz102; omega)
      have sz103 : Hid (wr2.heap.size ≤ wrc3.heap.size) := by have q3_ := hgr.size; simp at q3_; show _ ≤ _; omega
      replace CH := CH_; clear CH_; replace CB := CB_; clear CB_; replace M := M_; clear M_; replace OC := OC_; clear OC_; replace OL := OL_; clear OL_; replace BB := BB_; clear BB_
      replace RM := hide (g_aside (World.ownsRow.alloc (uh RM) (.cells ([.int .i64 (f.uid)] : List Value).toArray 3)) hgr (fun x hx => rows_apart oa (World.ownsRow.alloc (uh RM) (.cells ([.int .i64 (f.uid)] : List Value).toArray 3)) (by decide) x hx))
      have SEP_ : Hid (∀ x, (Value.slice avc (newTo b s how bits since k).length cvc).ownBlock = some x → (Value.slice (some ⟨gOL3, 0, none⟩) ((lateTo b s since k).length + 1) 0).ownBlock ≠ some x) := fun x hx hx2 => by
       have e1 : gOL3 = x := Option.some.inj hx2
       rcases hat with hat | hat
       ·exact uh SEP x hx (by rw [← e1]; exact hat)
       ·have q1 := lOC x hx; have q2 := uh sz102; omega
      replace SEP := SEP_; clear SEP_; clear hown hgr oa lw3 hat hlt_
      go_wp2
      go_roundw
      case rel =>
       refine ⟨k + 1, by omega, by go_num, ?_, ?_, uh SEP, ?_, uh BB⟩
       ·rw [uh NN, if_neg (by rw [uh IN]; decide)]; exact uh OC
       ·rw [uh NL, if_pos (uh IL)]; exact uh OL
       ·rw [uh NS (uh IN)]; unfold OwnMl; rw [uh FL]; exact uh RM
      case measure => simp [intOf]; omega
  ·obtain rfl : k = b.mails.length := by omega
   rw [newTo_all] at hvc
   rw [lateTo_all] at hvl
   rw [flRow_all] at hrow
   have OC := hide hvc; have OL := hide hvl; have RM := hide hrow; have BB := hide hgr; clear hvc hvl hsep hrow hgr
   go_wp2
   go_returns
   exact ⟨_, _, rfl, uh OC, uh OL, uh RM, uh BB⟩
end Go.Proofs.YtlngjflhbkannaaGreat
