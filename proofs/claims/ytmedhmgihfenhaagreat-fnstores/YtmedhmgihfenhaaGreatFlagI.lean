/- Flags that are told change: the program's flag. Made by gen_flagi.py. -/
import Derived.Test.YtmedhmgihfenhaaGreatFlagRows
import Derived.Test.YtmedhmgihfenhaaGreatImplFlag
import Derived.Test.YtmedhmgihfenhaaGreatImplHas
import Derived.Test.YtmedhmgihfenhaaGreatBoxNameS
import Derived.Test.YtmedhmgihfenhaaGreatUidSetI
import Derived.Deep.AppendLies
namespace Go.Proofs.YtmedhmgihfenhaaGreat
open Go.RowKit
open Plain
set_option linter.unusedVariables false
set_option linter.unusedSimpArgs false

theorem setFlags1_any (old how bits : Int) (ch cb : Nat) (w : World) (h1 : HasObj w ch 3 [.int .i64 how]) (h2 : HasObj w cb 3 [.int .i64 bits]) :
    Calls Tryz.prog 46 #[.int .i64 old, .pointer (some ⟨ch, 0, none⟩), .pointer (some ⟨cb, 0, none⟩)] w fun e w' => e = .returned (.int .i64 (afterV old how bits)) ∧ w' = w := by
  have c1 := h1.cell 0 rfl
  have c2 := h2.cell 0 rfl
  have Q := hide (impl_FlagsAfter_any old how bits w)
  clear h1 h2
  go_enter Tryz.func46, Tryz.ntmps46
  go_wp2_with fail
  refine (unhide Q).mono ?_
  rintro e w1 ⟨rfl, hw⟩
  subst w1
  go_wp2
  go_ret
  exact ⟨rfl, rfl⟩
abbrev afters (ch cb : Nat) : Value := .func (.func 46) #[] #[.pointer (some ⟨ch, 0, none⟩), .pointer (some ⟨cb, 0, none⟩)]
set_option maxHeartbeats 8000000 in
set_option maxRecDepth 100000 in
theorem flag_any (b : Bx) (s : List Rg) (vs v : Value) (B ch cb : Nat) (how bits since : Int) (w : World) (hl : b.mails.length ≤ 30) (hsl : s.length ≤ 1048576) (RS : ∀ W, w.grownBy W v.ownBlock → ReadO W vs s) (hch : HasObj w ch 3 [.int .i64 how]) (hcb : HasObj w cb 3 [.int .i64 bits]) (h : OwnMl B w v b.mails) :
    Calls Tryz.prog 48 #[v, vs, afters ch cb, .int .i64 since, .int .i64 (b.mod + 1)] w fun e w' => ∃ v1 v2, e = .returned (.tuple #[v1, v2]) ∧ OwnI w.heap.size w' v1 (newU s how bits since b.mails) ∧ OwnI w.heap.size w' v2 (lateU s since b.mails) ∧ OwnMl B w' v (b.mails.map (newM b s how bits since)) ∧ w.grownBy w' v.ownBlock := by
  obtain ⟨iI, hI, hI0, hI1, hI2⟩ := info_parts Tryz.infoIntR
  obtain ⟨a0, c0, rfl⟩ := g_shape h
  have HO := hide h
  have HCH := hide hch
  have HCB := hide hcb
  have HRS := hide RS
  clear h hch hcb RS
  go_enter Tryz.func48, Tryz.ntmps48
  go_wp2
  go_loopw [12, 13, 19] (fun vc vl i wr => ∃ k : Nat, k ≤ b.mails.length ∧ i = .int .i64 k ∧ OwnI w.heap.size wr vc (newTo b s how bits since k) ∧ OwnI w.heap.size wr vl (lateTo b s since k) ∧ (∀ x, vc.ownBlock = some x → vl.ownBlock ≠ some x) ∧ OwnMl B wr (.slice a0 b.mails.length c0) (flRow b s how bits since k) ∧ w.grownBy wr (Value.ownBlock (.slice a0 b.mails.length c0))) (fun _ _ i _ => b.mails.length - (intOf i).toNat)
  case atStart => exact ⟨0, Nat.zero_le _, rfl, OwnI.nil _ _, OwnI.nil _ _, (fun x hx => by cases hx), by rw [flRow_zero]; exact unhide HO, g_self _ _⟩
  case round =>
    obtain ⟨k, hk, rfl, hvc, hvl, hsep, hrow, hgr⟩ := hrel
    obtain ⟨wo, hwo⟩ : ∃ wo, wo = wr := ⟨_, rfl⟩
    subst hwo
    by_cases hlt : k < b.mails.length
    · have hgk : b.mails[k]? = some b.mails[k] := List.getElem?_eq_getElem hlt
      obtain ⟨avc, cvc, rfl⟩ := g_shape hvc
      obtain ⟨avl, cvl, rfl⟩ := g_shape hvl
      have hrow2 : wo.ownsRow B 40 4 (.slice a0 b.mails.length c0) b.mails.length (rowC mlC (flRow b s how bits since k)) := by have h9 := hrow; unfold OwnMl at h9; rw [flRow_len] at h9; exact h9
      rcases hrow2.2 with ⟨_, e0⟩ | ⟨g, cp, cur, e, hgB, _, _⟩
      · omega
      cases e
      have gl := ((unhide HO).lt g rfl).2
      have AT := flRow_at (s := s) (how := how) (bits := bits) (since := since) hgk
      obtain ⟨c0', c1, c2, c3⟩ := ml_cells hrow2 AT hlt
      have NR := hide (flRow_next (s := s) (how := how) (bits := bits) (since := since) hgk)
      have NS := hide (fun h => flRow_same (s := s) (how := how) (bits := bits) (since := since) hgk h)
      have NN := hide (newTo_next (s := s) (how := how) (bits := bits) (since := since) hgk)
      have NL := hide (lateTo_next (s := s) (since := since) hgk)
      have LN := newTo_len b s how bits since k
      have LL := lateTo_len b s since k
      have FL := hide (flRow_len b s how bits since k)
      have AT := hide AT
      generalize b.mails[k] = f at *
      have CH := hide ((unhide HCH).kept hgr (fun e => (unhide HCH).not_row (by decide) (unhide HO) e.symm))
      have CB := hide ((unhide HCB).kept hgr (fun e => (unhide HCB).not_row (by decide) (unhide HO) e.symm))
      have ngh : g ≠ ch := fun e => (unhide HCH).not_row (by decide) (unhide HO) (by rw [← e]; rfl)
      have ngb : g ≠ cb := fun e => (unhide HCB).not_row (by decide) (unhide HO) (by rw [← e]; rfl)
      have i1 : (0 : Int) ≤ (k : Int) := by omega
      have i2 : (k : Int) < (b.mails.length : Int) := by omega
      have gle := hgr.size
      have OC := hide hvc
      have OL := hide hvl
      have SEP := hide hsep
      have RM := hide hrow2
      have BB := hide hgr
      clear hvc hvl hsep hrow hrow2 hgr hgk
      obtain ⟨wr1, hM⟩ : ∃ X, X = wo.alloc (.cells ([.int .i64 f.uid, .int .i64 f.flags, .int .i64 f.mod, .string f.text] : List Value).toArray 40) := ⟨_, rfl⟩
      have Mx : HasObj wr1 wo.heap.size 40 [.int .i64 f.uid, .int .i64 f.flags, .int .i64 f.mod, .string f.text] := by rw [hM]; exact HasObj.new _ _ _
      have hbn : Below wo.heap.size wo wr1 := by rw [hM]; exact (Below.refl _ _).alloc (Nat.le_refl _) _
      have neCHM : ch ≠ wo.heap.size := Nat.ne_of_lt (unhide CH).lt
      have neCBM : cb ≠ wo.heap.size := Nat.ne_of_lt (unhide CB).lt
      have loM : w.heap.size ≤ wo.heap.size := (unhide BB).size
      have EM := hM.symm
      clear hM
      have RM_ := hide (g_stays (unhide RM) hbn)
      clear RM
      have RM := RM_
      clear RM_
      have CH_ := hide ((unhide CH).ups hbn)
      clear CH
      have CH := CH_
      clear CH_
      have CB_ := hide ((unhide CB).ups hbn)
      clear CB
      have CB := CB_
      clear CB_
      have OC_ := hide ((unhide OC).up hbn)
      clear OC
      have OC := OC_
      clear OC_
      have OL_ := hide ((unhide OL).up hbn)
      clear OL
      have OL := OL_
      clear OL_
      have sz101 := hide (hbn.size)
      have BB_ := hide (g_then (unhide BB) hbn)
      clear BB
      have BB := BB_
      clear BB_
      clear hbn
      have M := hide Mx
      clear Mx
      have Mc0_1 := (unhide M).cell 0 rfl
      have Mc1_1 := (unhide M).cell 1 rfl
      have Mc2_1 := (unhide M).cell 2 rfl
      have Mc3_1 := (unhide M).cell 3 rfl
      go_wp2_with fail
      clear Mc0_1 Mc1_1 Mc2_1 Mc3_1 EM
      refine (impl_SetHas_any s vs f.uid _ hsl (unhide HRS _ (unhide BB))).mono ?_
      rintro e wr2 ⟨rfl, hb⟩
      have RM_ := hide (g_stays (unhide RM) hb)
      clear RM
      have RM := RM_
      clear RM_
      have CH_ := hide ((unhide CH).ups hb)
      clear CH
      have CH := CH_
      clear CH_
      have CB_ := hide ((unhide CB).ups hb)
      clear CB
      have CB := CB_
      clear CB_
      have M_ := hide ((unhide M).ups hb)
      clear M
      have M := M_
      clear M_
      have OC_ := hide ((unhide OC).up hb)
      clear OC
      have OC := OC_
      clear OC_
      have OL_ := hide ((unhide OL).up hb)
      clear OL
      have OL := OL_
      clear OL_
      have sz102 := hide (hb.size)
      have BB_ := hide (g_then (unhide BB) hb)
      clear BB
      have BB := BB_
      clear BB_
      clear hb
      clear c0' c1 c2 c3
      cases hu : hasB s f.uid with
      | false =>
        have IN : Hid (isNew s how bits since f = false) := by show _ = _; unfold isNew; rw [hu]; rfl
        have IL : Hid (isLate s since f = false) := by show _ = _; unfold isLate; rw [hu]; rfl
        clear hu
        go_wp2
        go_roundw
        case rel =>
          refine ⟨k + 1, by omega, by go_num, ?_, ?_, unhide SEP, ?_, unhide BB⟩
          · rw [unhide NN, if_neg (by rw [unhide IN]; decide)]; exact unhide OC
          · rw [unhide NL, if_neg (by rw [unhide IL]; decide)]; exact unhide OL
          · rw [unhide NS (unhide IN)]; unfold OwnMl; rw [unhide FL]; exact unhide RM
        case measure => simp [intOf]; omega
      | true =>
        obtain ⟨r1, hr1⟩ : ∃ r, decide (0 ≤ since) = r := ⟨_, rfl⟩
        obtain ⟨r2, hr2⟩ : ∃ r, decide (since < f.mod) = r := ⟨_, rfl⟩
        have IL : Hid (isLate s since f = (r1 && r2)) := by show _ = _; unfold isLate; rw [hu, hr1, hr2]; rfl
        have IN : Hid (isNew s how bits since f = (!(r1 && r2) && !(afterV f.flags how bits == f.flags))) := by show _ = _; unfold isNew; rw [hu, hr1, hr2]; rfl
        clear hu
        have lOC : ∀ x, Value.ownBlock (.slice avc (newTo b s how bits since k).length cvc) = some x → x < wr2.heap.size := fun x hx => (World.ownsRow.lt (unhide OC) x hx).2
        cases r1 with
        | false =>
          have IL_ : Hid (isLate s since f = false) := unhide IL
          clear IL
          have IL := IL_
          clear IL_
          have CHc0_2 := (unhide CH).cell 0 rfl
          have CBc0_3 := (unhide CB).cell 0 rfl
          have Mc0_4 := (unhide M).cell 0 rfl
          have Mc1_4 := (unhide M).cell 1 rfl
          have Mc2_4 := (unhide M).cell 2 rfl
          have Mc3_4 := (unhide M).cell 3 rfl
          go_wp2_with fail
          clear CHc0_2 CBc0_3 Mc0_4 Mc1_4 Mc2_4 Mc3_4
          refine (setFlags1_any f.flags how bits ch cb _ (unhide CH) (unhide CB)).mono ?_
          rintro e wra3 ⟨rfl, hw⟩
          subst wra3
          have Mc0_5 := (unhide M).cell 0 rfl
          have Mc1_5 := (unhide M).cell 1 rfl
          have Mc2_5 := (unhide M).cell 2 rfl
          have Mc3_5 := (unhide M).cell 3 rfl
          obtain ⟨af, haf⟩ : ∃ y, y = afterV f.flags how bits := ⟨_, rfl⟩
          rw [← haf] at IN ⊢
          have HAF := hide haf
          clear haf
          by_cases hd : af = f.flags
          · have dn : (af == f.flags) = true := beq_iff_eq.2 hd
            have IN_ : Hid (isNew s how bits since f = false) := by show _ = _; rw [unhide IN, dn]; rfl
            clear IN
            have IN := IN_
            clear IN_ hd
            go_wp2
            go_roundw
            case rel =>
              refine ⟨k + 1, by omega, by go_num, ?_, ?_, unhide SEP, ?_, unhide BB⟩
              · rw [unhide NN, if_neg (by rw [unhide IN]; decide)]; exact unhide OC
              · rw [unhide NL, if_neg (by rw [unhide IL]; decide)]; exact unhide OL
              · rw [unhide NS (unhide IN)]; unfold OwnMl; rw [unhide FL]; exact unhide RM
            case measure => simp [intOf]; omega
          have dn : (af == f.flags) = false := beq_eq_false_iff_ne.2 hd
          have IN_ : Hid (isNew s how bits since f = true) := by show _ = _; rw [unhide IN, dn]; rfl
          clear IN
          have IN := IN_
          clear IN_ hd
          have NM : Hid (newM b s how bits since f = ⟨f.uid, af, b.mod + 1, f.text⟩) := by show _ = _; unfold newM; rw [unhide IN, unhide HAF]; rfl
          obtain ⟨d0, d1, d2, d3⟩ := ml_cells (unhide RM) (unhide AT) hlt
          have f1 := World.ownsRow.frozenAt (unhide RM) (k * 4 + 1)
          have f2 := World.ownsRow.frozenAt (unhide RM) (k * 4 + 2)
          obtain ⟨wran4, hst⟩ : ∃ X, X = (wr2.setCell ⟨g, k * 4 + 1, none⟩ (.int .i64 af)).setCell ⟨g, k * 4 + 2, none⟩ (.int .i64 (b.mod + 1)) := ⟨_, rfl⟩
          have gst : wr2.grownBy wran4 (some g) := by rw [hst]; exact g_store (g_store (g_self _ (some g)) _) _
          have RM_ : Hid (wran4.ownsRow B 40 4 (.slice (some ⟨g, 0, none⟩) b.mails.length c0) b.mails.length (rowC mlC ((flRow b s how bits since k).set k ⟨f.uid, af, b.mod + 1, f.text⟩))) := by show wran4.ownsRow B 40 4 (.slice (some ⟨g, 0, none⟩) b.mails.length c0) b.mails.length (rowC mlC ((flRow b s how bits since k).set k ⟨f.uid, af, b.mod + 1, f.text⟩)); rw [hst]; exact row_putTwo (unhide RM) (unhide AT) af (b.mod + 1)
          have CH_ := hide ((unhide CH).kept gst (fun e => ngh (Option.some.inj e).symm))
          have CB_ := hide ((unhide CB).kept gst (fun e => ngb (Option.some.inj e).symm))
          have M_ := hide ((unhide M).kept gst (fun e => by have := Option.some.inj e; omega))
          have OC_ : Hid (OwnI w.heap.size wran4 (.slice avc (newTo b s how bits since k).length cvc) (newTo b s how bits since k)) := g_aside (unhide OC) gst (fun x hx => by have := Option.some.inj hx; subst this; exact rows_apart (unhide RM) (unhide OC) (by decide) g rfl)
          have OL_ : Hid (OwnI w.heap.size wran4 (.slice avl (lateTo b s since k).length cvl) (lateTo b s since k)) := g_aside (unhide OL) gst (fun x hx => by have := Option.some.inj hx; subst this; exact rows_apart (unhide RM) (unhide OL) (by decide) g rfl)
          have BB_ : Hid (w.grownBy wran4 (Value.ownBlock (.slice (some ⟨g, 0, none⟩) b.mails.length c0))) := g_join (unhide BB) gst
          have szs := hide gst.size
          clear RM
          have RM := RM_
          clear RM_
          clear CH
          have CH := CH_
          clear CH_
          clear CB
          have CB := CB_
          clear CB_
          clear M
          have M := M_
          clear M_
          clear OC
          have OC := OC_
          clear OC_
          clear OL
          have OL := OL_
          clear OL_
          clear BB
          have BB := BB_
          clear BB_
          have Est := hst.symm
          clear hst gst
          have Mc0_6 := (unhide M).cell 0 rfl
          have Mc1_6 := (unhide M).cell 1 rfl
          have Mc2_6 := (unhide M).cell 2 rfl
          have Mc3_6 := (unhide M).cell 3 rfl
          have lOL : ∀ x, Value.ownBlock (.slice avl (lateTo b s since k).length cvl) = some x → x < wran4.heap.size := fun x hx => (World.ownsRow.lt (unhide OL) x hx).2
          have lw5 := (unhide BB).size
          go_wp2_with (at_builtin; refine wpList_append_lies _ rfl _ _ 32 rfl w.heap.size 3 iI _ 1 8 Tryz.underlying32 hI hI0 hI1 hI2 rfl (by decide) _ _ _ rfl (World.ownsRow.alloc (unhide OC) _) ⟨wran4.heap.size, 0, none⟩ 1 1 [.int .i64 (f.uid)] rfl rfl (newsC _ _) ?c2 (by decide) ?c3 ?c4 ?c5 (wran4.heap.size + 1) (by simp) ?_)
          clear Mc0_5 Mc1_5 Mc2_5 Mc3_5 d0 d1 d2 d3 f1 f2 dn Mc0_6 Mc1_6 Mc2_6 Mc3_6 Est
          case c2 => intro u hu; simp [mlC, tbC, rgl] at hu; (try rcases hu with rfl | rfl | rfl | rfl) <;> (try rcases hu with rfl | rfl) <;> (try subst hu) <;> rfl
          case c3 => unfold maxLen; omega
          case c4 => omega
          case c5 => have q1_ := (unhide BB).size; have sz101_ := unhide sz101; have sz102_ := unhide sz102; have szs_ := unhide szs; simp; omega
          intro gOC5 capOC5 wran5 hown hgr hat hlt_
          have oa := World.ownsRow.alloc (unhide OC) (.cells ([.int .i64 (f.uid)] : List Value).toArray 3)
          have CH_ := hide (((unhide CH).alloc (.cells ([.int .i64 (f.uid)] : List Value).toArray 3)).kept hgr (fun e => by have q1_ := (World.ownsRow.lt oa _ e.symm).1; have q2_ := (unhide HCH).lt; omega))
          have CB_ := hide (((unhide CB).alloc (.cells ([.int .i64 (f.uid)] : List Value).toArray 3)).kept hgr (fun e => by have q1_ := (World.ownsRow.lt oa _ e.symm).1; have q2_ := (unhide HCB).lt; omega))
          have M_ := hide (((unhide M).alloc (.cells ([.int .i64 (f.uid)] : List Value).toArray 3)).kept hgr (fun e => ((unhide M).alloc (.cells ([.int .i64 (f.uid)] : List Value).toArray 3)).not_row (by decide) oa e.symm))
          have OL_ : Hid (OwnI w.heap.size wran5 (.slice avl (lateTo b s since k).length cvl) (lateTo b s since k)) := g_aside (World.ownsRow.alloc (unhide OL) (.cells ([.int .i64 (f.uid)] : List Value).toArray 3)) hgr (fun x hx => unhide SEP x hx)
          have OC_ : Hid (OwnI w.heap.size wran5 (.slice (some ⟨gOC5, 0, none⟩) ((newTo b s how bits since k).length + 1) capOC5) (newTo b s how bits since k ++ [f.uid])) := by exact OwnI.snoc hown
          have BB_ : Hid (w.grownBy wran5 (Value.ownBlock (.slice (some ⟨g, 0, none⟩) b.mails.length c0))) := g_new (g_alloc (unhide BB) (.cells ([.int .i64 (f.uid)] : List Value).toArray 3)) hgr (fun b hb => by have q2_ := (World.ownsRow.lt (unhide OC) b hb).1; have q1_ := (unhide BB).size; have sz101_ := unhide sz101; have sz102_ := unhide sz102; have szs_ := unhide szs; omega)
          have sz103 : Hid (wran4.heap.size ≤ wran5.heap.size) := by have q3_ := hgr.size; simp at q3_; show _ ≤ _; omega
          clear CH
          have CH := CH_
          clear CH_
          clear CB
          have CB := CB_
          clear CB_
          clear M
          have M := M_
          clear M_
          clear OC
          have OC := OC_
          clear OC_
          clear OL
          have OL := OL_
          clear OL_
          clear BB
          have BB := BB_
          clear BB_
          have RM_ := hide (g_aside (World.ownsRow.alloc (unhide RM) (.cells ([.int .i64 (f.uid)] : List Value).toArray 3)) hgr (fun x hx => rows_apart oa (World.ownsRow.alloc (unhide RM) (.cells ([.int .i64 (f.uid)] : List Value).toArray 3)) (by decide) x hx))
          clear RM
          have RM := RM_
          clear RM_
          have SEP_ : Hid (∀ x, (Value.slice (some ⟨gOC5, 0, none⟩) ((newTo b s how bits since k).length + 1) 0).ownBlock = some x → (Value.slice avl (lateTo b s since k).length cvl).ownBlock ≠ some x) := fun x hx hx2 => by
            have e1 : gOC5 = x := Option.some.inj hx
            rcases hat with hat | hat
            · exact unhide SEP x (by rw [← e1]; exact hat) hx2
            · have q1 := lOL x hx2; omega
          clear SEP
          have SEP := SEP_
          clear SEP_
          clear hown hgr oa lw5 hat hlt_
          go_wp2
          go_roundw
          case rel =>
            refine ⟨k + 1, by omega, by go_num, ?_, ?_, unhide SEP, ?_, unhide BB⟩
            · rw [unhide NN, if_pos (unhide IN)]; exact unhide OC
            · rw [unhide NL, if_neg (by rw [unhide IL]; decide)]; exact unhide OL
            · rw [unhide NR, unhide NM]; unfold OwnMl; rw [List.length_set, unhide FL]; exact unhide RM
          case measure => simp [intOf]; omega
        | true =>
          cases r2 with
          | false =>
            have IL_ : Hid (isLate s since f = false) := unhide IL
            clear IL
            have IL := IL_
            clear IL_
            have CHc0_2 := (unhide CH).cell 0 rfl
            have CBc0_3 := (unhide CB).cell 0 rfl
            have Mc0_4 := (unhide M).cell 0 rfl
            have Mc1_4 := (unhide M).cell 1 rfl
            have Mc2_4 := (unhide M).cell 2 rfl
            have Mc3_4 := (unhide M).cell 3 rfl
            go_wp2_with fail
            clear CHc0_2 CBc0_3 Mc0_4 Mc1_4 Mc2_4 Mc3_4
            refine (setFlags1_any f.flags how bits ch cb _ (unhide CH) (unhide CB)).mono ?_
            rintro e wrb3 ⟨rfl, hw⟩
            subst wrb3
            have Mc0_5 := (unhide M).cell 0 rfl
            have Mc1_5 := (unhide M).cell 1 rfl
            have Mc2_5 := (unhide M).cell 2 rfl
            have Mc3_5 := (unhide M).cell 3 rfl
            obtain ⟨af, haf⟩ : ∃ y, y = afterV f.flags how bits := ⟨_, rfl⟩
            rw [← haf] at IN ⊢
            have HAF := hide haf
            clear haf
            by_cases hd : af = f.flags
            · have dn : (af == f.flags) = true := beq_iff_eq.2 hd
              have IN_ : Hid (isNew s how bits since f = false) := by show _ = _; rw [unhide IN, dn]; rfl
              clear IN
              have IN := IN_
              clear IN_ hd
              go_wp2
              go_roundw
              case rel =>
                refine ⟨k + 1, by omega, by go_num, ?_, ?_, unhide SEP, ?_, unhide BB⟩
                · rw [unhide NN, if_neg (by rw [unhide IN]; decide)]; exact unhide OC
                · rw [unhide NL, if_neg (by rw [unhide IL]; decide)]; exact unhide OL
                · rw [unhide NS (unhide IN)]; unfold OwnMl; rw [unhide FL]; exact unhide RM
              case measure => simp [intOf]; omega
            have dn : (af == f.flags) = false := beq_eq_false_iff_ne.2 hd
            have IN_ : Hid (isNew s how bits since f = true) := by show _ = _; rw [unhide IN, dn]; rfl
            clear IN
            have IN := IN_
            clear IN_ hd
            have NM : Hid (newM b s how bits since f = ⟨f.uid, af, b.mod + 1, f.text⟩) := by show _ = _; unfold newM; rw [unhide IN, unhide HAF]; rfl
            obtain ⟨d0, d1, d2, d3⟩ := ml_cells (unhide RM) (unhide AT) hlt
            have f1 := World.ownsRow.frozenAt (unhide RM) (k * 4 + 1)
            have f2 := World.ownsRow.frozenAt (unhide RM) (k * 4 + 2)
            obtain ⟨wrbn4, hst⟩ : ∃ X, X = (wr2.setCell ⟨g, k * 4 + 1, none⟩ (.int .i64 af)).setCell ⟨g, k * 4 + 2, none⟩ (.int .i64 (b.mod + 1)) := ⟨_, rfl⟩
            have gst : wr2.grownBy wrbn4 (some g) := by rw [hst]; exact g_store (g_store (g_self _ (some g)) _) _
            have RM_ : Hid (wrbn4.ownsRow B 40 4 (.slice (some ⟨g, 0, none⟩) b.mails.length c0) b.mails.length (rowC mlC ((flRow b s how bits since k).set k ⟨f.uid, af, b.mod + 1, f.text⟩))) := by show wrbn4.ownsRow B 40 4 (.slice (some ⟨g, 0, none⟩) b.mails.length c0) b.mails.length (rowC mlC ((flRow b s how bits since k).set k ⟨f.uid, af, b.mod + 1, f.text⟩)); rw [hst]; exact row_putTwo (unhide RM) (unhide AT) af (b.mod + 1)
            have CH_ := hide ((unhide CH).kept gst (fun e => ngh (Option.some.inj e).symm))
            have CB_ := hide ((unhide CB).kept gst (fun e => ngb (Option.some.inj e).symm))
            have M_ := hide ((unhide M).kept gst (fun e => by have := Option.some.inj e; omega))
            have OC_ : Hid (OwnI w.heap.size wrbn4 (.slice avc (newTo b s how bits since k).length cvc) (newTo b s how bits since k)) := g_aside (unhide OC) gst (fun x hx => by have := Option.some.inj hx; subst this; exact rows_apart (unhide RM) (unhide OC) (by decide) g rfl)
            have OL_ : Hid (OwnI w.heap.size wrbn4 (.slice avl (lateTo b s since k).length cvl) (lateTo b s since k)) := g_aside (unhide OL) gst (fun x hx => by have := Option.some.inj hx; subst this; exact rows_apart (unhide RM) (unhide OL) (by decide) g rfl)
            have BB_ : Hid (w.grownBy wrbn4 (Value.ownBlock (.slice (some ⟨g, 0, none⟩) b.mails.length c0))) := g_join (unhide BB) gst
            have szs := hide gst.size
            clear RM
            have RM := RM_
            clear RM_
            clear CH
            have CH := CH_
            clear CH_
            clear CB
            have CB := CB_
            clear CB_
            clear M
            have M := M_
            clear M_
            clear OC
            have OC := OC_
            clear OC_
            clear OL
            have OL := OL_
            clear OL_
            clear BB
            have BB := BB_
            clear BB_
            have Est := hst.symm
            clear hst gst
            have Mc0_6 := (unhide M).cell 0 rfl
            have Mc1_6 := (unhide M).cell 1 rfl
            have Mc2_6 := (unhide M).cell 2 rfl
            have Mc3_6 := (unhide M).cell 3 rfl
            have lOL : ∀ x, Value.ownBlock (.slice avl (lateTo b s since k).length cvl) = some x → x < wrbn4.heap.size := fun x hx => (World.ownsRow.lt (unhide OL) x hx).2
            have lw5 := (unhide BB).size
            go_wp2_with (at_builtin; refine wpList_append_lies _ rfl _ _ 32 rfl w.heap.size 3 iI _ 1 8 Tryz.underlying32 hI hI0 hI1 hI2 rfl (by decide) _ _ _ rfl (World.ownsRow.alloc (unhide OC) _) ⟨wrbn4.heap.size, 0, none⟩ 1 1 [.int .i64 (f.uid)] rfl rfl (newsC _ _) ?c2 (by decide) ?c3 ?c4 ?c5 (wrbn4.heap.size + 1) (by simp) ?_)
            clear Mc0_5 Mc1_5 Mc2_5 Mc3_5 d0 d1 d2 d3 f1 f2 dn Mc0_6 Mc1_6 Mc2_6 Mc3_6 Est
            case c2 => intro u hu; simp [mlC, tbC, rgl] at hu; (try rcases hu with rfl | rfl | rfl | rfl) <;> (try rcases hu with rfl | rfl) <;> (try subst hu) <;> rfl
            case c3 => unfold maxLen; omega
            case c4 => omega
            case c5 => have q1_ := (unhide BB).size; have sz101_ := unhide sz101; have sz102_ := unhide sz102; have szs_ := unhide szs; simp; omega
            intro gOC5 capOC5 wrbn5 hown hgr hat hlt_
            have oa := World.ownsRow.alloc (unhide OC) (.cells ([.int .i64 (f.uid)] : List Value).toArray 3)
            have CH_ := hide (((unhide CH).alloc (.cells ([.int .i64 (f.uid)] : List Value).toArray 3)).kept hgr (fun e => by have q1_ := (World.ownsRow.lt oa _ e.symm).1; have q2_ := (unhide HCH).lt; omega))
            have CB_ := hide (((unhide CB).alloc (.cells ([.int .i64 (f.uid)] : List Value).toArray 3)).kept hgr (fun e => by have q1_ := (World.ownsRow.lt oa _ e.symm).1; have q2_ := (unhide HCB).lt; omega))
            have M_ := hide (((unhide M).alloc (.cells ([.int .i64 (f.uid)] : List Value).toArray 3)).kept hgr (fun e => ((unhide M).alloc (.cells ([.int .i64 (f.uid)] : List Value).toArray 3)).not_row (by decide) oa e.symm))
            have OL_ : Hid (OwnI w.heap.size wrbn5 (.slice avl (lateTo b s since k).length cvl) (lateTo b s since k)) := g_aside (World.ownsRow.alloc (unhide OL) (.cells ([.int .i64 (f.uid)] : List Value).toArray 3)) hgr (fun x hx => unhide SEP x hx)
            have OC_ : Hid (OwnI w.heap.size wrbn5 (.slice (some ⟨gOC5, 0, none⟩) ((newTo b s how bits since k).length + 1) capOC5) (newTo b s how bits since k ++ [f.uid])) := by exact OwnI.snoc hown
            have BB_ : Hid (w.grownBy wrbn5 (Value.ownBlock (.slice (some ⟨g, 0, none⟩) b.mails.length c0))) := g_new (g_alloc (unhide BB) (.cells ([.int .i64 (f.uid)] : List Value).toArray 3)) hgr (fun b hb => by have q2_ := (World.ownsRow.lt (unhide OC) b hb).1; have q1_ := (unhide BB).size; have sz101_ := unhide sz101; have sz102_ := unhide sz102; have szs_ := unhide szs; omega)
            have sz103 : Hid (wrbn4.heap.size ≤ wrbn5.heap.size) := by have q3_ := hgr.size; simp at q3_; show _ ≤ _; omega
            clear CH
            have CH := CH_
            clear CH_
            clear CB
            have CB := CB_
            clear CB_
            clear M
            have M := M_
            clear M_
            clear OC
            have OC := OC_
            clear OC_
            clear OL
            have OL := OL_
            clear OL_
            clear BB
            have BB := BB_
            clear BB_
            have RM_ := hide (g_aside (World.ownsRow.alloc (unhide RM) (.cells ([.int .i64 (f.uid)] : List Value).toArray 3)) hgr (fun x hx => rows_apart oa (World.ownsRow.alloc (unhide RM) (.cells ([.int .i64 (f.uid)] : List Value).toArray 3)) (by decide) x hx))
            clear RM
            have RM := RM_
            clear RM_
            have SEP_ : Hid (∀ x, (Value.slice (some ⟨gOC5, 0, none⟩) ((newTo b s how bits since k).length + 1) 0).ownBlock = some x → (Value.slice avl (lateTo b s since k).length cvl).ownBlock ≠ some x) := fun x hx hx2 => by
              have e1 : gOC5 = x := Option.some.inj hx
              rcases hat with hat | hat
              · exact unhide SEP x (by rw [← e1]; exact hat) hx2
              · have q1 := lOL x hx2; omega
            clear SEP
            have SEP := SEP_
            clear SEP_
            clear hown hgr oa lw5 hat hlt_
            go_wp2
            go_roundw
            case rel =>
              refine ⟨k + 1, by omega, by go_num, ?_, ?_, unhide SEP, ?_, unhide BB⟩
              · rw [unhide NN, if_pos (unhide IN)]; exact unhide OC
              · rw [unhide NL, if_neg (by rw [unhide IL]; decide)]; exact unhide OL
              · rw [unhide NR, unhide NM]; unfold OwnMl; rw [List.length_set, unhide FL]; exact unhide RM
            case measure => simp [intOf]; omega
          | true =>
            have IL_ : Hid (isLate s since f = true) := unhide IL
            clear IL
            have IL := IL_
            clear IL_
            have IN_ : Hid (isNew s how bits since f = false) := unhide IN
            clear IN
            have IN := IN_
            clear IN_
            have Mc0_2 := (unhide M).cell 0 rfl
            have Mc1_2 := (unhide M).cell 1 rfl
            have Mc2_2 := (unhide M).cell 2 rfl
            have Mc3_2 := (unhide M).cell 3 rfl
            have lw3 := (unhide BB).size
            go_wp2_with (at_builtin; refine wpList_append_lies _ rfl _ _ 32 rfl w.heap.size 3 iI _ 1 8 Tryz.underlying32 hI hI0 hI1 hI2 rfl (by decide) _ _ _ rfl (World.ownsRow.alloc (unhide OL) _) ⟨wr2.heap.size, 0, none⟩ 1 1 [.int .i64 (f.uid)] rfl rfl (newsC _ _) ?c2 (by decide) ?c3 ?c4 ?c5 (wr2.heap.size + 1) (by simp) ?_)
            clear Mc0_2 Mc1_2 Mc2_2 Mc3_2
            case c2 => intro u hu; simp [mlC, tbC, rgl] at hu; (try rcases hu with rfl | rfl | rfl | rfl) <;> (try rcases hu with rfl | rfl) <;> (try subst hu) <;> rfl
            case c3 => unfold maxLen; omega
            case c4 => omega
            case c5 => have q1_ := (unhide BB).size; have sz101_ := unhide sz101; have sz102_ := unhide sz102; simp; omega
            intro gOL3 capOL3 wrc3 hown hgr hat hlt_
            have oa := World.ownsRow.alloc (unhide OL) (.cells ([.int .i64 (f.uid)] : List Value).toArray 3)
            have CH_ := hide (((unhide CH).alloc (.cells ([.int .i64 (f.uid)] : List Value).toArray 3)).kept hgr (fun e => by have q1_ := (World.ownsRow.lt oa _ e.symm).1; have q2_ := (unhide HCH).lt; omega))
            have CB_ := hide (((unhide CB).alloc (.cells ([.int .i64 (f.uid)] : List Value).toArray 3)).kept hgr (fun e => by have q1_ := (World.ownsRow.lt oa _ e.symm).1; have q2_ := (unhide HCB).lt; omega))
            have M_ := hide (((unhide M).alloc (.cells ([.int .i64 (f.uid)] : List Value).toArray 3)).kept hgr (fun e => ((unhide M).alloc (.cells ([.int .i64 (f.uid)] : List Value).toArray 3)).not_row (by decide) oa e.symm))
            have OC_ : Hid (OwnI w.heap.size wrc3 (.slice avc (newTo b s how bits since k).length cvc) (newTo b s how bits since k)) := g_aside (World.ownsRow.alloc (unhide OC) (.cells ([.int .i64 (f.uid)] : List Value).toArray 3)) hgr (fun x hx hx2 => unhide SEP x hx2 hx)
            have OL_ : Hid (OwnI w.heap.size wrc3 (.slice (some ⟨gOL3, 0, none⟩) ((lateTo b s since k).length + 1) capOL3) (lateTo b s since k ++ [f.uid])) := by exact OwnI.snoc hown
            have BB_ : Hid (w.grownBy wrc3 (Value.ownBlock (.slice (some ⟨g, 0, none⟩) b.mails.length c0))) := g_new (g_alloc (unhide BB) (.cells ([.int .i64 (f.uid)] : List Value).toArray 3)) hgr (fun b hb => by have q2_ := (World.ownsRow.lt (unhide OL) b hb).1; have q1_ := (unhide BB).size; have sz101_ := unhide sz101; have sz102_ := unhide sz102; omega)
            have sz103 : Hid (wr2.heap.size ≤ wrc3.heap.size) := by have q3_ := hgr.size; simp at q3_; show _ ≤ _; omega
            clear CH
            have CH := CH_
            clear CH_
            clear CB
            have CB := CB_
            clear CB_
            clear M
            have M := M_
            clear M_
            clear OC
            have OC := OC_
            clear OC_
            clear OL
            have OL := OL_
            clear OL_
            clear BB
            have BB := BB_
            clear BB_
            have RM_ := hide (g_aside (World.ownsRow.alloc (unhide RM) (.cells ([.int .i64 (f.uid)] : List Value).toArray 3)) hgr (fun x hx => rows_apart oa (World.ownsRow.alloc (unhide RM) (.cells ([.int .i64 (f.uid)] : List Value).toArray 3)) (by decide) x hx))
            clear RM
            have RM := RM_
            clear RM_
            have SEP_ : Hid (∀ x, (Value.slice avc (newTo b s how bits since k).length cvc).ownBlock = some x → (Value.slice (some ⟨gOL3, 0, none⟩) ((lateTo b s since k).length + 1) 0).ownBlock ≠ some x) := fun x hx hx2 => by
              have e1 : gOL3 = x := Option.some.inj hx2
              rcases hat with hat | hat
              · exact unhide SEP x hx (by rw [← e1]; exact hat)
              · have q1 := lOC x hx; have q2 := unhide sz102; omega
            clear SEP
            have SEP := SEP_
            clear SEP_
            clear hown hgr oa lw3 hat hlt_
            go_wp2
            go_roundw
            case rel =>
              refine ⟨k + 1, by omega, by go_num, ?_, ?_, unhide SEP, ?_, unhide BB⟩
              · rw [unhide NN, if_neg (by rw [unhide IN]; decide)]; exact unhide OC
              · rw [unhide NL, if_pos (unhide IL)]; exact unhide OL
              · rw [unhide NS (unhide IN)]; unfold OwnMl; rw [unhide FL]; exact unhide RM
            case measure => simp [intOf]; omega
    · obtain rfl : k = b.mails.length := by omega
      rw [newTo_all] at hvc
      rw [lateTo_all] at hvl
      rw [flRow_all] at hrow
      have OC := hide hvc
      have OL := hide hvl
      have RM := hide hrow
      have BB := hide hgr
      clear hvc hvl hsep hrow hgr
      go_wp2
      go_returns
      exact ⟨_, _, rfl, unhide OC, unhide OL, unhide RM, unhide BB⟩
end Go.Proofs.YtmedhmgihfenhaaGreat
