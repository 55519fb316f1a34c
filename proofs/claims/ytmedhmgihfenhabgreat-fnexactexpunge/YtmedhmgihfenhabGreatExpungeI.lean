/- Boxes: the program's Expunge. Made by gen_expungei.py. -/
import Derived.Test.YtmedhmgihfenhabGreatExpungeFit
import Derived.Test.YtmedhmgihfenhabGreatTakeI
import Derived.Test.YtmedhmgihfenhabGreatUidSetI
import Derived.Test.YtmedhmgihfenhabGreatBoxI
import Derived.Test.YtmedhmgihfenhabGreatImplOk
namespace Go.Proofs.YtmedhmgihfenhabGreat
open Go.RowKit
open Plain
set_option linter.unusedVariables false
set_option linter.unusedSimpArgs false

namespace Plain
theorem filtI_sub (t : Tb) (r : List Tb) : ((t :: r).filter (fun y => decide (t.mod < y.mod))).length ≤ (t :: r).length := List.length_filter_le _ _
theorem trimS_len : ∀ (n : Nat) (ts : List Tb) (hor : Int), (trimS n (ts, hor)).1.length ≤ ts.length := by
  intro n
  induction n with
  | zero => intro ts hor; exact Nat.le_refl _
  | succ n ih =>
    intro ts hor
    unfold trimS
    split
    · exact Nat.le_refl _
    · cases ts with
      | nil => exact ih _ _
      | cons t r => exact Nat.le_trans (ih _ _) (Nat.le_trans (drop_less t r) (Nat.le_succ _))
theorem exp_fit {b : Bx} {s : List Rg} (h : FitBx b) (hb : boxOk b = true) : FitBx (expBox b s) := by
  have h40 : b.tombs.length ≤ 40 := by
    have := (boxOk_iff.1 hb).1
    unfold headOk at this
    simp only [Bool.and_eq_true, decide_eq_true_eq] at this
    exact this.2.2.2.2.2.1
  refine ⟨h.name, Nat.le_trans (leftM_len s b.mails) h.mails, fun m hm => h.texts m (List.mem_filter.1 hm).1, ?_⟩
  have h1 := trimS_len (b.tombs ++ tombsOf b (goneM s b.mails)).length (b.tombs ++ tombsOf b (goneM s b.mails)) b.hor
  have h2 := (goneM_right (s := s) hb).1
  have h3 : (b.tombs ++ tombsOf b (goneM s b.mails)).length = b.tombs.length + (goneM s b.mails).length := by simp [tombsOf]
  exact Nat.le_trans (show (trimmed (b.tombs ++ tombsOf b (goneM s b.mails)) b.hor).1.length ≤ _ from h1) (by omega)
theorem flags_right {b : Bx} (h : boxOk b = true) : ∀ m ∈ b.mails, flOk m.flags = true := by
  intro m hm
  obtain ⟨i, hi, rfl⟩ := List.getElem_of_mem hm
  have h1 := (boxOk_iff.1 h).2.1 i hi
  rw [mailAt_is (List.getElem?_eq_getElem hi)] at h1
  unfold mailRight at h1
  simp only [Bool.and_eq_true] at h1
  exact h1.2.2.1
/-- None of them goes: the box is as it was. -/
theorem left_all8 {s : List Rg} {l : List Ml} (h : goneM s l = []) : leftM s l = l := by
  unfold leftM
  rw [List.filter_eq_self]
  intro m hm
  cases hq : isGone s m with
  | false => rfl
  | true =>
    have : m.uid ∈ goneM s l := List.mem_map.2 ⟨m, List.mem_filter.2 ⟨hm, hq⟩, rfl⟩
    rw [h] at this
    cases this
end Plain
set_option maxHeartbeats 16000000 in
set_option maxRecDepth 100000 in
theorem impl_Expunge_any (b : Bx) (m t : Value) (B0 : Nat) (s : List Rg) (vs : Value) (w : World) (hf : FitBx b) (hsl : s.length ≤ 1048576) (hR : ReadO w vs s) (h : OwnBx B0 w m t b) :
    Calls Tryz.prog 39 #[boxV b m t, vs] w fun e w' => ∃ m' t' vd, e = .returned (.tuple #[boxV (expV b s).1 m' t', vd]) ∧ OwnBx w.heap.size w' m' t' (expV b s).1 ∧ OwnR w.heap.size w' vd (expV b s).2 ∧ Below w.heap.size w w' := by
  have hl2 := hf.tombs
  obtain ⟨am, cm, rfl⟩ := g_shape h.1
  obtain ⟨at1, ct1, rfl⟩ := g_shape h.2
  have HO := hide h
  have HF := hide hf
  have HR := hide hR
  have V1 := hide (fun hq => expV_no1 (b := b) (s := s) hq)
  have V2 := hide (fun hq => expV_no2 (b := b) (s := s) hq)
  have V3 := hide (fun hq => expV_no3 (b := b) (s := s) hq)
  have V4 := hide (fun h1 h2 h3 => expV_yes (b := b) (s := s) h1 h2 h3)
  clear h hf hR
  have BB := hide (Below.refl w.heap.size w)
  obtain ⟨w1, hP⟩ : ∃ X, X = w.alloc (.cells ([.string b.name, .int .i64 b.valid, .int .i64 b.next, .int .i64 b.mod, .slice am b.mails.length cm, .slice at1 b.tombs.length ct1, .int .i64 b.hor] : List Value).toArray 33) := ⟨_, rfl⟩
  have Px : HasObj w1 w.heap.size 33 [.string b.name, .int .i64 b.valid, .int .i64 b.next, .int .i64 b.mod, .slice am b.mails.length cm, .slice at1 b.tombs.length ct1, .int .i64 b.hor] := by rw [hP]; exact HasObj.new _ _ _
  have hbn : Below w.heap.size w w1 := by rw [hP]; exact (Below.refl _ _).alloc (Nat.le_refl _) _
  have loP : w.heap.size ≤ w.heap.size := (unhide BB).size
  have EP := hP.symm
  clear hP
  have sz1 := hide (hbn.size)
  have BB_ := hide (below_y (unhide BB) hbn)
  clear BB
  have BB := BB_
  clear BB_
  clear hbn
  have P := hide Px
  clear Px
  obtain ⟨w2, hR⟩ : ∃ X, X = w1.alloc (.cells ([.string ⟨#[]⟩, .int .i64 0, .int .i64 0, .int .i64 0, .slice none 0 0, .slice none 0 0, .int .i64 0] : List Value).toArray 33) := ⟨_, rfl⟩
  have Rx : HasObj w2 w1.heap.size 33 [.string ⟨#[]⟩, .int .i64 0, .int .i64 0, .int .i64 0, .slice none 0 0, .slice none 0 0, .int .i64 0] := by rw [hR]; exact HasObj.new _ _ _
  have hbn : Below w1.heap.size w1 w2 := by rw [hR]; exact (Below.refl _ _).alloc (Nat.le_refl _) _
  have nePR : w.heap.size ≠ w1.heap.size := Nat.ne_of_lt (unhide P).lt
  have loR : w.heap.size ≤ w1.heap.size := (unhide BB).size
  have ER := hR.symm
  clear hR
  have P_ := hide ((unhide P).ups hbn)
  clear P
  have P := P_
  clear P_
  have sz2 := hide (hbn.size)
  have BB_ := hide (below_y (unhide BB) hbn)
  clear BB
  have BB := BB_
  clear BB_
  clear hbn
  have R := hide Rx
  clear Rx
  have Pc0_1 := (unhide P).cell 0 rfl
  have Pc1_1 := (unhide P).cell 1 rfl
  have Pc2_1 := (unhide P).cell 2 rfl
  have Pc3_1 := (unhide P).cell 3 rfl
  have Pc4_1 := (unhide P).cell 4 rfl
  have Pc5_1 := (unhide P).cell 5 rfl
  have Pc6_1 := (unhide P).cell 6 rfl
  go_enter Tryz.func39, Tryz.ntmps39
  go_wp2_with fail
  clear Pc0_1 Pc1_1 Pc2_1 Pc3_1 Pc4_1 Pc5_1 Pc6_1 EP ER
  refine (impl_BoxOk_any b _ _ B0 _ (unhide HF) ((unhide HO).up (unhide BB))).mono ?_
  rintro e w3 ⟨rfl, hb⟩
  have P_ := hide ((unhide P).ups hb)
  clear P
  have P := P_
  clear P_
  have R_ := hide ((unhide R).ups hb)
  clear R
  have R := R_
  clear R_
  have sz3 := hide (hb.size)
  have BB_ := hide (below_y (unhide BB) hb)
  clear BB
  have BB := BB_
  clear BB_
  clear hb
  cases hq1 : boxOk b with
  | false =>
    have Pc0_2 := (unhide P).cell 0 rfl
    have Pc1_2 := (unhide P).cell 1 rfl
    have Pc2_2 := (unhide P).cell 2 rfl
    have Pc3_2 := (unhide P).cell 3 rfl
    have Pc4_2 := (unhide P).cell 4 rfl
    have Pc5_2 := (unhide P).cell 5 rfl
    have Pc6_2 := (unhide P).cell 6 rfl
    go_wp2_with fail
    clear Pc0_2 Pc1_2 Pc2_2 Pc3_2 Pc4_2 Pc5_2 Pc6_2
    refine (copiedBox_any b _ _ B0 _ (unhide HF) ((unhide HO).up (unhide BB))).mono ?_
    rintro e wx4 ⟨vm, vt, rfl, ob, hb⟩
    obtain ⟨am7, cm7, rfl⟩ := g_shape ob.1
    obtain ⟨at7, ct7, rfl⟩ := g_shape ob.2
    have P_ := hide ((unhide P).ups hb)
    clear P
    have P := P_
    clear P_
    have R_ := hide ((unhide R).ups hb)
    clear R
    have R := R_
    clear R_
    have sz4 := hide (hb.size)
    have BB_ := hide (below_y (unhide BB) hb)
    clear BB
    have BB := BB_
    clear BB_
    clear hb
    have OM7 := hide ob.1
    have OT7 := hide ob.2
    clear ob
    have V := hide (unhide V1 (by rw [hq1]; rfl))
    have Rf0 := (unhide R).frozen 0
    have Rf1 := (unhide R).frozen 1
    have Rf2 := (unhide R).frozen 2
    have Rf3 := (unhide R).frozen 3
    have Rf4 := (unhide R).frozen 4
    have Rf5 := (unhide R).frozen 5
    have Rf6 := (unhide R).frozen 6
    have Re0 := (unhide R).cell 0 rfl
    have Re1 := (unhide R).cell 1 rfl
    have Re2 := (unhide R).cell 2 rfl
    have Re3 := (unhide R).cell 3 rfl
    have Re4 := (unhide R).cell 4 rfl
    have Re5 := (unhide R).cell 5 rfl
    have Re6 := (unhide R).cell 6 rfl
    have F := hide (fill7 (unhide R) (.string b.name) (.int .i64 b.valid) (.int .i64 b.next) (.int .i64 b.mod) (.slice am7 b.mails.length cm7) (.slice at7 b.tombs.length ct7) (.int .i64 b.hor))
    obtain ⟨U, hU⟩ : ∃ U, U = (((((((wx4.setCell ⟨w1.heap.size, 0, none⟩ (.string b.name)).setCell ⟨w1.heap.size, 1, none⟩ (.int .i64 b.valid)).setCell ⟨w1.heap.size, 2, none⟩ (.int .i64 b.next)).setCell ⟨w1.heap.size, 3, none⟩ (.int .i64 b.mod)).setCell ⟨w1.heap.size, 4, none⟩ (.slice am7 b.mails.length cm7)).setCell ⟨w1.heap.size, 5, none⟩ (.slice at7 b.tombs.length ct7)).setCell ⟨w1.heap.size, 6, none⟩ (.int .i64 b.hor)) := ⟨_, rfl⟩
    have F9 := unhide F
    rw [← hU] at F9
    have EU := hU.symm
    clear F hU
    have v0 := F9.obj.cell 0 rfl
    have v1 := F9.obj.cell 1 rfl
    have v2 := F9.obj.cell 2 rfl
    have v3 := F9.obj.cell 3 rfl
    have v4 := F9.obj.cell 4 rfl
    have v5 := F9.obj.cell 5 rfl
    have v6 := F9.obj.cell 6 rfl
    have F := hide F9
    clear F9
    go_wp2_with (refine bodyPost_ret (by simp [results, Tryz.results39, go_sem, v0, v1, v2, v3, v4, v5, v6]; try rfl) rfl ?_)
    clear EU
    have F := unhide F
    refine ⟨_, _, _, by rw [unhide V], ?_, by rw [unhide V]; exact World.ownsRow_nil _ _ _ _, F.below loR (unhide BB)⟩
    rw [unhide V]
    exact ⟨g_based (F.row (by decide) (unhide OM7)) (by have sz1_ := unhide sz1; have sz2_ := unhide sz2; have sz3_ := unhide sz3; have sz4_ := unhide sz4; omega), g_based (F.row (by decide) (unhide OT7)) (by have sz1_ := unhide sz1; have sz2_ := unhide sz2; have sz3_ := unhide sz3; have sz4_ := unhide sz4; omega)⟩
  | true =>
    go_wp2_with fail
    refine (impl_SetOk_any s vs _ hsl ((unhide HR).up (unhide BB))).mono ?_
    rintro e w4 ⟨rfl, hb⟩
    have P_ := hide ((unhide P).ups hb)
    clear P
    have P := P_
    clear P_
    have R_ := hide ((unhide R).ups hb)
    clear R
    have R := R_
    clear R_
    have sz4 := hide (hb.size)
    have BB_ := hide (below_y (unhide BB) hb)
    clear BB
    have BB := BB_
    clear BB_
    clear hb
    cases hq2 : okS s with
    | false =>
      have Pc0_2 := (unhide P).cell 0 rfl
      have Pc1_2 := (unhide P).cell 1 rfl
      have Pc2_2 := (unhide P).cell 2 rfl
      have Pc3_2 := (unhide P).cell 3 rfl
      have Pc4_2 := (unhide P).cell 4 rfl
      have Pc5_2 := (unhide P).cell 5 rfl
      have Pc6_2 := (unhide P).cell 6 rfl
      go_wp2_with fail
      clear Pc0_2 Pc1_2 Pc2_2 Pc3_2 Pc4_2 Pc5_2 Pc6_2
      refine (copiedBox_any b _ _ B0 _ (unhide HF) ((unhide HO).up (unhide BB))).mono ?_
      rintro e wy5 ⟨vm, vt, rfl, ob, hb⟩
      obtain ⟨am7, cm7, rfl⟩ := g_shape ob.1
      obtain ⟨at7, ct7, rfl⟩ := g_shape ob.2
      have P_ := hide ((unhide P).ups hb)
      clear P
      have P := P_
      clear P_
      have R_ := hide ((unhide R).ups hb)
      clear R
      have R := R_
      clear R_
      have sz5 := hide (hb.size)
      have BB_ := hide (below_y (unhide BB) hb)
      clear BB
      have BB := BB_
      clear BB_
      clear hb
      have OM7 := hide ob.1
      have OT7 := hide ob.2
      clear ob
      have V := hide (unhide V1 (by rw [hq1, hq2]; rfl))
      have Rf0 := (unhide R).frozen 0
      have Rf1 := (unhide R).frozen 1
      have Rf2 := (unhide R).frozen 2
      have Rf3 := (unhide R).frozen 3
      have Rf4 := (unhide R).frozen 4
      have Rf5 := (unhide R).frozen 5
      have Rf6 := (unhide R).frozen 6
      have Re0 := (unhide R).cell 0 rfl
      have Re1 := (unhide R).cell 1 rfl
      have Re2 := (unhide R).cell 2 rfl
      have Re3 := (unhide R).cell 3 rfl
      have Re4 := (unhide R).cell 4 rfl
      have Re5 := (unhide R).cell 5 rfl
      have Re6 := (unhide R).cell 6 rfl
      have F := hide (fill7 (unhide R) (.string b.name) (.int .i64 b.valid) (.int .i64 b.next) (.int .i64 b.mod) (.slice am7 b.mails.length cm7) (.slice at7 b.tombs.length ct7) (.int .i64 b.hor))
      obtain ⟨U, hU⟩ : ∃ U, U = (((((((wy5.setCell ⟨w1.heap.size, 0, none⟩ (.string b.name)).setCell ⟨w1.heap.size, 1, none⟩ (.int .i64 b.valid)).setCell ⟨w1.heap.size, 2, none⟩ (.int .i64 b.next)).setCell ⟨w1.heap.size, 3, none⟩ (.int .i64 b.mod)).setCell ⟨w1.heap.size, 4, none⟩ (.slice am7 b.mails.length cm7)).setCell ⟨w1.heap.size, 5, none⟩ (.slice at7 b.tombs.length ct7)).setCell ⟨w1.heap.size, 6, none⟩ (.int .i64 b.hor)) := ⟨_, rfl⟩
      have F9 := unhide F
      rw [← hU] at F9
      have EU := hU.symm
      clear F hU
      have v0 := F9.obj.cell 0 rfl
      have v1 := F9.obj.cell 1 rfl
      have v2 := F9.obj.cell 2 rfl
      have v3 := F9.obj.cell 3 rfl
      have v4 := F9.obj.cell 4 rfl
      have v5 := F9.obj.cell 5 rfl
      have v6 := F9.obj.cell 6 rfl
      have F := hide F9
      clear F9
      go_wp2_with (refine bodyPost_ret (by simp [results, Tryz.results39, go_sem, v0, v1, v2, v3, v4, v5, v6]; try rfl) rfl ?_)
      clear EU
      have F := unhide F
      refine ⟨_, _, _, by rw [unhide V], ?_, by rw [unhide V]; exact World.ownsRow_nil _ _ _ _, F.below loR (unhide BB)⟩
      rw [unhide V]
      exact ⟨g_based (F.row (by decide) (unhide OM7)) (by have sz1_ := unhide sz1; have sz2_ := unhide sz2; have sz3_ := unhide sz3; have sz4_ := unhide sz4; have sz5_ := unhide sz5; omega), g_based (F.row (by decide) (unhide OT7)) (by have sz1_ := unhide sz1; have sz2_ := unhide sz2; have sz3_ := unhide sz3; have sz4_ := unhide sz4; have sz5_ := unhide sz5; omega)⟩
    | true =>
      have OK2 : Hid ((boxOk b && okS s) = true) := by show _ = _; rw [hq1, hq2]; rfl
      have OK1 := hide hq1
      have hmod := inI_iff.1 (head_parts (boxOk_iff.1 hq1).1).2.2.2.1
      have h30 := (head_parts (boxOk_iff.1 hq1).1).2.2.2.2.1
      have h40 := (head_parts (boxOk_iff.1 hq1).1).2.2.2.2.2.1
      have GR := hide (goneM_right (s := s) hq1)
      have FLR := hide (flags_right hq1)
      have FE := hide (exp_fit (s := s) (unhide HF) hq1)
      have TS := hide (trims_same (goneM s b.mails) hq1)
      clear hq1 hq2
      have Pc0_2 := (unhide P).cell 0 rfl
      have Pc1_2 := (unhide P).cell 1 rfl
      have Pc2_2 := (unhide P).cell 2 rfl
      have Pc3_2 := (unhide P).cell 3 rfl
      have Pc4_2 := (unhide P).cell 4 rfl
      have Pc5_2 := (unhide P).cell 5 rfl
      have Pc6_2 := (unhide P).cell 6 rfl
      go_wp2_with fail
      clear Pc0_2 Pc1_2 Pc2_2 Pc3_2 Pc4_2 Pc5_2 Pc6_2
      refine (opened_any b _ _ B0 _ (unhide HF) ((unhide HO).up (unhide BB))).mono ?_
      rintro e w5 ⟨vl, vt, rfl, ol, ot, hb⟩
      obtain ⟨al, cl, rfl⟩ := g_shape ol
      obtain ⟨a2, c2, rfl⟩ := g_shape ot
      have P_ := hide ((unhide P).ups hb)
      clear P
      have P := P_
      clear P_
      have R_ := hide ((unhide R).ups hb)
      clear R
      have R := R_
      clear R_
      have sz5 := hide (hb.size)
      have BB_ := hide (below_y (unhide BB) hb)
      clear BB
      have BB := BB_
      clear BB_
      clear hb
      have OL : Hid (OwnMl w4.heap.size w5 (.slice al b.mails.length cl) (b.mails)) := ol
      have OT : Hid (OwnTb w4.heap.size w5 (.slice a2 b.tombs.length c2) (b.tombs)) := ot
      clear ol ot
      obtain ⟨w6, hQ⟩ : ∃ X, X = w5.alloc (.cells ([.slice al b.mails.length cl, .string b.name, .int .i64 b.valid, .int .i64 b.next, .int .i64 b.mod, .slice none 0 0, .slice a2 b.tombs.length c2, .int .i64 b.hor] : List Value).toArray 117) := ⟨_, rfl⟩
      have Qx : HasObj w6 w5.heap.size 117 [.slice al b.mails.length cl, .string b.name, .int .i64 b.valid, .int .i64 b.next, .int .i64 b.mod, .slice none 0 0, .slice a2 b.tombs.length c2, .int .i64 b.hor] := by rw [hQ]; exact HasObj.new _ _ _
      have hbn : Below w5.heap.size w5 w6 := by rw [hQ]; exact (Below.refl _ _).alloc (Nat.le_refl _) _
      have nePQ : w.heap.size ≠ w5.heap.size := Nat.ne_of_lt (unhide P).lt
      have neRQ : w1.heap.size ≠ w5.heap.size := Nat.ne_of_lt (unhide R).lt
      have loQ : w.heap.size ≤ w5.heap.size := (unhide BB).size
      have EQ := hQ.symm
      clear hQ
      have P_ := hide ((unhide P).ups hbn)
      clear P
      have P := P_
      clear P_
      have R_ := hide ((unhide R).ups hbn)
      clear R
      have R := R_
      clear R_
      have OL_ := hide ((unhide OL).up hbn)
      clear OL
      have OL := OL_
      clear OL_
      have OT_ := hide ((unhide OT).up hbn)
      clear OT
      have OT := OT_
      clear OT_
      have sz6 := hide (hbn.size)
      have BB_ := hide (below_y (unhide BB) hbn)
      clear BB
      have BB := BB_
      clear BB_
      clear hbn
      have Q := hide Qx
      clear Qx
      go_wp2_with fail
      clear EQ
      refine (takeDeleted_any b s vs _ _ _ _ _ _ _ _ (w5.heap.size) _ _ h30 hsl (unhide FLR) ((unhide HR).up (unhide BB)) (unhide Q) (unhide OL)).mono ?_
      rintro e w7 ⟨gv, lv, rfl, hQ, hG, hL, gb⟩
      obtain ⟨ag, cg, rfl⟩ := g_shape hG
      obtain ⟨al8, cl8, rfl⟩ := g_shape hL
      have P_ := hide (gb.obj (unhide P) (fun hx => nePQ hx))
      have R_ := hide (gb.obj (unhide R) (fun hx => neRQ hx))
      have OT_ : Hid (OwnTb w4.heap.size w7 (.slice a2 b.tombs.length c2) (b.tombs)) := gb.row (unhide OT) (fun x hx hx2 => by rw [hx2] at hx; exact (unhide Q).not_row (by decide) (unhide OT) hx)
      have BB_ : Hid (Below w.heap.size w w7) := (unhide BB).trans (gb.toBelow (unhide BB).size (fun k hx => by rw [hx]; exact loQ))
      have sz7 := hide gb.size
      clear P
      have P := P_
      clear P_
      clear R
      have R := R_
      clear R_
      clear OT
      have OT := OT_
      clear OT_
      clear BB
      have BB := BB_
      clear BB_
      clear Q OL
      have Q := hide hQ
      have OL := hide hL
      have OG := hide hG
      clear hQ hL hG gb
      by_cases hn : 0 < (goneM s b.mails).length
      · have dn : (0 : Int) < ((goneM s b.mails).length : Int) := by omega
        have NE : Hid (goneM s b.mails ≠ []) := fun e => by rw [e] at hn; simp at hn
        clear hn
        go_wp2_with fail
        clear dn
        have nOT := fun k (hk : Value.ownBlock (.slice a2 b.tombs.length c2) = some k) => World.ownsRow.lt (unhide OT) k hk
        refine (bury_any (w5.heap.size) _ _ _ _ _ _ _ _ _ b.mod b.hor b.tombs (goneM s b.mails) _ (by omega) (by omega) (by omega) (by have := (unhide GR).1; omega) (by have sz1_ := unhide sz1; have sz2_ := unhide sz2; have sz3_ := unhide sz3; have sz4_ := unhide sz4; have sz5_ := unhide sz5; have sz6_ := unhide sz6; have sz7_ := unhide sz7; omega) (unhide Q) (unhide OT) (unhide OG)).mono ?_
        rintro e wp8 ⟨rfl, tv, hQ, hT, htv, gb⟩
        rw [unhide TS] at hQ hT
        obtain ⟨at8, ct8, rfl⟩ := g_shape hT
        have P_ := hide (gb.obj (unhide P) (fun hx => by rcases hx with hx | hx; exact nePQ hx; exact (unhide P).not_row (by decide) (unhide OT) hx))
        have R_ := hide (gb.obj (unhide R) (fun hx => by rcases hx with hx | hx; exact neRQ hx; exact (unhide R).not_row (by decide) (unhide OT) hx))
        have OL_ : Hid (OwnMl w6.heap.size wp8 (.slice al8 (leftM s b.mails).length cl8) (leftM s b.mails)) := gb.row (unhide OL) (fun x hx hx2 => by rcases hx2 with hx2 | hx2; (rw [hx2] at hx; exact (unhide Q).not_row (by decide) (unhide OL) hx); exact rows_apart (unhide OL) (unhide OT) (by decide) x hx hx2)
        have OG_ : Hid (OwnI w6.heap.size wp8 (.slice ag (goneM s b.mails).length cg) (goneM s b.mails)) := gb.row (unhide OG) (fun x hx hx2 => by rcases hx2 with hx2 | hx2; (rw [hx2] at hx; exact (unhide Q).not_row (by decide) (unhide OG) hx); exact rows_apart (unhide OG) (unhide OT) (by decide) x hx hx2)
        have BB_ : Hid (Below w.heap.size w wp8) := (unhide BB).trans (gb.toBelow (unhide BB).size (fun k hx => by rcases hx with hx | hx; (rw [hx]; exact loQ); (have q8_ := (nOT k hx).1; have sz1_ := unhide sz1; have sz2_ := unhide sz2; have sz3_ := unhide sz3; have sz4_ := unhide sz4; have sz5_ := unhide sz5; have sz6_ := unhide sz6; have sz7_ := unhide sz7; omega)))
        have sz8 := hide gb.size
        clear P
        have P := P_
        clear P_
        clear R
        have R := R_
        clear R_
        clear OL
        have OL := OL_
        clear OL_
        clear OG
        have OG := OG_
        clear OG_
        clear BB
        have BB := BB_
        clear BB_
        clear Q OT nOT
        obtain ⟨tz, htz⟩ : ∃ x, x = Plain.trimmed (b.tombs ++ tombsOf b (goneM s b.mails)) b.hor := ⟨_, rfl⟩
        rw [← htz] at hQ hT
        have ETZ : Hid (expBox b s = { b with mails := leftM s b.mails, mod := b.mod + 1, tombs := tz.1, hor := tz.2 }) := by show _ = _; unfold expBox; rw [htz]
        clear htz
        have Q := hide hQ
        have OT := hide hT
        clear hQ hT htv gb
        have Qc0_3 := (unhide Q).cell 0 rfl
        have Qc1_3 := (unhide Q).cell 1 rfl
        have Qc2_3 := (unhide Q).cell 2 rfl
        have Qc3_3 := (unhide Q).cell 3 rfl
        have Qc4_3 := (unhide Q).cell 4 rfl
        have Qc5_3 := (unhide Q).cell 5 rfl
        have Qc6_3 := (unhide Q).cell 6 rfl
        have Qc7_3 := (unhide Q).cell 7 rfl
        go_wp2_with fail
        clear Qc0_3 Qc1_3 Qc2_3 Qc3_3 Qc4_3 Qc5_3 Qc6_3 Qc7_3
        refine (box_any { b with mod := b.mod + 1, mails := [], hor := tz.2 } _ _ _ _ _ _ _ _ _ _).mono ?_
        rintro e wp9 ⟨rfl, hb⟩
        have P_ := hide ((unhide P).ups hb)
        clear P
        have P := P_
        clear P_
        have R_ := hide ((unhide R).ups hb)
        clear R
        have R := R_
        clear R_
        have Q_ := hide ((unhide Q).ups hb)
        clear Q
        have Q := Q_
        clear Q_
        have OT_ := hide ((unhide OT).up hb)
        clear OT
        have OT := OT_
        clear OT_
        have OL_ := hide ((unhide OL).up hb)
        clear OL
        have OL := OL_
        clear OL_
        have OG_ := hide ((unhide OG).up hb)
        clear OG
        have OG := OG_
        clear OG_
        have sz9 := hide (hb.size)
        have BB_ := hide (below_y (unhide BB) hb)
        clear BB
        have BB := BB_
        clear BB_
        clear hb
        obtain ⟨wp10, hN⟩ : ∃ X, X = wp9.alloc (.cells ([.string b.name, .int .i64 b.valid, .int .i64 b.next, .int .i64 (b.mod + 1), .slice al8 (leftM s b.mails).length cl8, .slice at8 tz.1.length ct8, .int .i64 tz.2] : List Value).toArray 33) := ⟨_, rfl⟩
        have Nx : HasObj wp10 wp9.heap.size 33 [.string b.name, .int .i64 b.valid, .int .i64 b.next, .int .i64 (b.mod + 1), .slice al8 (leftM s b.mails).length cl8, .slice at8 tz.1.length ct8, .int .i64 tz.2] := by rw [hN]; exact HasObj.new _ _ _
        have hbn : Below wp9.heap.size wp9 wp10 := by rw [hN]; exact (Below.refl _ _).alloc (Nat.le_refl _) _
        have nePN : w.heap.size ≠ wp9.heap.size := Nat.ne_of_lt (unhide P).lt
        have neRN : w1.heap.size ≠ wp9.heap.size := Nat.ne_of_lt (unhide R).lt
        have neQN : w5.heap.size ≠ wp9.heap.size := Nat.ne_of_lt (unhide Q).lt
        have loN : w.heap.size ≤ wp9.heap.size := (unhide BB).size
        have EN := hN.symm
        clear hN
        have P_ := hide ((unhide P).ups hbn)
        clear P
        have P := P_
        clear P_
        have R_ := hide ((unhide R).ups hbn)
        clear R
        have R := R_
        clear R_
        have Q_ := hide ((unhide Q).ups hbn)
        clear Q
        have Q := Q_
        clear Q_
        have OT_ := hide ((unhide OT).up hbn)
        clear OT
        have OT := OT_
        clear OT_
        have OL_ := hide ((unhide OL).up hbn)
        clear OL
        have OL := OL_
        clear OL_
        have OG_ := hide ((unhide OG).up hbn)
        clear OG
        have OG := OG_
        clear OG_
        have sz10 := hide (hbn.size)
        have BB_ := hide (below_y (unhide BB) hbn)
        clear BB
        have BB := BB_
        clear BB_
        clear hbn
        have N := hide Nx
        clear Nx
        have Nc0_4 := (unhide N).cell 0 rfl
        have Nc1_4 := (unhide N).cell 1 rfl
        have Nc2_4 := (unhide N).cell 2 rfl
        have Nc3_4 := (unhide N).cell 3 rfl
        have Nc4_4 := (unhide N).cell 4 rfl
        have Nc5_4 := (unhide N).cell 5 rfl
        have Nc6_4 := (unhide N).cell 6 rfl
        have OBX : Hid (OwnBx w.heap.size wp10 (.slice al8 (leftM s b.mails).length cl8) (.slice at8 tz.1.length ct8) { b with mails := leftM s b.mails, mod := b.mod + 1, tombs := tz.1, hor := tz.2 }) := ⟨g_based (unhide OL) (by have sz1_ := unhide sz1; have sz2_ := unhide sz2; have sz3_ := unhide sz3; have sz4_ := unhide sz4; have sz5_ := unhide sz5; have sz6_ := unhide sz6; have sz7_ := unhide sz7; have sz8_ := unhide sz8; have sz9_ := unhide sz9; have sz10_ := unhide sz10; omega), g_based (unhide OT) (by have sz1_ := unhide sz1; have sz2_ := unhide sz2; have sz3_ := unhide sz3; have sz4_ := unhide sz4; have sz5_ := unhide sz5; have sz6_ := unhide sz6; have sz7_ := unhide sz7; have sz8_ := unhide sz8; have sz9_ := unhide sz9; have sz10_ := unhide sz10; omega)⟩
        have FBX : Hid (FitBx { b with mails := leftM s b.mails, mod := b.mod + 1, tombs := tz.1, hor := tz.2 }) := by show FitBx _; rw [← unhide ETZ]; exact unhide FE
        clear OL OT
        go_wp2_with fail
        clear Nc0_4 Nc1_4 Nc2_4 Nc3_4 Nc4_4 Nc5_4 Nc6_4 EN
        refine (impl_BoxOk_any { b with mails := leftM s b.mails, mod := b.mod + 1, tombs := tz.1, hor := tz.2 } _ _ _ _ (unhide FBX) (unhide OBX)).mono ?_
        rintro e wp11 ⟨rfl, hb⟩
        have P_ := hide ((unhide P).ups hb)
        clear P
        have P := P_
        clear P_
        have R_ := hide ((unhide R).ups hb)
        clear R
        have R := R_
        clear R_
        have Q_ := hide ((unhide Q).ups hb)
        clear Q
        have Q := Q_
        clear Q_
        have N_ := hide ((unhide N).ups hb)
        clear N
        have N := N_
        clear N_
        have OG_ := hide ((unhide OG).up hb)
        clear OG
        have OG := OG_
        clear OG_
        have OBX_ := hide ((unhide OBX).up hb)
        clear OBX
        have OBX := OBX_
        clear OBX_
        have sz11 := hide (hb.size)
        have BB_ := hide (below_y (unhide BB) hb)
        clear BB
        have BB := BB_
        clear BB_
        clear hb
        cases hq5 : boxOk { b with mails := leftM s b.mails, mod := b.mod + 1, tombs := tz.1, hor := tz.2 } with
        | false =>
          clear OBX OG
          have Pc0_5 := (unhide P).cell 0 rfl
          have Pc1_5 := (unhide P).cell 1 rfl
          have Pc2_5 := (unhide P).cell 2 rfl
          have Pc3_5 := (unhide P).cell 3 rfl
          have Pc4_5 := (unhide P).cell 4 rfl
          have Pc5_5 := (unhide P).cell 5 rfl
          have Pc6_5 := (unhide P).cell 6 rfl
          go_wp2_with fail
          clear Pc0_5 Pc1_5 Pc2_5 Pc3_5 Pc4_5 Pc5_5 Pc6_5
          refine (copiedBox_any b _ _ B0 _ (unhide HF) ((unhide HO).up (unhide BB))).mono ?_
          rintro e wpf12 ⟨vm, vt, rfl, ob, hb⟩
          obtain ⟨am7, cm7, rfl⟩ := g_shape ob.1
          obtain ⟨at7, ct7, rfl⟩ := g_shape ob.2
          have P_ := hide ((unhide P).ups hb)
          clear P
          have P := P_
          clear P_
          have R_ := hide ((unhide R).ups hb)
          clear R
          have R := R_
          clear R_
          have Q_ := hide ((unhide Q).ups hb)
          clear Q
          have Q := Q_
          clear Q_
          have N_ := hide ((unhide N).ups hb)
          clear N
          have N := N_
          clear N_
          have sz12 := hide (hb.size)
          have BB_ := hide (below_y (unhide BB) hb)
          clear BB
          have BB := BB_
          clear BB_
          clear hb
          have OM7 := hide ob.1
          have OT7 := hide ob.2
          clear ob
          have V := hide (unhide V3 (by rw [unhide ETZ]; exact hq5))
          have Rf0 := (unhide R).frozen 0
          have Rf1 := (unhide R).frozen 1
          have Rf2 := (unhide R).frozen 2
          have Rf3 := (unhide R).frozen 3
          have Rf4 := (unhide R).frozen 4
          have Rf5 := (unhide R).frozen 5
          have Rf6 := (unhide R).frozen 6
          have Re0 := (unhide R).cell 0 rfl
          have Re1 := (unhide R).cell 1 rfl
          have Re2 := (unhide R).cell 2 rfl
          have Re3 := (unhide R).cell 3 rfl
          have Re4 := (unhide R).cell 4 rfl
          have Re5 := (unhide R).cell 5 rfl
          have Re6 := (unhide R).cell 6 rfl
          have F := hide (fill7 (unhide R) (.string b.name) (.int .i64 b.valid) (.int .i64 b.next) (.int .i64 b.mod) (.slice am7 b.mails.length cm7) (.slice at7 b.tombs.length ct7) (.int .i64 b.hor))
          obtain ⟨U, hU⟩ : ∃ U, U = (((((((wpf12.setCell ⟨w1.heap.size, 0, none⟩ (.string b.name)).setCell ⟨w1.heap.size, 1, none⟩ (.int .i64 b.valid)).setCell ⟨w1.heap.size, 2, none⟩ (.int .i64 b.next)).setCell ⟨w1.heap.size, 3, none⟩ (.int .i64 b.mod)).setCell ⟨w1.heap.size, 4, none⟩ (.slice am7 b.mails.length cm7)).setCell ⟨w1.heap.size, 5, none⟩ (.slice at7 b.tombs.length ct7)).setCell ⟨w1.heap.size, 6, none⟩ (.int .i64 b.hor)) := ⟨_, rfl⟩
          have F9 := unhide F
          rw [← hU] at F9
          have EU := hU.symm
          clear F hU
          have v0 := F9.obj.cell 0 rfl
          have v1 := F9.obj.cell 1 rfl
          have v2 := F9.obj.cell 2 rfl
          have v3 := F9.obj.cell 3 rfl
          have v4 := F9.obj.cell 4 rfl
          have v5 := F9.obj.cell 5 rfl
          have v6 := F9.obj.cell 6 rfl
          have F := hide F9
          clear F9
          go_wp2_with (refine bodyPost_ret (by simp [results, Tryz.results39, go_sem, v0, v1, v2, v3, v4, v5, v6]; try rfl) rfl ?_)
          clear EU
          have F := unhide F
          refine ⟨_, _, _, by rw [unhide V], ?_, by rw [unhide V]; exact World.ownsRow_nil _ _ _ _, F.below loR (unhide BB)⟩
          rw [unhide V]
          exact ⟨g_based (F.row (by decide) (unhide OM7)) (by have sz1_ := unhide sz1; have sz2_ := unhide sz2; have sz3_ := unhide sz3; have sz4_ := unhide sz4; have sz5_ := unhide sz5; have sz6_ := unhide sz6; have sz7_ := unhide sz7; have sz8_ := unhide sz8; have sz9_ := unhide sz9; have sz10_ := unhide sz10; have sz11_ := unhide sz11; have sz12_ := unhide sz12; omega), g_based (F.row (by decide) (unhide OT7)) (by have sz1_ := unhide sz1; have sz2_ := unhide sz2; have sz3_ := unhide sz3; have sz4_ := unhide sz4; have sz5_ := unhide sz5; have sz6_ := unhide sz6; have sz7_ := unhide sz7; have sz8_ := unhide sz8; have sz9_ := unhide sz9; have sz10_ := unhide sz10; have sz11_ := unhide sz11; have sz12_ := unhide sz12; omega)⟩
        | true =>
          have V : Hid (expV b s = ({ b with mails := leftM s b.mails, mod := b.mod + 1, tombs := tz.1, hor := tz.2 }, uidsV (goneM s b.mails))) := by show _ = _; rw [unhide V4 (unhide OK2) (unhide NE) (by rw [unhide ETZ]; exact hq5), unhide ETZ]
          clear hq5
          have Nc0_5 := (unhide N).cell 0 rfl
          have Nc1_5 := (unhide N).cell 1 rfl
          have Nc2_5 := (unhide N).cell 2 rfl
          have Nc3_5 := (unhide N).cell 3 rfl
          have Nc4_5 := (unhide N).cell 4 rfl
          have Nc5_5 := (unhide N).cell 5 rfl
          have Nc6_5 := (unhide N).cell 6 rfl
          go_wp2
          refine wp_region_held_drew (S := fun w' => w'.cell? ⟨wp9.heap.size, 0, none⟩ = some (.string b.name) ∧ w'.cell? ⟨wp9.heap.size, 1, none⟩ = some (.int .i64 b.valid) ∧ w'.cell? ⟨wp9.heap.size, 2, none⟩ = some (.int .i64 b.next) ∧ w'.cell? ⟨wp9.heap.size, 3, none⟩ = some (.int .i64 (b.mod + 1)) ∧ w'.cell? ⟨wp9.heap.size, 4, none⟩ = some (.slice al8 (leftM s b.mails).length cl8) ∧ w'.cell? ⟨wp9.heap.size, 5, none⟩ = some (.slice at8 tz.1.length ct8) ∧ w'.cell? ⟨wp9.heap.size, 6, none⟩ = some (.int .i64 tz.2)) (by kernel_rfl) (⟨(unhide N).cell 0 rfl, (unhide N).cell 1 rfl, (unhide N).cell 2 rfl, (unhide N).cell 3 rfl, (unhide N).cell 4 rfl, (unhide N).cell 5 rfl, (unhide N).cell 6 rfl⟩) (fun hHeld => ?_)
          clear Nc0_5 Nc1_5 Nc2_5 Nc3_5 Nc4_5 Nc5_5 Nc6_5
          have P_ := hide ((unhide P).drew)
          clear P
          have P := P_
          clear P_
          have R_ := hide ((unhide R).drew)
          clear R
          have R := R_
          clear R_
          have Q_ := hide ((unhide Q).drew)
          clear Q
          have Q := Q_
          clear Q_
          have N_ := hide ((unhide N).drew)
          clear N
          have N := N_
          clear N_
          have OG_ := hide ((unhide OG).drew)
          clear OG
          have OG := OG_
          clear OG_
          have OBX_ := hide ((unhide OBX).drew)
          clear OBX
          have OBX := OBX_
          clear OBX_
          have BB_ := hide ((unhide BB).drew)
          clear BB
          have BB := BB_
          clear BB_
          have sz12 : Hid (wp11.heap.size ≤ wp11.drew.heap.size) := Nat.le_refl _
          refine takeVal 0 (some 36) ?_ rfl (by kernel_rfl) (by kernel_rfl) (by kernel_rfl) rfl (fun _ _ _ h => h) (by rfl) (by assumption) ?_ ?_
          rotate_left
          · (intro w hSw; (try dsimp only at hSw); go_simp <;> with_reducible rfl)
          simp only [Act.put, List.setIfInBounds_toArray, List.set_cons_zero, List.set_cons_succ]
          refine takeVal 1 (some 37) ?_ rfl (by kernel_rfl) (by kernel_rfl) (by kernel_rfl) rfl (fun _ _ _ h => h) (by rfl) (by assumption) ?_ ?_
          rotate_left
          · (intro w hSw; (try dsimp only at hSw); go_simp <;> with_reducible rfl)
          simp only [Act.put, List.setIfInBounds_toArray, List.set_cons_zero, List.set_cons_succ]
          refine wpAnyH_ready (rs := [2]) (by kernel_rfl) (by simp) ?_
          refine AllReadyH.cons rfl (fun K hK => ?_) AllReadyH.nil
          go_simp
          refine (uidSet_any (goneM s b.mails) _ _ _ (Nat.le_trans (unhide GR).1 (by decide)) (unhide GR).2 (unhide OG)).mono ?_
          rintro e wp12 ⟨uC, rfl, oC, hb⟩
          obtain ⟨auC, cuC, rfl⟩ := g_shape oC
          have P_ := hide ((unhide P).ups hb)
          clear P
          have P := P_
          clear P_
          have R_ := hide ((unhide R).ups hb)
          clear R
          have R := R_
          clear R_
          have Q_ := hide ((unhide Q).ups hb)
          clear Q
          have Q := Q_
          clear Q_
          have N_ := hide ((unhide N).ups hb)
          clear N
          have N := N_
          clear N_
          have OG_ := hide ((unhide OG).up hb)
          clear OG
          have OG := OG_
          clear OG_
          have OBX_ := hide ((unhide OBX).up hb)
          clear OBX
          have OBX := OBX_
          clear OBX_
          have sz13 := hide (hb.size)
          have BB_ := hide (below_y (unhide BB) hb)
          clear BB
          have BB := BB_
          clear BB_
          clear hb
          have UC := hide oC
          clear oC
          go_wp2_with fail
          refine hK.out _ _ (⟨(unhide N).cell 0 rfl, (unhide N).cell 1 rfl, (unhide N).cell 2 rfl, (unhide N).cell 3 rfl, (unhide N).cell 4 rfl, (unhide N).cell 5 rfl, (unhide N).cell 6 rfl⟩) (fun hHeld2 => ?_)
          clear hK K hHeld
          have hHeld := hHeld2; clear hHeld2
          try simp only [Act.put, List.setIfInBounds_toArray, List.set_cons_zero, List.set_cons_succ]
          have Rf0 := (unhide R).frozen 0
          have Rf1 := (unhide R).frozen 1
          have Rf2 := (unhide R).frozen 2
          have Rf3 := (unhide R).frozen 3
          have Rf4 := (unhide R).frozen 4
          have Rf5 := (unhide R).frozen 5
          have Rf6 := (unhide R).frozen 6
          have Re0 := (unhide R).cell 0 rfl
          have Re1 := (unhide R).cell 1 rfl
          have Re2 := (unhide R).cell 2 rfl
          have Re3 := (unhide R).cell 3 rfl
          have Re4 := (unhide R).cell 4 rfl
          have Re5 := (unhide R).cell 5 rfl
          have Re6 := (unhide R).cell 6 rfl
          have F_ := hide (fill7 (unhide R) (.string b.name) (.int .i64 b.valid) (.int .i64 b.next) (.int .i64 (b.mod + 1)) (.slice al8 (leftM s b.mails).length cl8) (.slice at8 tz.1.length ct8) (.int .i64 tz.2))
          refine wpAnyH_ready (rs := [3]) (by kernel_rfl) (by simp) ?_
          refine AllReadyH.cons rfl (fun K hK => ?_) AllReadyH.nil
          go_simp
          obtain ⟨wp13, hU⟩ : ∃ U, U = (((((((wp12.setCell ⟨w1.heap.size, 0, none⟩ (.string b.name)).setCell ⟨w1.heap.size, 1, none⟩ (.int .i64 b.valid)).setCell ⟨w1.heap.size, 2, none⟩ (.int .i64 b.next)).setCell ⟨w1.heap.size, 3, none⟩ (.int .i64 (b.mod + 1))).setCell ⟨w1.heap.size, 4, none⟩ (.slice al8 (leftM s b.mails).length cl8)).setCell ⟨w1.heap.size, 5, none⟩ (.slice at8 tz.1.length ct8)).setCell ⟨w1.heap.size, 6, none⟩ (.int .i64 tz.2)) := ⟨_, rfl⟩
          have F := unhide F_
          rw [← hU] at F ⊢
          clear hU F_
          clear Rf0 Rf1 Rf2 Rf3 Rf4 Rf5 Rf6 Re0 Re1 Re2 Re3 Re4 Re5 Re6
          have P_ := hide (F.other nePR (unhide P))
          have R_ := hide (F.obj)
          have Q_ := hide (F.other neRQ.symm (unhide Q))
          have N_ := hide (F.other neRN.symm (unhide N))
          have OG_ : Hid (OwnI w6.heap.size wp13 (.slice ag (goneM s b.mails).length cg) (goneM s b.mails)) := F.row (by decide) (unhide OG)
          have OBX_ : Hid (OwnBx w.heap.size wp13 (.slice al8 (leftM s b.mails).length cl8) (.slice at8 tz.1.length ct8) { b with mails := leftM s b.mails, mod := b.mod + 1, tombs := tz.1, hor := tz.2 }) := ⟨F.row (by decide) (unhide OBX).1, F.row (by decide) (unhide OBX).2⟩
          have UC_ : Hid (OwnR wp11.drew.heap.size wp13 (.slice auC (uidsV (goneM s b.mails)).length cuC) (uidsV (goneM s b.mails))) := F.row (by decide) (unhide UC)
          have BB_ : Hid (Below w.heap.size w wp13) := F.below loR (unhide BB)
          have sz14 : Hid (wp12.heap.size ≤ wp13.heap.size) := by show _ ≤ _; rw [F.size]; exact Nat.le_refl _
          clear P
          have P := P_
          clear P_
          clear R
          have R := R_
          clear R_
          clear Q
          have Q := Q_
          clear Q_
          clear N
          have N := N_
          clear N_
          clear OG
          have OG := OG_
          clear OG_
          clear OBX
          have OBX := OBX_
          clear OBX_
          clear UC
          have UC := UC_
          clear UC_
          clear BB
          have BB := BB_
          clear BB_
          clear F
          refine hK.out _ _ (⟨(unhide N).cell 0 rfl, (unhide N).cell 1 rfl, (unhide N).cell 2 rfl, (unhide N).cell 3 rfl, (unhide N).cell 4 rfl, (unhide N).cell 5 rfl, (unhide N).cell 6 rfl⟩) (fun hHeld2 => ?_)
          clear hK K hHeld
          have hHeld := hHeld2; clear hHeld2
          try simp only [Act.put, List.setIfInBounds_toArray, List.set_cons_zero, List.set_cons_succ]
          refine takeVal 4 (some 5) ?_ rfl (by kernel_rfl) (by kernel_rfl) (by kernel_rfl) rfl (fun _ _ _ h => h) (by rfl) (by assumption) ?_ ?_
          rotate_left
          · (intro w hSw; (try dsimp only at hSw); go_simp <;> with_reducible rfl)
          simp only [Act.put, List.setIfInBounds_toArray, List.set_cons_zero, List.set_cons_succ]
          refine wpAnyH_done (by kernel_rfl) ?_ _
          have v0 := (unhide R).cell 0 rfl
          have v1 := (unhide R).cell 1 rfl
          have v2 := (unhide R).cell 2 rfl
          have v3 := (unhide R).cell 3 rfl
          have v4 := (unhide R).cell 4 rfl
          have v5 := (unhide R).cell 5 rfl
          have v6 := (unhide R).cell 6 rfl
          go_wp2_with (refine bodyPost_ret (by simp [results, Tryz.results39, go_sem, v0, v1, v2, v3, v4, v5, v6]; try rfl) rfl ?_)
          refine ⟨.slice al8 (leftM s b.mails).length cl8, .slice at8 tz.1.length ct8, .slice auC (uidsV (goneM s b.mails)).length cuC, by rw [unhide V], ?_, ?_, unhide BB⟩
          · rw [unhide V]; exact unhide OBX
          · rw [unhide V]; exact g_based (unhide UC) (by have sz1_ := unhide sz1; have sz2_ := unhide sz2; have sz3_ := unhide sz3; have sz4_ := unhide sz4; have sz5_ := unhide sz5; have sz6_ := unhide sz6; have sz7_ := unhide sz7; have sz8_ := unhide sz8; have sz9_ := unhide sz9; have sz10_ := unhide sz10; have sz11_ := unhide sz11; have sz12_ := unhide sz12; have sz13_ := unhide sz13; have sz14_ := unhide sz14; omega)
      · have NE : goneM s b.mails = [] := List.length_eq_zero_iff.1 (by omega)
        have dn : ¬ (0 : Int) < ((goneM s b.mails).length : Int) := by omega
        have EL : Hid (leftM s b.mails = b.mails) := left_all8 NE
        have V : Hid (expV b s = (b, uidsV (goneM s b.mails))) := by show _ = _; rw [unhide V2 NE, NE]; rfl
        clear hn NE
        have Qc0_3 := (unhide Q).cell 0 rfl
        have Qc1_3 := (unhide Q).cell 1 rfl
        have Qc2_3 := (unhide Q).cell 2 rfl
        have Qc3_3 := (unhide Q).cell 3 rfl
        have Qc4_3 := (unhide Q).cell 4 rfl
        have Qc5_3 := (unhide Q).cell 5 rfl
        have Qc6_3 := (unhide Q).cell 6 rfl
        have Qc7_3 := (unhide Q).cell 7 rfl
        go_wp2_with fail
        clear dn Qc0_3 Qc1_3 Qc2_3 Qc3_3 Qc4_3 Qc5_3 Qc6_3 Qc7_3
        refine (box_any { b with mails := [] } _ _ _ _ _ _ _ _ _ _).mono ?_
        rintro e wn8 ⟨rfl, hb⟩
        have P_ := hide ((unhide P).ups hb)
        clear P
        have P := P_
        clear P_
        have R_ := hide ((unhide R).ups hb)
        clear R
        have R := R_
        clear R_
        have Q_ := hide ((unhide Q).ups hb)
        clear Q
        have Q := Q_
        clear Q_
        have OT_ := hide ((unhide OT).up hb)
        clear OT
        have OT := OT_
        clear OT_
        have OL_ := hide ((unhide OL).up hb)
        clear OL
        have OL := OL_
        clear OL_
        have OG_ := hide ((unhide OG).up hb)
        clear OG
        have OG := OG_
        clear OG_
        have sz8 := hide (hb.size)
        have BB_ := hide (below_y (unhide BB) hb)
        clear BB
        have BB := BB_
        clear BB_
        clear hb
        obtain ⟨wn9, hN⟩ : ∃ X, X = wn8.alloc (.cells ([.string b.name, .int .i64 b.valid, .int .i64 b.next, .int .i64 b.mod, .slice al8 (leftM s b.mails).length cl8, .slice a2 b.tombs.length c2, .int .i64 b.hor] : List Value).toArray 33) := ⟨_, rfl⟩
        have Nx : HasObj wn9 wn8.heap.size 33 [.string b.name, .int .i64 b.valid, .int .i64 b.next, .int .i64 b.mod, .slice al8 (leftM s b.mails).length cl8, .slice a2 b.tombs.length c2, .int .i64 b.hor] := by rw [hN]; exact HasObj.new _ _ _
        have hbn : Below wn8.heap.size wn8 wn9 := by rw [hN]; exact (Below.refl _ _).alloc (Nat.le_refl _) _
        have nePN : w.heap.size ≠ wn8.heap.size := Nat.ne_of_lt (unhide P).lt
        have neRN : w1.heap.size ≠ wn8.heap.size := Nat.ne_of_lt (unhide R).lt
        have neQN : w5.heap.size ≠ wn8.heap.size := Nat.ne_of_lt (unhide Q).lt
        have loN : w.heap.size ≤ wn8.heap.size := (unhide BB).size
        have EN := hN.symm
        clear hN
        have P_ := hide ((unhide P).ups hbn)
        clear P
        have P := P_
        clear P_
        have R_ := hide ((unhide R).ups hbn)
        clear R
        have R := R_
        clear R_
        have Q_ := hide ((unhide Q).ups hbn)
        clear Q
        have Q := Q_
        clear Q_
        have OT_ := hide ((unhide OT).up hbn)
        clear OT
        have OT := OT_
        clear OT_
        have OL_ := hide ((unhide OL).up hbn)
        clear OL
        have OL := OL_
        clear OL_
        have OG_ := hide ((unhide OG).up hbn)
        clear OG
        have OG := OG_
        clear OG_
        have sz9 := hide (hbn.size)
        have BB_ := hide (below_y (unhide BB) hbn)
        clear BB
        have BB := BB_
        clear BB_
        clear hbn
        have N := hide Nx
        clear Nx
        have Nc0_4 := (unhide N).cell 0 rfl
        have Nc1_4 := (unhide N).cell 1 rfl
        have Nc2_4 := (unhide N).cell 2 rfl
        have Nc3_4 := (unhide N).cell 3 rfl
        have Nc4_4 := (unhide N).cell 4 rfl
        have Nc5_4 := (unhide N).cell 5 rfl
        have Nc6_4 := (unhide N).cell 6 rfl
        have OBX : Hid (OwnBx w.heap.size wn9 (.slice al8 (leftM s b.mails).length cl8) (.slice a2 b.tombs.length c2) b) := ⟨by have h9 := g_based (B' := w.heap.size) (unhide OL) (by have sz1_ := unhide sz1; have sz2_ := unhide sz2; have sz3_ := unhide sz3; have sz4_ := unhide sz4; have sz5_ := unhide sz5; have sz6_ := unhide sz6; have sz7_ := unhide sz7; have sz8_ := unhide sz8; have sz9_ := unhide sz9; omega); show OwnMl _ _ _ _; rw [unhide EL] at h9 ⊢; exact h9, g_based (unhide OT) (by have sz1_ := unhide sz1; have sz2_ := unhide sz2; have sz3_ := unhide sz3; have sz4_ := unhide sz4; have sz5_ := unhide sz5; have sz6_ := unhide sz6; have sz7_ := unhide sz7; have sz8_ := unhide sz8; have sz9_ := unhide sz9; omega)⟩
        clear OL OT
        have QB := hide (impl_BoxOk_any b _ _ _ _ (unhide HF) (unhide OBX))
        rw [unhide OK1] at QB
        go_wp2_with fail
        clear Nc0_4 Nc1_4 Nc2_4 Nc3_4 Nc4_4 Nc5_4 Nc6_4 EN
        refine (unhide QB).mono ?_
        rintro e wn10 ⟨rfl, hb⟩
        have P_ := hide ((unhide P).ups hb)
        clear P
        have P := P_
        clear P_
        have R_ := hide ((unhide R).ups hb)
        clear R
        have R := R_
        clear R_
        have Q_ := hide ((unhide Q).ups hb)
        clear Q
        have Q := Q_
        clear Q_
        have N_ := hide ((unhide N).ups hb)
        clear N
        have N := N_
        clear N_
        have OG_ := hide ((unhide OG).up hb)
        clear OG
        have OG := OG_
        clear OG_
        have OBX_ := hide ((unhide OBX).up hb)
        clear OBX
        have OBX := OBX_
        clear OBX_
        have sz10 := hide (hb.size)
        have BB_ := hide (below_y (unhide BB) hb)
        clear BB
        have BB := BB_
        clear BB_
        clear hb
        clear QB
        have Nc0_5 := (unhide N).cell 0 rfl
        have Nc1_5 := (unhide N).cell 1 rfl
        have Nc2_5 := (unhide N).cell 2 rfl
        have Nc3_5 := (unhide N).cell 3 rfl
        have Nc4_5 := (unhide N).cell 4 rfl
        have Nc5_5 := (unhide N).cell 5 rfl
        have Nc6_5 := (unhide N).cell 6 rfl
        go_wp2
        refine wp_region_held_drew (S := fun w' => w'.cell? ⟨wn8.heap.size, 0, none⟩ = some (.string b.name) ∧ w'.cell? ⟨wn8.heap.size, 1, none⟩ = some (.int .i64 b.valid) ∧ w'.cell? ⟨wn8.heap.size, 2, none⟩ = some (.int .i64 b.next) ∧ w'.cell? ⟨wn8.heap.size, 3, none⟩ = some (.int .i64 b.mod) ∧ w'.cell? ⟨wn8.heap.size, 4, none⟩ = some (.slice al8 (leftM s b.mails).length cl8) ∧ w'.cell? ⟨wn8.heap.size, 5, none⟩ = some (.slice a2 b.tombs.length c2) ∧ w'.cell? ⟨wn8.heap.size, 6, none⟩ = some (.int .i64 b.hor)) (by kernel_rfl) (⟨(unhide N).cell 0 rfl, (unhide N).cell 1 rfl, (unhide N).cell 2 rfl, (unhide N).cell 3 rfl, (unhide N).cell 4 rfl, (unhide N).cell 5 rfl, (unhide N).cell 6 rfl⟩) (fun hHeld => ?_)
        clear Nc0_5 Nc1_5 Nc2_5 Nc3_5 Nc4_5 Nc5_5 Nc6_5
        have P_ := hide ((unhide P).drew)
        clear P
        have P := P_
        clear P_
        have R_ := hide ((unhide R).drew)
        clear R
        have R := R_
        clear R_
        have Q_ := hide ((unhide Q).drew)
        clear Q
        have Q := Q_
        clear Q_
        have N_ := hide ((unhide N).drew)
        clear N
        have N := N_
        clear N_
        have OG_ := hide ((unhide OG).drew)
        clear OG
        have OG := OG_
        clear OG_
        have OBX_ := hide ((unhide OBX).drew)
        clear OBX
        have OBX := OBX_
        clear OBX_
        have BB_ := hide ((unhide BB).drew)
        clear BB
        have BB := BB_
        clear BB_
        have sz11 : Hid (wn10.heap.size ≤ wn10.drew.heap.size) := Nat.le_refl _
        refine takeVal 0 (some 36) ?_ rfl (by kernel_rfl) (by kernel_rfl) (by kernel_rfl) rfl (fun _ _ _ h => h) (by rfl) (by assumption) ?_ ?_
        rotate_left
        · (intro w hSw; (try dsimp only at hSw); go_simp <;> with_reducible rfl)
        simp only [Act.put, List.setIfInBounds_toArray, List.set_cons_zero, List.set_cons_succ]
        refine takeVal 1 (some 37) ?_ rfl (by kernel_rfl) (by kernel_rfl) (by kernel_rfl) rfl (fun _ _ _ h => h) (by rfl) (by assumption) ?_ ?_
        rotate_left
        · (intro w hSw; (try dsimp only at hSw); go_simp <;> with_reducible rfl)
        simp only [Act.put, List.setIfInBounds_toArray, List.set_cons_zero, List.set_cons_succ]
        refine wpAnyH_ready (rs := [2]) (by kernel_rfl) (by simp) ?_
        refine AllReadyH.cons rfl (fun K hK => ?_) AllReadyH.nil
        go_simp
        refine (uidSet_any (goneM s b.mails) _ _ _ (Nat.le_trans (unhide GR).1 (by decide)) (unhide GR).2 (unhide OG)).mono ?_
        rintro e wn11 ⟨uC, rfl, oC, hb⟩
        obtain ⟨auC, cuC, rfl⟩ := g_shape oC
        have P_ := hide ((unhide P).ups hb)
        clear P
        have P := P_
        clear P_
        have R_ := hide ((unhide R).ups hb)
        clear R
        have R := R_
        clear R_
        have Q_ := hide ((unhide Q).ups hb)
        clear Q
        have Q := Q_
        clear Q_
        have N_ := hide ((unhide N).ups hb)
        clear N
        have N := N_
        clear N_
        have OG_ := hide ((unhide OG).up hb)
        clear OG
        have OG := OG_
        clear OG_
        have OBX_ := hide ((unhide OBX).up hb)
        clear OBX
        have OBX := OBX_
        clear OBX_
        have sz12 := hide (hb.size)
        have BB_ := hide (below_y (unhide BB) hb)
        clear BB
        have BB := BB_
        clear BB_
        clear hb
        have UC := hide oC
        clear oC
        go_wp2_with fail
        refine hK.out _ _ (⟨(unhide N).cell 0 rfl, (unhide N).cell 1 rfl, (unhide N).cell 2 rfl, (unhide N).cell 3 rfl, (unhide N).cell 4 rfl, (unhide N).cell 5 rfl, (unhide N).cell 6 rfl⟩) (fun hHeld2 => ?_)
        clear hK K hHeld
        have hHeld := hHeld2; clear hHeld2
        try simp only [Act.put, List.setIfInBounds_toArray, List.set_cons_zero, List.set_cons_succ]
        have Rf0 := (unhide R).frozen 0
        have Rf1 := (unhide R).frozen 1
        have Rf2 := (unhide R).frozen 2
        have Rf3 := (unhide R).frozen 3
        have Rf4 := (unhide R).frozen 4
        have Rf5 := (unhide R).frozen 5
        have Rf6 := (unhide R).frozen 6
        have Re0 := (unhide R).cell 0 rfl
        have Re1 := (unhide R).cell 1 rfl
        have Re2 := (unhide R).cell 2 rfl
        have Re3 := (unhide R).cell 3 rfl
        have Re4 := (unhide R).cell 4 rfl
        have Re5 := (unhide R).cell 5 rfl
        have Re6 := (unhide R).cell 6 rfl
        have F_ := hide (fill7 (unhide R) (.string b.name) (.int .i64 b.valid) (.int .i64 b.next) (.int .i64 b.mod) (.slice al8 (leftM s b.mails).length cl8) (.slice a2 b.tombs.length c2) (.int .i64 b.hor))
        refine wpAnyH_ready (rs := [3]) (by kernel_rfl) (by simp) ?_
        refine AllReadyH.cons rfl (fun K hK => ?_) AllReadyH.nil
        go_simp
        obtain ⟨wn12, hU⟩ : ∃ U, U = (((((((wn11.setCell ⟨w1.heap.size, 0, none⟩ (.string b.name)).setCell ⟨w1.heap.size, 1, none⟩ (.int .i64 b.valid)).setCell ⟨w1.heap.size, 2, none⟩ (.int .i64 b.next)).setCell ⟨w1.heap.size, 3, none⟩ (.int .i64 b.mod)).setCell ⟨w1.heap.size, 4, none⟩ (.slice al8 (leftM s b.mails).length cl8)).setCell ⟨w1.heap.size, 5, none⟩ (.slice a2 b.tombs.length c2)).setCell ⟨w1.heap.size, 6, none⟩ (.int .i64 b.hor)) := ⟨_, rfl⟩
        have F := unhide F_
        rw [← hU] at F ⊢
        clear hU F_
        clear Rf0 Rf1 Rf2 Rf3 Rf4 Rf5 Rf6 Re0 Re1 Re2 Re3 Re4 Re5 Re6
        have P_ := hide (F.other nePR (unhide P))
        have R_ := hide (F.obj)
        have Q_ := hide (F.other neRQ.symm (unhide Q))
        have N_ := hide (F.other neRN.symm (unhide N))
        have OG_ : Hid (OwnI w6.heap.size wn12 (.slice ag (goneM s b.mails).length cg) (goneM s b.mails)) := F.row (by decide) (unhide OG)
        have OBX_ : Hid (OwnBx w.heap.size wn12 (.slice al8 (leftM s b.mails).length cl8) (.slice a2 b.tombs.length c2) b) := ⟨F.row (by decide) (unhide OBX).1, F.row (by decide) (unhide OBX).2⟩
        have UC_ : Hid (OwnR wn10.drew.heap.size wn12 (.slice auC (uidsV (goneM s b.mails)).length cuC) (uidsV (goneM s b.mails))) := F.row (by decide) (unhide UC)
        have BB_ : Hid (Below w.heap.size w wn12) := F.below loR (unhide BB)
        have sz13 : Hid (wn11.heap.size ≤ wn12.heap.size) := by show _ ≤ _; rw [F.size]; exact Nat.le_refl _
        clear P
        have P := P_
        clear P_
        clear R
        have R := R_
        clear R_
        clear Q
        have Q := Q_
        clear Q_
        clear N
        have N := N_
        clear N_
        clear OG
        have OG := OG_
        clear OG_
        clear OBX
        have OBX := OBX_
        clear OBX_
        clear UC
        have UC := UC_
        clear UC_
        clear BB
        have BB := BB_
        clear BB_
        clear F
        refine hK.out _ _ (⟨(unhide N).cell 0 rfl, (unhide N).cell 1 rfl, (unhide N).cell 2 rfl, (unhide N).cell 3 rfl, (unhide N).cell 4 rfl, (unhide N).cell 5 rfl, (unhide N).cell 6 rfl⟩) (fun hHeld2 => ?_)
        clear hK K hHeld
        have hHeld := hHeld2; clear hHeld2
        try simp only [Act.put, List.setIfInBounds_toArray, List.set_cons_zero, List.set_cons_succ]
        refine takeVal 4 (some 5) ?_ rfl (by kernel_rfl) (by kernel_rfl) (by kernel_rfl) rfl (fun _ _ _ h => h) (by rfl) (by assumption) ?_ ?_
        rotate_left
        · (intro w hSw; (try dsimp only at hSw); go_simp <;> with_reducible rfl)
        simp only [Act.put, List.setIfInBounds_toArray, List.set_cons_zero, List.set_cons_succ]
        refine wpAnyH_done (by kernel_rfl) ?_ _
        have v0 := (unhide R).cell 0 rfl
        have v1 := (unhide R).cell 1 rfl
        have v2 := (unhide R).cell 2 rfl
        have v3 := (unhide R).cell 3 rfl
        have v4 := (unhide R).cell 4 rfl
        have v5 := (unhide R).cell 5 rfl
        have v6 := (unhide R).cell 6 rfl
        go_wp2_with (refine bodyPost_ret (by simp [results, Tryz.results39, go_sem, v0, v1, v2, v3, v4, v5, v6]; try rfl) rfl ?_)
        refine ⟨.slice al8 (leftM s b.mails).length cl8, .slice a2 b.tombs.length c2, .slice auC (uidsV (goneM s b.mails)).length cuC, by rw [unhide V], ?_, ?_, unhide BB⟩
        · rw [unhide V]; exact unhide OBX
        · rw [unhide V]; exact g_based (unhide UC) (by have sz1_ := unhide sz1; have sz2_ := unhide sz2; have sz3_ := unhide sz3; have sz4_ := unhide sz4; have sz5_ := unhide sz5; have sz6_ := unhide sz6; have sz7_ := unhide sz7; have sz8_ := unhide sz8; have sz9_ := unhide sz9; have sz10_ := unhide sz10; have sz11_ := unhide sz11; have sz12_ := unhide sz12; have sz13_ := unhide sz13; omega)
end Go.Proofs.YtmedhmgihfenhabGreat
