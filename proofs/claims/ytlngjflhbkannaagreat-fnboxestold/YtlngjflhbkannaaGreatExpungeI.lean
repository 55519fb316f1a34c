/- Boxes: the program's Expunge. Made by gen_expungei.py. -/
import Derived.Test.YtlngjflhbkannaaGreatTv
import Derived.Test.YtlngjflhbkannaaGreatDeA
import Derived.Test.YtlngjflhbkannaaGreatTakeI
import Derived.Test.YtlngjflhbkannaaGreatUidSetI
import Derived.Test.YtlngjflhbkannaaGreatBoxI
import Derived.Test.YtlngjflhbkannaaGreatIsA
namespace Go.Proofs.YtlngjflhbkannaaGreat
open Go.RowKit
open Plain
set_option linter.unusedVariables false
set_option linter.unusedSimpArgs false

namespace Plain
theorem trimS_len : ∀ (n : Nat) (ts : List Tb) (hor : Int), (trimS n (ts, hor)).1.length ≤ ts.length := by
 intro n
 induction n with
 | zero => intro ts hor; exact Nat.le_refl _
 | succ n ih =>
  intro ts hor
  unfold trimS
  split
  ·exact Nat.le_refl _
  ·cases ts with
   | nil => exact ih _ _
   | cons t r => exact Nat.le_trans (ih _ _) (Nat.le_trans (drop_less t r) (Nat.le_succ _))
theorem exp_fit {b : Bx} {s : List Rg} (h : FitBx b) (hb : boxOk b = true) : FitBx (expBox b s) := by
 have h40 : b.tombs.length ≤ 40 := by
  have := (boxOk_iff.1 hb).1
  unfold headOk at this
  simp only [Bool.and_eq_true, decide_eq_true_eq] at this
  exact this.2.2.2.2.2.1
 refine ⟨h.name, Nat.le_trans (leftM_len s b.mails) h.mails, fun m hm => h.texts m (List.mem_filter.1 hm).1, ?_⟩
 have h1 := trimS_len (b.tombs ++ tombsOf b (goneM s b.mails)).length (b.tombs ++ tombsOf b (goneM s b.mails)) b.hor; have h2 := (goneM_right (s := s) hb).1
 have h3 : (b.tombs ++ tombsOf b (goneM s b.mails)).length = b.tombs.length + (goneM s b.mails).length := by simp [tombsOf]
 exact Nat.le_trans (show (trimmed (b.tombs ++ tombsOf b (goneM s b.mails)) b.hor).1.length ≤ _ from h1) (by omega)
theorem flags_right {b : Bx} (h : boxOk b = true) : ∀ m ∈ b.mails, flOk m.flags = true := by
 intro m hm
 obtain ⟨i, hi, rfl⟩ := List.getElem_of_mem hm
 have h1 := (boxOk_iff.1 h).2.1 i hi
 rw [mailAt_is (List.getElem?_eq_getElem hi)] at h1
 unfold mailRight at h1
 simp only [Bool.and_eq_true] at h1
 exact h1.2.2.1
/-- None of them goes: the box is as it was. -/
theorem left_all8 {s : List Rg} {l : List Ml} (h : goneM s l = []) : leftM s l = l := by
 unfold leftM
 rw [List.filter_eq_self]
 intro m hm
 cases hq : isGone s m with
 | false => rfl
 | true =>
  have : m.uid ∈ goneM s l := List.mem_map.2 ⟨m, List.mem_filter.2 ⟨hm, hq⟩, rfl⟩
  rw [h] at this
  cases this
end Plain
set_option maxHeartbeats 16000000 in
set_option maxRecDepth 100000 in
theorem impl_Expunge_any (b : Bx) (m t : Value) (B0 : Nat) (s : List Rg) (vs : Value) (w : World) (hf : FitBx b) (hsl : s.length ≤ 1048576) (hR : ReadO w vs s) (h : OwnBx B0 w m t b) :
  Calls Tryz.prog 21 #[boxV b m t, vs] w fun e w' => ∃ m' t' vd, e = .returned (.tuple #[boxV (expV b s).1 m' t', vd]) ∧ OwnBx w.heap.size w' m' t' (expV b s).1 ∧ OwnR w.heap.size w' vd (expV b s).2 ∧ Below w.heap.size w w' := by
 have hl2 := hf.tombs
 obtain ⟨am, cm, rfl⟩ := g_shape h.1
 obtain ⟨at1, ct1, rfl⟩ := g_shape h.2
 have HO := hide h; have HF := hide hf; have HR := hide hR
 have V1 := hide (fun hq => expV_no1 (b := b) (s := s) hq)
 have V2 := hide (fun hq => expV_no2 (b := b) (s := s) hq)
 have V3 := hide (fun hq => expV_no3 (b := b) (s := s) hq)
 have V4 := hide (fun h1 h2 h3 => expV_yes (b := b) (s := s) h1 h2 h3)
 clear h hf hR; have BB := hide (Below.refl w.heap.size w)
 obtain ⟨w1, hP⟩ : ∃ X, X = w.alloc (.cells ([.string b.name, .int .i64 b.valid, .int .i64 b.next, .int .i64 b.mod, .slice am b.mails.length cm, .slice at1 b.tombs.length ct1, .int .i64 b.hor] : List Value).toArray 50) := ⟨_, rfl⟩
 have Px : HasObj w1 w.heap.size 50 [.string b.name, .int .i64 b.valid, .int .i64 b.next, .int .i64 b.mod, .slice am b.mails.length cm, .slice at1 b.tombs.length ct1, .int .i64 b.hor] := by rw [hP]; exact HasObj.new _ _ _
 have hbn : Below w.heap.size w w1 := by rw [hP]; exact (Below.refl _ _).alloc (Nat.le_refl _) _
 have loP : w.heap.size ≤ w.heap.size := (uh BB).size
 have EP := hP.symm; clear hP; have sz1 := hide (hbn.size); replace BB := hide (below_y (uh BB) hbn); clear hbn; have P := hide Px; clear Px
 obtain ⟨w2, hR⟩ : ∃ X, X = w1.alloc (.cells ([.string ⟨#[]⟩, .int .i64 0, .int .i64 0, .int .i64 0, .slice none 0 0, .slice none 0 0, .int .i64 0] : List Value).toArray 50) := ⟨_, rfl⟩
 have Rx : HasObj w2 w1.heap.size 50 [.string ⟨#[]⟩, .int .i64 0, .int .i64 0, .int .i64 0, .slice none 0 0, .slice none 0 0, .int .i64 0] := by rw [hR]; exact HasObj.new _ _ _
 have hbn : Below w1.heap.size w1 w2 := by rw [hR]; exact (Below.refl _ _).alloc (Nat.le_refl _) _
 have nePR : w.heap.size ≠ w1.heap.size := Nat.ne_of_lt (uh P).lt
 have loR : w.heap.size ≤ w1.heap.size := (uh BB).size
 have ER := hR.symm; clear hR; replace P := hide ((uh P).ups hbn); have sz2 := hide (hbn.size); replace BB := hide (below_y (uh BB) hbn); clear hbn; have R := hide Rx; clear Rx; have Pc0_1 := (uh P).cell 0 rfl; have Pc1_1 := (uh P).cell 1 rfl; have Pc2_1 := (uh P).cell 2 rfl; have Pc3_1 := (uh P).cell 3 rfl; have Pc4_1 := (uh P).cell 4 rfl; have Pc5_1 := (uh P).cell 5 rfl; have Pc6_1 := (uh P).cell 6 rfl
 go_enter Tryz.func21, Tryz.ntmps21
 go_wp2_with fail; clear Pc0_1 Pc1_1 Pc2_1 Pc3_1 Pc4_1 Pc5_1 Pc6_1 EP ER
 refine (impl_BoxOk_any b _ _ B0 _ (uh HF) ((uh HO).up (uh BB))).mono ?_
 rintro e w3 ⟨rfl, hb⟩
 replace P := hide ((uh P).ups hb); replace R := hide ((uh R).ups hb); have sz3 := hide (hb.size); replace BB := hide (below_y (uh BB) hb); clear hb
 cases hq1 : boxOk b with
 | false =>
  have Pc0_2 := (uh P).cell 0 rfl; have Pc1_2 := (uh P).cell 1 rfl; have Pc2_2 := (uh P).cell 2 rfl; have Pc3_2 := (uh P).cell 3 rfl; have Pc4_2 := (uh P).cell 4 rfl; have Pc5_2 := (uh P).cell 5 rfl; have Pc6_2 := (uh P).cell 6 rfl; go_wp2_with fail; clear Pc0_2 Pc1_2 Pc2_2 Pc3_2 Pc4_2 Pc5_2 Pc6_2
  refine (copiedBox_any b _ _ B0 _ (uh HF) ((uh HO).up (uh BB))).mono ?_
  rintro e wx4 ⟨vm, vt, rfl, ob, hb⟩
  obtain ⟨am7, cm7, rfl⟩ := g_shape ob.1
  obtain ⟨at7, ct7, rfl⟩ := g_shape ob.2
  replace P := hide ((uh P).ups hb); replace R := hide ((uh R).ups hb); have sz4 := hide (hb.size); replace BB := hide (below_y (uh BB) hb); clear hb; have OM7 := hide ob.1; have OT7 := hide ob.2; clear ob
  have V := hide (uh V1 (by rw [hq1]; rfl))
  have Rf0 := (uh R).frozen 0; have Rf1 := (uh R).frozen 1; have Rf2 := (uh R).frozen 2; have Rf3 := (uh R).frozen 3; have Rf4 := (uh R).frozen 4; have Rf5 := (uh R).frozen 5; have Rf6 := (uh R).frozen 6; have Re0 := (uh R).cell 0 rfl; have Re1 := (uh R).cell 1 rfl; have Re2 := (uh R).cell 2 rfl; have Re3 := (uh R).cell 3 rfl; have Re4 := (uh R).cell 4 rfl; have Re5 := (uh R).cell 5 rfl; have Re6 := (uh R).cell 6 rfl; have F := hide (fill7 (uh R) (.string b.name) (.int .i64 b.valid) (.int .i64 b.next) (.int .i64 b.mod) (.slice am7 b.mails.length cm7) (.slice at7 b.tombs.length ct7) (.int .i64 b.hor))
  obtain ⟨U, hU⟩ : ∃ U, U = (((((((wx4.setCell ⟨w1.heap.size, 0, none⟩ (.string b.name)).setCell ⟨w1.heap.size, 1, none⟩ (.int .i64 b.valid)).setCell ⟨w1.heap.size, 2, none⟩ (.int .i64 b.next)).setCell ⟨w1.heap.size, 3, none⟩ (.int .i64 b.mod)).setCell ⟨w1.heap.size, 4, none⟩ (.slice am7 b.mails.length cm7)).setCell ⟨w1.heap.size, 5, none⟩ (.slice at7 b.tombs.length ct7)).setCell ⟨w1.heap.size, 6, none⟩ (.int .i64 b.hor)) := ⟨_, rfl⟩
  have F9 := uh F
  rw [← hU] at F9
  have EU := hU.symm; clear F hU; have v0 := F9.obj.cell 0 rfl; have v1 := F9.obj.cell 1 rfl; have v2 := F9.obj.cell 2 rfl; have v3 := F9.obj.cell 3 rfl; have v4 := F9.obj.cell 4 rfl; have v5 := F9.obj.cell 5 rfl; have v6 := F9.obj.cell 6 rfl; have F := hide F9; clear F9
  go_wp2_with (refine bodyPost_ret (by simp [results, Tryz.results21, go_sem, v0, v1, v2, v3, v4, v5, v6]; try rfl) rfl ?_)
  clear EU; have F := uh F
  refine ⟨_, _, _, by rw [uh V], ?_, by rw [uh V]; exact World.ownsRow_nil _ _ _ _, F.below loR (uh BB)⟩
  rw [uh V]
  exact ⟨g_based (F.row (by decide) (uh OM7)) (by have sz1_ := uh sz1; have sz2_ := uh sz2; have sz3_ := uh sz3; have sz4_ := uh sz4; omega), g_based (F.row (by decide) (uh OT7)) (by have sz1_ := uh sz1; have sz2_ := uh sz2; have sz3_ := uh sz3; have sz4_ := uh sz4; omega)⟩
 | true =>
  go_wp2_with fail
  refine (impl_SetOk_any s vs _ hsl ((uh HR).up (uh BB))).mono ?_
  rintro e w4 ⟨rfl, hb⟩
  replace P := hide ((uh P).ups hb); replace R := hide ((uh R).ups hb); have sz4 := hide (hb.size); replace BB := hide (below_y (uh BB) hb); clear hb
  cases hq2 : okS s with
  | false =>
   have Pc0_2 := (uh P).cell 0 rfl; have Pc1_2 := (uh P).cell 1 rfl; have Pc2_2 := (uh P).cell 2 rfl; have Pc3_2 := (uh P).cell 3 rfl; have Pc4_2 := (uh P).cell 4 rfl; have Pc5_2 := (uh P).cell 5 rfl; have Pc6_2 := (uh P).cell 6 rfl; go_wp2_with fail; clear Pc0_2 Pc1_2 Pc2_2 Pc3_2 Pc4_2 Pc5_2 Pc6_2
   refine (copiedBox_any b _ _ B0 _ (uh HF) ((uh HO).up (uh BB))).mono ?_
   rintro e wy5 ⟨vm, vt, rfl, ob, hb⟩
   obtain ⟨am7, cm7, rfl⟩ := g_shape ob.1
   obtain ⟨at7, ct7, rfl⟩ := g_shape ob.2
   replace P := hide ((uh P).ups hb); replace R := hide ((uh R).ups hb); have sz5 := hide (hb.size); replace BB := hide (below_y (uh BB) hb); clear hb; have OM7 := hide ob.1; have OT7 := hide ob.2; clear ob
   have V := hide (uh V1 (by rw [hq1, hq2]; rfl))
   have Rf0 := (uh R).frozen 0; have Rf1 := (uh R).frozen 1; have Rf2 := (uh R).frozen 2; have Rf3 := (uh R).frozen 3; have Rf4 := (uh R).frozen 4; have Rf5 := (uh R).frozen 5; have Rf6 := (uh R).frozen 6; have Re0 := (uh R).cell 0 rfl; have Re1 := (uh R).cell 1 rfl; have Re2 := (uh R).cell 2 rfl; have Re3 := (uh R).cell 3 rfl; have Re4 := (uh R).cell 4 rfl; have Re5 := (uh R).cell 5 rfl; have Re6 := (uh R).cell 6 rfl; have F := hide (fill7 (uh R) (.string b.name) (.int .i64 b.valid) (.int .i64 b.next) (.int .i64 b.mod) (.slice am7 b.mails.length cm7) (.slice at7 b.tombs.length ct7) (.int .i64 b.hor))
   obtain ⟨U, hU⟩ : ∃ U, U = (((((((wy5.setCell ⟨w1.heap.size, 0, none⟩ (.string b.name)).setCell ⟨w1.heap.size, 1, none⟩ (.int .i64 b.valid)).setCell ⟨w1.heap.size, 2, none⟩ (.int .i64 b.next)).setCell ⟨w1.heap.size, 3, none⟩ (.int .i64 b.mod)).setCell ⟨w1.heap.size, 4, none⟩ (.slice am7 b.mails.length cm7)).setCell ⟨w1.heap.size, 5, none⟩ (.slice at7 b.tombs.length ct7)).setCell ⟨w1.heap.size, 6, none⟩ (.int .i64 b.hor)) := ⟨_, rfl⟩
   have F9 := uh F
   rw [← hU] at F9
   have EU := hU.symm; clear F hU; have v0 := F9.obj.cell 0 rfl; have v1 := F9.obj.cell 1 rfl; have v2 := F9.obj.cell 2 rfl; have v3 := F9.obj.cell 3 rfl; have v4 := F9.obj.cell 4 rfl; have v5 := F9.obj.cell 5 rfl; have v6 := F9.obj.cell 6 rfl; have F := hide F9; clear F9
   go_wp2_with (refine bodyPost_ret (by simp [results, Tryz.results21, go_sem, v0, v1, v2, v3, v4, v5, v6]; try rfl) rfl ?_)
   clear EU; have F := uh F
   refine ⟨_, _, _, by rw [uh V], ?_, by rw [uh V]; exact World.ownsRow_nil _ _ _ _, F.below loR (uh BB)⟩
   rw [uh V]
   exact ⟨g_based (F.row (by decide) (uh OM7)) (by have sz1_ := uh sz1; have sz2_ := uh sz2; have sz3_ := uh sz3; have sz4_ := uh sz4; have sz5_ := uh sz5; omega), g_based (F.row (by decide) (uh OT7)) (by have sz1_ := uh sz1; have sz2_ := uh sz2; have sz3_ := uh sz3; have sz4_ := uh sz4; have sz5_ := uh sz5; omega)⟩
  | true =>
   have OK2 : Hid ((boxOk b && okS s) = true) := by show _ = _; rw [hq1, hq2]; rfl
   have OK1 := hide hq1; have hmod := inI_iff.1 (head_parts (boxOk_iff.1 hq1).1).2.2.2.1; have h30 := (head_parts (boxOk_iff.1 hq1).1).2.2.2.2.1; have h40 := (head_parts (boxOk_iff.1 hq1).1).2.2.2.2.2.1; have GR := hide (goneM_right (s := s) hq1); have FLR := hide (flags_right hq1); have FE := hide (exp_fit (s := s) (uh HF) hq1); have TS := hide (trims_same (goneM s b.mails) hq1); clear hq1 hq2; have Pc0_2 := (uh P).cell 0 rfl; have Pc1_2 := (uh P).cell 1 rfl; have Pc2_2 := (uh P).cell 2 rfl; have Pc3_2 := (uh P).cell 3 rfl; have Pc4_2 := (uh P).cell 4 rfl; have Pc5_2 := (uh P).cell 5 rfl; have Pc6_2 := (uh P).cell 6 rfl; go_wp2_with fail; clear Pc0_2 Pc1_2 Pc2_2 Pc3_2 Pc4_2 Pc5_2 Pc6_2
   refine (opened_any b _ _ B0 _ (uh HF) ((uh HO).up (uh BB))).mono ?_
   rintro e w5 ⟨vl, vt, rfl, ol, ot, hb⟩
   obtain ⟨al, cl, rfl⟩ := g_shape ol
   obtain ⟨a2, c2, rfl⟩ := g_shape ot
   replace P := hide ((uh P).ups hb); replace R := hide ((uh R).ups hb); have sz5 := hide (hb.size); replace BB := hide (below_y (uh BB) hb); clear hb
   have OL : Hid (OwnMl w4.heap.size w5 (.slice al b.mails.length cl) (b.mails)) := ol
   have OT : Hid (OwnTb w4.heap.size w5 (.slice a2 b.tombs.length c2) (b.tombs)) := ot
   clear ol ot
   obtain ⟨w6, hQ⟩ : ∃ X, X = w5.alloc (.cells ([.slice al b.mails.length cl, .string b.name, .int .i64 b.valid, .int .i64 b.next, .int .i64 b.mod, .slice none 0 0, .slice a2 b.tombs.length c2, .int .i64 b.hor] : List Value).toArray 97) := ⟨_, rfl⟩
   have Qx : HasObj w6 w5.heap.size 97 [.slice al b.mails.length cl, .string b.name, .int .i64 b.valid, .int .i64 b.next, .int .i64 b.mod, .slice none 0 0, .slice a2 b.tombs.length c2, .int .i64 b.hor] := by rw [hQ]; exact HasObj.new _ _ _
   have hbn : Below w5.heap.size w5 w6 := by rw [hQ]; exact (Below.refl _ _).alloc (Nat.le_refl _) _
   have nePQ : w.heap.size ≠ w5.heap.size := Nat.ne_of_lt (uh P).lt
   have neRQ : w1.heap.size ≠ w5.heap.size := Nat.ne_of_lt (uh R).lt
   have loQ : w.heap.size ≤ w5.heap.size := (uh BB).size
   have EQ := hQ.symm; clear hQ; replace P := hide ((uh P).ups hbn); replace R := hide ((uh R).ups hbn); replace OL := hide ((uh OL).up hbn); replace OT := hide ((uh OT).up hbn); have sz6 := hide (hbn.size); replace BB := hide (below_y (uh BB) hbn); clear hbn; have Q := hide Qx; clear Qx; go_wp2_with fail; clear EQ
   refine (takeDeleted_any b s vs _ _ _ _ _ _ _ _ (w5.heap.size) _ _ h30 hsl (uh FLR) ((uh HR).up (uh BB)) (uh Q) (uh OL)).mono ?_
   rintro e w7 ⟨gv, lv, rfl, hQ, hG, hL, gb⟩
   obtain ⟨ag, cg, rfl⟩ := g_shape hG
   obtain ⟨al8, cl8, rfl⟩ := g_shape hL
   have P_ := hide (gb.obj (uh P) (fun hx => nePQ hx))
   have R_ := hide (gb.obj (uh R) (fun hx => neRQ hx))
   have OT_ : Hid (OwnTb w4.heap.size w7 (.slice a2 b.tombs.length c2) (b.tombs)) := gb.row (uh OT) (fun x hx hx2 => by rw [hx2] at hx; exact (uh Q).not_row (by decide) (uh OT) hx)
   have BB_ : Hid (Below w.heap.size w w7) := (uh BB).trans (gb.toBelow (uh BB).size (fun k hx => by rw [hx]; exact loQ))
   have sz7 := hide gb.size; replace P := P_; clear P_; replace R := R_; clear R_; replace OT := OT_; clear OT_; replace BB := BB_; clear BB_; clear Q OL; have Q := hide hQ; have OL := hide hL; have OG := hide hG; clear hQ hL hG gb
   by_cases hn : 0 < (goneM s b.mails).length
   ·have dn : (0 : Int) < ((goneM s b.mails).length : Int) := by omega
    have NE : Hid (goneM s b.mails ≠ []) := fun e => by rw [e] at hn; simp at hn
    clear hn; go_wp2_with fail; clear dn
    have nOT := fun k (hk : Value.ownBlock (.slice a2 b.tombs.length c2) = some k) => World.ownsRow.lt (uh OT) k hk
    refine (bury_any (w5.heap.size) _ _ _ _ _ _ _ _ _ b.mod b.hor b.tombs (goneM s b.mails) _ (by omega) (by omega) (by omega) (by have := (uh GR).1; omega) (by have sz1_ := uh sz1; have sz2_ := uh sz2; have sz3_ := uh sz3; have sz4_ := uh sz4; have sz5_ := uh sz5; have sz6_ := uh sz6; have sz7_ := uh sz7; omega) (uh Q) (uh OT) (uh OG)).mono ?_
    rintro e wp8 ⟨rfl, tv, hQ, hT, htv, gb⟩
    rw [uh TS] at hQ hT
    obtain ⟨at8, ct8, rfl⟩ := g_shape hT
    have P_ := hide (gb.obj (uh P) (fun hx => by rcases hx with hx | hx; exact nePQ hx; exact (uh P).not_row (by decide) (uh OT) hx))
    have R_ := hide (gb.obj (uh R) (fun hx => by rcases hx with hx | hx; exact neRQ hx; exact (uh R).not_row (by decide) (uh OT) hx))
    have OL_ : Hid (OwnMl w6.heap.size wp8 (.slice al8 (leftM s b.mails).length cl8) (leftM s b.mails)) := gb.row (uh OL) (fun x hx hx2 => by rcases hx2 with hx2 | hx2; (rw [hx2] at hx; exact (uh Q).not_row (by decide) (uh OL) hx); exact rows_apart (uh OL) (uh OT) (by decide) x hx hx2)
    have OG_ : Hid (OwnI w6.heap.size wp8 (.slice ag (goneM s b.mails).length cg) (goneM s b.mails)) := gb.row (uh OG) (fun x hx hx2 => by rcases hx2 with hx2 | hx2; (rw [hx2] at hx; exact (uh Q).not_row (by decide) (uh OG) hx); exact rows_apart (uh OG) (uh OT) (by decide) x hx hx2)
    have BB_ : Hid (Below w.heap.size w wp8) := (uh BB).trans (gb.toBelow (uh BB).size (fun k hx => by rcases hx with hx | hx; (rw [hx]; exact loQ); (have q8_ := (nOT k hx).1; have sz1_ := uh sz1; have sz2_ := uh sz2; have sz3_ := uh sz3; have sz4_ := uh sz4; have sz5_ := uh sz5; have sz6_ := uh sz6; have sz7_ := uh sz7; omega)))
    have sz8 := hide gb.size; replace P := P_; clear P_; replace R := R_; clear R_; replace OL := OL_; clear OL_; replace OG := OG_; clear OG_; replace BB := BB_; clear BB_; clear Q OT nOT
    obtain ⟨tz, htz⟩ : ∃ x, x = Plain.trimmed (b.tombs ++ tombsOf b (goneM s b.mails)) b.hor := ⟨_, rfl⟩
    rw [← htz] at hQ hT
    have ETZ : Hid (expBox b s = { b with mails := leftM s b.mails, mod := b.mod + 1, tombs := tz.1, hor := tz.2 }) := by show _ = _; unfold expBox; rw [htz]
    clear htz; have Q := hide hQ; have OT := hide hT; clear hQ hT htv gb; have Qc0_3 := (uh Q).cell 0 rfl; have Qc1_3 := (uh Q).cell 1 rfl; have Qc2_3 := (uh Q).cell 2 rfl; have Qc3_3 := (uh Q).cell 3 rfl; have Qc4_3 := (uh Q).cell 4 rfl; have Qc5_3 := (uh Q).cell 5 rfl; have Qc6_3 := (uh Q).cell 6 rfl; have Qc7_3 := (uh Q).cell 7 rfl; go_wp2_with fail; clear Qc0_3 Qc1_3 Qc2_3 Qc3_3 Qc4_3 Qc5_3 Qc6_3 Qc7_3
    refine (box_any { b with mod := b.mod + 1, mails := [], hor := tz.2 } _ _ _ _ _ _ _ _ _ _).mono ?_
    rintro e wp9 ⟨rfl, hb⟩
    replace P := hide ((uh P).ups hb); replace R := hide ((uh R).ups hb); replace Q := hide ((uh Q).ups hb); replace OT := hide ((uh OT).up hb); replace OL := hide ((uh OL).up hb); replace OG := hide ((uh OG).up hb); have sz9 := hide (hb.size); replace BB := hide (below_y (uh BB) hb); clear hb
    obtain ⟨wp10, hN⟩ : ∃ X, X = wp9.alloc (.cells ([.string b.name, .int .i64 b.valid, .int .i64 b.next, .int .i64 (b.mod + 1), .slice al8 (leftM s b.mails).length cl8, .slice at8 tz.1.length ct8, .int .i64 tz.2] : List Value).toArray 50) := ⟨_, rfl⟩
    have Nx : HasObj wp10 wp9.heap.size 50 [.string b.name, .int .i64 b.valid, .int .i64 b.next, .int .i64 (b.mod + 1), .slice al8 (leftM s b.mails).length cl8, .slice at8 tz.1.length ct8, .int .i64 tz.2] := by rw [hN]; exact HasObj.new _ _ _
    have hbn : Below wp9.heap.size wp9 wp10 := by rw [hN]; exact (Below.refl _ _).alloc (Nat.le_refl _) _
    have nePN : w.heap.size ≠ wp9.heap.size := Nat.ne_of_lt (uh P).lt
    have neRN : w1.heap.size ≠ wp9.heap.size := Nat.ne_of_lt (uh R).lt
    have neQN : w5.heap.size ≠ wp9.heap.size := Nat.ne_of_lt (uh Q).lt
    have loN : w.heap.size ≤ wp9.heap.size := (uh BB).size
    have EN := hN.symm; clear hN; replace P := hide ((uh P).ups hbn); replace R := hide ((uh R).ups hbn); replace Q := hide ((uh Q).ups hbn); replace OT := hide ((uh OT).up hbn); replace OL := hide ((uh OL).up hbn); replace OG := hide ((uh OG).up hbn); have sz10 := hide (hbn.size); replace BB := hide (below_y (uh BB) hbn); clear hbn; have N := hide Nx; clear Nx; have Nc0_4 := (uh N).cell 0 rfl; have Nc1_4 := (uh N).cell 1 rfl; have Nc2_4 := (uh N).cell 2 rfl; have Nc3_4 := (uh N).cell 3 rfl; have Nc4_4 := (uh N).cell 4 rfl; have Nc5_4 := (uh N).cell 5 rfl; have Nc6_4 := (uh N).cell 6 rfl
    have OBX : Hid (OwnBx w.heap.size wp10 (.slice al8 (leftM s b.mails).length cl8) (.slice at8 tz.1.length ct8) { b with mails := leftM s b.mails, mod := b.mod + 1, tombs := tz.1, hor := tz.2 }) := ⟨g_based (uh OL) (by have sz1_ := uh sz1; have sz2_ := uh sz2; have sz3_ := uh sz3; have sz4_ := uh sz4; have sz5_ := uh sz5; have sz6_ := uh sz6; have sz7_ := uh sz7; have sz8_ := uh sz8; have sz9_ := uh sz9; have sz10_ := uh sz10; omega), g_based (uh OT) (by have sz1_ := uh sz1; have sz2_ := uh sz2; have sz3_ := uh sz3; have sz4_ := uh sz4; have sz5_ := uh sz5; have sz6_ := uh sz6; have sz7_ := uh sz7; have sz8_ := uh sz8; have sz9_ := uh sz9; have sz10_ := uh sz10; omega)⟩
    have FBX : Hid (FitBx { b with mails := leftM s b.mails, mod := b.mod + 1, tombs := tz.1, hor := tz.2 }) := by show FitBx _; rw [← uh ETZ]; exact uh FE
    clear OL OT; go_wp2_with fail; clear Nc0_4 Nc1_4 Nc2_4 Nc3_4 Nc4_4 Nc5_4 Nc6_4 EN
    refine (impl_BoxOk_any { b with mails := leftM s b.mails, mod := b.mod + 1, tombs := tz.1, hor := tz.2 } _ _ _ _ (uh FBX) (uh OBX)).mono ?_
    rintro e wp11 ⟨rfl, hb⟩
    replace P := hide ((uh P).ups hb); replace R := hide ((uh R).ups hb); replace Q := hide ((uh Q).ups hb); replace N := hide ((uh N).ups hb); replace OG := hide ((uh OG).up hb); replace OBX := hide ((uh OBX).up hb); have sz11 := hide (hb.size); replace BB := hide (below_y (uh BB) hb); clear hb
    cases hq5 : boxOk { b with mails := leftM s b.mails, mod := b.mod + 1, tombs := tz.1, hor := tz.2 } with
    | false =>
     clear OBX OG; have Pc0_5 := (uh P).cell 0 rfl; have Pc1_5 := (uh P).cell 1 rfl; have Pc2_5 := (uh P).cell 2 rfl; have Pc3_5 := (uh P).cell 3 rfl; have Pc4_5 := (uh P).cell 4 rfl; have Pc5_5 := (uh P).cell 5 rfl; have Pc6_5 := (uh P).cell 6 rfl; go_wp2_with fail; clear Pc0_5 Pc1_5 Pc2_5 Pc3_5 Pc4_5 Pc5_5 Pc6_5
     refine (copiedBox_any b _ _ B0 _ (uh HF) ((uh HO).up (uh BB))).mono ?_
     rintro e wpf12 ⟨vm, vt, rfl, ob, hb⟩
     obtain ⟨am7, cm7, rfl⟩ := g_shape ob.1
     obtain ⟨at7, ct7, rfl⟩ := g_shape ob.2
     replace P := hide ((uh P).ups hb); replace R := hide ((uh R).ups hb); replace Q := hide ((uh Q).ups hb); replace N := hide ((uh N).ups hb); have sz12 := hide (hb.size); replace BB := hide (below_y (uh BB) hb); clear hb; have OM7 := hide ob.1; have OT7 := hide ob.2; clear ob
     have V := hide (uh V3 (by rw [uh ETZ]; exact hq5))
     have Rf0 := (uh R).frozen 0; have Rf1 := (uh R).frozen 1; have Rf2 := (uh R).frozen 2; have Rf3 := (uh R).frozen 3; have Rf4 := (uh R).frozen 4; have Rf5 := (uh R).frozen 5; have Rf6 := (uh R).frozen 6; have Re0 := (uh R).cell 0 rfl; have Re1 := (uh R).cell 1 rfl; have Re2 := (uh R).cell 2 rfl; have Re3 := (uh R).cell 3 rfl; have Re4 := (uh R).cell 4 rfl; have Re5 := (uh R).cell 5 rfl; have Re6 := (uh R).cell 6 rfl; have F := hide (fill7 (uh R) (.string b.name) (.int .i64 b.valid) (.int .i64 b.next) (.int .i64 b.mod) (.slice am7 b.mails.length cm7) (.slice at7 b.tombs.length ct7) (.int .i64 b.hor))
     obtain ⟨U, hU⟩ : ∃ U, U = (((((((wpf12.setCell ⟨w1.heap.size, 0, none⟩ (.string b.name)).setCell ⟨w1.heap.size, 1, none⟩ (.int .i64 b.valid)).setCell ⟨w1.heap.size, 2, none⟩ (.int .i64 b.next)).setCell ⟨w1.heap.size, 3, none⟩ (.int .i64 b.mod)).setCell ⟨w1.heap.size, 4, none⟩ (.slice am7 b.mails.length cm7)).setCell ⟨w1.heap.size, 5, none⟩ (.slice at7 b.tombs.length ct7)).setCell ⟨w1.heap.size, 6, none⟩ (.int .i64 b.hor)) := ⟨_, rfl⟩
     have F9 := uh F
     rw [← hU] at F9
     have EU := hU.symm; clear F hU; have v0 := F9.obj.cell 0 rfl; have v1 := F9.obj.cell 1 rfl; have v2 := F9.obj.cell 2 rfl; have v3 := F9.obj.cell 3 rfl; have v4 := F9.obj.cell 4 rfl; have v5 := F9.obj.cell 5 rfl; have v6 := F9.obj.cell 6 rfl; have F := hide F9; clear F9
     go_wp2_with (refine bodyPost_ret (by simp [results, Tryz.results21, go_sem, v0, v1, v2, v3, v4, v5, v6]; try rfl) rfl ?_)
     clear EU; have F := uh F
     refine ⟨_, _, _, by rw [uh V], ?_, by rw [uh V]; exact World.ownsRow_nil _ _ _ _, F.below loR (uh BB)⟩
     rw [uh V]
     exact ⟨g_based (F.row (by decide) (uh OM7)) (by have sz1_ := uh sz1; have sz2_ := uh sz2; have sz3_ := uh sz3; have sz4_ := uh sz4; have sz5_ := uh sz5; have sz6_ := uh sz6; have sz7_ := uh sz7; have sz8_ := uh sz8; have sz9_ := uh sz9; have sz10_ := uh sz10; have sz11_ := uh sz11; have sz12_ := uh sz12; omega), g_based (F.row (by decide) (uh OT7)) (by have sz1_ := uh sz1; have sz2_ := uh sz2; have sz3_ := uh sz3; have sz4_ := uh sz4; have sz5_ := uh sz5; have sz6_ := uh sz6; have sz7_ := uh sz7; have sz8_ := uh sz8; have sz9_ := uh sz9; have sz10_ := uh sz10; have sz11_ := uh sz11; have sz12_ := uh sz12; omega)⟩
    | true =>
     have V : Hid (expV b s = ({ b with mails := leftM s b.mails, mod := b.mod + 1, tombs := tz.1, hor := tz.2 }, uidsV (goneM s b.mails))) := by show _ = _; rw [uh V4 (uh OK2) (uh NE) (by rw [uh ETZ]; exact hq5), uh ETZ]
     clear hq5; have Nc0_5 := (uh N).cell 0 rfl; have Nc1_5 := (uh N).cell 1 rfl; have Nc2_5 := (uh N).cell 2 rfl; have Nc3_5 := (uh N).cell 3 rfl; have Nc4_5 := (uh N).cell 4 rfl; have Nc5_5 := (uh N).cell 5 rfl; have Nc6_5 := (uh N).cell 6 rfl
     go_wp2
     refine wp_region_held_drew (S := fun w' => w'.cell? ⟨wp9.heap.size, 0, none⟩ = some (.string b.name) ∧ w'.cell? ⟨wp9.heap.size, 1, none⟩ = some (.int .i64 b.valid) ∧ w'.cell? ⟨wp9.heap.size, 2, none⟩ = some (.int .i64 b.next) ∧ w'.cell? ⟨wp9.heap.size, 3, none⟩ = some (.int .i64 (b.mod + 1)) ∧ w'.cell? ⟨wp9.heap.size, 4, none⟩ = some (.slice al8 (leftM s b.mails).length cl8) ∧ w'.cell? ⟨wp9.heap.size, 5, none⟩ = some (.slice at8 tz.1.length ct8) ∧ w'.cell? ⟨wp9.heap.size, 6, none⟩ = some (.int .i64 tz.2)) (by kernel_rfl) (⟨(uh N).cell 0 rfl, (uh N).cell 1 rfl, (uh N).cell 2 rfl, (uh N).cell 3 rfl, (uh N).cell 4 rfl, (uh N).cell 5 rfl, (uh N).cell 6 rfl⟩) (fun hHeld => ?_)
     clear Nc0_5 Nc1_5 Nc2_5 Nc3_5 Nc4_5 Nc5_5 Nc6_5; replace P := hide ((uh P).drew); replace R := hide ((uh R).drew); replace Q := hide ((uh Q).drew); replace N := hide ((uh N).drew); replace OG := hide ((uh OG).drew); replace OBX := hide ((uh OBX).drew); replace BB := hide ((uh BB).drew)
     have sz12 : Hid (wp11.heap.size ≤ wp11.drew.heap.size) := Nat.le_refl _
     refine tv 0 36 ?_; refine tv 1 37 ?_
     refine wpAnyH_ready (rs := [2]) (by kernel_rfl) (by simp) ?_
     refine AllReadyH.cons rfl (fun K hK => ?_) AllReadyH.nil
     go_simp
     refine (uidSet_any (goneM s b.mails) _ _ _ (Nat.le_trans (uh GR).1 (by decide)) (uh GR).2 (uh OG)).mono ?_
     rintro e wp12 ⟨uC, rfl, oC, hb⟩
     obtain ⟨auC, cuC, rfl⟩ := g_shape oC
     replace P := hide ((uh P).ups hb); replace R := hide ((uh R).ups hb); replace Q := hide ((uh Q).ups hb); replace N := hide ((uh N).ups hb); replace OG := hide ((uh OG).up hb); replace OBX := hide ((uh OBX).up hb); have sz13 := hide (hb.size); replace BB := hide (below_y (uh BB) hb); clear hb; have UC := hide oC; clear oC; go_wp2_with fail
     refine hK.out _ _ (⟨(uh N).cell 0 rfl, (uh N).cell 1 rfl, (uh N).cell 2 rfl, (uh N).cell 3 rfl, (uh N).cell 4 rfl, (uh N).cell 5 rfl, (uh N).cell 6 rfl⟩) (fun hHeld2 => ?_)
     clear hK K hHeld; have hHeld := hHeld2; clear hHeld2
     try simp only [Act.put, p1, p2, p3]
     have Rf0 := (uh R).frozen 0; have Rf1 := (uh R).frozen 1; have Rf2 := (uh R).frozen 2; have Rf3 := (uh R).frozen 3; have Rf4 := (uh R).frozen 4; have Rf5 := (uh R).frozen 5; have Rf6 := (uh R).frozen 6; have Re0 := (uh R).cell 0 rfl; have Re1 := (uh R).cell 1 rfl; have Re2 := (uh R).cell 2 rfl; have Re3 := (uh R).cell 3 rfl; have Re4 := (uh R).cell 4 rfl; have Re5 := (uh R).cell 5 rfl; have Re6 := (uh R).cell 6 rfl; have F_ := hide (fill7 (uh R) (.string b.name) (.int .i64 b.valid) (.int .i64 b.next) (.int .i64 (b.mod + 1)) (.slice al8 (leftM s b.mails).length cl8) (.slice at8 tz.1.length ct8) (.int .i64 tz.2))
     refine wpAnyH_ready (rs := [3]) (by kernel_rfl) (by simp) ?_
     refine AllReadyH.cons rfl (fun K hK => ?_) AllReadyH.nil
     go_simp
     obtain ⟨wp13, hU⟩ : ∃ U, U = (((((((wp12.setCell ⟨w1.heap.size, 0, none⟩ (.string b.name)).setCell ⟨w1.heap.size, 1, none⟩ (.int .i64 b.valid)).setCell ⟨w1.heap.size, 2, none⟩ (.int .i64 b.next)).setCell ⟨w1.heap.size, 3, none⟩ (.int .i64 (b.mod + 1))).setCell ⟨w1.heap.size, 4, none⟩ (.slice al8 (leftM s b.mails).length cl8)).setCell ⟨w1.heap.size, 5, none⟩ (.slice at8 tz.1.length ct8)).setCell ⟨w1.heap.size, 6, none⟩ (.int .i64 tz.2)) := ⟨_, rfl⟩
     have F := uh F_
     rw [← hU] at F ⊢
     clear hU F_; clear Rf0 Rf1 Rf2 Rf3 Rf4 Rf5 Rf6 Re0 Re1 Re2 Re3 Re4 Re5 Re6; have P_ := hide (F.other nePR (uh P)); have R_ := hide (F.obj); have Q_ := hide (F.other neRQ.symm (uh Q)); have N_ := hide (F.other neRN.symm (uh N))
     have OG_ : Hid (OwnI w6.heap.size wp13 (.slice ag (goneM s b.mails).length cg) (goneM s b.mails)) := F.row (by decide) (uh OG)
     have OBX_ : Hid (OwnBx w.heap.size wp13 (.slice al8 (leftM s b.mails).length cl8) (.slice at8 tz.1.length ct8) { b with mails := leftM s b.mails, mod := b.mod + 1, tombs := tz.1, hor := tz.2 }) := ⟨F.row (by decide) (uh OBX).1, F.row (by decide) (uh OBX).2⟩
     have UC_ : Hid (OwnR wp11.drew.heap.size wp13 (.slice auC (uidsV (goneM s b.mails)).length cuC) (uidsV (goneM s b.mails))) := F.row (by decide) (uh UC)
     have BB_ : Hid (Below w.heap.size w wp13) := F.below loR (uh BB)
     have sz14 : Hid (wp12.heap.size ≤ wp13.heap.size) := by show _ ≤ _; rw [F.size]; exact Nat.le_refl _
     replace P := P_; clear P_; replace R := R_; clear R_; replace Q := Q_; clear Q_; replace N := N_; clear N_; replace OG := OG_; clear OG_; replace OBX := OBX_; clear OBX_; replace UC := UC_; clear UC_; replace BB := BB_; clear BB_; clear F
     refine hK.out _ _ (⟨(uh N).cell 0 rfl, (uh N).cell 1 rfl, (uh N).cell 2 rfl, (uh N).cell 3 rfl, (uh N).cell 4 rfl, (uh N).cell 5 rfl, (uh N).cell 6 rfl⟩) (fun hHeld2 => ?_)
     clear hK K hHeld; have hHeld := hHeld2; clear hHeld2
     try simp only [Act.put, p1, p2, p3]
     refine tv 4 5 ?_
     refine wpAnyH_done (by kernel_rfl) ?_ _
     have v0 := (uh R).cell 0 rfl; have v1 := (uh R).cell 1 rfl; have v2 := (uh R).cell 2 rfl; have v3 := (uh R).cell 3 rfl; have v4 := (uh R).cell 4 rfl; have v5 := (uh R).cell 5 rfl; have v6 := (uh R).cell 6 rfl
     go_wp2_with (refine bodyPost_ret (by simp [results, Tryz.results21, go_sem, v0, v1, v2, v3, v4, v5, v6]; try rfl) rfl ?_)
     refine ⟨.slice al8 (leftM s b.mails).length cl8, .slice at8 tz.1.length ct8, .slice auC (uidsV (goneM s b.mails)).length cuC, by rw [uh V], ?_, ?_, uh BB⟩
     ·rw [uh V]; exact uh OBX
     ·rw [uh V]; exact g_based (uh UC) (by have sz1_ := uh sz1; have sz2_ := uh sz2; have sz3_ := uh sz3; have sz4_ := uh sz4; have sz5_ := uh sz5; have sz6_ := uh sz6; have sz7_ := uh sz7; have sz8_ := uh sz8; have sz9_ := uh sz9; have sz10_ := uh sz10; have sz11_ := uh sz11; have sz12_ := uh sz12; have sz13_ := uh sz13; have sz14_ := uh sz14; omega)
   ·have NE : goneM s b.mails = [] := List.length_eq_zero_iff.1 (by omega)
    have dn : ¬ (0 : Int) < ((goneM s b.mails).length : Int) := by omega
    have EL : Hid (leftM s b.mails = b.mails) := left_all8 NE
    have V : Hid (expV b s = (b, uidsV (goneM s b.mails))) := by show _ = _; rw [uh V2 NE, NE]; rfl
    clear hn NE; have Qc0_3 := (uh Q).cell 0 rfl; have Qc1_3 := (uh Q).cell 1 rfl; have Qc2_3 := (uh Q).cell 2 rfl; have Qc3_3 := (uh Q).cell 3 rfl; have Qc4_3 := (uh Q).cell 4 rfl; have Qc5_3 := (uh Q).cell 5 rfl; have Qc6_3 := (uh Q).cell 6 rfl; have Qc7_3 := (uh Q).cell 7 rfl; go_wp2_with fail; clear dn Qc0_3 Qc1_3 Qc2_3 Qc3_3 Qc4_3 Qc5_3 Qc6_3 Qc7_3
    refine (box_any { b with mails := [] } _ _ _ _ _ _ _ _ _ _).mono ?_
    rintro e wn8 ⟨rfl, hb⟩
    replace P := hide ((uh P).ups hb); replace R := hide ((uh R).ups hb); replace Q := hide ((uh Q).ups hb); replace OT := hide ((uh OT).up hb); replace OL := hide ((uh OL).up hb); replace OG := hide ((uh OG).up hb); have sz8 := hide (hb.size); replace BB := hide (below_y (uh BB) hb); clear hb
    obtain ⟨wn9, hN⟩ : ∃ X, X = wn8.alloc (.cells ([.string b.name, .int .i64 b.valid, .int .i64 b.next, .int .i64 b.mod, .slice al8 (leftM s b.mails).length cl8, .slice a2 b.tombs.length c2, .int .i64 b.hor] : List Value).toArray 50) := ⟨_, rfl⟩
    have Nx : HasObj wn9 wn8.heap.size 50 [.string b.name, .int .i64 b.valid, .int .i64 b.next, .int .i64 b.mod, .slice al8 (leftM s b.mails).length cl8, .slice a2 b.tombs.length c2, .int .i64 b.hor] := by rw [hN]; exact HasObj.new _ _ _
    have hbn : Below wn8.heap.size wn8 wn9 := by rw [hN]; exact (Below.refl _ _).alloc (Nat.le_refl _) _
    have nePN : w.heap.size ≠ wn8.heap.size := Nat.ne_of_lt (uh P).lt
    have neRN : w1.heap.size ≠ wn8.heap.size := Nat.ne_of_lt (uh R).lt
    have neQN : w5.heap.size ≠ wn8.heap.size := Nat.ne_of_lt (uh Q).lt
    have loN : w.heap.size ≤ wn8.heap.size := (uh BB).size
    have EN := hN.symm; clear hN; replace P := hide ((uh P).ups hbn); replace R := hide ((uh R).ups hbn); replace Q := hide ((uh Q).ups hbn); replace OT := hide ((uh OT).up hbn); replace OL := hide ((uh OL).up hbn); replace OG := hide ((uh OG).up hbn); have sz9 := hide (hbn.size); replace BB := hide (below_y (uh BB) hbn); clear hbn; have N := hide Nx; clear Nx; have Nc0_4 := (uh N).cell 0 rfl; have Nc1_4 := (uh N).cell 1 rfl; have Nc2_4 := (uh N).cell 2 rfl; have Nc3_4 := (uh N).cell 3 rfl; have Nc4_4 := (uh N).cell 4 rfl; have Nc5_4 := (uh N).cell 5 rfl; have Nc6_4 := (uh N).cell 6 rfl
    have OBX : Hid (OwnBx w.heap.size wn9 (.slice al8 (leftM s b.mails).length cl8) (.slice a2 b.tombs.length c2) b) := ⟨by have h9 := g_based (B' := w.heap.size) (uh OL) (by have sz1_ := uh sz1; have sz2_ := uh sz2; have sz3_ := uh sz3; have sz4_ := uh sz4; have sz5_ := uh sz5; have sz6_ := uh sz6; have sz7_ := uh sz7; have sz8_ := uh sz8; have sz9_ := uh sz9; omega); show OwnMl _ _ _ _; rw [uh EL] at h9 ⊢; exact h9, g_based (uh OT) (by have sz1_ := uh sz1; have sz2_ := uh sz2; have sz3_ := uh sz3; have sz4_ := uh sz4; have sz5_ := uh sz5; have sz6_ := uh sz6; have sz7_ := uh sz7; have sz8_ := uh sz8; have sz9_ := uh sz9; omega)⟩
    clear OL OT; have QB := hide (impl_BoxOk_any b _ _ _ _ (uh HF) (uh OBX))
    rw [uh OK1] at QB
    go_wp2_with fail; clear Nc0_4 Nc1_4 Nc2_4 Nc3_4 Nc4_4 Nc5_4 Nc6_4 EN
    refine (uh QB).mono ?_
    rintro e wn10 ⟨rfl, hb⟩
    replace P := hide ((uh P).ups hb); replace R := hide ((uh R).ups hb); replace Q := hide ((uh Q).ups hb); replace N := hide ((uh N).ups hb); replace OG := hide ((uh OG).up hb); replace OBX := hide ((uh OBX).up hb); have sz10 := hide (hb.size); replace BB := hide (below_y (uh BB) hb); clear hb; clear QB; have Nc0_5 := (uh N).cell 0 rfl; have Nc1_5 := (uh N).cell 1 rfl; have Nc2_5 := (uh N).cell 2 rfl; have Nc3_5 := (uh N).cell 3 rfl; have Nc4_5 := (uh N).cell 4 rfl; have Nc5_5 := (uh N).cell 5 rfl; have Nc6_5 := (uh N).cell 6 rfl
    go_wp2
    refine wp_region_held_drew (S := fun w' => w'.cell? ⟨wn8.heap.size, 0, none⟩ = some (.string b.name) ∧ w'.cell? ⟨wn8.heap.size, 1, none⟩ = some (.int .i64 b.valid) ∧ w'.cell? ⟨wn8.heap.size, 2, none⟩ = some (.int .i64 b.next) ∧ w'.cell? ⟨wn8.heap.size, 3, none⟩ = some (.int .i64 b.mod) ∧ w'.cell? ⟨wn8.heap.size, 4, none⟩ = some (.slice al8 (leftM s b.mails).length cl8) ∧ w'.cell? ⟨wn8.heap.size, 5, none⟩ = some (.slice a2 b.tombs.length c2) ∧ w'.cell? ⟨wn8.heap.size, 6, none⟩ = some (.int .i64 b.hor)) (by kernel_rfl) (⟨(uh N).cell 0 rfl, (uh N).cell 1 rfl, (uh N).cell 2 rfl, (uh N).cell 3 rfl, (uh N).cell 4 rfl, (uh N).cell 5 rfl, (uh N).cell 6 rfl⟩) (fun hHeld => ?_)
    clear Nc0_5 Nc1_5 Nc2_5 Nc3_5 Nc4_5 Nc5_5 Nc6_5; replace P := hide ((uh P).drew); replace R := hide ((uh R).drew); replace Q := hide ((uh Q).drew); replace N := hide ((uh N).drew); replace OG := hide ((uh OG).drew); replace OBX := hide ((uh OBX).drew); replace BB := hide ((uh BB).drew)
    have sz11 : Hid (wn10.heap.size ≤ wn10.drew.heap.size) := Nat.le_refl _
    refine tv 0 36 ?_; refine tv 1 37 ?_
    refine wpAnyH_ready (rs := [2]) (by kernel_rfl) (by simp) ?_
    refine AllReadyH.cons rfl (fun K hK => ?_) AllReadyH.nil
    go_simp
    refine (uidSet_any (goneM s b.mails) _ _ _ (Nat.le_trans (uh GR).1 (by decide)) (uh GR).2 (uh OG)).mono ?_
    rintro e wn11 ⟨uC, rfl, oC, hb⟩
    obtain ⟨auC, cuC, rfl⟩ := g_shape oC
    replace P := hide ((uh P).ups hb); replace R := hide ((uh R).ups hb); replace Q := hide ((uh Q).ups hb); replace N := hide ((uh N).ups hb); replace OG := hide ((uh OG).up hb); replace OBX := hide ((uh OBX).up hb); have sz12 := hide (hb.size); replace BB := hide (below_y (uh BB) hb); clear hb; have UC := hide oC; clear oC; go_wp2_with fail
    refine hK.out _ _ (⟨(uh N).cell 0 rfl, (uh N).cell 1 rfl, (uh N).cell 2 rfl, (uh N).cell 3 rfl, (uh N).cell 4 rfl, (uh N).cell 5 rfl, (uh N).cell 6 rfl⟩) (fun hHeld2 => ?_)
    clear hK K hHeld; have hHeld := hHeld2; clear hHeld2
    try simp only [Act.put, p1, p2, p3]
    have Rf0 := (uh R).frozen 0; have Rf1 := (uh R).frozen 1; have Rf2 := (uh R).frozen 2; have Rf3 := (uh R).frozen 3; have Rf4 := (uh R).frozen 4; have Rf5 := (uh R).frozen 5; have Rf6 := (uh R).frozen 6; have Re0 := (uh R).cell 0 rfl; have Re1 := (uh R).cell 1 rfl; have Re2 := (uh R).cell 2 rfl; have Re3 := (uh R).cell 3 rfl; have Re4 := (uh R).cell 4 rfl; have Re5 := (uh R).cell 5 rfl; have Re6 := (uh R).cell 6 rfl; have F_ := hide (fill7 (uh R) (.string b.name) (.int .i64 b.valid) (.int .i64 b.next) (.int .i64 b.mod) (.slice al8 (leftM s b.mails).length cl8) (.slice a2 b.tombs.length c2) (.int .i64 b.hor))
    refine wpAnyH_ready (rs := [3]) (by kernel_rfl) (by simp) ?_
    refine AllReadyH.cons rfl (fun K hK => ?_) AllReadyH.nil
    go_simp
    obtain ⟨wn12, hU⟩ : ∃ U, U = (((((((wn11.setCell ⟨w1.heap.size, 0, none⟩ (.string b.name)).setCell ⟨w1.heap.size, 1, none⟩ (.int .i64 b.valid)).setCell ⟨w1.heap.size, 2, none⟩ (.int .i64 b.next)).setCell ⟨w1.heap.size, 3, none⟩ (.int .i64 b.mod)).setCell ⟨w1.heap.size, 4, none⟩ (.slice al8 (leftM s b.mails).length cl8)).setCell ⟨w1.heap.size, 5, none⟩ (.slice a2 b.tombs.length c2)).setCell ⟨w1.heap.size, 6, none⟩ (.int .i64 b.hor)) := ⟨_, rfl⟩
    have F := uh F_
    rw [← hU] at F ⊢
    clear hU F_; clear Rf0 Rf1 Rf2 Rf3 Rf4 Rf5 Rf6 Re0 Re1 Re2 Re3 Re4 Re5 Re6; have P_ := hide (F.other nePR (uh P)); have R_ := hide (F.obj); have Q_ := hide (F.other neRQ.symm (uh Q)); have N_ := hide (F.other neRN.symm (uh N))
    have OG_ : Hid (OwnI w6.heap.size wn12 (.slice ag (goneM s b.mails).length cg) (goneM s b.mails)) := F.row (by decide) (uh OG)
    have OBX_ : Hid (OwnBx w.heap.size wn12 (.slice al8 (leftM s b.mails).length cl8) (.slice a2 b.tombs.length c2) b) := ⟨F.row (by decide) (uh OBX).1, F.row (by decide) (uh OBX).2⟩
    have UC_ : Hid (OwnR wn10.drew.heap.size wn12 (.slice auC (uidsV (goneM s b.mails)).length cuC) (uidsV (goneM s b.mails))) := F.row (by decide) (uh UC)
    have BB_ : Hid (Below w.heap.size w wn12) := F.below loR (uh BB)
    have sz13 : Hid (wn11.heap.size ≤ wn12.heap.size) := by show _ ≤ _; rw [F.size]; exact Nat.le_refl _
    replace P := P_; clear P_; replace R := R_; clear R_; replace Q := Q_; clear Q_; replace N := N_; clear N_; replace OG := OG_; clear OG_; replace OBX := OBX_; clear OBX_; replace UC := UC_; clear UC_; replace BB := BB_; clear BB_; clear F
    refine hK.out _ _ (⟨(uh N).cell 0 rfl, (uh N).cell 1 rfl, (uh N).cell 2 rfl, (uh N).cell 3 rfl, (uh N).cell 4 rfl, (uh N).cell 5 rfl, (uh N).cell 6 rfl⟩) (fun hHeld2 => ?_)
    clear hK K hHeld; have hHeld := hHeld2; clear hHeld2
    try simp only [Act.put, p1, p2, p3]
    refine tv 4 5 ?_
    refine wpAnyH_done (by kernel_rfl) ?_ _
    have v0 := (uh R).cell 0 rfl; have v1 := (uh R).cell 1 rfl; have v2 := (uh R).cell 2 rfl; have v3 := (uh R).cell 3 rfl; have v4 := (uh R).cell 4 rfl; have v5 := (uh R).cell 5 rfl; have v6 := (uh R).cell 6 rfl
    go_wp2_with (refine bodyPost_ret (by simp [results, Tryz.results21, go_sem, v0, v1, v2, v3, v4, v5, v6]; try rfl) rfl ?_)
    refine ⟨.slice al8 (leftM s b.mails).length cl8, .slice a2 b.tombs.length c2, .slice auC (uidsV (goneM s b.mails)).length cuC, by rw [uh V], ?_, ?_, uh BB⟩
    ·rw [uh V]; exact uh OBX
    ·rw [uh V]; exact g_based (uh UC) (by have sz1_ := uh sz1; have sz2_ := uh sz2; have sz3_ := uh sz3; have sz4_ := uh sz4; have sz5_ := uh sz5; have sz6_ := uh sz6; have sz7_ := uh sz7; have sz8_ := uh sz8; have sz9_ := uh sz9; have sz10_ := uh sz10; have sz11_ := uh sz11; have sz12_ := uh sz12; have sz13_ := uh sz13; omega)
end Go.Proofs.YtlngjflhbkannaaGreat
