/- A box that is drawn, right or not. Made by gen_boxestold.py. -/
import Derived.Test.YtlngjflhbkannaaGreatTv
import Derived.Test.YtlngjflhbkannaaGreatDrawBox
import Derived.Test.YtlngjflhbkannaaGreatBoxCopyS
import Derived.Test.YtlngjflhbkannaaGreatBoxNameS
import Derived.Test.YtlngjflhbkannaaGreatDwB
namespace Go.Proofs.YtlngjflhbkannaaGreat
open Go.RowKit
open Plain
set_option linter.unusedVariables false
set_option linter.unusedSimpArgs false

namespace Plain
/-- A box that was drawn, right or not. -/
structure AnyBx (b : Bx) : Prop where
 fit : FitBx b
 mails : b.mails.length ≤ 30
 tombs : b.tombs.length ≤ 41
theorem AnyBx.of {b : Bx} (h : boxOk b = true) : AnyBx b := ⟨fit_ok h, (head_parts (boxOk_iff.1 h).1).2.2.2.2.1, Nat.le_trans (head_parts (boxOk_iff.1 h).1).2.2.2.2.2.1 (by decide)⟩
theorem AnyBx.name {b : Bx} (h : AnyBx b) (n : ByteArray) (hn : n.size ≤ 1048576) : AnyBx ⟨n, b.valid, b.next, b.mod, b.mails, b.tombs, b.hor⟩ := ⟨⟨hn, h.fit.mails, h.fit.texts, h.fit.tombs⟩, h.mails, h.tombs⟩
theorem AnyBx.nums {b : Bx} (h : AnyBx b) (v x m z : Int) : AnyBx ⟨b.name, v, x, m, b.mails, b.tombs, z⟩ := ⟨⟨h.fit.name, h.fit.mails, h.fit.texts, h.fit.tombs⟩, h.mails, h.tombs⟩
theorem AnyBx.uid {b : Bx} (h : AnyBx b) {k : Nat} {x : Ml} (hx : b.mails[k]? = some x) (u : Int) : AnyBx ⟨b.name, b.valid, b.next, b.mod, b.mails.set k ⟨u, x.flags, x.mod, x.text⟩, b.tombs, b.hor⟩ := by
 refine ⟨⟨h.fit.name, ?_, fun m hm => ?_, h.fit.tombs⟩, ?_, h.tombs⟩
 ·show (b.mails.set _ _).length ≤ _; rw [List.length_set]; exact h.fit.mails
 ·rcases List.mem_or_eq_of_mem_set hm with h1 | h1
  ·exact h.fit.texts m h1
  ·subst h1; exact h.fit.texts x (List.mem_of_getElem? hx)
 ·show (b.mails.set _ _).length ≤ _; rw [List.length_set]; exact h.mails
theorem AnyBx.tomb {b : Bx} (h : boxOk b = true) (x : Tb) : AnyBx ⟨b.name, b.valid, b.next, b.mod, b.mails, b.tombs ++ [x], b.hor⟩ := by
 have h40 := (head_parts (boxOk_iff.1 h).1).2.2.2.2.2.1; have h0 := AnyBx.of h
 refine ⟨⟨h0.fit.name, h0.fit.mails, h0.fit.texts, ?_⟩, h0.mails, ?_⟩
 ·show (b.tombs ++ [x]).length ≤ _; rw [List.length_append]; show b.tombs.length + 1 ≤ _; omega
 ·show (b.tombs ++ [x]).length ≤ _; rw [List.length_append]; show b.tombs.length + 1 ≤ _; omega
end Plain
theorem row_putUid {w : World} {B g n cap k : Nat} {l : List Ml} {x : Ml} (h : w.ownsRow B 100 4 (.slice (some ⟨g, 0, none⟩) n cap) n (rowC mlC l)) (hx : l[k]? = some x) (u : Int) :
  (w.setCell ⟨g, k * 4, none⟩ (.int .i64 u)).ownsRow B 100 4 (.slice (some ⟨g, 0, none⟩) n cap) n (rowC mlC (l.set k ⟨u, x.flags, x.mod, x.text⟩)) := by
 have st0 := h.stored (k * 4) (.int .i64 u)
 rw [show k * 4 = k * 4 + 0 from rfl, rowC_set mlC_len hx (j := 0) (by decide) ⟨u, x.flags, x.mod, x.text⟩ (.int .i64 u) rfl] at st0
 exact st0.1
set_option maxHeartbeats 16000000 in
set_option maxRecDepth 100000 in
theorem l08Any_any (B c : Nat) (w : World) (hc : Cur B w c) :
  Calls Tryz.prog 63 #[.pointer (some ⟨c, 0, none⟩)] w fun e w' => ∃ b m t, e = .returned (boxV b m t) ∧ AnyBx b ∧ OwnBx w.heap.size w' m t b ∧ Cur B w' c ∧ w.grownBy w' (some c) := by
 obtain ⟨iT, hT, hT0, hT1, hT2⟩ := info_parts Tryz.infoTomb
 have hcl := hc.lt.2; have CU := hide hc; have BB := hide (g_self w (some c)); clear hc
 obtain ⟨w1, hR⟩ : ∃ X, X = w.alloc (.cells ([.string ⟨#[]⟩, .int .i64 0, .int .i64 0, .int .i64 0, .slice none 0 0, .slice none 0 0, .int .i64 0] : List Value).toArray 50) := ⟨_, rfl⟩
 have Rx : HasObj w1 w.heap.size 50 [.string ⟨#[]⟩, .int .i64 0, .int .i64 0, .int .i64 0, .slice none 0 0, .slice none 0 0, .int .i64 0] := by rw [hR]; exact HasObj.new _ _ _
 have hbn : Below w.heap.size w w1 := by rw [hR]; exact (Below.refl _ _).alloc (Nat.le_refl _) _
 have loR : w.heap.size ≤ w.heap.size := (uh BB).size
 have ER := hR.symm; clear hR
 replace CU := hide ((uh CU).kept (below_g0 hbn) (fun k hk => by cases hk))
 have sz1 := hide (hbn.size); replace BB := hide (g_then (uh BB) hbn); clear hbn; have R := hide Rx; clear Rx
 go_enter Tryz.func63, Tryz.ntmps63
 go_wp2_with fail; clear ER
 refine (belowS_lit B c 16 16 rfl _ (uh CU) (by decide) (by decide)).mono ?_
 rintro e w2 ⟨k, hk, rfl, hc, hg⟩
 replace R := hide ((uh R).kept hg (fun e => by have q1_ := Option.some.inj e; omega))
 have sz2 := hide (hg.size); replace BB := hide (g_join (uh BB) hg); clear CU; have CU := hide hc; clear hg hc; go_wp2_with fail
 refine (belowS_lit B c 60 60 rfl _ (uh CU) (by decide) (by decide)).mono ?_
 rintro e w3 ⟨x, hx, rfl, hc, hg⟩
 replace R := hide ((uh R).kept hg (fun e => by have q1_ := Option.some.inj e; omega))
 have sz3 := hide (hg.size); replace BB := hide (g_join (uh BB) hg); clear CU; have CU := hide hc; clear hg hc; go_wp2_with fail
 refine (l08Box_any B c _ (uh CU)).mono ?_
 rintro e w4 ⟨b, mB, tB, rfl, ⟨hok, _⟩, oB, hc, hg⟩
 have OK := hide hok; have h30 := (head_parts (boxOk_iff.1 hok).1).2.2.2.2.1; have h40 := (head_parts (boxOk_iff.1 hok).1).2.2.2.2.2.1; have OB_ := hide oB; clear oB hok
 replace R := hide ((uh R).kept hg (fun e => by have q1_ := Option.some.inj e; omega))
 have sz4 := hide (hg.size); replace BB := hide (g_join (uh BB) hg); clear CU; have CU := hide hc; clear hg hc; have OB := OB_; clear OB_; go_wp2_with fail
 refine (l08Copy_any b _ _ _ _ (by omega) (by omega) (uh OB)).mono ?_
 rintro e w5 ⟨mC, tC, rfl, oC, hb⟩
 obtain ⟨amC, cmC, rfl⟩ := g_shape oC.1
 obtain ⟨atC, ctC, rfl⟩ := g_shape oC.2
 have NC := hide (OwnBx.base oC)
 replace CU := hide ((uh CU).kept (below_g0 hb) (fun k hk => by cases hk))
 replace R := hide ((uh R).ups hb); replace OB := hide ((uh OB).up hb); have sz5 := hide (hb.size); replace BB := hide (g_then (uh BB) hb); clear hb; have OC := hide oC; clear oC; clear OB NC
 have OM : Hid (OwnMl w.heap.size w5 (.slice amC b.mails.length cmC) b.mails) := g_based (uh OC).1 (by have q1_ := (uh BB).size; have sz1_ := uh sz1; have sz2_ := uh sz2; have sz3_ := uh sz3; have sz4_ := uh sz4; have sz5_ := uh sz5; omega)
 have OT : Hid (OwnTb w.heap.size w5 (.slice atC b.tombs.length ctC) b.tombs) := g_based (uh OC).2 (by have q1_ := (uh BB).size; have sz1_ := uh sz1; have sz2_ := uh sz2; have sz3_ := uh sz3; have sz4_ := uh sz4; have sz5_ := uh sz5; omega)
 clear OC
 have LBOM : Hid (w.heap.size ≤ w.heap.size) := Nat.le_refl _
 have LBOT := LBOM
 obtain ⟨w6, hQ⟩ : ∃ X, X = w5.alloc (.cells ([.string b.name, .int .i64 b.valid, .int .i64 b.next, .int .i64 b.mod, .slice amC b.mails.length cmC, .slice atC b.tombs.length ctC, .int .i64 b.hor] : List Value).toArray 50) := ⟨_, rfl⟩
 have Qx : HasObj w6 w5.heap.size 50 [.string b.name, .int .i64 b.valid, .int .i64 b.next, .int .i64 b.mod, .slice amC b.mails.length cmC, .slice atC b.tombs.length ctC, .int .i64 b.hor] := by rw [hQ]; exact HasObj.new _ _ _
 have hbn : Below w5.heap.size w5 w6 := by rw [hQ]; exact (Below.refl _ _).alloc (Nat.le_refl _) _
 have neRQ : w.heap.size ≠ w5.heap.size := Nat.ne_of_lt (uh R).lt
 have loQ : w.heap.size ≤ w5.heap.size := (uh BB).size
 have EQ := hQ.symm; clear hQ
 replace CU := hide ((uh CU).kept (below_g0 hbn) (fun k hk => by cases hk))
 replace R := hide ((uh R).ups hbn); replace OM := hide ((uh OM).up hbn); replace OT := hide ((uh OT).up hbn); have sz6 := hide (hbn.size); replace BB := hide (g_then (uh BB) hbn); clear hbn; have Q := hide Qx; clear Qx; have AN := hide (AnyBx.of (uh OK))
 have hk8 : k = 0 ∨ k = 1 ∨ k = 2 ∨ k = 3 ∨ k = 4 ∨ k = 5 ∨ k = 6 ∨ 7 ≤ k := by omega
 rcases hk8 with rfl | rfl | rfl | rfl | rfl | rfl | rfl | hk7
 ·simp only [show ((0 : Nat) : Int) = 0 from rfl]
  obtain ⟨z, hz, lz⟩ : ∃ z : Nat, (x : Int).tmod 3 = (z : Int) ∧ z < 3 := ⟨x % 3, by rw [Int.tmod_eq_emod_of_nonneg (by omega)]; omega, by omega⟩
  have Qc0_1 := (uh Q).cell 0 rfl; have Qc1_1 := (uh Q).cell 1 rfl; have Qc2_1 := (uh Q).cell 2 rfl; have Qc3_1 := (uh Q).cell 3 rfl; have Qc4_1 := (uh Q).cell 4 rfl; have Qc5_1 := (uh Q).cell 5 rfl; have Qc6_1 := (uh Q).cell 6 rfl
  obtain ⟨wy07, hM⟩ : ∃ X, X = w6.alloc (.cells ([.string ⟨#[]⟩, .string ⟨#[65]⟩, .string ⟨#[116, 111, 111, 108, 111, 110, 103, 110, 97, 109, 101]⟩] : List Value).toArray 9) := ⟨_, rfl⟩
  have Mx : HasObj wy07 w6.heap.size 9 [.string ⟨#[]⟩, .string ⟨#[65]⟩, .string ⟨#[116, 111, 111, 108, 111, 110, 103, 110, 97, 109, 101]⟩] := by rw [hM]; exact HasObj.new _ _ _
  have hbn : Below w6.heap.size w6 wy07 := by rw [hM]; exact (Below.refl _ _).alloc (Nat.le_refl _) _
  have EM := hM.symm; clear hM; have Mc0 := Mx.cell 0 rfl; have Mc1 := Mx.cell 1 rfl; have Mc2 := Mx.cell 2 rfl; clear Mx
  replace CU := hide ((uh CU).kept (below_g0 hbn) (fun k hk => by cases hk))
  replace R := hide ((uh R).ups hbn); replace Q := hide ((uh Q).ups hbn); replace OM := hide ((uh OM).up hbn); replace OT := hide ((uh OT).up hbn); have sz7 := hide (hbn.size); replace BB := hide (g_then (uh BB) hbn); clear hbn
  have z3 : z = 0 ∨ z = 1 ∨ z = 2 := by omega
  rcases z3 with rfl | rfl | rfl
  ·simp only [show ((0 : Nat) : Int) = 0 from rfl] at hz
   have CUs := hide ((uh CU).kept (g_store (j := 0) (g_self wy07 (some (w5.heap.size))) (.string ⟨#[]⟩)) (fun k hk => by have q1_ := Option.some.inj hk; omega))
   have Qfz0_2 := (uh Q).frozen 0; have Qcz0_2 := (uh Q).cell 0 rfl
   obtain ⟨wy008, hst⟩ : ∃ X, X = wy07.setCell ⟨w5.heap.size, 0, none⟩ (.string ⟨#[]⟩) := ⟨_, rfl⟩
   have OM_ : Hid (OwnMl w.heap.size wy008 (.slice amC b.mails.length cmC) (b.mails)) := by show OwnMl _ _ _ _; rw [hst]; exact (uh Q).row (j := 0) (by decide) (uh OM) _
   have OT_ : Hid (OwnTb w.heap.size wy008 (.slice atC b.tombs.length ctC) (b.tombs)) := by show OwnTb _ _ _ _; rw [hst]; exact (uh Q).row (j := 0) (by decide) (uh OT) _
   have R_ := hide ((uh R).other (j := 0) neRQ (.string ⟨#[]⟩))
   rw [← hst] at R_
   have Q_ := hide ((uh Q).set 0 (.string ⟨#[]⟩))
   rw [← hst] at Q_
   have BB_ := hide (g_setnew (j := 0) (uh BB) loQ (.string ⟨#[]⟩))
   rw [← hst] at BB_
   have sz8 : Hid (wy07.heap.size ≤ wy008.heap.size) := by show _ ≤ _; rw [hst]; simp
   replace OM := OM_; clear OM_; replace OT := OT_; clear OT_; replace R := R_; clear R_; replace Q := Q_; clear Q_; replace BB := BB_; clear BB_; have Est8 := hst.symm; clear hst
   rw [Est8] at CUs
   clear CU; have CU := CUs; clear CUs; have Qc0_3 := (uh Q).cell 0 rfl; have Qc1_3 := (uh Q).cell 1 rfl; have Qc2_3 := (uh Q).cell 2 rfl; have Qc3_3 := (uh Q).cell 3 rfl; have Qc4_3 := (uh Q).cell 4 rfl; have Qc5_3 := (uh Q).cell 5 rfl; have Qc6_3 := (uh Q).cell 6 rfl; have Rf0 := (uh R).frozen 0; have Rf1 := (uh R).frozen 1; have Rf2 := (uh R).frozen 2; have Rf3 := (uh R).frozen 3; have Rf4 := (uh R).frozen 4; have Rf5 := (uh R).frozen 5; have Rf6 := (uh R).frozen 6; have Re0 := (uh R).cell 0 rfl; have Re1 := (uh R).cell 1 rfl; have Re2 := (uh R).cell 2 rfl; have Re3 := (uh R).cell 3 rfl; have Re4 := (uh R).cell 4 rfl; have Re5 := (uh R).cell 5 rfl; have Re6 := (uh R).cell 6 rfl
   have F := hide (fill7 (uh R) (.string ⟨#[]⟩) (.int .i64 b.valid) (.int .i64 b.next) (.int .i64 b.mod) (.slice amC b.mails.length cmC) (.slice atC b.tombs.length ctC) (.int .i64 b.hor))
   obtain ⟨U, hU⟩ : ∃ U, U = (((((((wy008.setCell ⟨w.heap.size, 0, none⟩ (.string ⟨#[]⟩)).setCell ⟨w.heap.size, 1, none⟩ (.int .i64 b.valid)).setCell ⟨w.heap.size, 2, none⟩ (.int .i64 b.next)).setCell ⟨w.heap.size, 3, none⟩ (.int .i64 b.mod)).setCell ⟨w.heap.size, 4, none⟩ (.slice amC b.mails.length cmC)).setCell ⟨w.heap.size, 5, none⟩ (.slice atC b.tombs.length ctC)).setCell ⟨w.heap.size, 6, none⟩ (.int .i64 b.hor)) := ⟨_, rfl⟩
   have F9 := uh F
   rw [← hU] at F9
   have GU : wy008.grownBy U (some (w.heap.size)) := by rw [hU]; exact g_store (g_store (g_store (g_store (g_store (g_store (g_store (g_self _ _) _) _) _) _) _) _) _
   have GU := hide GU; have EU := hU.symm; clear F hU; have v0 := F9.obj.cell 0 rfl; have v1 := F9.obj.cell 1 rfl; have v2 := F9.obj.cell 2 rfl; have v3 := F9.obj.cell 3 rfl; have v4 := F9.obj.cell 4 rfl; have v5 := F9.obj.cell 5 rfl; have v6 := F9.obj.cell 6 rfl; have F := hide F9; clear F9
   go_wp2_with (refine bodyPost_ret (by simp [results, Tryz.results63, go_sem, v0, v1, v2, v3, v4, v5, v6]; try rfl) rfl ?_)
   clear EU; have F := uh F
   exact ⟨⟨⟨#[]⟩, b.valid, b.next, b.mod, b.mails, b.tombs, b.hor⟩, _, _, rfl, (uh AN).name _ (by decide), ⟨F.row (by decide) (uh OM), F.row (by decide) (uh OT)⟩, (uh CU).kept (uh GU) (fun k hk => by have q1_ := Option.some.inj hk; omega), g_new (uh BB) (uh GU) (fun k hk => by have q1_ := Option.some.inj hk; omega)⟩
  ·simp only [show ((1 : Nat) : Int) = 1 from rfl] at hz
   have CUs := hide ((uh CU).kept (g_store (j := 0) (g_self wy07 (some (w5.heap.size))) (.string ⟨#[65]⟩)) (fun k hk => by have q1_ := Option.some.inj hk; omega))
   have Qfz0_2 := (uh Q).frozen 0; have Qcz0_2 := (uh Q).cell 0 rfl
   obtain ⟨wy018, hst⟩ : ∃ X, X = wy07.setCell ⟨w5.heap.size, 0, none⟩ (.string ⟨#[65]⟩) := ⟨_, rfl⟩
   have OM_ : Hid (OwnMl w.heap.size wy018 (.slice amC b.mails.length cmC) (b.mails)) := by show OwnMl _ _ _ _; rw [hst]; exact (uh Q).row (j := 0) (by decide) (uh OM) _
   have OT_ : Hid (OwnTb w.heap.size wy018 (.slice atC b.tombs.length ctC) (b.tombs)) := by show OwnTb _ _ _ _; rw [hst]; exact (uh Q).row (j := 0) (by decide) (uh OT) _
   have R_ := hide ((uh R).other (j := 0) neRQ (.string ⟨#[65]⟩))
   rw [← hst] at R_
   have Q_ := hide ((uh Q).set 0 (.string ⟨#[65]⟩))
   rw [← hst] at Q_
   have BB_ := hide (g_setnew (j := 0) (uh BB) loQ (.string ⟨#[65]⟩))
   rw [← hst] at BB_
   have sz8 : Hid (wy07.heap.size ≤ wy018.heap.size) := by show _ ≤ _; rw [hst]; simp
   replace OM := OM_; clear OM_; replace OT := OT_; clear OT_; replace R := R_; clear R_; replace Q := Q_; clear Q_; replace BB := BB_; clear BB_; have Est8 := hst.symm; clear hst
   rw [Est8] at CUs
   clear CU; have CU := CUs; clear CUs; have Qc0_3 := (uh Q).cell 0 rfl; have Qc1_3 := (uh Q).cell 1 rfl; have Qc2_3 := (uh Q).cell 2 rfl; have Qc3_3 := (uh Q).cell 3 rfl; have Qc4_3 := (uh Q).cell 4 rfl; have Qc5_3 := (uh Q).cell 5 rfl; have Qc6_3 := (uh Q).cell 6 rfl; have Rf0 := (uh R).frozen 0; have Rf1 := (uh R).frozen 1; have Rf2 := (uh R).frozen 2; have Rf3 := (uh R).frozen 3; have Rf4 := (uh R).frozen 4; have Rf5 := (uh R).frozen 5; have Rf6 := (uh R).frozen 6; have Re0 := (uh R).cell 0 rfl; have Re1 := (uh R).cell 1 rfl; have Re2 := (uh R).cell 2 rfl; have Re3 := (uh R).cell 3 rfl; have Re4 := (uh R).cell 4 rfl; have Re5 := (uh R).cell 5 rfl; have Re6 := (uh R).cell 6 rfl
   have F := hide (fill7 (uh R) (.string ⟨#[65]⟩) (.int .i64 b.valid) (.int .i64 b.next) (.int .i64 b.mod) (.slice amC b.mails.length cmC) (.slice atC b.tombs.length ctC) (.int .i64 b.hor))
   obtain ⟨U, hU⟩ : ∃ U, U = (((((((wy018.setCell ⟨w.heap.size, 0, none⟩ (.string ⟨#[65]⟩)).setCell ⟨w.heap.size, 1, none⟩ (.int .i64 b.valid)).setCell ⟨w.heap.size, 2, none⟩ (.int .i64 b.next)).setCell ⟨w.heap.size, 3, none⟩ (.int .i64 b.mod)).setCell ⟨w.heap.size, 4, none⟩ (.slice amC b.mails.length cmC)).setCell ⟨w.heap.size, 5, none⟩ (.slice atC b.tombs.length ctC)).setCell ⟨w.heap.size, 6, none⟩ (.int .i64 b.hor)) := ⟨_, rfl⟩
   have F9 := uh F
   rw [← hU] at F9
   have GU : wy018.grownBy U (some (w.heap.size)) := by rw [hU]; exact g_store (g_store (g_store (g_store (g_store (g_store (g_store (g_self _ _) _) _) _) _) _) _) _
   have GU := hide GU; have EU := hU.symm; clear F hU; have v0 := F9.obj.cell 0 rfl; have v1 := F9.obj.cell 1 rfl; have v2 := F9.obj.cell 2 rfl; have v3 := F9.obj.cell 3 rfl; have v4 := F9.obj.cell 4 rfl; have v5 := F9.obj.cell 5 rfl; have v6 := F9.obj.cell 6 rfl; have F := hide F9; clear F9
   go_wp2_with (refine bodyPost_ret (by simp [results, Tryz.results63, go_sem, v0, v1, v2, v3, v4, v5, v6]; try rfl) rfl ?_)
   clear EU; have F := uh F
   exact ⟨⟨⟨#[65]⟩, b.valid, b.next, b.mod, b.mails, b.tombs, b.hor⟩, _, _, rfl, (uh AN).name _ (by decide), ⟨F.row (by decide) (uh OM), F.row (by decide) (uh OT)⟩, (uh CU).kept (uh GU) (fun k hk => by have q1_ := Option.some.inj hk; omega), g_new (uh BB) (uh GU) (fun k hk => by have q1_ := Option.some.inj hk; omega)⟩
  ·simp only [show ((2 : Nat) : Int) = 2 from rfl] at hz
   have CUs := hide ((uh CU).kept (g_store (j := 0) (g_self wy07 (some (w5.heap.size))) (.string ⟨#[116, 111, 111, 108, 111, 110, 103, 110, 97, 109, 101]⟩)) (fun k hk => by have q1_ := Option.some.inj hk; omega))
   have Qfz0_2 := (uh Q).frozen 0; have Qcz0_2 := (uh Q).cell 0 rfl
   obtain ⟨wy028, hst⟩ : ∃ X, X = wy07.setCell ⟨w5.heap.size, 0, none⟩ (.string ⟨#[116, 111, 111, 108, 111, 110, 103, 110, 97, 109, 101]⟩) := ⟨_, rfl⟩
   have OM_ : Hid (OwnMl w.heap.size wy028 (.slice amC b.mails.length cmC) (b.mails)) := by show OwnMl _ _ _ _; rw [hst]; exact (uh Q).row (j := 0) (by decide) (uh OM) _
   have OT_ : Hid (OwnTb w.heap.size wy028 (.slice atC b.tombs.length ctC) (b.tombs)) := by show OwnTb _ _ _ _; rw [hst]; exact (uh Q).row (j := 0) (by decide) (uh OT) _
   have R_ := hide ((uh R).other (j := 0) neRQ (.string ⟨#[116, 111, 111, 108, 111, 110, 103, 110, 97, 109, 101]⟩))
   rw [← hst] at R_
   have Q_ := hide ((uh Q).set 0 (.string ⟨#[116, 111, 111, 108, 111, 110, 103, 110, 97, 109, 101]⟩))
   rw [← hst] at Q_
   have BB_ := hide (g_setnew (j := 0) (uh BB) loQ (.string ⟨#[116, 111, 111, 108, 111, 110, 103, 110, 97, 109, 101]⟩))
   rw [← hst] at BB_
   have sz8 : Hid (wy07.heap.size ≤ wy028.heap.size) := by show _ ≤ _; rw [hst]; simp
   replace OM := OM_; clear OM_; replace OT := OT_; clear OT_; replace R := R_; clear R_; replace Q := Q_; clear Q_; replace BB := BB_; clear BB_; have Est8 := hst.symm; clear hst
   rw [Est8] at CUs
   clear CU; have CU := CUs; clear CUs; have Qc0_3 := (uh Q).cell 0 rfl; have Qc1_3 := (uh Q).cell 1 rfl; have Qc2_3 := (uh Q).cell 2 rfl; have Qc3_3 := (uh Q).cell 3 rfl; have Qc4_3 := (uh Q).cell 4 rfl; have Qc5_3 := (uh Q).cell 5 rfl; have Qc6_3 := (uh Q).cell 6 rfl; have Rf0 := (uh R).frozen 0; have Rf1 := (uh R).frozen 1; have Rf2 := (uh R).frozen 2; have Rf3 := (uh R).frozen 3; have Rf4 := (uh R).frozen 4; have Rf5 := (uh R).frozen 5; have Rf6 := (uh R).frozen 6; have Re0 := (uh R).cell 0 rfl; have Re1 := (uh R).cell 1 rfl; have Re2 := (uh R).cell 2 rfl; have Re3 := (uh R).cell 3 rfl; have Re4 := (uh R).cell 4 rfl; have Re5 := (uh R).cell 5 rfl; have Re6 := (uh R).cell 6 rfl
   have F := hide (fill7 (uh R) (.string ⟨#[116, 111, 111, 108, 111, 110, 103, 110, 97, 109, 101]⟩) (.int .i64 b.valid) (.int .i64 b.next) (.int .i64 b.mod) (.slice amC b.mails.length cmC) (.slice atC b.tombs.length ctC) (.int .i64 b.hor))
   obtain ⟨U, hU⟩ : ∃ U, U = (((((((wy028.setCell ⟨w.heap.size, 0, none⟩ (.string ⟨#[116, 111, 111, 108, 111, 110, 103, 110, 97, 109, 101]⟩)).setCell ⟨w.heap.size, 1, none⟩ (.int .i64 b.valid)).setCell ⟨w.heap.size, 2, none⟩ (.int .i64 b.next)).setCell ⟨w.heap.size, 3, none⟩ (.int .i64 b.mod)).setCell ⟨w.heap.size, 4, none⟩ (.slice amC b.mails.length cmC)).setCell ⟨w.heap.size, 5, none⟩ (.slice atC b.tombs.length ctC)).setCell ⟨w.heap.size, 6, none⟩ (.int .i64 b.hor)) := ⟨_, rfl⟩
   have F9 := uh F
   rw [← hU] at F9
   have GU : wy028.grownBy U (some (w.heap.size)) := by rw [hU]; exact g_store (g_store (g_store (g_store (g_store (g_store (g_store (g_self _ _) _) _) _) _) _) _) _
   have GU := hide GU; have EU := hU.symm; clear F hU; have v0 := F9.obj.cell 0 rfl; have v1 := F9.obj.cell 1 rfl; have v2 := F9.obj.cell 2 rfl; have v3 := F9.obj.cell 3 rfl; have v4 := F9.obj.cell 4 rfl; have v5 := F9.obj.cell 5 rfl; have v6 := F9.obj.cell 6 rfl; have F := hide F9; clear F9
   go_wp2_with (refine bodyPost_ret (by simp [results, Tryz.results63, go_sem, v0, v1, v2, v3, v4, v5, v6]; try rfl) rfl ?_)
   clear EU; have F := uh F
   exact ⟨⟨⟨#[116, 111, 111, 108, 111, 110, 103, 110, 97, 109, 101]⟩, b.valid, b.next, b.mod, b.mails, b.tombs, b.hor⟩, _, _, rfl, (uh AN).name _ (by decide), ⟨F.row (by decide) (uh OM), F.row (by decide) (uh OT)⟩, (uh CU).kept (uh GU) (fun k hk => by have q1_ := Option.some.inj hk; omega), g_new (uh BB) (uh GU) (fun k hk => by have q1_ := Option.some.inj hk; omega)⟩
 ·simp only [show ((1 : Nat) : Int) = 1 from rfl]
  obtain ⟨z, hz, lz⟩ : ∃ z : Nat, (x : Int).tmod 9 = (z : Int) ∧ z < 9 := ⟨x % 9, by rw [Int.tmod_eq_emod_of_nonneg (by omega)]; omega, by omega⟩
  have Qc0_1 := (uh Q).cell 0 rfl; have Qc1_1 := (uh Q).cell 1 rfl; have Qc2_1 := (uh Q).cell 2 rfl; have Qc3_1 := (uh Q).cell 3 rfl; have Qc4_1 := (uh Q).cell 4 rfl; have Qc5_1 := (uh Q).cell 5 rfl; have Qc6_1 := (uh Q).cell 6 rfl
  have CUs := hide ((uh CU).kept (g_store (j := 2) (g_self w6 (some (w5.heap.size))) (.int .i64 (z : Int))) (fun k hk => by have q1_ := Option.some.inj hk; omega))
  have Qfz2_2 := (uh Q).frozen 2; have Qcz2_2 := (uh Q).cell 2 rfl
  obtain ⟨wy17, hst⟩ : ∃ X, X = w6.setCell ⟨w5.heap.size, 2, none⟩ (.int .i64 (z : Int)) := ⟨_, rfl⟩
  have OM_ : Hid (OwnMl w.heap.size wy17 (.slice amC b.mails.length cmC) (b.mails)) := by show OwnMl _ _ _ _; rw [hst]; exact (uh Q).row (j := 2) (by decide) (uh OM) _
  have OT_ : Hid (OwnTb w.heap.size wy17 (.slice atC b.tombs.length ctC) (b.tombs)) := by show OwnTb _ _ _ _; rw [hst]; exact (uh Q).row (j := 2) (by decide) (uh OT) _
  have R_ := hide ((uh R).other (j := 2) neRQ (.int .i64 (z : Int)))
  rw [← hst] at R_
  have Q_ := hide ((uh Q).set 2 (.int .i64 (z : Int)))
  rw [← hst] at Q_
  have BB_ := hide (g_setnew (j := 2) (uh BB) loQ (.int .i64 (z : Int)))
  rw [← hst] at BB_
  have sz7 : Hid (w6.heap.size ≤ wy17.heap.size) := by show _ ≤ _; rw [hst]; simp
  replace OM := OM_; clear OM_; replace OT := OT_; clear OT_; replace R := R_; clear R_; replace Q := Q_; clear Q_; replace BB := BB_; clear BB_; have Est7 := hst.symm; clear hst
  rw [Est7] at CUs
  clear CU; have CU := CUs; clear CUs; have Qc0_3 := (uh Q).cell 0 rfl; have Qc1_3 := (uh Q).cell 1 rfl; have Qc2_3 := (uh Q).cell 2 rfl; have Qc3_3 := (uh Q).cell 3 rfl; have Qc4_3 := (uh Q).cell 4 rfl; have Qc5_3 := (uh Q).cell 5 rfl; have Qc6_3 := (uh Q).cell 6 rfl; have Rf0 := (uh R).frozen 0; have Rf1 := (uh R).frozen 1; have Rf2 := (uh R).frozen 2; have Rf3 := (uh R).frozen 3; have Rf4 := (uh R).frozen 4; have Rf5 := (uh R).frozen 5; have Rf6 := (uh R).frozen 6; have Re0 := (uh R).cell 0 rfl; have Re1 := (uh R).cell 1 rfl; have Re2 := (uh R).cell 2 rfl; have Re3 := (uh R).cell 3 rfl; have Re4 := (uh R).cell 4 rfl; have Re5 := (uh R).cell 5 rfl; have Re6 := (uh R).cell 6 rfl; have F := hide (fill7 (uh R) (.string b.name) (.int .i64 b.valid) (.int .i64 (z : Int)) (.int .i64 b.mod) (.slice amC b.mails.length cmC) (.slice atC b.tombs.length ctC) (.int .i64 b.hor))
  obtain ⟨U, hU⟩ : ∃ U, U = (((((((wy17.setCell ⟨w.heap.size, 0, none⟩ (.string b.name)).setCell ⟨w.heap.size, 1, none⟩ (.int .i64 b.valid)).setCell ⟨w.heap.size, 2, none⟩ (.int .i64 (z : Int))).setCell ⟨w.heap.size, 3, none⟩ (.int .i64 b.mod)).setCell ⟨w.heap.size, 4, none⟩ (.slice amC b.mails.length cmC)).setCell ⟨w.heap.size, 5, none⟩ (.slice atC b.tombs.length ctC)).setCell ⟨w.heap.size, 6, none⟩ (.int .i64 b.hor)) := ⟨_, rfl⟩
  have F9 := uh F
  rw [← hU] at F9
  have GU : wy17.grownBy U (some (w.heap.size)) := by rw [hU]; exact g_store (g_store (g_store (g_store (g_store (g_store (g_store (g_self _ _) _) _) _) _) _) _) _
  have GU := hide GU; have EU := hU.symm; clear F hU; have v0 := F9.obj.cell 0 rfl; have v1 := F9.obj.cell 1 rfl; have v2 := F9.obj.cell 2 rfl; have v3 := F9.obj.cell 3 rfl; have v4 := F9.obj.cell 4 rfl; have v5 := F9.obj.cell 5 rfl; have v6 := F9.obj.cell 6 rfl; have F := hide F9; clear F9
  go_wp2_with (refine bodyPost_ret (by simp [results, Tryz.results63, go_sem, v0, v1, v2, v3, v4, v5, v6]; try rfl) rfl ?_)
  clear EU; have F := uh F
  exact ⟨⟨b.name, b.valid, (z : Int), b.mod, b.mails, b.tombs, b.hor⟩, _, _, rfl, (uh AN).nums _ _ _ _, ⟨F.row (by decide) (uh OM), F.row (by decide) (uh OT)⟩, (uh CU).kept (uh GU) (fun k hk => by have q1_ := Option.some.inj hk; omega), g_new (uh BB) (uh GU) (fun k hk => by have q1_ := Option.some.inj hk; omega)⟩
 ·simp only [show ((2 : Nat) : Int) = 2 from rfl]
  obtain ⟨z, hz, lz⟩ : ∃ z : Nat, (x : Int).tmod 4 = (z : Int) ∧ z < 4 := ⟨x % 4, by rw [Int.tmod_eq_emod_of_nonneg (by omega)]; omega, by omega⟩
  have Qc0_1 := (uh Q).cell 0 rfl; have Qc1_1 := (uh Q).cell 1 rfl; have Qc2_1 := (uh Q).cell 2 rfl; have Qc3_1 := (uh Q).cell 3 rfl; have Qc4_1 := (uh Q).cell 4 rfl; have Qc5_1 := (uh Q).cell 5 rfl; have Qc6_1 := (uh Q).cell 6 rfl
  obtain ⟨wy27, hM⟩ : ∃ X, X = w6.alloc (.cells ([.int .i64 0, .int .i64 1, .int .i64 100000, .int .i64 100001] : List Value).toArray 3) := ⟨_, rfl⟩
  have Mx : HasObj wy27 w6.heap.size 3 [.int .i64 0, .int .i64 1, .int .i64 100000, .int .i64 100001] := by rw [hM]; exact HasObj.new _ _ _
  have hbn : Below w6.heap.size w6 wy27 := by rw [hM]; exact (Below.refl _ _).alloc (Nat.le_refl _) _
  have EM := hM.symm; clear hM; have Mc0 := Mx.cell 0 rfl; have Mc1 := Mx.cell 1 rfl; have Mc2 := Mx.cell 2 rfl; have Mc3 := Mx.cell 3 rfl; clear Mx
  replace CU := hide ((uh CU).kept (below_g0 hbn) (fun k hk => by cases hk))
  replace R := hide ((uh R).ups hbn); replace Q := hide ((uh Q).ups hbn); replace OM := hide ((uh OM).up hbn); replace OT := hide ((uh OT).up hbn); have sz7 := hide (hbn.size); replace BB := hide (g_then (uh BB) hbn); clear hbn
  have z4 : z = 0 ∨ z = 1 ∨ z = 2 ∨ z = 3 := by omega
  rcases z4 with rfl | rfl | rfl | rfl
  ·simp only [show ((0 : Nat) : Int) = 0 from rfl] at hz
   have CUs := hide ((uh CU).kept (g_store (j := 3) (g_self wy27 (some (w5.heap.size))) (.int .i64 0)) (fun k hk => by have q1_ := Option.some.inj hk; omega))
   have Qfz3_2 := (uh Q).frozen 3; have Qcz3_2 := (uh Q).cell 3 rfl
   obtain ⟨wy208, hst⟩ : ∃ X, X = wy27.setCell ⟨w5.heap.size, 3, none⟩ (.int .i64 0) := ⟨_, rfl⟩
   have OM_ : Hid (OwnMl w.heap.size wy208 (.slice amC b.mails.length cmC) (b.mails)) := by show OwnMl _ _ _ _; rw [hst]; exact (uh Q).row (j := 3) (by decide) (uh OM) _
   have OT_ : Hid (OwnTb w.heap.size wy208 (.slice atC b.tombs.length ctC) (b.tombs)) := by show OwnTb _ _ _ _; rw [hst]; exact (uh Q).row (j := 3) (by decide) (uh OT) _
   have R_ := hide ((uh R).other (j := 3) neRQ (.int .i64 0))
   rw [← hst] at R_
   have Q_ := hide ((uh Q).set 3 (.int .i64 0))
   rw [← hst] at Q_
   have BB_ := hide (g_setnew (j := 3) (uh BB) loQ (.int .i64 0))
   rw [← hst] at BB_
   have sz8 : Hid (wy27.heap.size ≤ wy208.heap.size) := by show _ ≤ _; rw [hst]; simp
   replace OM := OM_; clear OM_; replace OT := OT_; clear OT_; replace R := R_; clear R_; replace Q := Q_; clear Q_; replace BB := BB_; clear BB_; have Est8 := hst.symm; clear hst
   rw [Est8] at CUs
   clear CU; have CU := CUs; clear CUs; have Qc0_3 := (uh Q).cell 0 rfl; have Qc1_3 := (uh Q).cell 1 rfl; have Qc2_3 := (uh Q).cell 2 rfl; have Qc3_3 := (uh Q).cell 3 rfl; have Qc4_3 := (uh Q).cell 4 rfl; have Qc5_3 := (uh Q).cell 5 rfl; have Qc6_3 := (uh Q).cell 6 rfl; have Rf0 := (uh R).frozen 0; have Rf1 := (uh R).frozen 1; have Rf2 := (uh R).frozen 2; have Rf3 := (uh R).frozen 3; have Rf4 := (uh R).frozen 4; have Rf5 := (uh R).frozen 5; have Rf6 := (uh R).frozen 6; have Re0 := (uh R).cell 0 rfl; have Re1 := (uh R).cell 1 rfl; have Re2 := (uh R).cell 2 rfl; have Re3 := (uh R).cell 3 rfl; have Re4 := (uh R).cell 4 rfl; have Re5 := (uh R).cell 5 rfl; have Re6 := (uh R).cell 6 rfl; have F := hide (fill7 (uh R) (.string b.name) (.int .i64 b.valid) (.int .i64 b.next) (.int .i64 0) (.slice amC b.mails.length cmC) (.slice atC b.tombs.length ctC) (.int .i64 b.hor))
   obtain ⟨U, hU⟩ : ∃ U, U = (((((((wy208.setCell ⟨w.heap.size, 0, none⟩ (.string b.name)).setCell ⟨w.heap.size, 1, none⟩ (.int .i64 b.valid)).setCell ⟨w.heap.size, 2, none⟩ (.int .i64 b.next)).setCell ⟨w.heap.size, 3, none⟩ (.int .i64 0)).setCell ⟨w.heap.size, 4, none⟩ (.slice amC b.mails.length cmC)).setCell ⟨w.heap.size, 5, none⟩ (.slice atC b.tombs.length ctC)).setCell ⟨w.heap.size, 6, none⟩ (.int .i64 b.hor)) := ⟨_, rfl⟩
   have F9 := uh F
   rw [← hU] at F9
   have GU : wy208.grownBy U (some (w.heap.size)) := by rw [hU]; exact g_store (g_store (g_store (g_store (g_store (g_store (g_store (g_self _ _) _) _) _) _) _) _) _
   have GU := hide GU; have EU := hU.symm; clear F hU; have v0 := F9.obj.cell 0 rfl; have v1 := F9.obj.cell 1 rfl; have v2 := F9.obj.cell 2 rfl; have v3 := F9.obj.cell 3 rfl; have v4 := F9.obj.cell 4 rfl; have v5 := F9.obj.cell 5 rfl; have v6 := F9.obj.cell 6 rfl; have F := hide F9; clear F9
   go_wp2_with (refine bodyPost_ret (by simp [results, Tryz.results63, go_sem, v0, v1, v2, v3, v4, v5, v6]; try rfl) rfl ?_)
   clear EU; have F := uh F
   exact ⟨⟨b.name, b.valid, b.next, 0, b.mails, b.tombs, b.hor⟩, _, _, rfl, (uh AN).nums _ _ _ _, ⟨F.row (by decide) (uh OM), F.row (by decide) (uh OT)⟩, (uh CU).kept (uh GU) (fun k hk => by have q1_ := Option.some.inj hk; omega), g_new (uh BB) (uh GU) (fun k hk => by have q1_ := Option.some.inj hk; omega)⟩
  ·simp only [show ((1 : Nat) : Int) = 1 from rfl] at hz
   have CUs := hide ((uh CU).kept (g_store (j := 3) (g_self wy27 (some (w5.heap.size))) (.int .i64 1)) (fun k hk => by have q1_ := Option.some.inj hk; omega))
   have Qfz3_2 := (uh Q).frozen 3; have Qcz3_2 := (uh Q).cell 3 rfl
   obtain ⟨wy218, hst⟩ : ∃ X, X = wy27.setCell ⟨w5.heap.size, 3, none⟩ (.int .i64 1) := ⟨_, rfl⟩
   have OM_ : Hid (OwnMl w.heap.size wy218 (.slice amC b.mails.length cmC) (b.mails)) := by show OwnMl _ _ _ _; rw [hst]; exact (uh Q).row (j := 3) (by decide) (uh OM) _
   have OT_ : Hid (OwnTb w.heap.size wy218 (.slice atC b.tombs.length ctC) (b.tombs)) := by show OwnTb _ _ _ _; rw [hst]; exact (uh Q).row (j := 3) (by decide) (uh OT) _
   have R_ := hide ((uh R).other (j := 3) neRQ (.int .i64 1))
   rw [← hst] at R_
   have Q_ := hide ((uh Q).set 3 (.int .i64 1))
   rw [← hst] at Q_
   have BB_ := hide (g_setnew (j := 3) (uh BB) loQ (.int .i64 1))
   rw [← hst] at BB_
   have sz8 : Hid (wy27.heap.size ≤ wy218.heap.size) := by show _ ≤ _; rw [hst]; simp
   replace OM := OM_; clear OM_; replace OT := OT_; clear OT_; replace R := R_; clear R_; replace Q := Q_; clear Q_; replace BB := BB_; clear BB_; have Est8 := hst.symm; clear hst
   rw [Est8] at CUs
   clear CU; have CU := CUs; clear CUs; have Qc0_3 := (uh Q).cell 0 rfl; have Qc1_3 := (uh Q).cell 1 rfl; have Qc2_3 := (uh Q).cell 2 rfl; have Qc3_3 := (uh Q).cell 3 rfl; have Qc4_3 := (uh Q).cell 4 rfl; have Qc5_3 := (uh Q).cell 5 rfl; have Qc6_3 := (uh Q).cell 6 rfl; have Rf0 := (uh R).frozen 0; have Rf1 := (uh R).frozen 1; have Rf2 := (uh R).frozen 2; have Rf3 := (uh R).frozen 3; have Rf4 := (uh R).frozen 4; have Rf5 := (uh R).frozen 5; have Rf6 := (uh R).frozen 6; have Re0 := (uh R).cell 0 rfl; have Re1 := (uh R).cell 1 rfl; have Re2 := (uh R).cell 2 rfl; have Re3 := (uh R).cell 3 rfl; have Re4 := (uh R).cell 4 rfl; have Re5 := (uh R).cell 5 rfl; have Re6 := (uh R).cell 6 rfl; have F := hide (fill7 (uh R) (.string b.name) (.int .i64 b.valid) (.int .i64 b.next) (.int .i64 1) (.slice amC b.mails.length cmC) (.slice atC b.tombs.length ctC) (.int .i64 b.hor))
   obtain ⟨U, hU⟩ : ∃ U, U = (((((((wy218.setCell ⟨w.heap.size, 0, none⟩ (.string b.name)).setCell ⟨w.heap.size, 1, none⟩ (.int .i64 b.valid)).setCell ⟨w.heap.size, 2, none⟩ (.int .i64 b.next)).setCell ⟨w.heap.size, 3, none⟩ (.int .i64 1)).setCell ⟨w.heap.size, 4, none⟩ (.slice amC b.mails.length cmC)).setCell ⟨w.heap.size, 5, none⟩ (.slice atC b.tombs.length ctC)).setCell ⟨w.heap.size, 6, none⟩ (.int .i64 b.hor)) := ⟨_, rfl⟩
   have F9 := uh F
   rw [← hU] at F9
   have GU : wy218.grownBy U (some (w.heap.size)) := by rw [hU]; exact g_store (g_store (g_store (g_store (g_store (g_store (g_store (g_self _ _) _) _) _) _) _) _) _
   have GU := hide GU; have EU := hU.symm; clear F hU; have v0 := F9.obj.cell 0 rfl; have v1 := F9.obj.cell 1 rfl; have v2 := F9.obj.cell 2 rfl; have v3 := F9.obj.cell 3 rfl; have v4 := F9.obj.cell 4 rfl; have v5 := F9.obj.cell 5 rfl; have v6 := F9.obj.cell 6 rfl; have F := hide F9; clear F9
   go_wp2_with (refine bodyPost_ret (by simp [results, Tryz.results63, go_sem, v0, v1, v2, v3, v4, v5, v6]; try rfl) rfl ?_)
   clear EU; have F := uh F
   exact ⟨⟨b.name, b.valid, b.next, 1, b.mails, b.tombs, b.hor⟩, _, _, rfl, (uh AN).nums _ _ _ _, ⟨F.row (by decide) (uh OM), F.row (by decide) (uh OT)⟩, (uh CU).kept (uh GU) (fun k hk => by have q1_ := Option.some.inj hk; omega), g_new (uh BB) (uh GU) (fun k hk => by have q1_ := Option.some.inj hk; omega)⟩
  ·simp only [show ((2 : Nat) : Int) = 2 from rfl] at hz
   have CUs := hide ((uh CU).kept (g_store (j := 3) (g_self wy27 (some (w5.heap.size))) (.int .i64 100000)) (fun k hk => by have q1_ := Option.some.inj hk; omega))
   have Qfz3_2 := (uh Q).frozen 3; have Qcz3_2 := (uh Q).cell 3 rfl
   obtain ⟨wy228, hst⟩ : ∃ X, X = wy27.setCell ⟨w5.heap.size, 3, none⟩ (.int .i64 100000) := ⟨_, rfl⟩
   have OM_ : Hid (OwnMl w.heap.size wy228 (.slice amC b.mails.length cmC) (b.mails)) := by show OwnMl _ _ _ _; rw [hst]; exact (uh Q).row (j := 3) (by decide) (uh OM) _
   have OT_ : Hid (OwnTb w.heap.size wy228 (.slice atC b.tombs.length ctC) (b.tombs)) := by show OwnTb _ _ _ _; rw [hst]; exact (uh Q).row (j := 3) (by decide) (uh OT) _
   have R_ := hide ((uh R).other (j := 3) neRQ (.int .i64 100000))
   rw [← hst] at R_
   have Q_ := hide ((uh Q).set 3 (.int .i64 100000))
   rw [← hst] at Q_
   have BB_ := hide (g_setnew (j := 3) (uh BB) loQ (.int .i64 100000))
   rw [← hst] at BB_
   have sz8 : Hid (wy27.heap.size ≤ wy228.heap.size) := by show _ ≤ _; rw [hst]; simp
   replace OM := OM_; clear OM_; replace OT := OT_; clear OT_; replace R := R_; clear R_; replace Q := Q_; clear Q_; replace BB := BB_; clear BB_; have Est8 := hst.symm; clear hst
   rw [Est8] at CUs
   clear CU; have CU := CUs; clear CUs; have Qc0_3 := (uh Q).cell 0 rfl; have Qc1_3 := (uh Q).cell 1 rfl; have Qc2_3 := (uh Q).cell 2 rfl; have Qc3_3 := (uh Q).cell 3 rfl; have Qc4_3 := (uh Q).cell 4 rfl; have Qc5_3 := (uh Q).cell 5 rfl; have Qc6_3 := (uh Q).cell 6 rfl; have Rf0 := (uh R).frozen 0; have Rf1 := (uh R).frozen 1; have Rf2 := (uh R).frozen 2; have Rf3 := (uh R).frozen 3; have Rf4 := (uh R).frozen 4; have Rf5 := (uh R).frozen 5; have Rf6 := (uh R).frozen 6; have Re0 := (uh R).cell 0 rfl; have Re1 := (uh R).cell 1 rfl; have Re2 := (uh R).cell 2 rfl; have Re3 := (uh R).cell 3 rfl; have Re4 := (uh R).cell 4 rfl; have Re5 := (uh R).cell 5 rfl; have Re6 := (uh R).cell 6 rfl; have F := hide (fill7 (uh R) (.string b.name) (.int .i64 b.valid) (.int .i64 b.next) (.int .i64 100000) (.slice amC b.mails.length cmC) (.slice atC b.tombs.length ctC) (.int .i64 b.hor))
   obtain ⟨U, hU⟩ : ∃ U, U = (((((((wy228.setCell ⟨w.heap.size, 0, none⟩ (.string b.name)).setCell ⟨w.heap.size, 1, none⟩ (.int .i64 b.valid)).setCell ⟨w.heap.size, 2, none⟩ (.int .i64 b.next)).setCell ⟨w.heap.size, 3, none⟩ (.int .i64 100000)).setCell ⟨w.heap.size, 4, none⟩ (.slice amC b.mails.length cmC)).setCell ⟨w.heap.size, 5, none⟩ (.slice atC b.tombs.length ctC)).setCell ⟨w.heap.size, 6, none⟩ (.int .i64 b.hor)) := ⟨_, rfl⟩
   have F9 := uh F
   rw [← hU] at F9
   have GU : wy228.grownBy U (some (w.heap.size)) := by rw [hU]; exact g_store (g_store (g_store (g_store (g_store (g_store (g_store (g_self _ _) _) _) _) _) _) _) _
   have GU := hide GU; have EU := hU.symm; clear F hU; have v0 := F9.obj.cell 0 rfl; have v1 := F9.obj.cell 1 rfl; have v2 := F9.obj.cell 2 rfl; have v3 := F9.obj.cell 3 rfl; have v4 := F9.obj.cell 4 rfl; have v5 := F9.obj.cell 5 rfl; have v6 := F9.obj.cell 6 rfl; have F := hide F9; clear F9
   go_wp2_with (refine bodyPost_ret (by simp [results, Tryz.results63, go_sem, v0, v1, v2, v3, v4, v5, v6]; try rfl) rfl ?_)
   clear EU; have F := uh F
   exact ⟨⟨b.name, b.valid, b.next, 100000, b.mails, b.tombs, b.hor⟩, _, _, rfl, (uh AN).nums _ _ _ _, ⟨F.row (by decide) (uh OM), F.row (by decide) (uh OT)⟩, (uh CU).kept (uh GU) (fun k hk => by have q1_ := Option.some.inj hk; omega), g_new (uh BB) (uh GU) (fun k hk => by have q1_ := Option.some.inj hk; omega)⟩
  ·simp only [show ((3 : Nat) : Int) = 3 from rfl] at hz
   have CUs := hide ((uh CU).kept (g_store (j := 3) (g_self wy27 (some (w5.heap.size))) (.int .i64 100001)) (fun k hk => by have q1_ := Option.some.inj hk; omega))
   have Qfz3_2 := (uh Q).frozen 3; have Qcz3_2 := (uh Q).cell 3 rfl
   obtain ⟨wy238, hst⟩ : ∃ X, X = wy27.setCell ⟨w5.heap.size, 3, none⟩ (.int .i64 100001) := ⟨_, rfl⟩
   have OM_ : Hid (OwnMl w.heap.size wy238 (.slice amC b.mails.length cmC) (b.mails)) := by show OwnMl _ _ _ _; rw [hst]; exact (uh Q).row (j := 3) (by decide) (uh OM) _
   have OT_ : Hid (OwnTb w.heap.size wy238 (.slice atC b.tombs.length ctC) (b.tombs)) := by show OwnTb _ _ _ _; rw [hst]; exact (uh Q).row (j := 3) (by decide) (uh OT) _
   have R_ := hide ((uh R).other (j := 3) neRQ (.int .i64 100001))
   rw [← hst] at R_
   have Q_ := hide ((uh Q).set 3 (.int .i64 100001))
   rw [← hst] at Q_
   have BB_ := hide (g_setnew (j := 3) (uh BB) loQ (.int .i64 100001))
   rw [← hst] at BB_
   have sz8 : Hid (wy27.heap.size ≤ wy238.heap.size) := by show _ ≤ _; rw [hst]; simp
   replace OM := OM_; clear OM_; replace OT := OT_; clear OT_; replace R := R_; clear R_; replace Q := Q_; clear Q_; replace BB := BB_; clear BB_; have Est8 := hst.symm; clear hst
   rw [Est8] at CUs
   clear CU; have CU := CUs; clear CUs; have Qc0_3 := (uh Q).cell 0 rfl; have Qc1_3 := (uh Q).cell 1 rfl; have Qc2_3 := (uh Q).cell 2 rfl; have Qc3_3 := (uh Q).cell 3 rfl; have Qc4_3 := (uh Q).cell 4 rfl; have Qc5_3 := (uh Q).cell 5 rfl; have Qc6_3 := (uh Q).cell 6 rfl; have Rf0 := (uh R).frozen 0; have Rf1 := (uh R).frozen 1; have Rf2 := (uh R).frozen 2; have Rf3 := (uh R).frozen 3; have Rf4 := (uh R).frozen 4; have Rf5 := (uh R).frozen 5; have Rf6 := (uh R).frozen 6; have Re0 := (uh R).cell 0 rfl; have Re1 := (uh R).cell 1 rfl; have Re2 := (uh R).cell 2 rfl; have Re3 := (uh R).cell 3 rfl; have Re4 := (uh R).cell 4 rfl; have Re5 := (uh R).cell 5 rfl; have Re6 := (uh R).cell 6 rfl; have F := hide (fill7 (uh R) (.string b.name) (.int .i64 b.valid) (.int .i64 b.next) (.int .i64 100001) (.slice amC b.mails.length cmC) (.slice atC b.tombs.length ctC) (.int .i64 b.hor))
   obtain ⟨U, hU⟩ : ∃ U, U = (((((((wy238.setCell ⟨w.heap.size, 0, none⟩ (.string b.name)).setCell ⟨w.heap.size, 1, none⟩ (.int .i64 b.valid)).setCell ⟨w.heap.size, 2, none⟩ (.int .i64 b.next)).setCell ⟨w.heap.size, 3, none⟩ (.int .i64 100001)).setCell ⟨w.heap.size, 4, none⟩ (.slice amC b.mails.length cmC)).setCell ⟨w.heap.size, 5, none⟩ (.slice atC b.tombs.length ctC)).setCell ⟨w.heap.size, 6, none⟩ (.int .i64 b.hor)) := ⟨_, rfl⟩
   have F9 := uh F
   rw [← hU] at F9
   have GU : wy238.grownBy U (some (w.heap.size)) := by rw [hU]; exact g_store (g_store (g_store (g_store (g_store (g_store (g_store (g_self _ _) _) _) _) _) _) _) _
   have GU := hide GU; have EU := hU.symm; clear F hU; have v0 := F9.obj.cell 0 rfl; have v1 := F9.obj.cell 1 rfl; have v2 := F9.obj.cell 2 rfl; have v3 := F9.obj.cell 3 rfl; have v4 := F9.obj.cell 4 rfl; have v5 := F9.obj.cell 5 rfl; have v6 := F9.obj.cell 6 rfl; have F := hide F9; clear F9
   go_wp2_with (refine bodyPost_ret (by simp [results, Tryz.results63, go_sem, v0, v1, v2, v3, v4, v5, v6]; try rfl) rfl ?_)
   clear EU; have F := uh F
   exact ⟨⟨b.name, b.valid, b.next, 100001, b.mails, b.tombs, b.hor⟩, _, _, rfl, (uh AN).nums _ _ _ _, ⟨F.row (by decide) (uh OM), F.row (by decide) (uh OT)⟩, (uh CU).kept (uh GU) (fun k hk => by have q1_ := Option.some.inj hk; omega), g_new (uh BB) (uh GU) (fun k hk => by have q1_ := Option.some.inj hk; omega)⟩
 ·simp only [show ((3 : Nat) : Int) = 3 from rfl]
  obtain ⟨n, hn⟩ : ∃ n, n = b.mails.length := ⟨_, rfl⟩
  have HNL := hide hn
  rw [← hn] at h30 OM Q
  clear hn
  by_cases hm0 : n = 0
  ·have dm : decide (0 < n) = false := decide_eq_false (by omega)
   have dm2 : decide ((0 : Int) < (n : Int)) = false := decide_eq_false (by omega)
   have OM9 : Hid (OwnMl w.heap.size w6 (.slice amC n cmC) b.mails) := by have h9 := uh OM; exact h9
   clear hm0; have Qc0_1 := (uh Q).cell 0 rfl; have Qc1_1 := (uh Q).cell 1 rfl; have Qc2_1 := (uh Q).cell 2 rfl; have Qc3_1 := (uh Q).cell 3 rfl; have Qc4_1 := (uh Q).cell 4 rfl; have Qc5_1 := (uh Q).cell 5 rfl; have Qc6_1 := (uh Q).cell 6 rfl; have Rf0 := (uh R).frozen 0; have Rf1 := (uh R).frozen 1; have Rf2 := (uh R).frozen 2; have Rf3 := (uh R).frozen 3; have Rf4 := (uh R).frozen 4; have Rf5 := (uh R).frozen 5; have Rf6 := (uh R).frozen 6; have Re0 := (uh R).cell 0 rfl; have Re1 := (uh R).cell 1 rfl; have Re2 := (uh R).cell 2 rfl; have Re3 := (uh R).cell 3 rfl; have Re4 := (uh R).cell 4 rfl; have Re5 := (uh R).cell 5 rfl; have Re6 := (uh R).cell 6 rfl; have F := hide (fill7 (uh R) (.string b.name) (.int .i64 b.valid) (.int .i64 b.next) (.int .i64 b.mod) (.slice amC n cmC) (.slice atC b.tombs.length ctC) (.int .i64 b.hor))
   obtain ⟨U, hU⟩ : ∃ U, U = (((((((w6.setCell ⟨w.heap.size, 0, none⟩ (.string b.name)).setCell ⟨w.heap.size, 1, none⟩ (.int .i64 b.valid)).setCell ⟨w.heap.size, 2, none⟩ (.int .i64 b.next)).setCell ⟨w.heap.size, 3, none⟩ (.int .i64 b.mod)).setCell ⟨w.heap.size, 4, none⟩ (.slice amC n cmC)).setCell ⟨w.heap.size, 5, none⟩ (.slice atC b.tombs.length ctC)).setCell ⟨w.heap.size, 6, none⟩ (.int .i64 b.hor)) := ⟨_, rfl⟩
   have F9 := uh F
   rw [← hU] at F9
   have GU : w6.grownBy U (some (w.heap.size)) := by rw [hU]; exact g_store (g_store (g_store (g_store (g_store (g_store (g_store (g_self _ _) _) _) _) _) _) _) _
   have GU := hide GU; have EU := hU.symm; clear F hU; have v0 := F9.obj.cell 0 rfl; have v1 := F9.obj.cell 1 rfl; have v2 := F9.obj.cell 2 rfl; have v3 := F9.obj.cell 3 rfl; have v4 := F9.obj.cell 4 rfl; have v5 := F9.obj.cell 5 rfl; have v6 := F9.obj.cell 6 rfl; have F := hide F9; clear F9
   go_wp2_with (refine bodyPost_ret (by simp [results, Tryz.results63, go_sem, v0, v1, v2, v3, v4, v5, v6]; try rfl) rfl ?_)
   clear EU; have F := uh F
   exact ⟨b, _, _, rfl, uh AN, ⟨F.row (by decide) (uh OM), F.row (by decide) (uh OT)⟩, (uh CU).kept (uh GU) (fun k hk => by have q1_ := Option.some.inj hk; omega), g_new (uh BB) (uh GU) (fun k hk => by have q1_ := Option.some.inj hk; omega)⟩
  ·have dm : decide (0 < n) = true := decide_eq_true (by omega)
   have dm2 : decide ((0 : Int) < (n : Int)) = true := decide_eq_true (by omega)
   have dm3 : ¬ ((n : Int) = 0) := by omega
   obtain ⟨z, hz, lz⟩ : ∃ z : Nat, (x : Int).tmod (n : Int) = (z : Int) ∧ z < n := ⟨x % n, by rw [Int.tmod_eq_emod_of_nonneg (by omega)]; exact (Int.natCast_emod x n).symm ▸ rfl, Nat.mod_lt _ (by omega)⟩
   obtain ⟨u, hu, lu⟩ : ∃ z : Nat, (x : Int).tmod 12 = (z : Int) ∧ z < 12 := ⟨x % 12, by rw [Int.tmod_eq_emod_of_nonneg (by omega)]; omega, by omega⟩
   have hkl : z < b.mails.length := by rw [← uh HNL]; exact lz
   have hx : b.mails[z]? = some b.mails[z] := List.getElem?_eq_getElem hkl
   obtain ⟨gm, qm, e1, _, c0, _⟩ := ml_read (uh OM) (Below.refl _ _) hx
   have e3 := (Value.slice.inj e1).1; clear e1
   subst e3
   generalize b.mails[z] = y at *
   have HXY := hide hx; clear hx hkl
   have i1 : (0 : Int) ≤ (z : Int) := by omega
   have i2 : (z : Int) < (n : Int) := by omega
   have fz := World.ownsRow.frozenAt (show World.ownsRow _ w.heap.size 100 4 (.slice (some ⟨gm, 0, none⟩) n cmC) n (rowC mlC b.mails) from by have h9 := uh OM; unfold OwnMl at h9; rw [← uh HNL] at h9; exact h9) (z * 4)
   have Qc0_1 := (uh Q).cell 0 rfl; have Qc1_1 := (uh Q).cell 1 rfl; have Qc2_1 := (uh Q).cell 2 rfl; have Qc3_1 := (uh Q).cell 3 rfl; have Qc4_1 := (uh Q).cell 4 rfl; have Qc5_1 := (uh Q).cell 5 rfl; have Qc6_1 := (uh Q).cell 6 rfl
   go_wp2
   clear Qc0_1 Qc1_1 Qc2_1 Qc3_1 Qc4_1 Qc5_1 Qc6_1 EQ
   refine lateBegin (S := fun w' => w'.cell? ⟨w5.heap.size, 4, none⟩ = some (.slice (some ⟨gm, 0, none⟩) n cmC)) 11 (by kernel_rfl) ((uh Q).cell 4 rfl) (fun hHeld => ?_)
   replace CU : Hid (Cur B w6.drew c) := (uh CU).kept (g_drew (g_self _ none)) (fun k hk => by cases hk)
   replace R := hide ((uh R).drew); replace Q := hide ((uh Q).drew); replace OM := hide ((uh OM).drew); replace OT := hide ((uh OT).drew); replace BB := hide (g_drew (uh BB))
   have sz7 : Hid (w6.heap.size ≤ w6.drew.heap.size) := Nat.le_refl _
   refine lt 0 41 ?_; refine lt 1 42 ?_; refine lt 2 43 ?_; refine lt 3 44 ?_; refine lt 4 45 ?_; refine lt 5 46 ?_; refine lt 6 47 ?_; refine lt 7 48 ?_; refine lt 8 49 ?_
   refine lateStep 9 (by kernel_rfl) rfl (by rfl) (fun K hK => ?_)
   go_simp
   refine hK.out _ _ ((uh Q).cell 4 rfl) (fun hHeld2 => ?_)
   clear hK K hHeld; have hHeld := hHeld2; clear hHeld2
   try simp only [Act.put, p1, p2, p3]
   refine lateStep 10 (by kernel_rfl) rfl (by rfl) (fun K hK => ?_)
   go_simp
   refine hK.out _ _ ((uh Q).cell 4 rfl) (fun hHeld2 => ?_)
   clear hK K hHeld; have hHeld := hHeld2; clear hHeld2
   try simp only [Act.put, p1, p2, p3]
   have GUm : w6.drew.grownBy (w6.setCell ⟨gm, z * 4, none⟩ (.int .i64 (u : Int))).drew (some gm) := g_store (g_self _ _) _
   have STm : Hid (World.ownsRow (w6.setCell ⟨gm, z * 4, none⟩ (.int .i64 (u : Int))).drew w.heap.size 100 4 (.slice (some ⟨gm, 0, none⟩) n cmC) n (rowC mlC (b.mails.set z ⟨(u : Int), y.flags, y.mod, y.text⟩))) := (row_putUid (show w6.drew.ownsRow w.heap.size 100 4 (.slice (some ⟨gm, 0, none⟩) n cmC) n (rowC mlC b.mails) from by have h9 := uh OM; unfold OwnMl at h9; rw [← uh HNL] at h9; exact h9) (uh HXY) (u : Int))
   refine lateLast 11 (by decide) (by kernel_rfl) rfl (by rfl) (fun K hK => ?_)
   go_simp
   refine hK.out _ _ ?_
   clear hK K hHeld
   try simp only [Act.put, p1, p2, p3]
   obtain ⟨wy317, hU9⟩ : ∃ U, U = (w6.setCell ⟨gm, z * 4, none⟩ (.int .i64 (u : Int))).drew := ⟨_, rfl⟩
   rw [← hU9] at GUm STm ⊢
   clear hU9 c0 fz
   have gmL : w.heap.size ≤ gm := (World.ownsRow.lt (uh OM) gm rfl).1
   replace R := hide ((uh R).kept GUm (fun e => (uh R).not_row (by decide) (uh OM) e.symm))
   replace Q := hide ((uh Q).kept GUm (fun e => (uh Q).not_row (by decide) (uh OM) e.symm))
   replace OT : Hid (OwnTb w.heap.size wy317 (.slice atC b.tombs.length ctC) (b.tombs)) := g_aside (uh OT) GUm (fun q hq => rows_apart (uh OM) (uh OT) (by decide) q hq)
   have CU9 := hide ((uh CU).kept GUm (fun k hk => by have q1_ := Option.some.inj hk; omega))
   clear CU; have CU := CU9; clear CU9
   have BB9 : Hid (w.grownBy wy317 (some c)) := g_new (uh BB) GUm (fun k hk => by have q1_ := Option.some.inj hk; omega)
   clear BB; have BB := BB9; clear BB9; clear OM GUm
   have OM : Hid (OwnMl w.heap.size wy317 (.slice (some ⟨gm, 0, none⟩) n cmC) (b.mails.set z ⟨(u : Int), y.flags, y.mod, y.text⟩)) := by show OwnMl _ _ _ _; unfold OwnMl; rw [List.length_set, ← uh HNL]; exact uh STm
   clear STm
   refine lateDone (by kernel_rfl) ?_ _
   have Qc0_2 := (uh Q).cell 0 rfl; have Qc1_2 := (uh Q).cell 1 rfl; have Qc2_2 := (uh Q).cell 2 rfl; have Qc3_2 := (uh Q).cell 3 rfl; have Qc4_2 := (uh Q).cell 4 rfl; have Qc5_2 := (uh Q).cell 5 rfl; have Qc6_2 := (uh Q).cell 6 rfl; have Rf0 := (uh R).frozen 0; have Rf1 := (uh R).frozen 1; have Rf2 := (uh R).frozen 2; have Rf3 := (uh R).frozen 3; have Rf4 := (uh R).frozen 4; have Rf5 := (uh R).frozen 5; have Rf6 := (uh R).frozen 6; have Re0 := (uh R).cell 0 rfl; have Re1 := (uh R).cell 1 rfl; have Re2 := (uh R).cell 2 rfl; have Re3 := (uh R).cell 3 rfl; have Re4 := (uh R).cell 4 rfl; have Re5 := (uh R).cell 5 rfl; have Re6 := (uh R).cell 6 rfl
   have F := hide (fill7 (uh R) (.string b.name) (.int .i64 b.valid) (.int .i64 b.next) (.int .i64 b.mod) (.slice (some ⟨gm, 0, none⟩) n cmC) (.slice atC b.tombs.length ctC) (.int .i64 b.hor))
   obtain ⟨U, hU⟩ : ∃ U, U = (((((((wy317.setCell ⟨w.heap.size, 0, none⟩ (.string b.name)).setCell ⟨w.heap.size, 1, none⟩ (.int .i64 b.valid)).setCell ⟨w.heap.size, 2, none⟩ (.int .i64 b.next)).setCell ⟨w.heap.size, 3, none⟩ (.int .i64 b.mod)).setCell ⟨w.heap.size, 4, none⟩ (.slice (some ⟨gm, 0, none⟩) n cmC)).setCell ⟨w.heap.size, 5, none⟩ (.slice atC b.tombs.length ctC)).setCell ⟨w.heap.size, 6, none⟩ (.int .i64 b.hor)) := ⟨_, rfl⟩
   have F9 := uh F
   rw [← hU] at F9
   have GU : wy317.grownBy U (some (w.heap.size)) := by rw [hU]; exact g_store (g_store (g_store (g_store (g_store (g_store (g_store (g_self _ _) _) _) _) _) _) _) _
   have GU := hide GU; have EU := hU.symm; clear F hU; have v0 := F9.obj.cell 0 rfl; have v1 := F9.obj.cell 1 rfl; have v2 := F9.obj.cell 2 rfl; have v3 := F9.obj.cell 3 rfl; have v4 := F9.obj.cell 4 rfl; have v5 := F9.obj.cell 5 rfl; have v6 := F9.obj.cell 6 rfl; have F := hide F9; clear F9
   go_wp2_with (refine bodyPost_ret (by simp [results, Tryz.results63, go_sem, v0, v1, v2, v3, v4, v5, v6]; try rfl) rfl ?_)
   clear EU; have F := uh F
   exact ⟨⟨b.name, b.valid, b.next, b.mod, b.mails.set z ⟨(u : Int), y.flags, y.mod, y.text⟩, b.tombs, b.hor⟩, _, _, rfl, AnyBx.uid (uh AN) (uh HXY) _, ⟨F.row (by decide) (uh OM), F.row (by decide) (uh OT)⟩, (uh CU).kept (uh GU) (fun k hk => by have q1_ := Option.some.inj hk; omega), g_new (uh BB) (uh GU) (fun k hk => by have q1_ := Option.some.inj hk; omega)⟩
 ·simp only [show ((4 : Nat) : Int) = 4 from rfl]
  obtain ⟨u, hu, lu⟩ : ∃ z : Nat, (x : Int).tmod 12 = (z : Int) ∧ z < 12 := ⟨x % 12, by rw [Int.tmod_eq_emod_of_nonneg (by omega)]; omega, by omega⟩
  obtain ⟨z, hz, lz⟩ : ∃ z : Nat, (x : Int).tmod 20 = (z : Int) ∧ z < 20 := ⟨x % 20, by rw [Int.tmod_eq_emod_of_nonneg (by omega)]; omega, by omega⟩
  have Qc0_1 := (uh Q).cell 0 rfl; have Qc1_1 := (uh Q).cell 1 rfl; have Qc2_1 := (uh Q).cell 2 rfl; have Qc3_1 := (uh Q).cell 3 rfl; have Qc4_1 := (uh Q).cell 4 rfl; have Qc5_1 := (uh Q).cell 5 rfl; have Qc6_1 := (uh Q).cell 6 rfl; have lw7 := (uh BB).size
  go_wp2_with (at_builtin; refine wpList_append_lies _ rfl _ _ 48 rfl w.heap.size 117 iT _ 2 16 Tryz.underlying48 hT hT0 hT1 hT2 rfl (by decide) _ _ _ rfl (World.ownsRow.alloc (uh OT) _) ⟨w6.heap.size, 0, none⟩ 1 1 (tbC (⟨(u : Int), (z : Int)⟩ : Tb)) rfl rfl (newsC _ _) ?c2 (by decide) ?c3 ?c4 ?c5 (w6.heap.size + 1) (by simp) ?_)
  clear Qc0_1 Qc1_1 Qc2_1 Qc3_1 Qc4_1 Qc5_1 Qc6_1 EQ
  case c2 => intro u hu; simp [mlC, tbC, rgl] at hu; (try rcases hu with rfl | rfl | rfl | rfl) <;> (try rcases hu with rfl | rfl) <;> (try subst hu) <;> rfl
  case c3 => unfold maxLen; omega
  case c4 => omega
  case c5 => have q1_ := (uh BB).size; have sz1_ := uh sz1; have sz2_ := uh sz2; have sz3_ := uh sz3; have sz4_ := uh sz4; have sz5_ := uh sz5; have sz6_ := uh sz6; simp; omega
  intro gOT7 capOT7 wy47 hown hgr hat hlt_
  have oa := World.ownsRow.alloc (uh OT) (.cells ((tbC (⟨(u : Int), (z : Int)⟩ : Tb)) : List Value).toArray 117)
  have R_ := hide (((uh R).alloc (.cells ((tbC (⟨(u : Int), (z : Int)⟩ : Tb)) : List Value).toArray 117)).kept hgr (fun e => ((uh R).alloc (.cells ((tbC (⟨(u : Int), (z : Int)⟩ : Tb)) : List Value).toArray 117)).not_row (by decide) oa e.symm))
  have Q_ := hide (((uh Q).alloc (.cells ((tbC (⟨(u : Int), (z : Int)⟩ : Tb)) : List Value).toArray 117)).kept hgr (fun e => ((uh Q).alloc (.cells ((tbC (⟨(u : Int), (z : Int)⟩ : Tb)) : List Value).toArray 117)).not_row (by decide) oa e.symm))
  have OM_ : Hid (OwnMl w.heap.size wy47 (.slice amC b.mails.length cmC) (b.mails)) := g_aside (World.ownsRow.alloc (uh OM) (.cells ((tbC (⟨(u : Int), (z : Int)⟩ : Tb)) : List Value).toArray 117)) hgr (fun x hx => rows_apart (oa) (World.ownsRow.alloc (uh OM) (.cells ((tbC (⟨(u : Int), (z : Int)⟩ : Tb)) : List Value).toArray 117)) (by decide) x hx)
  have OT_ : Hid (OwnTb w.heap.size wy47 (.slice (some ⟨gOT7, 0, none⟩) (b.tombs.length + 1) capOT7) (b.tombs ++ [(⟨(u : Int), (z : Int)⟩ : Tb)])) := by exact OwnTb.snoc hown
  have BB_ : Hid (w.grownBy wy47 (some c)) := g_new (g_alloc (uh BB) (.cells ((tbC (⟨(u : Int), (z : Int)⟩ : Tb)) : List Value).toArray 117)) hgr (fun b hb => by have q2_ := (World.ownsRow.lt (uh OT) b hb).1; have q1_ := (uh BB).size; have sz1_ := uh sz1; have sz2_ := uh sz2; have sz3_ := uh sz3; have sz4_ := uh sz4; have sz5_ := uh sz5; have sz6_ := uh sz6; omega)
  have sz7 : Hid (w6.heap.size ≤ wy47.heap.size) := by have q3_ := hgr.size; simp at q3_; show _ ≤ _; omega
  replace R := R_; clear R_; replace Q := Q_; clear Q_; replace OM := OM_; clear OM_; replace OT := OT_; clear OT_; replace BB := BB_; clear BB_
  replace CU := hide (((uh CU).kept (World.grownBy_alloc _ _ none) (fun k hk => by cases hk)).kept hgr (fun k hk => by have q1_ := (World.ownsRow.lt oa k hk).1; omega))
  clear hown hgr oa lw7 hat hlt_
  have CUs := hide ((uh CU).kept (g_store (j := 5) (g_self wy47 (some (w5.heap.size))) ((.slice (some ⟨gOT7, 0, none⟩) (b.tombs.length + 1) capOT7))) (fun k hk => by have q1_ := Option.some.inj hk; omega))
  have Qfz5_2 := (uh Q).frozen 5; have Qcz5_2 := (uh Q).cell 5 rfl
  obtain ⟨wy48, hst⟩ : ∃ X, X = wy47.setCell ⟨w5.heap.size, 5, none⟩ ((.slice (some ⟨gOT7, 0, none⟩) (b.tombs.length + 1) capOT7)) := ⟨_, rfl⟩
  have OM_ : Hid (OwnMl w.heap.size wy48 (.slice amC b.mails.length cmC) (b.mails)) := by show OwnMl _ _ _ _; rw [hst]; exact (uh Q).row (j := 5) (by decide) (uh OM) _
  have OT_ : Hid (OwnTb w.heap.size wy48 ((.slice (some ⟨gOT7, 0, none⟩) (b.tombs.length + 1) capOT7)) (b.tombs ++ [(⟨(u : Int), (z : Int)⟩ : Tb)])) := by show OwnTb _ _ _ _; rw [hst]; exact (uh Q).row (j := 5) (by decide) (uh OT) _
  have R_ := hide ((uh R).other (j := 5) neRQ ((.slice (some ⟨gOT7, 0, none⟩) (b.tombs.length + 1) capOT7)))
  rw [← hst] at R_
  have Q_ := hide ((uh Q).set 5 ((.slice (some ⟨gOT7, 0, none⟩) (b.tombs.length + 1) capOT7)))
  rw [← hst] at Q_
  have BB_ := hide (g_setnew (j := 5) (uh BB) loQ ((.slice (some ⟨gOT7, 0, none⟩) (b.tombs.length + 1) capOT7)))
  rw [← hst] at BB_
  have sz8 : Hid (wy47.heap.size ≤ wy48.heap.size) := by show _ ≤ _; rw [hst]; simp
  replace OM := OM_; clear OM_; replace OT := OT_; clear OT_; replace R := R_; clear R_; replace Q := Q_; clear Q_; replace BB := BB_; clear BB_; have Est8 := hst.symm; clear hst
  rw [Est8] at CUs
  clear CU; have CU := CUs; clear CUs; have Qc0_3 := (uh Q).cell 0 rfl; have Qc1_3 := (uh Q).cell 1 rfl; have Qc2_3 := (uh Q).cell 2 rfl; have Qc3_3 := (uh Q).cell 3 rfl; have Qc4_3 := (uh Q).cell 4 rfl; have Qc5_3 := (uh Q).cell 5 rfl; have Qc6_3 := (uh Q).cell 6 rfl; have Rf0 := (uh R).frozen 0; have Rf1 := (uh R).frozen 1; have Rf2 := (uh R).frozen 2; have Rf3 := (uh R).frozen 3; have Rf4 := (uh R).frozen 4; have Rf5 := (uh R).frozen 5; have Rf6 := (uh R).frozen 6; have Re0 := (uh R).cell 0 rfl; have Re1 := (uh R).cell 1 rfl; have Re2 := (uh R).cell 2 rfl; have Re3 := (uh R).cell 3 rfl; have Re4 := (uh R).cell 4 rfl; have Re5 := (uh R).cell 5 rfl; have Re6 := (uh R).cell 6 rfl
  have F := hide (fill7 (uh R) (.string b.name) (.int .i64 b.valid) (.int .i64 b.next) (.int .i64 b.mod) (.slice amC b.mails.length cmC) ((.slice (some ⟨gOT7, 0, none⟩) (b.tombs.length + 1) capOT7)) (.int .i64 b.hor))
  obtain ⟨U, hU⟩ : ∃ U, U = (((((((wy48.setCell ⟨w.heap.size, 0, none⟩ (.string b.name)).setCell ⟨w.heap.size, 1, none⟩ (.int .i64 b.valid)).setCell ⟨w.heap.size, 2, none⟩ (.int .i64 b.next)).setCell ⟨w.heap.size, 3, none⟩ (.int .i64 b.mod)).setCell ⟨w.heap.size, 4, none⟩ (.slice amC b.mails.length cmC)).setCell ⟨w.heap.size, 5, none⟩ ((.slice (some ⟨gOT7, 0, none⟩) (b.tombs.length + 1) capOT7))).setCell ⟨w.heap.size, 6, none⟩ (.int .i64 b.hor)) := ⟨_, rfl⟩
  have F9 := uh F
  rw [← hU] at F9
  have GU : wy48.grownBy U (some (w.heap.size)) := by rw [hU]; exact g_store (g_store (g_store (g_store (g_store (g_store (g_store (g_self _ _) _) _) _) _) _) _) _
  have GU := hide GU; have EU := hU.symm; clear F hU; have v0 := F9.obj.cell 0 rfl; have v1 := F9.obj.cell 1 rfl; have v2 := F9.obj.cell 2 rfl; have v3 := F9.obj.cell 3 rfl; have v4 := F9.obj.cell 4 rfl; have v5 := F9.obj.cell 5 rfl; have v6 := F9.obj.cell 6 rfl; have F := hide F9; clear F9
  go_wp2_with (refine bodyPost_ret (by simp [results, Tryz.results63, go_sem, v0, v1, v2, v3, v4, v5, v6]; try rfl) rfl ?_)
  clear EU; have F := uh F
  exact ⟨⟨b.name, b.valid, b.next, b.mod, b.mails, b.tombs ++ [(⟨(u : Int), (z : Int)⟩ : Tb)], b.hor⟩, _, _, rfl, AnyBx.tomb (uh OK) _, ⟨F.row (by decide) (uh OM), F.row (by decide) (uh OT)⟩, (uh CU).kept (uh GU) (fun k hk => by have q1_ := Option.some.inj hk; omega), g_new (uh BB) (uh GU) (fun k hk => by have q1_ := Option.some.inj hk; omega)⟩
 ·simp only [show ((5 : Nat) : Int) = 5 from rfl]
  obtain ⟨z, hz, lz⟩ : ∃ z : Nat, (x : Int).tmod 20 = (z : Int) ∧ z < 20 := ⟨x % 20, by rw [Int.tmod_eq_emod_of_nonneg (by omega)]; omega, by omega⟩
  have Qc0_1 := (uh Q).cell 0 rfl; have Qc1_1 := (uh Q).cell 1 rfl; have Qc2_1 := (uh Q).cell 2 rfl; have Qc3_1 := (uh Q).cell 3 rfl; have Qc4_1 := (uh Q).cell 4 rfl; have Qc5_1 := (uh Q).cell 5 rfl; have Qc6_1 := (uh Q).cell 6 rfl
  have CUs := hide ((uh CU).kept (g_store (j := 6) (g_self w6 (some (w5.heap.size))) (.int .i64 (z : Int))) (fun k hk => by have q1_ := Option.some.inj hk; omega))
  have Qfz6_2 := (uh Q).frozen 6; have Qcz6_2 := (uh Q).cell 6 rfl
  obtain ⟨wy57, hst⟩ : ∃ X, X = w6.setCell ⟨w5.heap.size, 6, none⟩ (.int .i64 (z : Int)) := ⟨_, rfl⟩
  have OM_ : Hid (OwnMl w.heap.size wy57 (.slice amC b.mails.length cmC) (b.mails)) := by show OwnMl _ _ _ _; rw [hst]; exact (uh Q).row (j := 6) (by decide) (uh OM) _
  have OT_ : Hid (OwnTb w.heap.size wy57 (.slice atC b.tombs.length ctC) (b.tombs)) := by show OwnTb _ _ _ _; rw [hst]; exact (uh Q).row (j := 6) (by decide) (uh OT) _
  have R_ := hide ((uh R).other (j := 6) neRQ (.int .i64 (z : Int)))
  rw [← hst] at R_
  have Q_ := hide ((uh Q).set 6 (.int .i64 (z : Int)))
  rw [← hst] at Q_
  have BB_ := hide (g_setnew (j := 6) (uh BB) loQ (.int .i64 (z : Int)))
  rw [← hst] at BB_
  have sz7 : Hid (w6.heap.size ≤ wy57.heap.size) := by show _ ≤ _; rw [hst]; simp
  replace OM := OM_; clear OM_; replace OT := OT_; clear OT_; replace R := R_; clear R_; replace Q := Q_; clear Q_; replace BB := BB_; clear BB_; have Est7 := hst.symm; clear hst
  rw [Est7] at CUs
  clear CU; have CU := CUs; clear CUs; have Qc0_3 := (uh Q).cell 0 rfl; have Qc1_3 := (uh Q).cell 1 rfl; have Qc2_3 := (uh Q).cell 2 rfl; have Qc3_3 := (uh Q).cell 3 rfl; have Qc4_3 := (uh Q).cell 4 rfl; have Qc5_3 := (uh Q).cell 5 rfl; have Qc6_3 := (uh Q).cell 6 rfl; have Rf0 := (uh R).frozen 0; have Rf1 := (uh R).frozen 1; have Rf2 := (uh R).frozen 2; have Rf3 := (uh R).frozen 3; have Rf4 := (uh R).frozen 4; have Rf5 := (uh R).frozen 5; have Rf6 := (uh R).frozen 6; have Re0 := (uh R).cell 0 rfl; have Re1 := (uh R).cell 1 rfl; have Re2 := (uh R).cell 2 rfl; have Re3 := (uh R).cell 3 rfl; have Re4 := (uh R).cell 4 rfl; have Re5 := (uh R).cell 5 rfl; have Re6 := (uh R).cell 6 rfl; have F := hide (fill7 (uh R) (.string b.name) (.int .i64 b.valid) (.int .i64 b.next) (.int .i64 b.mod) (.slice amC b.mails.length cmC) (.slice atC b.tombs.length ctC) (.int .i64 (z : Int)))
  obtain ⟨U, hU⟩ : ∃ U, U = (((((((wy57.setCell ⟨w.heap.size, 0, none⟩ (.string b.name)).setCell ⟨w.heap.size, 1, none⟩ (.int .i64 b.valid)).setCell ⟨w.heap.size, 2, none⟩ (.int .i64 b.next)).setCell ⟨w.heap.size, 3, none⟩ (.int .i64 b.mod)).setCell ⟨w.heap.size, 4, none⟩ (.slice amC b.mails.length cmC)).setCell ⟨w.heap.size, 5, none⟩ (.slice atC b.tombs.length ctC)).setCell ⟨w.heap.size, 6, none⟩ (.int .i64 (z : Int))) := ⟨_, rfl⟩
  have F9 := uh F
  rw [← hU] at F9
  have GU : wy57.grownBy U (some (w.heap.size)) := by rw [hU]; exact g_store (g_store (g_store (g_store (g_store (g_store (g_store (g_self _ _) _) _) _) _) _) _) _
  have GU := hide GU; have EU := hU.symm; clear F hU; have v0 := F9.obj.cell 0 rfl; have v1 := F9.obj.cell 1 rfl; have v2 := F9.obj.cell 2 rfl; have v3 := F9.obj.cell 3 rfl; have v4 := F9.obj.cell 4 rfl; have v5 := F9.obj.cell 5 rfl; have v6 := F9.obj.cell 6 rfl; have F := hide F9; clear F9
  go_wp2_with (refine bodyPost_ret (by simp [results, Tryz.results63, go_sem, v0, v1, v2, v3, v4, v5, v6]; try rfl) rfl ?_)
  clear EU; have F := uh F
  exact ⟨⟨b.name, b.valid, b.next, b.mod, b.mails, b.tombs, (z : Int)⟩, _, _, rfl, (uh AN).nums _ _ _ _, ⟨F.row (by decide) (uh OM), F.row (by decide) (uh OT)⟩, (uh CU).kept (uh GU) (fun k hk => by have q1_ := Option.some.inj hk; omega), g_new (uh BB) (uh GU) (fun k hk => by have q1_ := Option.some.inj hk; omega)⟩
 ·simp only [show ((6 : Nat) : Int) = 6 from rfl]
  obtain ⟨z, hz, lz⟩ : ∃ z : Nat, (x : Int).tmod 2 = (z : Int) ∧ z < 2 := ⟨x % 2, by rw [Int.tmod_eq_emod_of_nonneg (by omega)]; omega, by omega⟩
  have nz : IntKind.i64.wrap (9999 - (z : Int)) = 9999 - (z : Int) := by rw [IntKind.wrap_i64]; omega
  have Qc0_1 := (uh Q).cell 0 rfl; have Qc1_1 := (uh Q).cell 1 rfl; have Qc2_1 := (uh Q).cell 2 rfl; have Qc3_1 := (uh Q).cell 3 rfl; have Qc4_1 := (uh Q).cell 4 rfl; have Qc5_1 := (uh Q).cell 5 rfl; have Qc6_1 := (uh Q).cell 6 rfl
  have CUs := hide ((uh CU).kept (g_store (j := 2) (g_self w6 (some (w5.heap.size))) (.int .i64 (9999 - (z : Int)))) (fun k hk => by have q1_ := Option.some.inj hk; omega))
  have Qfz2_2 := (uh Q).frozen 2; have Qcz2_2 := (uh Q).cell 2 rfl
  obtain ⟨wy67, hst⟩ : ∃ X, X = w6.setCell ⟨w5.heap.size, 2, none⟩ (.int .i64 (9999 - (z : Int))) := ⟨_, rfl⟩
  have OM_ : Hid (OwnMl w.heap.size wy67 (.slice amC b.mails.length cmC) (b.mails)) := by show OwnMl _ _ _ _; rw [hst]; exact (uh Q).row (j := 2) (by decide) (uh OM) _
  have OT_ : Hid (OwnTb w.heap.size wy67 (.slice atC b.tombs.length ctC) (b.tombs)) := by show OwnTb _ _ _ _; rw [hst]; exact (uh Q).row (j := 2) (by decide) (uh OT) _
  have R_ := hide ((uh R).other (j := 2) neRQ (.int .i64 (9999 - (z : Int))))
  rw [← hst] at R_
  have Q_ := hide ((uh Q).set 2 (.int .i64 (9999 - (z : Int))))
  rw [← hst] at Q_
  have BB_ := hide (g_setnew (j := 2) (uh BB) loQ (.int .i64 (9999 - (z : Int))))
  rw [← hst] at BB_
  have sz7 : Hid (w6.heap.size ≤ wy67.heap.size) := by show _ ≤ _; rw [hst]; simp
  replace OM := OM_; clear OM_; replace OT := OT_; clear OT_; replace R := R_; clear R_; replace Q := Q_; clear Q_; replace BB := BB_; clear BB_; have Est7 := hst.symm; clear hst
  rw [Est7] at CUs
  clear CU; have CU := CUs; clear CUs; have Qc0_3 := (uh Q).cell 0 rfl; have Qc1_3 := (uh Q).cell 1 rfl; have Qc2_3 := (uh Q).cell 2 rfl; have Qc3_3 := (uh Q).cell 3 rfl; have Qc4_3 := (uh Q).cell 4 rfl; have Qc5_3 := (uh Q).cell 5 rfl; have Qc6_3 := (uh Q).cell 6 rfl; have Rf0 := (uh R).frozen 0; have Rf1 := (uh R).frozen 1; have Rf2 := (uh R).frozen 2; have Rf3 := (uh R).frozen 3; have Rf4 := (uh R).frozen 4; have Rf5 := (uh R).frozen 5; have Rf6 := (uh R).frozen 6; have Re0 := (uh R).cell 0 rfl; have Re1 := (uh R).cell 1 rfl; have Re2 := (uh R).cell 2 rfl; have Re3 := (uh R).cell 3 rfl; have Re4 := (uh R).cell 4 rfl; have Re5 := (uh R).cell 5 rfl; have Re6 := (uh R).cell 6 rfl; have F := hide (fill7 (uh R) (.string b.name) (.int .i64 b.valid) (.int .i64 (9999 - (z : Int))) (.int .i64 b.mod) (.slice amC b.mails.length cmC) (.slice atC b.tombs.length ctC) (.int .i64 b.hor))
  obtain ⟨U, hU⟩ : ∃ U, U = (((((((wy67.setCell ⟨w.heap.size, 0, none⟩ (.string b.name)).setCell ⟨w.heap.size, 1, none⟩ (.int .i64 b.valid)).setCell ⟨w.heap.size, 2, none⟩ (.int .i64 (9999 - (z : Int)))).setCell ⟨w.heap.size, 3, none⟩ (.int .i64 b.mod)).setCell ⟨w.heap.size, 4, none⟩ (.slice amC b.mails.length cmC)).setCell ⟨w.heap.size, 5, none⟩ (.slice atC b.tombs.length ctC)).setCell ⟨w.heap.size, 6, none⟩ (.int .i64 b.hor)) := ⟨_, rfl⟩
  have F9 := uh F
  rw [← hU] at F9
  have GU : wy67.grownBy U (some (w.heap.size)) := by rw [hU]; exact g_store (g_store (g_store (g_store (g_store (g_store (g_store (g_self _ _) _) _) _) _) _) _) _
  have GU := hide GU; have EU := hU.symm; clear F hU; have v0 := F9.obj.cell 0 rfl; have v1 := F9.obj.cell 1 rfl; have v2 := F9.obj.cell 2 rfl; have v3 := F9.obj.cell 3 rfl; have v4 := F9.obj.cell 4 rfl; have v5 := F9.obj.cell 5 rfl; have v6 := F9.obj.cell 6 rfl; have F := hide F9; clear F9
  go_wp2_with (refine bodyPost_ret (by simp [results, Tryz.results63, go_sem, v0, v1, v2, v3, v4, v5, v6]; try rfl) rfl ?_)
  clear EU; have F := uh F
  exact ⟨⟨b.name, b.valid, 9999 - (z : Int), b.mod, b.mails, b.tombs, b.hor⟩, _, _, rfl, (uh AN).nums _ _ _ _, ⟨F.row (by decide) (uh OM), F.row (by decide) (uh OT)⟩, (uh CU).kept (uh GU) (fun k hk => by have q1_ := Option.some.inj hk; omega), g_new (uh BB) (uh GU) (fun k hk => by have q1_ := Option.some.inj hk; omega)⟩
 ·have d0 : ((k : Int) == 0) = false := beq_eq_false_iff_ne.2 (by omega)
  have d1 : ((k : Int) == 1) = false := beq_eq_false_iff_ne.2 (by omega)
  have d2 : ((k : Int) == 2) = false := beq_eq_false_iff_ne.2 (by omega)
  have d3 : ((k : Int) == 3) = false := beq_eq_false_iff_ne.2 (by omega)
  have d4 : ((k : Int) == 4) = false := beq_eq_false_iff_ne.2 (by omega)
  have d5 : ((k : Int) == 5) = false := beq_eq_false_iff_ne.2 (by omega)
  have d6 : ((k : Int) == 6) = false := beq_eq_false_iff_ne.2 (by omega)
  have Qc0_1 := (uh Q).cell 0 rfl; have Qc1_1 := (uh Q).cell 1 rfl; have Qc2_1 := (uh Q).cell 2 rfl; have Qc3_1 := (uh Q).cell 3 rfl; have Qc4_1 := (uh Q).cell 4 rfl; have Qc5_1 := (uh Q).cell 5 rfl; have Qc6_1 := (uh Q).cell 6 rfl; have Rf0 := (uh R).frozen 0; have Rf1 := (uh R).frozen 1; have Rf2 := (uh R).frozen 2; have Rf3 := (uh R).frozen 3; have Rf4 := (uh R).frozen 4; have Rf5 := (uh R).frozen 5; have Rf6 := (uh R).frozen 6; have Re0 := (uh R).cell 0 rfl; have Re1 := (uh R).cell 1 rfl; have Re2 := (uh R).cell 2 rfl; have Re3 := (uh R).cell 3 rfl; have Re4 := (uh R).cell 4 rfl; have Re5 := (uh R).cell 5 rfl; have Re6 := (uh R).cell 6 rfl; have F := hide (fill7 (uh R) (.string b.name) (.int .i64 b.valid) (.int .i64 b.next) (.int .i64 b.mod) (.slice amC b.mails.length cmC) (.slice atC b.tombs.length ctC) (.int .i64 b.hor))
  obtain ⟨U, hU⟩ : ∃ U, U = (((((((w6.setCell ⟨w.heap.size, 0, none⟩ (.string b.name)).setCell ⟨w.heap.size, 1, none⟩ (.int .i64 b.valid)).setCell ⟨w.heap.size, 2, none⟩ (.int .i64 b.next)).setCell ⟨w.heap.size, 3, none⟩ (.int .i64 b.mod)).setCell ⟨w.heap.size, 4, none⟩ (.slice amC b.mails.length cmC)).setCell ⟨w.heap.size, 5, none⟩ (.slice atC b.tombs.length ctC)).setCell ⟨w.heap.size, 6, none⟩ (.int .i64 b.hor)) := ⟨_, rfl⟩
  have F9 := uh F
  rw [← hU] at F9
  have GU : w6.grownBy U (some (w.heap.size)) := by rw [hU]; exact g_store (g_store (g_store (g_store (g_store (g_store (g_store (g_self _ _) _) _) _) _) _) _) _
  have GU := hide GU; have EU := hU.symm; clear F hU; have v0 := F9.obj.cell 0 rfl; have v1 := F9.obj.cell 1 rfl; have v2 := F9.obj.cell 2 rfl; have v3 := F9.obj.cell 3 rfl; have v4 := F9.obj.cell 4 rfl; have v5 := F9.obj.cell 5 rfl; have v6 := F9.obj.cell 6 rfl; have F := hide F9; clear F9
  go_wp2_with (refine bodyPost_ret (by simp [results, Tryz.results63, go_sem, v0, v1, v2, v3, v4, v5, v6]; try rfl) rfl ?_)
  clear EU; have F := uh F
  exact ⟨b, _, _, rfl, uh AN, ⟨F.row (by decide) (uh OM), F.row (by decide) (uh OT)⟩, (uh CU).kept (uh GU) (fun k hk => by have q1_ := Option.some.inj hk; omega), g_new (uh BB) (uh GU) (fun k hk => by have q1_ := Option.some.inj hk; omega)⟩
end Go.Proofs.YtlngjflhbkannaaGreat
