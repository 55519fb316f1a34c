/- Boxes: the program's SetFlags. Made by gen_setflagsi.py. -/
import Derived.Test.YtlngjflhbkannaaGreatTv
import Derived.Test.YtlngjflhbkannaaGreatFlagI
import Derived.Test.YtlngjflhbkannaaGreatBoxI
import Derived.Test.YtlngjflhbkannaaGreatIsA
namespace Go.Proofs.YtlngjflhbkannaaGreat
open Go.RowKit
open Plain
set_option linter.unusedVariables false
set_option linter.unusedSimpArgs false

theorem howOk_any (how : Int) (w : World) : Calls Tryz.prog 81 #[.int .i64 how] w fun e w' => e = .returned (.bool (inI how 1 3)) ∧ w' = w := by
 by_cases h1 : how = 1
 ·subst h1
  rw [show inI 1 1 3 = true from rfl]
  go_enter Tryz.func81, Tryz.ntmps81
  go_wp2
  go_ret
  exact ⟨rfl, rfl⟩
 ·have d1 : (how == 1) = false := beq_eq_false_iff_ne.2 h1
  by_cases h2 : how = 2
  ·subst h2
   rw [show inI 2 1 3 = true from rfl]
   go_enter Tryz.func81, Tryz.ntmps81
   go_wp2
   go_ret
   exact ⟨rfl, rfl⟩
  ·have d2 : (how == 2) = false := beq_eq_false_iff_ne.2 h2
   by_cases h3 : how = 3
   ·subst h3
    rw [show inI 3 1 3 = true from rfl]
    go_enter Tryz.func81, Tryz.ntmps81
    go_wp2
    go_ret
    exact ⟨rfl, rfl⟩
   ·have d3 : (how == 3) = false := beq_eq_false_iff_ne.2 h3
    have e : inI how 1 3 = false := by
     cases hq : inI how 1 3 with
     | false => rfl
     | true => have := inI_iff.1 hq; omega
    rw [e]
    clear h1 h2 h3 e
    go_enter Tryz.func81, Tryz.ntmps81
    go_wp2
    go_ret
    exact ⟨rfl, rfl⟩
namespace Plain
/-- What became of the box, as the program has it. -/
def flBox (b : Bx) (s : List Rg) (how bits since : Int) : Bx := { b with mails := b.mails.map (newM b s how bits since), mod := if (newU s how bits since b.mails).isEmpty = true then b.mod else b.mod + 1 }
theorem flBox_is (b : Bx) (s : List Rg) (how bits since : Int) : fgBox b (fgOf b s how bits since) = flBox b s how bits since := by rw [fg_is]; rfl
end Plain
set_option maxHeartbeats 16000000 in
set_option maxRecDepth 100000 in
theorem impl_SetFlags_any (b : Bx) (m t : Value) (B0 : Nat) (s : List Rg) (vs : Value) (how bits since : Int) (w : World) (hf : FitBx b) (hsl : s.length ≤ 1048576) (hR : ReadO w vs s) (h : OwnBx B0 w m t b) :
  Calls Tryz.prog 24 #[boxV b m t, vs, .int .i64 how, .int .i64 bits, .int .i64 since] w fun e w' => ∃ m' t' vd vl, e = .returned (.tuple #[boxV (flagsV b s how bits since).1 m' t', vd, vl]) ∧ OwnBx w.heap.size w' m' t' (flagsV b s how bits since).1 ∧ OwnR w.heap.size w' vd (flagsV b s how bits since).2.1 ∧ OwnR w.heap.size w' vl (flagsV b s how bits since).2.2 ∧ (∀ x, vd.ownBlock = some x → vl.ownBlock ≠ some x) ∧ Below w.heap.size w w' := by
 have hl2 := hf.tombs
 obtain ⟨am, cm, rfl⟩ := g_shape h.1
 obtain ⟨at1, ct1, rfl⟩ := g_shape h.2
 have HO := hide h; have HF := hide hf; have HR := hide hR
 have V1 := hide (fun hq => flagsV_no1 (b := b) (s := s) (how := how) (bits := bits) (since := since) hq)
 have V2 := hide (fun hq => flagsV_no2 (b := b) (s := s) (how := how) (bits := bits) (since := since) hq)
 have V3 := hide (fun h1 h2 => flagsV_yes (b := b) (s := s) (how := how) (bits := bits) (since := since) h1 h2)
 have FB := hide (fg_fit (s := s) (how := how) (bits := bits) (since := since) hf); have FI := hide (fg_is b s how bits since); have FX := hide (flBox_is b s how bits since); clear h hf hR; have BB := hide (Below.refl w.heap.size w)
 obtain ⟨w1, hP⟩ : ∃ X, X = w.alloc (.cells ([.string b.name, .int .i64 b.valid, .int .i64 b.next, .int .i64 b.mod, .slice am b.mails.length cm, .slice at1 b.tombs.length ct1, .int .i64 b.hor] : List Value).toArray 50) := ⟨_, rfl⟩
 have Px : HasObj w1 w.heap.size 50 [.string b.name, .int .i64 b.valid, .int .i64 b.next, .int .i64 b.mod, .slice am b.mails.length cm, .slice at1 b.tombs.length ct1, .int .i64 b.hor] := by rw [hP]; exact HasObj.new _ _ _
 have hbn : Below w.heap.size w w1 := by rw [hP]; exact (Below.refl _ _).alloc (Nat.le_refl _) _
 have loP : w.heap.size ≤ w.heap.size := (uh BB).size
 have EP := hP.symm; clear hP; have sz1 := hide (hbn.size); replace BB := hide (below_y (uh BB) hbn); clear hbn; have P := hide Px; clear Px
 obtain ⟨w2, hCH⟩ : ∃ X, X = w1.alloc (.cells ([.int .i64 how] : List Value).toArray 3) := ⟨_, rfl⟩
 have CHx : HasObj w2 w1.heap.size 3 [.int .i64 how] := by rw [hCH]; exact HasObj.new _ _ _
 have hbn : Below w1.heap.size w1 w2 := by rw [hCH]; exact (Below.refl _ _).alloc (Nat.le_refl _) _
 have nePCH : w.heap.size ≠ w1.heap.size := Nat.ne_of_lt (uh P).lt
 have loCH : w.heap.size ≤ w1.heap.size := (uh BB).size
 have ECH := hCH.symm; clear hCH; replace P := hide ((uh P).ups hbn); have sz2 := hide (hbn.size); replace BB := hide (below_y (uh BB) hbn); clear hbn; have CH := hide CHx; clear CHx
 obtain ⟨w3, hCB⟩ : ∃ X, X = w2.alloc (.cells ([.int .i64 bits] : List Value).toArray 3) := ⟨_, rfl⟩
 have CBx : HasObj w3 w2.heap.size 3 [.int .i64 bits] := by rw [hCB]; exact HasObj.new _ _ _
 have hbn : Below w2.heap.size w2 w3 := by rw [hCB]; exact (Below.refl _ _).alloc (Nat.le_refl _) _
 have nePCB : w.heap.size ≠ w2.heap.size := Nat.ne_of_lt (uh P).lt
 have neCHCB : w1.heap.size ≠ w2.heap.size := Nat.ne_of_lt (uh CH).lt
 have loCB : w.heap.size ≤ w2.heap.size := (uh BB).size
 have ECB := hCB.symm; clear hCB; replace P := hide ((uh P).ups hbn); replace CH := hide ((uh CH).ups hbn); have sz3 := hide (hbn.size); replace BB := hide (below_y (uh BB) hbn); clear hbn; have CB := hide CBx; clear CBx
 obtain ⟨w4, hR⟩ : ∃ X, X = w3.alloc (.cells ([.string ⟨#[]⟩, .int .i64 0, .int .i64 0, .int .i64 0, .slice none 0 0, .slice none 0 0, .int .i64 0] : List Value).toArray 50) := ⟨_, rfl⟩
 have Rx : HasObj w4 w3.heap.size 50 [.string ⟨#[]⟩, .int .i64 0, .int .i64 0, .int .i64 0, .slice none 0 0, .slice none 0 0, .int .i64 0] := by rw [hR]; exact HasObj.new _ _ _
 have hbn : Below w3.heap.size w3 w4 := by rw [hR]; exact (Below.refl _ _).alloc (Nat.le_refl _) _
 have nePR : w.heap.size ≠ w3.heap.size := Nat.ne_of_lt (uh P).lt
 have neCHR : w1.heap.size ≠ w3.heap.size := Nat.ne_of_lt (uh CH).lt
 have neCBR : w2.heap.size ≠ w3.heap.size := Nat.ne_of_lt (uh CB).lt
 have loR : w.heap.size ≤ w3.heap.size := (uh BB).size
 have ER := hR.symm; clear hR; replace P := hide ((uh P).ups hbn); replace CH := hide ((uh CH).ups hbn); replace CB := hide ((uh CB).ups hbn); have sz4 := hide (hbn.size); replace BB := hide (below_y (uh BB) hbn); clear hbn; have R := hide Rx; clear Rx; have Pc0_1 := (uh P).cell 0 rfl; have Pc1_1 := (uh P).cell 1 rfl; have Pc2_1 := (uh P).cell 2 rfl; have Pc3_1 := (uh P).cell 3 rfl; have Pc4_1 := (uh P).cell 4 rfl; have Pc5_1 := (uh P).cell 5 rfl; have Pc6_1 := (uh P).cell 6 rfl
 go_enter Tryz.func24, Tryz.ntmps24
 go_wp2_with fail; clear Pc0_1 Pc1_1 Pc2_1 Pc3_1 Pc4_1 Pc5_1 Pc6_1 EP ECH ECB ER
 refine (impl_BoxOk_any b _ _ B0 _ (uh HF) ((uh HO).up (uh BB))).mono ?_
 rintro e w5 ⟨rfl, hb⟩
 replace P := hide ((uh P).ups hb); replace CH := hide ((uh CH).ups hb); replace CB := hide ((uh CB).ups hb); replace R := hide ((uh R).ups hb); have sz5 := hide (hb.size); replace BB := hide (below_y (uh BB) hb); clear hb
 cases hq1 : boxOk b with
 | false =>
  have Pc0_2 := (uh P).cell 0 rfl; have Pc1_2 := (uh P).cell 1 rfl; have Pc2_2 := (uh P).cell 2 rfl; have Pc3_2 := (uh P).cell 3 rfl; have Pc4_2 := (uh P).cell 4 rfl; have Pc5_2 := (uh P).cell 5 rfl; have Pc6_2 := (uh P).cell 6 rfl; go_wp2_with fail; clear Pc0_2 Pc1_2 Pc2_2 Pc3_2 Pc4_2 Pc5_2 Pc6_2
  refine (copiedBox_any b _ _ B0 _ (uh HF) ((uh HO).up (uh BB))).mono ?_
  rintro e whq16 ⟨vm, vt, rfl, ob, hb⟩
  obtain ⟨am7, cm7, rfl⟩ := g_shape ob.1
  obtain ⟨at7, ct7, rfl⟩ := g_shape ob.2
  replace P := hide ((uh P).ups hb); replace CH := hide ((uh CH).ups hb); replace CB := hide ((uh CB).ups hb); replace R := hide ((uh R).ups hb); have sz6 := hide (hb.size); replace BB := hide (below_y (uh BB) hb); clear hb; have OM7 := hide ob.1; have OT7 := hide ob.2; clear ob
  have V := hide (uh V1 (by unfold fgOk; rw [hq1]; rfl))
  have Rf0 := (uh R).frozen 0; have Rf1 := (uh R).frozen 1; have Rf2 := (uh R).frozen 2; have Rf3 := (uh R).frozen 3; have Rf4 := (uh R).frozen 4; have Rf5 := (uh R).frozen 5; have Rf6 := (uh R).frozen 6; have Re0 := (uh R).cell 0 rfl; have Re1 := (uh R).cell 1 rfl; have Re2 := (uh R).cell 2 rfl; have Re3 := (uh R).cell 3 rfl; have Re4 := (uh R).cell 4 rfl; have Re5 := (uh R).cell 5 rfl; have Re6 := (uh R).cell 6 rfl; have F := hide (fill7 (uh R) (.string b.name) (.int .i64 b.valid) (.int .i64 b.next) (.int .i64 b.mod) (.slice am7 b.mails.length cm7) (.slice at7 b.tombs.length ct7) (.int .i64 b.hor))
  go_wp2
  obtain ⟨U, hU⟩ : ∃ U, U = (((((((whq16.setCell ⟨w3.heap.size, 0, none⟩ (.string b.name)).setCell ⟨w3.heap.size, 1, none⟩ (.int .i64 b.valid)).setCell ⟨w3.heap.size, 2, none⟩ (.int .i64 b.next)).setCell ⟨w3.heap.size, 3, none⟩ (.int .i64 b.mod)).setCell ⟨w3.heap.size, 4, none⟩ (.slice am7 b.mails.length cm7)).setCell ⟨w3.heap.size, 5, none⟩ (.slice at7 b.tombs.length ct7)).setCell ⟨w3.heap.size, 6, none⟩ (.int .i64 b.hor)) := ⟨_, rfl⟩
  have F := uh F
  rw [← hU] at F ⊢
  have v0 := F.obj.cell 0 rfl; have v1 := F.obj.cell 1 rfl; have v2 := F.obj.cell 2 rfl; have v3 := F.obj.cell 3 rfl; have v4 := F.obj.cell 4 rfl; have v5 := F.obj.cell 5 rfl; have v6 := F.obj.cell 6 rfl
  refine bodyPost_ret (by simp [results, Tryz.results24, go_sem, v0, v1, v2, v3, v4, v5, v6]; try rfl) rfl ?_
  refine ⟨_, _, _, _, by rw [uh V], ?_, by rw [uh V]; exact World.ownsRow_nil _ _ _ _, by rw [uh V]; exact World.ownsRow_nil _ _ _ _, (fun x hx => by cases hx), F.below loR (uh BB)⟩
  rw [uh V]
  exact ⟨g_based (F.row (by decide) (uh OM7)) (by have sz1_ := uh sz1; have sz2_ := uh sz2; have sz3_ := uh sz3; have sz4_ := uh sz4; have sz5_ := uh sz5; have sz6_ := uh sz6; omega), g_based (F.row (by decide) (uh OT7)) (by have sz1_ := uh sz1; have sz2_ := uh sz2; have sz3_ := uh sz3; have sz4_ := uh sz4; have sz5_ := uh sz5; have sz6_ := uh sz6; omega)⟩
 | true =>
  go_wp2_with fail
  refine (impl_SetOk_any s vs _ hsl ((uh HR).up (uh BB))).mono ?_
  rintro e w6 ⟨rfl, hb⟩
  replace P := hide ((uh P).ups hb); replace CH := hide ((uh CH).ups hb); replace CB := hide ((uh CB).ups hb); replace R := hide ((uh R).ups hb); have sz6 := hide (hb.size); replace BB := hide (below_y (uh BB) hb); clear hb
  cases hq2 : okS s with
  | false =>
   have Pc0_2 := (uh P).cell 0 rfl; have Pc1_2 := (uh P).cell 1 rfl; have Pc2_2 := (uh P).cell 2 rfl; have Pc3_2 := (uh P).cell 3 rfl; have Pc4_2 := (uh P).cell 4 rfl; have Pc5_2 := (uh P).cell 5 rfl; have Pc6_2 := (uh P).cell 6 rfl; go_wp2_with fail; clear Pc0_2 Pc1_2 Pc2_2 Pc3_2 Pc4_2 Pc5_2 Pc6_2
   refine (copiedBox_any b _ _ B0 _ (uh HF) ((uh HO).up (uh BB))).mono ?_
   rintro e whq27 ⟨vm, vt, rfl, ob, hb⟩
   obtain ⟨am7, cm7, rfl⟩ := g_shape ob.1
   obtain ⟨at7, ct7, rfl⟩ := g_shape ob.2
   replace P := hide ((uh P).ups hb); replace CH := hide ((uh CH).ups hb); replace CB := hide ((uh CB).ups hb); replace R := hide ((uh R).ups hb); have sz7 := hide (hb.size); replace BB := hide (below_y (uh BB) hb); clear hb; have OM7 := hide ob.1; have OT7 := hide ob.2; clear ob
   have V := hide (uh V1 (by unfold fgOk; rw [hq1, hq2]; rfl))
   have Rf0 := (uh R).frozen 0; have Rf1 := (uh R).frozen 1; have Rf2 := (uh R).frozen 2; have Rf3 := (uh R).frozen 3; have Rf4 := (uh R).frozen 4; have Rf5 := (uh R).frozen 5; have Rf6 := (uh R).frozen 6; have Re0 := (uh R).cell 0 rfl; have Re1 := (uh R).cell 1 rfl; have Re2 := (uh R).cell 2 rfl; have Re3 := (uh R).cell 3 rfl; have Re4 := (uh R).cell 4 rfl; have Re5 := (uh R).cell 5 rfl; have Re6 := (uh R).cell 6 rfl; have F := hide (fill7 (uh R) (.string b.name) (.int .i64 b.valid) (.int .i64 b.next) (.int .i64 b.mod) (.slice am7 b.mails.length cm7) (.slice at7 b.tombs.length ct7) (.int .i64 b.hor))
   go_wp2
   obtain ⟨U, hU⟩ : ∃ U, U = (((((((whq27.setCell ⟨w3.heap.size, 0, none⟩ (.string b.name)).setCell ⟨w3.heap.size, 1, none⟩ (.int .i64 b.valid)).setCell ⟨w3.heap.size, 2, none⟩ (.int .i64 b.next)).setCell ⟨w3.heap.size, 3, none⟩ (.int .i64 b.mod)).setCell ⟨w3.heap.size, 4, none⟩ (.slice am7 b.mails.length cm7)).setCell ⟨w3.heap.size, 5, none⟩ (.slice at7 b.tombs.length ct7)).setCell ⟨w3.heap.size, 6, none⟩ (.int .i64 b.hor)) := ⟨_, rfl⟩
   have F := uh F
   rw [← hU] at F ⊢
   have v0 := F.obj.cell 0 rfl; have v1 := F.obj.cell 1 rfl; have v2 := F.obj.cell 2 rfl; have v3 := F.obj.cell 3 rfl; have v4 := F.obj.cell 4 rfl; have v5 := F.obj.cell 5 rfl; have v6 := F.obj.cell 6 rfl
   refine bodyPost_ret (by simp [results, Tryz.results24, go_sem, v0, v1, v2, v3, v4, v5, v6]; try rfl) rfl ?_
   refine ⟨_, _, _, _, by rw [uh V], ?_, by rw [uh V]; exact World.ownsRow_nil _ _ _ _, by rw [uh V]; exact World.ownsRow_nil _ _ _ _, (fun x hx => by cases hx), F.below loR (uh BB)⟩
   rw [uh V]
   exact ⟨g_based (F.row (by decide) (uh OM7)) (by have sz1_ := uh sz1; have sz2_ := uh sz2; have sz3_ := uh sz3; have sz4_ := uh sz4; have sz5_ := uh sz5; have sz6_ := uh sz6; have sz7_ := uh sz7; omega), g_based (F.row (by decide) (uh OT7)) (by have sz1_ := uh sz1; have sz2_ := uh sz2; have sz3_ := uh sz3; have sz4_ := uh sz4; have sz5_ := uh sz5; have sz6_ := uh sz6; have sz7_ := uh sz7; omega)⟩
  | true =>
   have CHc0_2 := (uh CH).cell 0 rfl; go_wp2_with fail; clear CHc0_2
   refine (howOk_any how _).mono ?_
   rintro e w7 ⟨rfl, hw⟩
   subst w7
   cases hq3 : inI how 1 3 with
   | false =>
    have Pc0_3 := (uh P).cell 0 rfl; have Pc1_3 := (uh P).cell 1 rfl; have Pc2_3 := (uh P).cell 2 rfl; have Pc3_3 := (uh P).cell 3 rfl; have Pc4_3 := (uh P).cell 4 rfl; have Pc5_3 := (uh P).cell 5 rfl; have Pc6_3 := (uh P).cell 6 rfl; go_wp2_with fail; clear Pc0_3 Pc1_3 Pc2_3 Pc3_3 Pc4_3 Pc5_3 Pc6_3
    refine (copiedBox_any b _ _ B0 _ (uh HF) ((uh HO).up (uh BB))).mono ?_
    rintro e whq38 ⟨vm, vt, rfl, ob, hb⟩
    obtain ⟨am7, cm7, rfl⟩ := g_shape ob.1
    obtain ⟨at7, ct7, rfl⟩ := g_shape ob.2
    replace P := hide ((uh P).ups hb); replace CH := hide ((uh CH).ups hb); replace CB := hide ((uh CB).ups hb); replace R := hide ((uh R).ups hb); have sz7 := hide (hb.size); replace BB := hide (below_y (uh BB) hb); clear hb; have OM7 := hide ob.1; have OT7 := hide ob.2; clear ob
    have V := hide (uh V1 (by unfold fgOk; rw [hq1, hq2, hq3]; rfl))
    have Rf0 := (uh R).frozen 0; have Rf1 := (uh R).frozen 1; have Rf2 := (uh R).frozen 2; have Rf3 := (uh R).frozen 3; have Rf4 := (uh R).frozen 4; have Rf5 := (uh R).frozen 5; have Rf6 := (uh R).frozen 6; have Re0 := (uh R).cell 0 rfl; have Re1 := (uh R).cell 1 rfl; have Re2 := (uh R).cell 2 rfl; have Re3 := (uh R).cell 3 rfl; have Re4 := (uh R).cell 4 rfl; have Re5 := (uh R).cell 5 rfl; have Re6 := (uh R).cell 6 rfl; have F := hide (fill7 (uh R) (.string b.name) (.int .i64 b.valid) (.int .i64 b.next) (.int .i64 b.mod) (.slice am7 b.mails.length cm7) (.slice at7 b.tombs.length ct7) (.int .i64 b.hor))
    go_wp2
    obtain ⟨U, hU⟩ : ∃ U, U = (((((((whq38.setCell ⟨w3.heap.size, 0, none⟩ (.string b.name)).setCell ⟨w3.heap.size, 1, none⟩ (.int .i64 b.valid)).setCell ⟨w3.heap.size, 2, none⟩ (.int .i64 b.next)).setCell ⟨w3.heap.size, 3, none⟩ (.int .i64 b.mod)).setCell ⟨w3.heap.size, 4, none⟩ (.slice am7 b.mails.length cm7)).setCell ⟨w3.heap.size, 5, none⟩ (.slice at7 b.tombs.length ct7)).setCell ⟨w3.heap.size, 6, none⟩ (.int .i64 b.hor)) := ⟨_, rfl⟩
    have F := uh F
    rw [← hU] at F ⊢
    have v0 := F.obj.cell 0 rfl; have v1 := F.obj.cell 1 rfl; have v2 := F.obj.cell 2 rfl; have v3 := F.obj.cell 3 rfl; have v4 := F.obj.cell 4 rfl; have v5 := F.obj.cell 5 rfl; have v6 := F.obj.cell 6 rfl
    refine bodyPost_ret (by simp [results, Tryz.results24, go_sem, v0, v1, v2, v3, v4, v5, v6]; try rfl) rfl ?_
    refine ⟨_, _, _, _, by rw [uh V], ?_, by rw [uh V]; exact World.ownsRow_nil _ _ _ _, by rw [uh V]; exact World.ownsRow_nil _ _ _ _, (fun x hx => by cases hx), F.below loR (uh BB)⟩
    rw [uh V]
    exact ⟨g_based (F.row (by decide) (uh OM7)) (by have sz1_ := uh sz1; have sz2_ := uh sz2; have sz3_ := uh sz3; have sz4_ := uh sz4; have sz5_ := uh sz5; have sz6_ := uh sz6; have sz7_ := uh sz7; omega), g_based (F.row (by decide) (uh OT7)) (by have sz1_ := uh sz1; have sz2_ := uh sz2; have sz3_ := uh sz3; have sz4_ := uh sz4; have sz5_ := uh sz5; have sz6_ := uh sz6; have sz7_ := uh sz7; omega)⟩
   | true =>
    have CBc0_3 := (uh CB).cell 0 rfl; go_wp2_with fail; clear CBc0_3
    refine (impl_FlagsOk_any bits _).mono ?_
    rintro e w8 ⟨rfl, hw⟩
    subst w8
    cases hq4 : flOk bits with
    | false =>
     have Pc0_4 := (uh P).cell 0 rfl; have Pc1_4 := (uh P).cell 1 rfl; have Pc2_4 := (uh P).cell 2 rfl; have Pc3_4 := (uh P).cell 3 rfl; have Pc4_4 := (uh P).cell 4 rfl; have Pc5_4 := (uh P).cell 5 rfl; have Pc6_4 := (uh P).cell 6 rfl; go_wp2_with fail; clear Pc0_4 Pc1_4 Pc2_4 Pc3_4 Pc4_4 Pc5_4 Pc6_4
     refine (copiedBox_any b _ _ B0 _ (uh HF) ((uh HO).up (uh BB))).mono ?_
     rintro e whq49 ⟨vm, vt, rfl, ob, hb⟩
     obtain ⟨am7, cm7, rfl⟩ := g_shape ob.1
     obtain ⟨at7, ct7, rfl⟩ := g_shape ob.2
     replace P := hide ((uh P).ups hb); replace CH := hide ((uh CH).ups hb); replace CB := hide ((uh CB).ups hb); replace R := hide ((uh R).ups hb); have sz7 := hide (hb.size); replace BB := hide (below_y (uh BB) hb); clear hb; have OM7 := hide ob.1; have OT7 := hide ob.2; clear ob
     have V := hide (uh V1 (by unfold fgOk; rw [hq1, hq2, hq3, hq4]; rfl))
     have Rf0 := (uh R).frozen 0; have Rf1 := (uh R).frozen 1; have Rf2 := (uh R).frozen 2; have Rf3 := (uh R).frozen 3; have Rf4 := (uh R).frozen 4; have Rf5 := (uh R).frozen 5; have Rf6 := (uh R).frozen 6; have Re0 := (uh R).cell 0 rfl; have Re1 := (uh R).cell 1 rfl; have Re2 := (uh R).cell 2 rfl; have Re3 := (uh R).cell 3 rfl; have Re4 := (uh R).cell 4 rfl; have Re5 := (uh R).cell 5 rfl; have Re6 := (uh R).cell 6 rfl; have F := hide (fill7 (uh R) (.string b.name) (.int .i64 b.valid) (.int .i64 b.next) (.int .i64 b.mod) (.slice am7 b.mails.length cm7) (.slice at7 b.tombs.length ct7) (.int .i64 b.hor))
     go_wp2
     obtain ⟨U, hU⟩ : ∃ U, U = (((((((whq49.setCell ⟨w3.heap.size, 0, none⟩ (.string b.name)).setCell ⟨w3.heap.size, 1, none⟩ (.int .i64 b.valid)).setCell ⟨w3.heap.size, 2, none⟩ (.int .i64 b.next)).setCell ⟨w3.heap.size, 3, none⟩ (.int .i64 b.mod)).setCell ⟨w3.heap.size, 4, none⟩ (.slice am7 b.mails.length cm7)).setCell ⟨w3.heap.size, 5, none⟩ (.slice at7 b.tombs.length ct7)).setCell ⟨w3.heap.size, 6, none⟩ (.int .i64 b.hor)) := ⟨_, rfl⟩
     have F := uh F
     rw [← hU] at F ⊢
     have v0 := F.obj.cell 0 rfl; have v1 := F.obj.cell 1 rfl; have v2 := F.obj.cell 2 rfl; have v3 := F.obj.cell 3 rfl; have v4 := F.obj.cell 4 rfl; have v5 := F.obj.cell 5 rfl; have v6 := F.obj.cell 6 rfl
     refine bodyPost_ret (by simp [results, Tryz.results24, go_sem, v0, v1, v2, v3, v4, v5, v6]; try rfl) rfl ?_
     refine ⟨_, _, _, _, by rw [uh V], ?_, by rw [uh V]; exact World.ownsRow_nil _ _ _ _, by rw [uh V]; exact World.ownsRow_nil _ _ _ _, (fun x hx => by cases hx), F.below loR (uh BB)⟩
     rw [uh V]
     exact ⟨g_based (F.row (by decide) (uh OM7)) (by have sz1_ := uh sz1; have sz2_ := uh sz2; have sz3_ := uh sz3; have sz4_ := uh sz4; have sz5_ := uh sz5; have sz6_ := uh sz6; have sz7_ := uh sz7; omega), g_based (F.row (by decide) (uh OT7)) (by have sz1_ := uh sz1; have sz2_ := uh sz2; have sz3_ := uh sz3; have sz4_ := uh sz4; have sz5_ := uh sz5; have sz6_ := uh sz6; have sz7_ := uh sz7; omega)⟩
    | true =>
     have FOK : Hid (fgOk b s how bits = true) := by show fgOk b s how bits = true; unfold fgOk; rw [hq1, hq2, hq3, hq4]; rfl
     have hmod := inI_iff.1 (head_parts (boxOk_iff.1 hq1).1).2.2.2.1; have h30 := (head_parts (boxOk_iff.1 hq1).1).2.2.2.2.1; have NR := hide (newU_right (s := s) (how := how) (bits := bits) (since := since) hq1); have LR := hide (lateU_right (s := s) (since := since) hq1); clear hq1 hq2 hq3 hq4
     have nm : IntKind.i64.wrap (b.mod + 1) = b.mod + 1 := by rw [IntKind.wrap_i64]; omega
     have Pc0_4 := (uh P).cell 0 rfl; have Pc1_4 := (uh P).cell 1 rfl; have Pc2_4 := (uh P).cell 2 rfl; have Pc3_4 := (uh P).cell 3 rfl; have Pc4_4 := (uh P).cell 4 rfl; have Pc5_4 := (uh P).cell 5 rfl; have Pc6_4 := (uh P).cell 6 rfl; go_wp2_with fail; clear Pc0_4 Pc1_4 Pc2_4 Pc3_4 Pc4_4 Pc5_4 Pc6_4
     refine (opened_any b _ _ B0 _ (uh HF) ((uh HO).up (uh BB))).mono ?_
     rintro e w9 ⟨vl, vt, rfl, ol, ot, hb⟩
     obtain ⟨al, cl, rfl⟩ := g_shape ol
     obtain ⟨a2, c2, rfl⟩ := g_shape ot
     replace P := hide ((uh P).ups hb); replace CH := hide ((uh CH).ups hb); replace CB := hide ((uh CB).ups hb); replace R := hide ((uh R).ups hb); have sz7 := hide (hb.size); replace BB := hide (below_y (uh BB) hb); clear hb
     have OL : Hid (OwnMl w6.heap.size w9 (.slice al b.mails.length cl) (b.mails)) := ol
     have OT : Hid (OwnTb w6.heap.size w9 (.slice a2 b.tombs.length c2) (b.tombs)) := ot
     clear ol ot
     obtain ⟨w10, hQ⟩ : ∃ X, X = w9.alloc (.cells ([.slice al b.mails.length cl, .string b.name, .int .i64 b.valid, .int .i64 b.next, .int .i64 b.mod, .slice none 0 0, .slice a2 b.tombs.length c2, .int .i64 b.hor] : List Value).toArray 97) := ⟨_, rfl⟩
     have Qx : HasObj w10 w9.heap.size 97 [.slice al b.mails.length cl, .string b.name, .int .i64 b.valid, .int .i64 b.next, .int .i64 b.mod, .slice none 0 0, .slice a2 b.tombs.length c2, .int .i64 b.hor] := by rw [hQ]; exact HasObj.new _ _ _
     have hbn : Below w9.heap.size w9 w10 := by rw [hQ]; exact (Below.refl _ _).alloc (Nat.le_refl _) _
     have nePQ : w.heap.size ≠ w9.heap.size := Nat.ne_of_lt (uh P).lt
     have neCHQ : w1.heap.size ≠ w9.heap.size := Nat.ne_of_lt (uh CH).lt
     have neCBQ : w2.heap.size ≠ w9.heap.size := Nat.ne_of_lt (uh CB).lt
     have neRQ : w3.heap.size ≠ w9.heap.size := Nat.ne_of_lt (uh R).lt
     have loQ : w.heap.size ≤ w9.heap.size := (uh BB).size
     have EQ := hQ.symm; clear hQ; replace P := hide ((uh P).ups hbn); replace CH := hide ((uh CH).ups hbn); replace CB := hide ((uh CB).ups hbn); replace R := hide ((uh R).ups hbn); replace OL := hide ((uh OL).up hbn); replace OT := hide ((uh OT).up hbn); have sz8 := hide (hbn.size); replace BB := hide (below_y (uh BB) hbn); clear hbn; have Q := hide Qx; clear Qx; have Qc0_5 := (uh Q).cell 0 rfl; have Qc1_5 := (uh Q).cell 1 rfl; have Qc2_5 := (uh Q).cell 2 rfl; have Qc3_5 := (uh Q).cell 3 rfl; have Qc4_5 := (uh Q).cell 4 rfl; have Qc5_5 := (uh Q).cell 5 rfl; have Qc6_5 := (uh Q).cell 6 rfl; have Qc7_5 := (uh Q).cell 7 rfl; have Pc0_6 := (uh P).cell 0 rfl; have Pc1_6 := (uh P).cell 1 rfl; have Pc2_6 := (uh P).cell 2 rfl; have Pc3_6 := (uh P).cell 3 rfl; have Pc4_6 := (uh P).cell 4 rfl; have Pc5_6 := (uh P).cell 5 rfl; have Pc6_6 := (uh P).cell 6 rfl; go_wp2_with fail; clear Qc0_5 Qc1_5 Qc2_5 Qc3_5 Qc4_5 Qc5_5 Qc6_5 Qc7_5 Pc0_6 Pc1_6 Pc2_6 Pc3_6 Pc4_6 Pc5_6 Pc6_6 EQ
     have nOL := fun k (hk : Value.ownBlock (.slice al b.mails.length cl) = some k) => (World.ownsRow.lt (uh OL) k hk).1
     refine (flag_any b s vs (.slice al b.mails.length cl) (w6.heap.size) _ _ how bits since _ h30 hsl (fun Wx hx => (uh HR).up ((uh BB).grown hx (uh BB).size (fun k hk => by have q8_ := nOL k hk; have sz1_ := uh sz1; have sz2_ := uh sz2; have sz3_ := uh sz3; have sz4_ := uh sz4; have sz5_ := uh sz5; have sz6_ := uh sz6; have sz7_ := uh sz7; have sz8_ := uh sz8; omega))) (uh CH) (uh CB) (uh OL)).mono ?_
     rintro e w11 ⟨vc, vl, rfl, oc, ol, om, hgr⟩
     have P_ := hide ((uh P).kept hgr (fun e => (uh P).not_row (by decide) (uh OL) e.symm))
     have CH_ := hide ((uh CH).kept hgr (fun e => (uh CH).not_row (by decide) (uh OL) e.symm))
     have CB_ := hide ((uh CB).kept hgr (fun e => (uh CB).not_row (by decide) (uh OL) e.symm))
     have R_ := hide ((uh R).kept hgr (fun e => (uh R).not_row (by decide) (uh OL) e.symm))
     have Q_ := hide ((uh Q).kept hgr (fun e => (uh Q).not_row (by decide) (uh OL) e.symm))
     have OT_ : Hid (OwnTb w6.heap.size w11 (.slice a2 b.tombs.length c2) (b.tombs)) := g_aside (uh OT) hgr (fun x hx => rows_apart (uh OL) (uh OT) (by decide) x hx)
     have BB_ : Hid (Below w.heap.size w w11) := (uh BB).grown hgr (uh BB).size (fun k hk => by have q8_ := nOL k hk; have sz1_ := uh sz1; have sz2_ := uh sz2; have sz3_ := uh sz3; have sz4_ := uh sz4; have sz5_ := uh sz5; have sz6_ := uh sz6; have sz7_ := uh sz7; have sz8_ := uh sz8; omega)
     have szf := hide hgr.size; replace P := P_; clear P_; replace CH := CH_; clear CH_; replace CB := CB_; clear CB_; replace R := R_; clear R_; replace Q := Q_; clear Q_; replace OT := OT_; clear OT_; replace BB := BB_; clear BB_
     obtain ⟨avc, cvc, rfl⟩ := g_shape oc
     obtain ⟨avl, cvl, rfl⟩ := g_shape ol
     clear OL
     have OM : Hid (OwnMl (w6.heap.size) w11 (.slice al b.mails.length cl) (b.mails.map (newM b s how bits since))) := om
     have OC := hide oc; have OLT := hide ol; clear om oc ol hgr nOL
     have EMP : Hid ((newU s how bits since b.mails).isEmpty = decide ((newU s how bits since b.mails).length = 0)) := by show _ = _; cases newU s how bits since b.mails <;> rfl
     by_cases hn : 0 < (newU s how bits since b.mails).length
     ·have MD : Hid ((if (newU s how bits since b.mails).isEmpty = true then b.mod else b.mod + 1) = b.mod + 1) := by show _ = _; rw [uh EMP, decide_eq_false (by omega)]; rfl
      have dn : (0 : Int) < ((newU s how bits since b.mails).length : Int) := by omega
      clear hn; have Qc0_7 := (uh Q).cell 0 rfl; have Qc1_7 := (uh Q).cell 1 rfl; have Qc2_7 := (uh Q).cell 2 rfl; have Qc3_7 := (uh Q).cell 3 rfl; have Qc4_7 := (uh Q).cell 4 rfl; have Qc5_7 := (uh Q).cell 5 rfl; have Qc6_7 := (uh Q).cell 6 rfl; have Qc7_7 := (uh Q).cell 7 rfl; have Qfz4_8 := (uh Q).frozen 4; have Qcz4_8 := (uh Q).cell 4 rfl
      obtain ⟨wp12, hst⟩ : ∃ X, X = w11.setCell ⟨w9.heap.size, 4, none⟩ (.int .i64 (b.mod + 1)) := ⟨_, rfl⟩
      have OT_ : Hid (OwnTb w6.heap.size wp12 (.slice a2 b.tombs.length c2) (b.tombs)) := by show OwnTb _ _ _ _; rw [hst]; exact (uh Q).row (j := 4) (by decide) (uh OT) _
      have OM_ : Hid (OwnMl w6.heap.size wp12 (.slice al b.mails.length cl) (b.mails.map (newM b s how bits since))) := by show OwnMl _ _ _ _; rw [hst]; exact (uh Q).row (j := 4) (by decide) (uh OM) _
      have OC_ : Hid (OwnI w10.heap.size wp12 (.slice avc (newU s how bits since b.mails).length cvc) (newU s how bits since b.mails)) := by show OwnI _ _ _ _; rw [hst]; exact (uh Q).row (j := 4) (by decide) (uh OC) _
      have OLT_ : Hid (OwnI w10.heap.size wp12 (.slice avl (lateU s since b.mails).length cvl) (lateU s since b.mails)) := by show OwnI _ _ _ _; rw [hst]; exact (uh Q).row (j := 4) (by decide) (uh OLT) _
      have P_ := hide ((uh P).other (j := 4) nePQ (.int .i64 (b.mod + 1)))
      rw [← hst] at P_
      have CH_ := hide ((uh CH).other (j := 4) neCHQ (.int .i64 (b.mod + 1)))
      rw [← hst] at CH_
      have CB_ := hide ((uh CB).other (j := 4) neCBQ (.int .i64 (b.mod + 1)))
      rw [← hst] at CB_
      have R_ := hide ((uh R).other (j := 4) neRQ (.int .i64 (b.mod + 1)))
      rw [← hst] at R_
      have Q_ := hide ((uh Q).set 4 (.int .i64 (b.mod + 1)))
      rw [← hst] at Q_
      have BB_ := hide ((uh BB).setCell (p := ⟨w9.heap.size, 4, none⟩) (show w.heap.size ≤ w9.heap.size from loQ) (.int .i64 (b.mod + 1)))
      rw [← hst] at BB_
      have sz9 : Hid (w11.heap.size ≤ wp12.heap.size) := by show _ ≤ _; rw [hst]; simp
      replace OT := OT_; clear OT_; replace OM := OM_; clear OM_; replace OC := OC_; clear OC_; replace OLT := OLT_; clear OLT_; replace P := P_; clear P_; replace CH := CH_; clear CH_; replace CB := CB_; clear CB_; replace R := R_; clear R_; replace Q := Q_; clear Q_; replace BB := BB_; clear BB_; have Est9 := hst.symm; clear hst
      have EB : Hid (flBox b s how bits since = { b with mails := b.mails.map (newM b s how bits since), mod := b.mod + 1 }) := by show _ = _; unfold flBox; rw [uh MD]
      have Qc0_9 := (uh Q).cell 0 rfl; have Qc1_9 := (uh Q).cell 1 rfl; have Qc2_9 := (uh Q).cell 2 rfl; have Qc3_9 := (uh Q).cell 3 rfl; have Qc4_9 := (uh Q).cell 4 rfl; have Qc5_9 := (uh Q).cell 5 rfl; have Qc6_9 := (uh Q).cell 6 rfl; have Qc7_9 := (uh Q).cell 7 rfl; go_wp2_with fail; clear Qc0_7 Qc1_7 Qc2_7 Qc3_7 Qc4_7 Qc5_7 Qc6_7 Qc7_7 Qfz4_8 Qcz4_8 dn Qc0_9 Qc1_9 Qc2_9 Qc3_9 Qc4_9 Qc5_9 Qc6_9 Qc7_9 Est9
      refine (box_any { b with mod := b.mod + 1, mails := [] } _ _ _ _ _ _ _ _ _ _).mono ?_
      rintro e wp13 ⟨rfl, hb⟩
      replace P := hide ((uh P).ups hb); replace CH := hide ((uh CH).ups hb); replace CB := hide ((uh CB).ups hb); replace R := hide ((uh R).ups hb); replace Q := hide ((uh Q).ups hb); replace OT := hide ((uh OT).up hb); replace OM := hide ((uh OM).up hb); replace OC := hide ((uh OC).up hb); replace OLT := hide ((uh OLT).up hb); have sz10 := hide (hb.size); replace BB := hide (below_y (uh BB) hb); clear hb
      obtain ⟨wp14, hN⟩ : ∃ X, X = wp13.alloc (.cells ([.string b.name, .int .i64 b.valid, .int .i64 b.next, .int .i64 (b.mod + 1), .slice al b.mails.length cl, .slice a2 b.tombs.length c2, .int .i64 b.hor] : List Value).toArray 50) := ⟨_, rfl⟩
      have Nx : HasObj wp14 wp13.heap.size 50 [.string b.name, .int .i64 b.valid, .int .i64 b.next, .int .i64 (b.mod + 1), .slice al b.mails.length cl, .slice a2 b.tombs.length c2, .int .i64 b.hor] := by rw [hN]; exact HasObj.new _ _ _
      have hbn : Below wp13.heap.size wp13 wp14 := by rw [hN]; exact (Below.refl _ _).alloc (Nat.le_refl _) _
      have nePN : w.heap.size ≠ wp13.heap.size := Nat.ne_of_lt (uh P).lt
      have neCHN : w1.heap.size ≠ wp13.heap.size := Nat.ne_of_lt (uh CH).lt
      have neCBN : w2.heap.size ≠ wp13.heap.size := Nat.ne_of_lt (uh CB).lt
      have neRN : w3.heap.size ≠ wp13.heap.size := Nat.ne_of_lt (uh R).lt
      have neQN : w9.heap.size ≠ wp13.heap.size := Nat.ne_of_lt (uh Q).lt
      have loN : w.heap.size ≤ wp13.heap.size := (uh BB).size
      have EN := hN.symm; clear hN; replace P := hide ((uh P).ups hbn); replace CH := hide ((uh CH).ups hbn); replace CB := hide ((uh CB).ups hbn); replace R := hide ((uh R).ups hbn); replace Q := hide ((uh Q).ups hbn); replace OT := hide ((uh OT).up hbn); replace OM := hide ((uh OM).up hbn); replace OC := hide ((uh OC).up hbn); replace OLT := hide ((uh OLT).up hbn); have sz11 := hide (hbn.size); replace BB := hide (below_y (uh BB) hbn); clear hbn; have N := hide Nx; clear Nx; have Nc0_10 := (uh N).cell 0 rfl; have Nc1_10 := (uh N).cell 1 rfl; have Nc2_10 := (uh N).cell 2 rfl; have Nc3_10 := (uh N).cell 3 rfl; have Nc4_10 := (uh N).cell 4 rfl; have Nc5_10 := (uh N).cell 5 rfl; have Nc6_10 := (uh N).cell 6 rfl
      have FBX : Hid (FitBx { b with mails := b.mails.map (newM b s how bits since), mod := b.mod + 1 }) := by show FitBx _; rw [← uh EB, ← uh FX]; exact uh FB
      have QB := impl_BoxOk_any _ _ _ _ _ (uh FBX) (show OwnBx w.heap.size _ (.slice al b.mails.length cl) (.slice a2 b.tombs.length c2) { b with mails := b.mails.map (newM b s how bits since), mod := b.mod + 1 } from ⟨g_based (uh OM) (by have sz1_ := uh sz1; have sz2_ := uh sz2; have sz3_ := uh sz3; have sz4_ := uh sz4; have sz5_ := uh sz5; have sz6_ := uh sz6; have sz7_ := uh sz7; have sz8_ := uh sz8; have szf_ := uh szf; have sz9_ := uh sz9; have sz10_ := uh sz10; have sz11_ := uh sz11; omega), g_based (uh OT) (by have sz1_ := uh sz1; have sz2_ := uh sz2; have sz3_ := uh sz3; have sz4_ := uh sz4; have sz5_ := uh sz5; have sz6_ := uh sz6; have sz7_ := uh sz7; have sz8_ := uh sz8; have szf_ := uh szf; have sz9_ := uh sz9; have sz10_ := uh sz10; have sz11_ := uh sz11; omega)⟩)
      rw [← uh EB, ← uh FX] at QB
      have QB := hide QB; go_wp2_with fail; clear Nc0_10 Nc1_10 Nc2_10 Nc3_10 Nc4_10 Nc5_10 Nc6_10 EN
      have QC : Calls Tryz.prog 34 #[boxV { b with mails := b.mails.map (newM b s how bits since), mod := b.mod + 1 } (.slice al b.mails.length cl) (.slice a2 b.tombs.length c2)] wp14 (fun e w' => e = .returned (.bool (boxOk (fgBox b (fgOf b s how bits since)))) ∧ Below wp14.heap.size wp14 w') := by have h9 := uh QB; rw [uh FX, uh EB] at h9 ⊢; exact h9
      refine QC.mono ?_
      rintro e wp15 ⟨rfl, hb⟩
      replace P := hide ((uh P).ups hb); replace CH := hide ((uh CH).ups hb); replace CB := hide ((uh CB).ups hb); replace R := hide ((uh R).ups hb); replace Q := hide ((uh Q).ups hb); replace N := hide ((uh N).ups hb); replace OT := hide ((uh OT).up hb); replace OM := hide ((uh OM).up hb); replace OC := hide ((uh OC).up hb); replace OLT := hide ((uh OLT).up hb); have sz12 := hide (hb.size); replace BB := hide (below_y (uh BB) hb); clear hb; clear QB QC
      cases hq5 : boxOk (fgBox b (fgOf b s how bits since)) with
      | false =>
       clear OM OT OC OLT; have Pc0_11 := (uh P).cell 0 rfl; have Pc1_11 := (uh P).cell 1 rfl; have Pc2_11 := (uh P).cell 2 rfl; have Pc3_11 := (uh P).cell 3 rfl; have Pc4_11 := (uh P).cell 4 rfl; have Pc5_11 := (uh P).cell 5 rfl; have Pc6_11 := (uh P).cell 6 rfl; go_wp2_with fail; clear Pc0_11 Pc1_11 Pc2_11 Pc3_11 Pc4_11 Pc5_11 Pc6_11
       refine (copiedBox_any b _ _ B0 _ (uh HF) ((uh HO).up (uh BB))).mono ?_
       rintro e wpf16 ⟨vm, vt, rfl, ob, hb⟩
       obtain ⟨am7, cm7, rfl⟩ := g_shape ob.1
       obtain ⟨at7, ct7, rfl⟩ := g_shape ob.2
       replace P := hide ((uh P).ups hb); replace CH := hide ((uh CH).ups hb); replace CB := hide ((uh CB).ups hb); replace R := hide ((uh R).ups hb); replace Q := hide ((uh Q).ups hb); replace N := hide ((uh N).ups hb); have sz13 := hide (hb.size); replace BB := hide (below_y (uh BB) hb); clear hb; have OM7 := hide ob.1; have OT7 := hide ob.2; clear ob; have V := hide (uh V2 hq5); have Rf0 := (uh R).frozen 0; have Rf1 := (uh R).frozen 1; have Rf2 := (uh R).frozen 2; have Rf3 := (uh R).frozen 3; have Rf4 := (uh R).frozen 4; have Rf5 := (uh R).frozen 5; have Rf6 := (uh R).frozen 6; have Re0 := (uh R).cell 0 rfl; have Re1 := (uh R).cell 1 rfl; have Re2 := (uh R).cell 2 rfl; have Re3 := (uh R).cell 3 rfl; have Re4 := (uh R).cell 4 rfl; have Re5 := (uh R).cell 5 rfl; have Re6 := (uh R).cell 6 rfl; have F := hide (fill7 (uh R) (.string b.name) (.int .i64 b.valid) (.int .i64 b.next) (.int .i64 b.mod) (.slice am7 b.mails.length cm7) (.slice at7 b.tombs.length ct7) (.int .i64 b.hor))
       go_wp2
       obtain ⟨U, hU⟩ : ∃ U, U = (((((((wpf16.setCell ⟨w3.heap.size, 0, none⟩ (.string b.name)).setCell ⟨w3.heap.size, 1, none⟩ (.int .i64 b.valid)).setCell ⟨w3.heap.size, 2, none⟩ (.int .i64 b.next)).setCell ⟨w3.heap.size, 3, none⟩ (.int .i64 b.mod)).setCell ⟨w3.heap.size, 4, none⟩ (.slice am7 b.mails.length cm7)).setCell ⟨w3.heap.size, 5, none⟩ (.slice at7 b.tombs.length ct7)).setCell ⟨w3.heap.size, 6, none⟩ (.int .i64 b.hor)) := ⟨_, rfl⟩
       have F := uh F
       rw [← hU] at F ⊢
       have v0 := F.obj.cell 0 rfl; have v1 := F.obj.cell 1 rfl; have v2 := F.obj.cell 2 rfl; have v3 := F.obj.cell 3 rfl; have v4 := F.obj.cell 4 rfl; have v5 := F.obj.cell 5 rfl; have v6 := F.obj.cell 6 rfl
       refine bodyPost_ret (by simp [results, Tryz.results24, go_sem, v0, v1, v2, v3, v4, v5, v6]; try rfl) rfl ?_
       refine ⟨_, _, _, _, by rw [uh V], ?_, by rw [uh V]; exact World.ownsRow_nil _ _ _ _, by rw [uh V]; exact World.ownsRow_nil _ _ _ _, (fun x hx => by cases hx), F.below loR (uh BB)⟩
       rw [uh V]
       exact ⟨g_based (F.row (by decide) (uh OM7)) (by have sz1_ := uh sz1; have sz2_ := uh sz2; have sz3_ := uh sz3; have sz4_ := uh sz4; have sz5_ := uh sz5; have sz6_ := uh sz6; have sz7_ := uh sz7; have sz8_ := uh sz8; have szf_ := uh szf; have sz9_ := uh sz9; have sz10_ := uh sz10; have sz11_ := uh sz11; have sz12_ := uh sz12; have sz13_ := uh sz13; omega), g_based (F.row (by decide) (uh OT7)) (by have sz1_ := uh sz1; have sz2_ := uh sz2; have sz3_ := uh sz3; have sz4_ := uh sz4; have sz5_ := uh sz5; have sz6_ := uh sz6; have sz7_ := uh sz7; have sz8_ := uh sz8; have szf_ := uh szf; have sz9_ := uh sz9; have sz10_ := uh sz10; have sz11_ := uh sz11; have sz12_ := uh sz12; have sz13_ := uh sz13; omega)⟩
      | true =>
       have V := hide (uh V3 (uh FOK) hq5); clear hq5; have Nc0_11 := (uh N).cell 0 rfl; have Nc1_11 := (uh N).cell 1 rfl; have Nc2_11 := (uh N).cell 2 rfl; have Nc3_11 := (uh N).cell 3 rfl; have Nc4_11 := (uh N).cell 4 rfl; have Nc5_11 := (uh N).cell 5 rfl; have Nc6_11 := (uh N).cell 6 rfl
       go_wp2
       refine wp_region_held_drew (S := fun w' => w'.cell? ⟨wp13.heap.size, 0, none⟩ = some (.string b.name) ∧ w'.cell? ⟨wp13.heap.size, 1, none⟩ = some (.int .i64 b.valid) ∧ w'.cell? ⟨wp13.heap.size, 2, none⟩ = some (.int .i64 b.next) ∧ w'.cell? ⟨wp13.heap.size, 3, none⟩ = some (.int .i64 (b.mod + 1)) ∧ w'.cell? ⟨wp13.heap.size, 4, none⟩ = some (.slice al b.mails.length cl) ∧ w'.cell? ⟨wp13.heap.size, 5, none⟩ = some (.slice a2 b.tombs.length c2) ∧ w'.cell? ⟨wp13.heap.size, 6, none⟩ = some (.int .i64 b.hor)) (by kernel_rfl) (⟨(uh N).cell 0 rfl, (uh N).cell 1 rfl, (uh N).cell 2 rfl, (uh N).cell 3 rfl, (uh N).cell 4 rfl, (uh N).cell 5 rfl, (uh N).cell 6 rfl⟩) (fun hHeld => ?_)
       clear Nc0_11 Nc1_11 Nc2_11 Nc3_11 Nc4_11 Nc5_11 Nc6_11; replace P := hide ((uh P).drew); replace CH := hide ((uh CH).drew); replace CB := hide ((uh CB).drew); replace R := hide ((uh R).drew); replace Q := hide ((uh Q).drew); replace N := hide ((uh N).drew); replace OT := hide ((uh OT).drew); replace OM := hide ((uh OM).drew); replace OC := hide ((uh OC).drew); replace OLT := hide ((uh OLT).drew); replace BB := hide ((uh BB).drew)
       have sz13 : Hid (wp15.heap.size ≤ wp15.drew.heap.size) := Nat.le_refl _
       refine tv 0 69 ?_; refine tv 1 70 ?_; refine tv 3 72 ?_
       refine wpAnyH_ready (rs := [2]) (by kernel_rfl) (by simp) ?_
       refine AllReadyH.cons rfl (fun K hK => ?_) AllReadyH.nil
       go_simp
       refine (uidSet_any (newU s how bits since b.mails) _ _ _ (uh NR).1 (uh NR).2 (uh OC)).mono ?_
       rintro e wp16 ⟨uUC, rfl, oUC, hb⟩
       obtain ⟨auUC, cuUC, rfl⟩ := g_shape oUC
       replace P := hide ((uh P).ups hb); replace CH := hide ((uh CH).ups hb); replace CB := hide ((uh CB).ups hb); replace R := hide ((uh R).ups hb); replace Q := hide ((uh Q).ups hb); replace N := hide ((uh N).ups hb); replace OT := hide ((uh OT).up hb); replace OM := hide ((uh OM).up hb); replace OC := hide ((uh OC).up hb); replace OLT := hide ((uh OLT).up hb); have sz14 := hide (hb.size); replace BB := hide (below_y (uh BB) hb); clear hb; have UC := hide oUC; clear oUC; go_wp2_with fail
       refine hK.out _ _ (⟨(uh N).cell 0 rfl, (uh N).cell 1 rfl, (uh N).cell 2 rfl, (uh N).cell 3 rfl, (uh N).cell 4 rfl, (uh N).cell 5 rfl, (uh N).cell 6 rfl⟩) (fun hHeld2 => ?_)
       clear hK K hHeld; have hHeld := hHeld2; clear hHeld2
       try simp only [Act.put, p1, p2, p3]
       have lUC := fun x (hx : Value.ownBlock (.slice auUC (uidsV (newU s how bits since b.mails)).length cuUC) = some x) => (World.ownsRow.lt (uh UC) x hx).2
       refine wpAnyH_ready (rs := [4]) (by kernel_rfl) (by simp) ?_
       refine AllReadyH.cons rfl (fun K hK => ?_) AllReadyH.nil
       go_simp
       refine (uidSet_any (lateU s since b.mails) _ _ _ (uh LR).1 (uh LR).2 (uh OLT)).mono ?_
       rintro e wp17 ⟨uUL, rfl, oUL, hb⟩
       obtain ⟨auUL, cuUL, rfl⟩ := g_shape oUL
       replace P := hide ((uh P).ups hb); replace CH := hide ((uh CH).ups hb); replace CB := hide ((uh CB).ups hb); replace R := hide ((uh R).ups hb); replace Q := hide ((uh Q).ups hb); replace N := hide ((uh N).ups hb); replace OT := hide ((uh OT).up hb); replace OM := hide ((uh OM).up hb); replace OC := hide ((uh OC).up hb); replace OLT := hide ((uh OLT).up hb); replace UC := hide ((uh UC).up hb); have sz15 := hide (hb.size); replace BB := hide (below_y (uh BB) hb); clear hb; have UL := hide oUL; clear oUL; go_wp2_with fail
       refine hK.out _ _ (⟨(uh N).cell 0 rfl, (uh N).cell 1 rfl, (uh N).cell 2 rfl, (uh N).cell 3 rfl, (uh N).cell 4 rfl, (uh N).cell 5 rfl, (uh N).cell 6 rfl⟩) (fun hHeld2 => ?_)
       clear hK K hHeld; have hHeld := hHeld2; clear hHeld2
       try simp only [Act.put, p1, p2, p3]
       have lUL := fun x (hx : Value.ownBlock (.slice auUL (uidsV (lateU s since b.mails)).length cuUL) = some x) => (World.ownsRow.lt (uh UL) x hx).1
       have Rf0 := (uh R).frozen 0; have Rf1 := (uh R).frozen 1; have Rf2 := (uh R).frozen 2; have Rf3 := (uh R).frozen 3; have Rf4 := (uh R).frozen 4; have Rf5 := (uh R).frozen 5; have Rf6 := (uh R).frozen 6; have Re0 := (uh R).cell 0 rfl; have Re1 := (uh R).cell 1 rfl; have Re2 := (uh R).cell 2 rfl; have Re3 := (uh R).cell 3 rfl; have Re4 := (uh R).cell 4 rfl; have Re5 := (uh R).cell 5 rfl; have Re6 := (uh R).cell 6 rfl; have F_ := hide (fill7 (uh R) (.string b.name) (.int .i64 b.valid) (.int .i64 b.next) (.int .i64 (b.mod + 1)) (.slice al b.mails.length cl) (.slice a2 b.tombs.length c2) (.int .i64 b.hor))
       refine wpAnyH_ready (rs := [5]) (by kernel_rfl) (by simp) ?_
       refine AllReadyH.cons rfl (fun K hK => ?_) AllReadyH.nil
       go_simp
       obtain ⟨wp18, hU⟩ : ∃ U, U = (((((((wp17.setCell ⟨w3.heap.size, 0, none⟩ (.string b.name)).setCell ⟨w3.heap.size, 1, none⟩ (.int .i64 b.valid)).setCell ⟨w3.heap.size, 2, none⟩ (.int .i64 b.next)).setCell ⟨w3.heap.size, 3, none⟩ (.int .i64 (b.mod + 1))).setCell ⟨w3.heap.size, 4, none⟩ (.slice al b.mails.length cl)).setCell ⟨w3.heap.size, 5, none⟩ (.slice a2 b.tombs.length c2)).setCell ⟨w3.heap.size, 6, none⟩ (.int .i64 b.hor)) := ⟨_, rfl⟩
       have F := uh F_
       rw [← hU] at F ⊢
       clear hU F_; clear Rf0 Rf1 Rf2 Rf3 Rf4 Rf5 Rf6 Re0 Re1 Re2 Re3 Re4 Re5 Re6; have P_ := hide (F.other nePR (uh P)); have CH_ := hide (F.other neCHR (uh CH)); have CB_ := hide (F.other neCBR (uh CB)); have R_ := hide (F.obj); have Q_ := hide (F.other neRQ.symm (uh Q)); have N_ := hide (F.other neRN.symm (uh N))
       have OT_ : Hid (OwnTb w6.heap.size wp18 (.slice a2 b.tombs.length c2) (b.tombs)) := F.row (by decide) (uh OT)
       have OM_ : Hid (OwnMl w6.heap.size wp18 (.slice al b.mails.length cl) (b.mails.map (newM b s how bits since))) := F.row (by decide) (uh OM)
       have OC_ : Hid (OwnI w10.heap.size wp18 (.slice avc (newU s how bits since b.mails).length cvc) (newU s how bits since b.mails)) := F.row (by decide) (uh OC)
       have OLT_ : Hid (OwnI w10.heap.size wp18 (.slice avl (lateU s since b.mails).length cvl) (lateU s since b.mails)) := F.row (by decide) (uh OLT)
       have UC_ : Hid (OwnR wp15.drew.heap.size wp18 (.slice auUC (uidsV (newU s how bits since b.mails)).length cuUC) (uidsV (newU s how bits since b.mails))) := F.row (by decide) (uh UC)
       have UL_ : Hid (OwnR wp16.heap.size wp18 (.slice auUL (uidsV (lateU s since b.mails)).length cuUL) (uidsV (lateU s since b.mails))) := F.row (by decide) (uh UL)
       have BB_ : Hid (Below w.heap.size w wp18) := F.below loR (uh BB)
       have sz16 : Hid (wp17.heap.size ≤ wp18.heap.size) := by show _ ≤ _; rw [F.size]; exact Nat.le_refl _
       replace P := P_; clear P_; replace CH := CH_; clear CH_; replace CB := CB_; clear CB_; replace R := R_; clear R_; replace Q := Q_; clear Q_; replace N := N_; clear N_; replace OT := OT_; clear OT_; replace OM := OM_; clear OM_; replace OC := OC_; clear OC_; replace OLT := OLT_; clear OLT_; replace UC := UC_; clear UC_; replace UL := UL_; clear UL_; replace BB := BB_; clear BB_; clear F
       refine hK.out _ _ (⟨(uh N).cell 0 rfl, (uh N).cell 1 rfl, (uh N).cell 2 rfl, (uh N).cell 3 rfl, (uh N).cell 4 rfl, (uh N).cell 5 rfl, (uh N).cell 6 rfl⟩) (fun hHeld2 => ?_)
       clear hK K hHeld; have hHeld := hHeld2; clear hHeld2
       try simp only [Act.put, p1, p2, p3]
       refine tv 6 11 ?_; refine tv 7 12 ?_
       refine wpAnyH_done (by kernel_rfl) ?_ _
       have v0 := (uh R).cell 0 rfl; have v1 := (uh R).cell 1 rfl; have v2 := (uh R).cell 2 rfl; have v3 := (uh R).cell 3 rfl; have v4 := (uh R).cell 4 rfl; have v5 := (uh R).cell 5 rfl; have v6 := (uh R).cell 6 rfl
       go_wp2
       refine bodyPost_ret (by simp [results, Tryz.results24, go_sem, v0, v1, v2, v3, v4, v5, v6]; try rfl) rfl ?_
       have EV : flagsV b s how bits since = ({ b with mails := b.mails.map (newM b s how bits since), mod := b.mod + 1 }, uidsV (newU s how bits since b.mails), uidsV (lateU s since b.mails)) := by rw [uh V, uh FX, uh EB, uh FI]
       refine ⟨.slice al b.mails.length cl, .slice a2 b.tombs.length c2, .slice auUC (uidsV (newU s how bits since b.mails)).length cuUC, .slice auUL (uidsV (lateU s since b.mails)).length cuUL, by rw [EV], ?_, ?_, ?_, fun x hx hx2 => ?_, uh BB⟩
       ·rw [EV]; exact ⟨g_based (uh OM) (by have sz1_ := uh sz1; have sz2_ := uh sz2; have sz3_ := uh sz3; have sz4_ := uh sz4; have sz5_ := uh sz5; have sz6_ := uh sz6; have sz7_ := uh sz7; have sz8_ := uh sz8; have szf_ := uh szf; have sz9_ := uh sz9; have sz10_ := uh sz10; have sz11_ := uh sz11; have sz12_ := uh sz12; have sz13_ := uh sz13; have sz14_ := uh sz14; have sz15_ := uh sz15; have sz16_ := uh sz16; omega), g_based (uh OT) (by have sz1_ := uh sz1; have sz2_ := uh sz2; have sz3_ := uh sz3; have sz4_ := uh sz4; have sz5_ := uh sz5; have sz6_ := uh sz6; have sz7_ := uh sz7; have sz8_ := uh sz8; have szf_ := uh szf; have sz9_ := uh sz9; have sz10_ := uh sz10; have sz11_ := uh sz11; have sz12_ := uh sz12; have sz13_ := uh sz13; have sz14_ := uh sz14; have sz15_ := uh sz15; have sz16_ := uh sz16; omega)⟩
       ·rw [EV]; exact g_based (uh UC) (by have sz1_ := uh sz1; have sz2_ := uh sz2; have sz3_ := uh sz3; have sz4_ := uh sz4; have sz5_ := uh sz5; have sz6_ := uh sz6; have sz7_ := uh sz7; have sz8_ := uh sz8; have szf_ := uh szf; have sz9_ := uh sz9; have sz10_ := uh sz10; have sz11_ := uh sz11; have sz12_ := uh sz12; have sz13_ := uh sz13; have sz14_ := uh sz14; have sz15_ := uh sz15; have sz16_ := uh sz16; omega)
       ·rw [EV]; exact g_based (uh UL) (by have sz1_ := uh sz1; have sz2_ := uh sz2; have sz3_ := uh sz3; have sz4_ := uh sz4; have sz5_ := uh sz5; have sz6_ := uh sz6; have sz7_ := uh sz7; have sz8_ := uh sz8; have szf_ := uh szf; have sz9_ := uh sz9; have sz10_ := uh sz10; have sz11_ := uh sz11; have sz12_ := uh sz12; have sz13_ := uh sz13; have sz14_ := uh sz14; have sz15_ := uh sz15; have sz16_ := uh sz16; omega)
       ·have p1_ := lUC x hx; have p2_ := lUL x hx2; omega
     ·have MD : Hid ((if (newU s how bits since b.mails).isEmpty = true then b.mod else b.mod + 1) = b.mod) := by show _ = _; rw [uh EMP, decide_eq_true (by omega)]; rfl
      have dn : ¬ (0 : Int) < ((newU s how bits since b.mails).length : Int) := by omega
      clear hn
      have EB : Hid (flBox b s how bits since = { b with mails := b.mails.map (newM b s how bits since), mod := b.mod }) := by show _ = _; unfold flBox; rw [uh MD]
      have Qc0_7 := (uh Q).cell 0 rfl; have Qc1_7 := (uh Q).cell 1 rfl; have Qc2_7 := (uh Q).cell 2 rfl; have Qc3_7 := (uh Q).cell 3 rfl; have Qc4_7 := (uh Q).cell 4 rfl; have Qc5_7 := (uh Q).cell 5 rfl; have Qc6_7 := (uh Q).cell 6 rfl; have Qc7_7 := (uh Q).cell 7 rfl; go_wp2_with fail; clear dn Qc0_7 Qc1_7 Qc2_7 Qc3_7 Qc4_7 Qc5_7 Qc6_7 Qc7_7
      refine (box_any { b with mod := b.mod, mails := [] } _ _ _ _ _ _ _ _ _ _).mono ?_
      rintro e wn12 ⟨rfl, hb⟩
      replace P := hide ((uh P).ups hb); replace CH := hide ((uh CH).ups hb); replace CB := hide ((uh CB).ups hb); replace R := hide ((uh R).ups hb); replace Q := hide ((uh Q).ups hb); replace OT := hide ((uh OT).up hb); replace OM := hide ((uh OM).up hb); replace OC := hide ((uh OC).up hb); replace OLT := hide ((uh OLT).up hb); have sz9 := hide (hb.size); replace BB := hide (below_y (uh BB) hb); clear hb
      obtain ⟨wn13, hN⟩ : ∃ X, X = wn12.alloc (.cells ([.string b.name, .int .i64 b.valid, .int .i64 b.next, .int .i64 (b.mod), .slice al b.mails.length cl, .slice a2 b.tombs.length c2, .int .i64 b.hor] : List Value).toArray 50) := ⟨_, rfl⟩
      have Nx : HasObj wn13 wn12.heap.size 50 [.string b.name, .int .i64 b.valid, .int .i64 b.next, .int .i64 (b.mod), .slice al b.mails.length cl, .slice a2 b.tombs.length c2, .int .i64 b.hor] := by rw [hN]; exact HasObj.new _ _ _
      have hbn : Below wn12.heap.size wn12 wn13 := by rw [hN]; exact (Below.refl _ _).alloc (Nat.le_refl _) _
      have nePN : w.heap.size ≠ wn12.heap.size := Nat.ne_of_lt (uh P).lt
      have neCHN : w1.heap.size ≠ wn12.heap.size := Nat.ne_of_lt (uh CH).lt
      have neCBN : w2.heap.size ≠ wn12.heap.size := Nat.ne_of_lt (uh CB).lt
      have neRN : w3.heap.size ≠ wn12.heap.size := Nat.ne_of_lt (uh R).lt
      have neQN : w9.heap.size ≠ wn12.heap.size := Nat.ne_of_lt (uh Q).lt
      have loN : w.heap.size ≤ wn12.heap.size := (uh BB).size
      have EN := hN.symm; clear hN; replace P := hide ((uh P).ups hbn); replace CH := hide ((uh CH).ups hbn); replace CB := hide ((uh CB).ups hbn); replace R := hide ((uh R).ups hbn); replace Q := hide ((uh Q).ups hbn); replace OT := hide ((uh OT).up hbn); replace OM := hide ((uh OM).up hbn); replace OC := hide ((uh OC).up hbn); replace OLT := hide ((uh OLT).up hbn); have sz10 := hide (hbn.size); replace BB := hide (below_y (uh BB) hbn); clear hbn; have N := hide Nx; clear Nx; have Nc0_8 := (uh N).cell 0 rfl; have Nc1_8 := (uh N).cell 1 rfl; have Nc2_8 := (uh N).cell 2 rfl; have Nc3_8 := (uh N).cell 3 rfl; have Nc4_8 := (uh N).cell 4 rfl; have Nc5_8 := (uh N).cell 5 rfl; have Nc6_8 := (uh N).cell 6 rfl
      have FBX : Hid (FitBx { b with mails := b.mails.map (newM b s how bits since), mod := b.mod }) := by show FitBx _; rw [← uh EB, ← uh FX]; exact uh FB
      have QB := impl_BoxOk_any _ _ _ _ _ (uh FBX) (show OwnBx w.heap.size _ (.slice al b.mails.length cl) (.slice a2 b.tombs.length c2) { b with mails := b.mails.map (newM b s how bits since), mod := b.mod } from ⟨g_based (uh OM) (by have sz1_ := uh sz1; have sz2_ := uh sz2; have sz3_ := uh sz3; have sz4_ := uh sz4; have sz5_ := uh sz5; have sz6_ := uh sz6; have sz7_ := uh sz7; have sz8_ := uh sz8; have szf_ := uh szf; have sz9_ := uh sz9; have sz10_ := uh sz10; omega), g_based (uh OT) (by have sz1_ := uh sz1; have sz2_ := uh sz2; have sz3_ := uh sz3; have sz4_ := uh sz4; have sz5_ := uh sz5; have sz6_ := uh sz6; have sz7_ := uh sz7; have sz8_ := uh sz8; have szf_ := uh szf; have sz9_ := uh sz9; have sz10_ := uh sz10; omega)⟩)
      rw [← uh EB, ← uh FX] at QB
      have QB := hide QB; go_wp2_with fail; clear Nc0_8 Nc1_8 Nc2_8 Nc3_8 Nc4_8 Nc5_8 Nc6_8 EN
      have QC : Calls Tryz.prog 34 #[boxV { b with mails := b.mails.map (newM b s how bits since), mod := b.mod } (.slice al b.mails.length cl) (.slice a2 b.tombs.length c2)] wn13 (fun e w' => e = .returned (.bool (boxOk (fgBox b (fgOf b s how bits since)))) ∧ Below wn13.heap.size wn13 w') := by have h9 := uh QB; rw [uh FX, uh EB] at h9 ⊢; exact h9
      refine QC.mono ?_
      rintro e wn14 ⟨rfl, hb⟩
      replace P := hide ((uh P).ups hb); replace CH := hide ((uh CH).ups hb); replace CB := hide ((uh CB).ups hb); replace R := hide ((uh R).ups hb); replace Q := hide ((uh Q).ups hb); replace N := hide ((uh N).ups hb); replace OT := hide ((uh OT).up hb); replace OM := hide ((uh OM).up hb); replace OC := hide ((uh OC).up hb); replace OLT := hide ((uh OLT).up hb); have sz11 := hide (hb.size); replace BB := hide (below_y (uh BB) hb); clear hb; clear QB QC
      cases hq5 : boxOk (fgBox b (fgOf b s how bits since)) with
      | false =>
       clear OM OT OC OLT; have Pc0_9 := (uh P).cell 0 rfl; have Pc1_9 := (uh P).cell 1 rfl; have Pc2_9 := (uh P).cell 2 rfl; have Pc3_9 := (uh P).cell 3 rfl; have Pc4_9 := (uh P).cell 4 rfl; have Pc5_9 := (uh P).cell 5 rfl; have Pc6_9 := (uh P).cell 6 rfl; go_wp2_with fail; clear Pc0_9 Pc1_9 Pc2_9 Pc3_9 Pc4_9 Pc5_9 Pc6_9
       refine (copiedBox_any b _ _ B0 _ (uh HF) ((uh HO).up (uh BB))).mono ?_
       rintro e wnf15 ⟨vm, vt, rfl, ob, hb⟩
       obtain ⟨am7, cm7, rfl⟩ := g_shape ob.1
       obtain ⟨at7, ct7, rfl⟩ := g_shape ob.2
       replace P := hide ((uh P).ups hb); replace CH := hide ((uh CH).ups hb); replace CB := hide ((uh CB).ups hb); replace R := hide ((uh R).ups hb); replace Q := hide ((uh Q).ups hb); replace N := hide ((uh N).ups hb); have sz12 := hide (hb.size); replace BB := hide (below_y (uh BB) hb); clear hb; have OM7 := hide ob.1; have OT7 := hide ob.2; clear ob; have V := hide (uh V2 hq5); have Rf0 := (uh R).frozen 0; have Rf1 := (uh R).frozen 1; have Rf2 := (uh R).frozen 2; have Rf3 := (uh R).frozen 3; have Rf4 := (uh R).frozen 4; have Rf5 := (uh R).frozen 5; have Rf6 := (uh R).frozen 6; have Re0 := (uh R).cell 0 rfl; have Re1 := (uh R).cell 1 rfl; have Re2 := (uh R).cell 2 rfl; have Re3 := (uh R).cell 3 rfl; have Re4 := (uh R).cell 4 rfl; have Re5 := (uh R).cell 5 rfl; have Re6 := (uh R).cell 6 rfl; have F := hide (fill7 (uh R) (.string b.name) (.int .i64 b.valid) (.int .i64 b.next) (.int .i64 b.mod) (.slice am7 b.mails.length cm7) (.slice at7 b.tombs.length ct7) (.int .i64 b.hor))
       go_wp2
       obtain ⟨U, hU⟩ : ∃ U, U = (((((((wnf15.setCell ⟨w3.heap.size, 0, none⟩ (.string b.name)).setCell ⟨w3.heap.size, 1, none⟩ (.int .i64 b.valid)).setCell ⟨w3.heap.size, 2, none⟩ (.int .i64 b.next)).setCell ⟨w3.heap.size, 3, none⟩ (.int .i64 b.mod)).setCell ⟨w3.heap.size, 4, none⟩ (.slice am7 b.mails.length cm7)).setCell ⟨w3.heap.size, 5, none⟩ (.slice at7 b.tombs.length ct7)).setCell ⟨w3.heap.size, 6, none⟩ (.int .i64 b.hor)) := ⟨_, rfl⟩
       have F := uh F
       rw [← hU] at F ⊢
       have v0 := F.obj.cell 0 rfl; have v1 := F.obj.cell 1 rfl; have v2 := F.obj.cell 2 rfl; have v3 := F.obj.cell 3 rfl; have v4 := F.obj.cell 4 rfl; have v5 := F.obj.cell 5 rfl; have v6 := F.obj.cell 6 rfl
       refine bodyPost_ret (by simp [results, Tryz.results24, go_sem, v0, v1, v2, v3, v4, v5, v6]; try rfl) rfl ?_
       refine ⟨_, _, _, _, by rw [uh V], ?_, by rw [uh V]; exact World.ownsRow_nil _ _ _ _, by rw [uh V]; exact World.ownsRow_nil _ _ _ _, (fun x hx => by cases hx), F.below loR (uh BB)⟩
       rw [uh V]
       exact ⟨g_based (F.row (by decide) (uh OM7)) (by have sz1_ := uh sz1; have sz2_ := uh sz2; have sz3_ := uh sz3; have sz4_ := uh sz4; have sz5_ := uh sz5; have sz6_ := uh sz6; have sz7_ := uh sz7; have sz8_ := uh sz8; have szf_ := uh szf; have sz9_ := uh sz9; have sz10_ := uh sz10; have sz11_ := uh sz11; have sz12_ := uh sz12; omega), g_based (F.row (by decide) (uh OT7)) (by have sz1_ := uh sz1; have sz2_ := uh sz2; have sz3_ := uh sz3; have sz4_ := uh sz4; have sz5_ := uh sz5; have sz6_ := uh sz6; have sz7_ := uh sz7; have sz8_ := uh sz8; have szf_ := uh szf; have sz9_ := uh sz9; have sz10_ := uh sz10; have sz11_ := uh sz11; have sz12_ := uh sz12; omega)⟩
      | true =>
       have V := hide (uh V3 (uh FOK) hq5); clear hq5; have Nc0_9 := (uh N).cell 0 rfl; have Nc1_9 := (uh N).cell 1 rfl; have Nc2_9 := (uh N).cell 2 rfl; have Nc3_9 := (uh N).cell 3 rfl; have Nc4_9 := (uh N).cell 4 rfl; have Nc5_9 := (uh N).cell 5 rfl; have Nc6_9 := (uh N).cell 6 rfl
       go_wp2
       refine wp_region_held_drew (S := fun w' => w'.cell? ⟨wn12.heap.size, 0, none⟩ = some (.string b.name) ∧ w'.cell? ⟨wn12.heap.size, 1, none⟩ = some (.int .i64 b.valid) ∧ w'.cell? ⟨wn12.heap.size, 2, none⟩ = some (.int .i64 b.next) ∧ w'.cell? ⟨wn12.heap.size, 3, none⟩ = some (.int .i64 (b.mod)) ∧ w'.cell? ⟨wn12.heap.size, 4, none⟩ = some (.slice al b.mails.length cl) ∧ w'.cell? ⟨wn12.heap.size, 5, none⟩ = some (.slice a2 b.tombs.length c2) ∧ w'.cell? ⟨wn12.heap.size, 6, none⟩ = some (.int .i64 b.hor)) (by kernel_rfl) (⟨(uh N).cell 0 rfl, (uh N).cell 1 rfl, (uh N).cell 2 rfl, (uh N).cell 3 rfl, (uh N).cell 4 rfl, (uh N).cell 5 rfl, (uh N).cell 6 rfl⟩) (fun hHeld => ?_)
       clear Nc0_9 Nc1_9 Nc2_9 Nc3_9 Nc4_9 Nc5_9 Nc6_9; replace P := hide ((uh P).drew); replace CH := hide ((uh CH).drew); replace CB := hide ((uh CB).drew); replace R := hide ((uh R).drew); replace Q := hide ((uh Q).drew); replace N := hide ((uh N).drew); replace OT := hide ((uh OT).drew); replace OM := hide ((uh OM).drew); replace OC := hide ((uh OC).drew); replace OLT := hide ((uh OLT).drew); replace BB := hide ((uh BB).drew)
       have sz12 : Hid (wn14.heap.size ≤ wn14.drew.heap.size) := Nat.le_refl _
       refine tv 0 69 ?_; refine tv 1 70 ?_; refine tv 3 72 ?_
       refine wpAnyH_ready (rs := [2]) (by kernel_rfl) (by simp) ?_
       refine AllReadyH.cons rfl (fun K hK => ?_) AllReadyH.nil
       go_simp
       refine (uidSet_any (newU s how bits since b.mails) _ _ _ (uh NR).1 (uh NR).2 (uh OC)).mono ?_
       rintro e wn15 ⟨uUC, rfl, oUC, hb⟩
       obtain ⟨auUC, cuUC, rfl⟩ := g_shape oUC
       replace P := hide ((uh P).ups hb); replace CH := hide ((uh CH).ups hb); replace CB := hide ((uh CB).ups hb); replace R := hide ((uh R).ups hb); replace Q := hide ((uh Q).ups hb); replace N := hide ((uh N).ups hb); replace OT := hide ((uh OT).up hb); replace OM := hide ((uh OM).up hb); replace OC := hide ((uh OC).up hb); replace OLT := hide ((uh OLT).up hb); have sz13 := hide (hb.size); replace BB := hide (below_y (uh BB) hb); clear hb; have UC := hide oUC; clear oUC; go_wp2_with fail
       refine hK.out _ _ (⟨(uh N).cell 0 rfl, (uh N).cell 1 rfl, (uh N).cell 2 rfl, (uh N).cell 3 rfl, (uh N).cell 4 rfl, (uh N).cell 5 rfl, (uh N).cell 6 rfl⟩) (fun hHeld2 => ?_)
       clear hK K hHeld; have hHeld := hHeld2; clear hHeld2
       try simp only [Act.put, p1, p2, p3]
       have lUC := fun x (hx : Value.ownBlock (.slice auUC (uidsV (newU s how bits since b.mails)).length cuUC) = some x) => (World.ownsRow.lt (uh UC) x hx).2
       refine wpAnyH_ready (rs := [4]) (by kernel_rfl) (by simp) ?_
       refine AllReadyH.cons rfl (fun K hK => ?_) AllReadyH.nil
       go_simp
       refine (uidSet_any (lateU s since b.mails) _ _ _ (uh LR).1 (uh LR).2 (uh OLT)).mono ?_
       rintro e wn16 ⟨uUL, rfl, oUL, hb⟩
       obtain ⟨auUL, cuUL, rfl⟩ := g_shape oUL
       replace P := hide ((uh P).ups hb); replace CH := hide ((uh CH).ups hb); replace CB := hide ((uh CB).ups hb); replace R := hide ((uh R).ups hb); replace Q := hide ((uh Q).ups hb); replace N := hide ((uh N).ups hb); replace OT := hide ((uh OT).up hb); replace OM := hide ((uh OM).up hb); replace OC := hide ((uh OC).up hb); replace OLT := hide ((uh OLT).up hb); replace UC := hide ((uh UC).up hb); have sz14 := hide (hb.size); replace BB := hide (below_y (uh BB) hb); clear hb; have UL := hide oUL; clear oUL; go_wp2_with fail
       refine hK.out _ _ (⟨(uh N).cell 0 rfl, (uh N).cell 1 rfl, (uh N).cell 2 rfl, (uh N).cell 3 rfl, (uh N).cell 4 rfl, (uh N).cell 5 rfl, (uh N).cell 6 rfl⟩) (fun hHeld2 => ?_)
       clear hK K hHeld; have hHeld := hHeld2; clear hHeld2
       try simp only [Act.put, p1, p2, p3]
       have lUL := fun x (hx : Value.ownBlock (.slice auUL (uidsV (lateU s since b.mails)).length cuUL) = some x) => (World.ownsRow.lt (uh UL) x hx).1
       have Rf0 := (uh R).frozen 0; have Rf1 := (uh R).frozen 1; have Rf2 := (uh R).frozen 2; have Rf3 := (uh R).frozen 3; have Rf4 := (uh R).frozen 4; have Rf5 := (uh R).frozen 5; have Rf6 := (uh R).frozen 6; have Re0 := (uh R).cell 0 rfl; have Re1 := (uh R).cell 1 rfl; have Re2 := (uh R).cell 2 rfl; have Re3 := (uh R).cell 3 rfl; have Re4 := (uh R).cell 4 rfl; have Re5 := (uh R).cell 5 rfl; have Re6 := (uh R).cell 6 rfl; have F_ := hide (fill7 (uh R) (.string b.name) (.int .i64 b.valid) (.int .i64 b.next) (.int .i64 (b.mod)) (.slice al b.mails.length cl) (.slice a2 b.tombs.length c2) (.int .i64 b.hor))
       refine wpAnyH_ready (rs := [5]) (by kernel_rfl) (by simp) ?_
       refine AllReadyH.cons rfl (fun K hK => ?_) AllReadyH.nil
       go_simp
       obtain ⟨wn17, hU⟩ : ∃ U, U = (((((((wn16.setCell ⟨w3.heap.size, 0, none⟩ (.string b.name)).setCell ⟨w3.heap.size, 1, none⟩ (.int .i64 b.valid)).setCell ⟨w3.heap.size, 2, none⟩ (.int .i64 b.next)).setCell ⟨w3.heap.size, 3, none⟩ (.int .i64 (b.mod))).setCell ⟨w3.heap.size, 4, none⟩ (.slice al b.mails.length cl)).setCell ⟨w3.heap.size, 5, none⟩ (.slice a2 b.tombs.length c2)).setCell ⟨w3.heap.size, 6, none⟩ (.int .i64 b.hor)) := ⟨_, rfl⟩
       have F := uh F_
       rw [← hU] at F ⊢
       clear hU F_; clear Rf0 Rf1 Rf2 Rf3 Rf4 Rf5 Rf6 Re0 Re1 Re2 Re3 Re4 Re5 Re6; have P_ := hide (F.other nePR (uh P)); have CH_ := hide (F.other neCHR (uh CH)); have CB_ := hide (F.other neCBR (uh CB)); have R_ := hide (F.obj); have Q_ := hide (F.other neRQ.symm (uh Q)); have N_ := hide (F.other neRN.symm (uh N))
       have OT_ : Hid (OwnTb w6.heap.size wn17 (.slice a2 b.tombs.length c2) (b.tombs)) := F.row (by decide) (uh OT)
       have OM_ : Hid (OwnMl w6.heap.size wn17 (.slice al b.mails.length cl) (b.mails.map (newM b s how bits since))) := F.row (by decide) (uh OM)
       have OC_ : Hid (OwnI w10.heap.size wn17 (.slice avc (newU s how bits since b.mails).length cvc) (newU s how bits since b.mails)) := F.row (by decide) (uh OC)
       have OLT_ : Hid (OwnI w10.heap.size wn17 (.slice avl (lateU s since b.mails).length cvl) (lateU s since b.mails)) := F.row (by decide) (uh OLT)
       have UC_ : Hid (OwnR wn14.drew.heap.size wn17 (.slice auUC (uidsV (newU s how bits since b.mails)).length cuUC) (uidsV (newU s how bits since b.mails))) := F.row (by decide) (uh UC)
       have UL_ : Hid (OwnR wn15.heap.size wn17 (.slice auUL (uidsV (lateU s since b.mails)).length cuUL) (uidsV (lateU s since b.mails))) := F.row (by decide) (uh UL)
       have BB_ : Hid (Below w.heap.size w wn17) := F.below loR (uh BB)
       have sz15 : Hid (wn16.heap.size ≤ wn17.heap.size) := by show _ ≤ _; rw [F.size]; exact Nat.le_refl _
       replace P := P_; clear P_; replace CH := CH_; clear CH_; replace CB := CB_; clear CB_; replace R := R_; clear R_; replace Q := Q_; clear Q_; replace N := N_; clear N_; replace OT := OT_; clear OT_; replace OM := OM_; clear OM_; replace OC := OC_; clear OC_; replace OLT := OLT_; clear OLT_; replace UC := UC_; clear UC_; replace UL := UL_; clear UL_; replace BB := BB_; clear BB_; clear F
       refine hK.out _ _ (⟨(uh N).cell 0 rfl, (uh N).cell 1 rfl, (uh N).cell 2 rfl, (uh N).cell 3 rfl, (uh N).cell 4 rfl, (uh N).cell 5 rfl, (uh N).cell 6 rfl⟩) (fun hHeld2 => ?_)
       clear hK K hHeld; have hHeld := hHeld2; clear hHeld2
       try simp only [Act.put, p1, p2, p3]
       refine tv 6 11 ?_; refine tv 7 12 ?_
       refine wpAnyH_done (by kernel_rfl) ?_ _
       have v0 := (uh R).cell 0 rfl; have v1 := (uh R).cell 1 rfl; have v2 := (uh R).cell 2 rfl; have v3 := (uh R).cell 3 rfl; have v4 := (uh R).cell 4 rfl; have v5 := (uh R).cell 5 rfl; have v6 := (uh R).cell 6 rfl
       go_wp2
       refine bodyPost_ret (by simp [results, Tryz.results24, go_sem, v0, v1, v2, v3, v4, v5, v6]; try rfl) rfl ?_
       have EV : flagsV b s how bits since = ({ b with mails := b.mails.map (newM b s how bits since), mod := b.mod }, uidsV (newU s how bits since b.mails), uidsV (lateU s since b.mails)) := by rw [uh V, uh FX, uh EB, uh FI]
       refine ⟨.slice al b.mails.length cl, .slice a2 b.tombs.length c2, .slice auUC (uidsV (newU s how bits since b.mails)).length cuUC, .slice auUL (uidsV (lateU s since b.mails)).length cuUL, by rw [EV], ?_, ?_, ?_, fun x hx hx2 => ?_, uh BB⟩
       ·rw [EV]; exact ⟨g_based (uh OM) (by have sz1_ := uh sz1; have sz2_ := uh sz2; have sz3_ := uh sz3; have sz4_ := uh sz4; have sz5_ := uh sz5; have sz6_ := uh sz6; have sz7_ := uh sz7; have sz8_ := uh sz8; have szf_ := uh szf; have sz9_ := uh sz9; have sz10_ := uh sz10; have sz11_ := uh sz11; have sz12_ := uh sz12; have sz13_ := uh sz13; have sz14_ := uh sz14; have sz15_ := uh sz15; omega), g_based (uh OT) (by have sz1_ := uh sz1; have sz2_ := uh sz2; have sz3_ := uh sz3; have sz4_ := uh sz4; have sz5_ := uh sz5; have sz6_ := uh sz6; have sz7_ := uh sz7; have sz8_ := uh sz8; have szf_ := uh szf; have sz9_ := uh sz9; have sz10_ := uh sz10; have sz11_ := uh sz11; have sz12_ := uh sz12; have sz13_ := uh sz13; have sz14_ := uh sz14; have sz15_ := uh sz15; omega)⟩
       ·rw [EV]; exact g_based (uh UC) (by have sz1_ := uh sz1; have sz2_ := uh sz2; have sz3_ := uh sz3; have sz4_ := uh sz4; have sz5_ := uh sz5; have sz6_ := uh sz6; have sz7_ := uh sz7; have sz8_ := uh sz8; have szf_ := uh szf; have sz9_ := uh sz9; have sz10_ := uh sz10; have sz11_ := uh sz11; have sz12_ := uh sz12; have sz13_ := uh sz13; have sz14_ := uh sz14; have sz15_ := uh sz15; omega)
       ·rw [EV]; exact g_based (uh UL) (by have sz1_ := uh sz1; have sz2_ := uh sz2; have sz3_ := uh sz3; have sz4_ := uh sz4; have sz5_ := uh sz5; have sz6_ := uh sz6; have sz7_ := uh sz7; have sz8_ := uh sz8; have szf_ := uh szf; have sz9_ := uh sz9; have sz10_ := uh sz10; have sz11_ := uh sz11; have sz12_ := uh sz12; have sz13_ := uh sz13; have sz14_ := uh sz14; have sz15_ := uh sz15; omega)
       ·have p1_ := lUC x hx; have p2_ := lUL x hx2; omega
end Go.Proofs.YtlngjflhbkannaaGreat
