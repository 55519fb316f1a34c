/- The specification's SetFlags. Made by gen_setflags2.py. -/
import Derived.Test.YtlngjflhbkannaaGreatAddMailS
import Derived.Test.YtlngjflhbkannaaGreatBoxA
import Derived.Test.YtlngjflhbkannaaGreatBoxP
import Derived.Test.YtlngjflhbkannaaGreatSetA
import Derived.Test.YtlngjflhbkannaaGreatRowStore
import Derived.Test.YtlngjflhbkannaaGreatFfA
import Derived.Test.YtlngjflhbkannaaGreatSetHeld
import Derived.Test.YtlngjflhbkannaaGreatRegA
import Derived.BigQuiet
namespace Go.Proofs.YtlngjflhbkannaaGreat
open Go.RowKit
open Plain
set_option linter.unusedVariables false
set_option linter.unusedSimpArgs false

set_option maxHeartbeats 16000000 in
set_option maxRecDepth 100000 in
theorem spec_SetFlags_any (b : Bx) (m t : Value) (B0 : Nat) (s : List Rg) (vs : Value) (how bits since : Int) (w : World) (hf : FitBx b) (hsl : s.length ≤ 1048576) (hR : ReadR w vs s) (h : OwnBx B0 w m t b) :
  Calls Tryz.prog 25 #[boxV b m t, vs, .int .i64 how, .int .i64 bits, .int .i64 since] w fun e w' => ∃ m' t' vd vl, e = .returned (.tuple #[boxV (flagsV b s how bits since).1 m' t', vd, vl]) ∧ OwnBx w.heap.size w' m' t' (flagsV b s how bits since).1 ∧ OwnR w.heap.size w' vd (flagsV b s how bits since).2.1 ∧ OwnR w.heap.size w' vl (flagsV b s how bits since).2.2 ∧ Below w.heap.size w w' := by
 have hl1 := hf.mails; have hl2 := hf.tombs
 obtain ⟨am, cm, rfl⟩ := g_shape h.1
 obtain ⟨at1, ct1, rfl⟩ := g_shape h.2
 have HO := hide h; have HF := hide hf; have HR := hide hR
 have V1 := hide (fun hq => flagsV_no1 (b := b) (s := s) (how := how) (bits := bits) (since := since) hq)
 have V2 := hide (fun hq => flagsV_no2 (b := b) (s := s) (how := how) (bits := bits) (since := since) hq)
 have V3 := hide (fun h1 h2 => flagsV_yes (b := b) (s := s) (how := how) (bits := bits) (since := since) h1 h2)
 clear h hf hR; have BB := hide (Below.refl w.heap.size w)
 obtain ⟨w1, hP⟩ : ∃ X, X = w.alloc (.cells ([.string b.name, .int .i64 b.valid, .int .i64 b.next, .int .i64 b.mod, .slice am b.mails.length cm, .slice at1 b.tombs.length ct1, .int .i64 b.hor] : List Value).toArray 50) := ⟨_, rfl⟩
 have Px : HasObj w1 w.heap.size 50 [.string b.name, .int .i64 b.valid, .int .i64 b.next, .int .i64 b.mod, .slice am b.mails.length cm, .slice at1 b.tombs.length ct1, .int .i64 b.hor] := by rw [hP]; exact HasObj.new _ _ _
 have hbn : Below w.heap.size w w1 := by rw [hP]; exact (Below.refl _ _).alloc (Nat.le_refl _) _
 have loP : w.heap.size ≤ w.heap.size := (uh BB).size
 have EP := hP.symm; clear hP; have sz1 := hide (hbn.size); replace BB := hide (below_y (uh BB) hbn); clear hbn; have P := hide Px; clear Px
 obtain ⟨w2, hR⟩ : ∃ X, X = w1.alloc (.cells ([.string ⟨#[]⟩, .int .i64 0, .int .i64 0, .int .i64 0, .slice none 0 0, .slice none 0 0, .int .i64 0] : List Value).toArray 50) := ⟨_, rfl⟩
 have Rx : HasObj w2 w1.heap.size 50 [.string ⟨#[]⟩, .int .i64 0, .int .i64 0, .int .i64 0, .slice none 0 0, .slice none 0 0, .int .i64 0] := by rw [hR]; exact HasObj.new _ _ _
 have hbn : Below w1.heap.size w1 w2 := by rw [hR]; exact (Below.refl _ _).alloc (Nat.le_refl _) _
 have nePR : w.heap.size ≠ w1.heap.size := Nat.ne_of_lt (uh P).lt
 have loR : w.heap.size ≤ w1.heap.size := (uh BB).size
 have ER := hR.symm; clear hR; replace P := hide ((uh P).ups hbn); have sz2 := hide (hbn.size); replace BB := hide (below_y (uh BB) hbn); clear hbn; have R := hide Rx; clear Rx; have Pc0_1 := (uh P).cell 0 rfl; have Pc1_1 := (uh P).cell 1 rfl; have Pc2_1 := (uh P).cell 2 rfl; have Pc3_1 := (uh P).cell 3 rfl; have Pc4_1 := (uh P).cell 4 rfl; have Pc5_1 := (uh P).cell 5 rfl; have Pc6_1 := (uh P).cell 6 rfl
 go_enter Tryz.func25, Tryz.ntmps25
 go_wp2_with fail; clear Pc0_1 Pc1_1 Pc2_1 Pc3_1 Pc4_1 Pc5_1 Pc6_1 EP ER
 refine (l08Copy_any b _ _ B0 _ hl1 hl2 ((uh HO).up (uh BB))).mono ?_
 rintro e w3 ⟨mS, tS, rfl, oS, hb⟩
 obtain ⟨amS, cmS, rfl⟩ := g_shape oS.1
 obtain ⟨atS, ctS, rfl⟩ := g_shape oS.2
 have NS := hide (OwnBx.base oS); replace P := hide ((uh P).ups hb); replace R := hide ((uh R).ups hb); have sz3 := hide (hb.size); replace BB := hide (below_y (uh BB) hb); clear hb; have OS := hide oS; clear oS
 obtain ⟨w4, hS⟩ : ∃ X, X = w3.alloc (.cells ([.string b.name, .int .i64 b.valid, .int .i64 b.next, .int .i64 b.mod, .slice amS b.mails.length cmS, .slice atS b.tombs.length ctS, .int .i64 b.hor] : List Value).toArray 50) := ⟨_, rfl⟩
 have Sx : HasObj w4 w3.heap.size 50 [.string b.name, .int .i64 b.valid, .int .i64 b.next, .int .i64 b.mod, .slice amS b.mails.length cmS, .slice atS b.tombs.length ctS, .int .i64 b.hor] := by rw [hS]; exact HasObj.new _ _ _
 have hbn : Below w3.heap.size w3 w4 := by rw [hS]; exact (Below.refl _ _).alloc (Nat.le_refl _) _
 have nePS : w.heap.size ≠ w3.heap.size := Nat.ne_of_lt (uh P).lt
 have neRS : w1.heap.size ≠ w3.heap.size := Nat.ne_of_lt (uh R).lt
 have loS : w.heap.size ≤ w3.heap.size := (uh BB).size
 have ES := hS.symm; clear hS; replace P := hide ((uh P).ups hbn); replace R := hide ((uh R).ups hbn); replace OS := hide ((uh OS).up hbn); have sz4 := hide (hbn.size); replace BB := hide (below_y (uh BB) hbn); clear hbn; have S := hide Sx; clear Sx
 obtain ⟨w5, hRD⟩ : ∃ X, X = w4.alloc (.cells #[] 106) := ⟨_, rfl⟩
 have oRD : OwnR w4.heap.size w5 (.slice (some ⟨w4.heap.size, 0, none⟩) 0 0) [] := by rw [hRD]; exact World.ownsRow_lit (size := 2) (e := 106) w4 #[] 0 (Nat.le_refl _) (Nat.zero_le _) rfl
 have hbn : Below w4.heap.size w4 w5 := by rw [hRD]; exact (Below.refl _ _).alloc (Nat.le_refl _) _
 have ERD := hRD.symm; clear hRD; replace P := hide ((uh P).ups hbn); replace R := hide ((uh R).ups hbn); replace S := hide ((uh S).ups hbn); replace OS := hide ((uh OS).up hbn); have sz5 := hide (hbn.size); replace BB := hide (below_y (uh BB) hbn); clear hbn; have RD := hide oRD; clear oRD
 obtain ⟨w6, hRL⟩ : ∃ X, X = w5.alloc (.cells #[] 106) := ⟨_, rfl⟩
 have oRL : OwnR w5.heap.size w6 (.slice (some ⟨w5.heap.size, 0, none⟩) 0 0) [] := by rw [hRL]; exact World.ownsRow_lit (size := 2) (e := 106) w5 #[] 0 (Nat.le_refl _) (Nat.zero_le _) rfl
 have hbn : Below w5.heap.size w5 w6 := by rw [hRL]; exact (Below.refl _ _).alloc (Nat.le_refl _) _
 have ERL := hRL.symm; clear hRL; replace P := hide ((uh P).ups hbn); replace R := hide ((uh R).ups hbn); replace S := hide ((uh S).ups hbn); replace OS := hide ((uh OS).up hbn); replace RD := hide ((uh RD).up hbn); have sz6 := hide (hbn.size); replace BB := hide (below_y (uh BB) hbn); clear hbn; have RL := hide oRL; clear oRL; have Pc0_2 := (uh P).cell 0 rfl; have Pc1_2 := (uh P).cell 1 rfl; have Pc2_2 := (uh P).cell 2 rfl; have Pc3_2 := (uh P).cell 3 rfl; have Pc4_2 := (uh P).cell 4 rfl; have Pc5_2 := (uh P).cell 5 rfl; have Pc6_2 := (uh P).cell 6 rfl; go_wp2_with fail; clear Pc0_2 Pc1_2 Pc2_2 Pc3_2 Pc4_2 Pc5_2 Pc6_2 ES ERD ERL
 refine (spec_BoxOk_any b _ _ B0 _ (uh HF) ((uh HO).up (uh BB))).mono ?_
 rintro e w7 ⟨rfl, hb⟩
 replace P := hide ((uh P).ups hb); replace R := hide ((uh R).ups hb); replace S := hide ((uh S).ups hb); replace OS := hide ((uh OS).up hb); replace RD := hide ((uh RD).up hb); replace RL := hide ((uh RL).up hb); have sz7 := hide (hb.size); replace BB := hide (below_y (uh BB) hb); clear hb
 cases hq1 : boxOk b with
 | false =>
  have Sc0_3 := (uh S).cell 0 rfl; have Sc1_3 := (uh S).cell 1 rfl; have Sc2_3 := (uh S).cell 2 rfl; have Sc3_3 := (uh S).cell 3 rfl; have Sc4_3 := (uh S).cell 4 rfl; have Sc5_3 := (uh S).cell 5 rfl; have Sc6_3 := (uh S).cell 6 rfl
  have V := hide (uh V1 (by unfold fgOk; rw [hq1]; rfl))
  have Rf0 := (uh R).frozen 0; have Rf1 := (uh R).frozen 1; have Rf2 := (uh R).frozen 2; have Rf3 := (uh R).frozen 3; have Rf4 := (uh R).frozen 4; have Rf5 := (uh R).frozen 5; have Rf6 := (uh R).frozen 6; have Re0 := (uh R).cell 0 rfl; have Re1 := (uh R).cell 1 rfl; have Re2 := (uh R).cell 2 rfl; have Re3 := (uh R).cell 3 rfl; have Re4 := (uh R).cell 4 rfl; have Re5 := (uh R).cell 5 rfl; have Re6 := (uh R).cell 6 rfl; have F := hide (fill7 (uh R) (.string b.name) (.int .i64 b.valid) (.int .i64 b.next) (.int .i64 b.mod) (.slice amS b.mails.length cmS) (.slice atS b.tombs.length ctS) (.int .i64 b.hor))
  obtain ⟨U, hU⟩ : ∃ U, U = (((((((w7.setCell ⟨w1.heap.size, 0, none⟩ (.string b.name)).setCell ⟨w1.heap.size, 1, none⟩ (.int .i64 b.valid)).setCell ⟨w1.heap.size, 2, none⟩ (.int .i64 b.next)).setCell ⟨w1.heap.size, 3, none⟩ (.int .i64 b.mod)).setCell ⟨w1.heap.size, 4, none⟩ (.slice amS b.mails.length cmS)).setCell ⟨w1.heap.size, 5, none⟩ (.slice atS b.tombs.length ctS)).setCell ⟨w1.heap.size, 6, none⟩ (.int .i64 b.hor)) := ⟨_, rfl⟩
  have F9 := uh F
  rw [← hU] at F9
  have EU := hU.symm; clear F hU; have v0 := F9.obj.cell 0 rfl; have v1 := F9.obj.cell 1 rfl; have v2 := F9.obj.cell 2 rfl; have v3 := F9.obj.cell 3 rfl; have v4 := F9.obj.cell 4 rfl; have v5 := F9.obj.cell 5 rfl; have v6 := F9.obj.cell 6 rfl; have F := hide F9; clear F9
  go_wp2_with (refine bodyPost_ret (by simp [results, Tryz.results25, go_sem, v0, v1, v2, v3, v4, v5, v6]; try rfl) rfl ?_)
  clear EU; have F := uh F
  refine ⟨.slice amS b.mails.length cmS, .slice atS b.tombs.length ctS, .slice (some ⟨w4.heap.size, 0, none⟩) 0 0, .slice (some ⟨w5.heap.size, 0, none⟩) 0 0, by rw [uh V], ?_, ?_, ?_, F.below loR (uh BB)⟩
  ·rw [uh V]; exact ⟨g_based (F.row (by decide) (uh OS).1) (by have sz1_ := uh sz1; have sz2_ := uh sz2; have sz3_ := uh sz3; have sz4_ := uh sz4; have sz5_ := uh sz5; have sz6_ := uh sz6; have sz7_ := uh sz7; omega), g_based (F.row (by decide) (uh OS).2) (by have sz1_ := uh sz1; have sz2_ := uh sz2; have sz3_ := uh sz3; have sz4_ := uh sz4; have sz5_ := uh sz5; have sz6_ := uh sz6; have sz7_ := uh sz7; omega)⟩
  ·rw [uh V]; exact g_based (F.row (by decide) (uh RD)) (by have sz1_ := uh sz1; have sz2_ := uh sz2; have sz3_ := uh sz3; have sz4_ := uh sz4; have sz5_ := uh sz5; have sz6_ := uh sz6; have sz7_ := uh sz7; omega)
  ·rw [uh V]; exact g_based (F.row (by decide) (uh RL)) (by have sz1_ := uh sz1; have sz2_ := uh sz2; have sz3_ := uh sz3; have sz4_ := uh sz4; have sz5_ := uh sz5; have sz6_ := uh sz6; have sz7_ := uh sz7; omega)
 | true =>
  go_wp2_with fail
  refine (setOk_held s vs _ hsl ((uh HR).up (uh BB))).mono ?_
  rintro e w8 ⟨rfl, hb⟩
  replace P := hide ((uh P).ups hb); replace R := hide ((uh R).ups hb); replace S := hide ((uh S).ups hb); replace OS := hide ((uh OS).up hb); replace RD := hide ((uh RD).up hb); replace RL := hide ((uh RL).up hb); have sz8 := hide (hb.size); replace BB := hide (below_y (uh BB) hb); clear hb
  cases hq2 : okS s with
  | false =>
   have Sc0_3 := (uh S).cell 0 rfl; have Sc1_3 := (uh S).cell 1 rfl; have Sc2_3 := (uh S).cell 2 rfl; have Sc3_3 := (uh S).cell 3 rfl; have Sc4_3 := (uh S).cell 4 rfl; have Sc5_3 := (uh S).cell 5 rfl; have Sc6_3 := (uh S).cell 6 rfl
   have V := hide (uh V1 (by unfold fgOk; rw [hq1, hq2]; rfl))
   have Rf0 := (uh R).frozen 0; have Rf1 := (uh R).frozen 1; have Rf2 := (uh R).frozen 2; have Rf3 := (uh R).frozen 3; have Rf4 := (uh R).frozen 4; have Rf5 := (uh R).frozen 5; have Rf6 := (uh R).frozen 6; have Re0 := (uh R).cell 0 rfl; have Re1 := (uh R).cell 1 rfl; have Re2 := (uh R).cell 2 rfl; have Re3 := (uh R).cell 3 rfl; have Re4 := (uh R).cell 4 rfl; have Re5 := (uh R).cell 5 rfl; have Re6 := (uh R).cell 6 rfl; have F := hide (fill7 (uh R) (.string b.name) (.int .i64 b.valid) (.int .i64 b.next) (.int .i64 b.mod) (.slice amS b.mails.length cmS) (.slice atS b.tombs.length ctS) (.int .i64 b.hor))
   obtain ⟨U, hU⟩ : ∃ U, U = (((((((w8.setCell ⟨w1.heap.size, 0, none⟩ (.string b.name)).setCell ⟨w1.heap.size, 1, none⟩ (.int .i64 b.valid)).setCell ⟨w1.heap.size, 2, none⟩ (.int .i64 b.next)).setCell ⟨w1.heap.size, 3, none⟩ (.int .i64 b.mod)).setCell ⟨w1.heap.size, 4, none⟩ (.slice amS b.mails.length cmS)).setCell ⟨w1.heap.size, 5, none⟩ (.slice atS b.tombs.length ctS)).setCell ⟨w1.heap.size, 6, none⟩ (.int .i64 b.hor)) := ⟨_, rfl⟩
   have F9 := uh F
   rw [← hU] at F9
   have EU := hU.symm; clear F hU; have v0 := F9.obj.cell 0 rfl; have v1 := F9.obj.cell 1 rfl; have v2 := F9.obj.cell 2 rfl; have v3 := F9.obj.cell 3 rfl; have v4 := F9.obj.cell 4 rfl; have v5 := F9.obj.cell 5 rfl; have v6 := F9.obj.cell 6 rfl; have F := hide F9; clear F9
   go_wp2_with (refine bodyPost_ret (by simp [results, Tryz.results25, go_sem, v0, v1, v2, v3, v4, v5, v6]; try rfl) rfl ?_)
   clear EU; have F := uh F
   refine ⟨.slice amS b.mails.length cmS, .slice atS b.tombs.length ctS, .slice (some ⟨w4.heap.size, 0, none⟩) 0 0, .slice (some ⟨w5.heap.size, 0, none⟩) 0 0, by rw [uh V], ?_, ?_, ?_, F.below loR (uh BB)⟩
   ·rw [uh V]; exact ⟨g_based (F.row (by decide) (uh OS).1) (by have sz1_ := uh sz1; have sz2_ := uh sz2; have sz3_ := uh sz3; have sz4_ := uh sz4; have sz5_ := uh sz5; have sz6_ := uh sz6; have sz7_ := uh sz7; have sz8_ := uh sz8; omega), g_based (F.row (by decide) (uh OS).2) (by have sz1_ := uh sz1; have sz2_ := uh sz2; have sz3_ := uh sz3; have sz4_ := uh sz4; have sz5_ := uh sz5; have sz6_ := uh sz6; have sz7_ := uh sz7; have sz8_ := uh sz8; omega)⟩
   ·rw [uh V]; exact g_based (F.row (by decide) (uh RD)) (by have sz1_ := uh sz1; have sz2_ := uh sz2; have sz3_ := uh sz3; have sz4_ := uh sz4; have sz5_ := uh sz5; have sz6_ := uh sz6; have sz7_ := uh sz7; have sz8_ := uh sz8; omega)
   ·rw [uh V]; exact g_based (F.row (by decide) (uh RL)) (by have sz1_ := uh sz1; have sz2_ := uh sz2; have sz3_ := uh sz3; have sz4_ := uh sz4; have sz5_ := uh sz5; have sz6_ := uh sz6; have sz7_ := uh sz7; have sz8_ := uh sz8; omega)
  | true =>
   go_wp2_with fail
   refine (in_any how 1 3 _).mono ?_
   rintro e w9 ⟨rfl, hw⟩
   subst w9
   cases hq3 : inI how 1 3 with
   | false =>
    have Sc0_3 := (uh S).cell 0 rfl; have Sc1_3 := (uh S).cell 1 rfl; have Sc2_3 := (uh S).cell 2 rfl; have Sc3_3 := (uh S).cell 3 rfl; have Sc4_3 := (uh S).cell 4 rfl; have Sc5_3 := (uh S).cell 5 rfl; have Sc6_3 := (uh S).cell 6 rfl
    have V := hide (uh V1 (by unfold fgOk; rw [hq1, hq2, hq3]; rfl))
    have Rf0 := (uh R).frozen 0; have Rf1 := (uh R).frozen 1; have Rf2 := (uh R).frozen 2; have Rf3 := (uh R).frozen 3; have Rf4 := (uh R).frozen 4; have Rf5 := (uh R).frozen 5; have Rf6 := (uh R).frozen 6; have Re0 := (uh R).cell 0 rfl; have Re1 := (uh R).cell 1 rfl; have Re2 := (uh R).cell 2 rfl; have Re3 := (uh R).cell 3 rfl; have Re4 := (uh R).cell 4 rfl; have Re5 := (uh R).cell 5 rfl; have Re6 := (uh R).cell 6 rfl; have F := hide (fill7 (uh R) (.string b.name) (.int .i64 b.valid) (.int .i64 b.next) (.int .i64 b.mod) (.slice amS b.mails.length cmS) (.slice atS b.tombs.length ctS) (.int .i64 b.hor))
    obtain ⟨U, hU⟩ : ∃ U, U = (((((((w8.setCell ⟨w1.heap.size, 0, none⟩ (.string b.name)).setCell ⟨w1.heap.size, 1, none⟩ (.int .i64 b.valid)).setCell ⟨w1.heap.size, 2, none⟩ (.int .i64 b.next)).setCell ⟨w1.heap.size, 3, none⟩ (.int .i64 b.mod)).setCell ⟨w1.heap.size, 4, none⟩ (.slice amS b.mails.length cmS)).setCell ⟨w1.heap.size, 5, none⟩ (.slice atS b.tombs.length ctS)).setCell ⟨w1.heap.size, 6, none⟩ (.int .i64 b.hor)) := ⟨_, rfl⟩
    have F9 := uh F
    rw [← hU] at F9
    have EU := hU.symm; clear F hU; have v0 := F9.obj.cell 0 rfl; have v1 := F9.obj.cell 1 rfl; have v2 := F9.obj.cell 2 rfl; have v3 := F9.obj.cell 3 rfl; have v4 := F9.obj.cell 4 rfl; have v5 := F9.obj.cell 5 rfl; have v6 := F9.obj.cell 6 rfl; have F := hide F9; clear F9
    go_wp2_with (refine bodyPost_ret (by simp [results, Tryz.results25, go_sem, v0, v1, v2, v3, v4, v5, v6]; try rfl) rfl ?_)
    clear EU; have F := uh F
    refine ⟨.slice amS b.mails.length cmS, .slice atS b.tombs.length ctS, .slice (some ⟨w4.heap.size, 0, none⟩) 0 0, .slice (some ⟨w5.heap.size, 0, none⟩) 0 0, by rw [uh V], ?_, ?_, ?_, F.below loR (uh BB)⟩
    ·rw [uh V]; exact ⟨g_based (F.row (by decide) (uh OS).1) (by have sz1_ := uh sz1; have sz2_ := uh sz2; have sz3_ := uh sz3; have sz4_ := uh sz4; have sz5_ := uh sz5; have sz6_ := uh sz6; have sz7_ := uh sz7; have sz8_ := uh sz8; omega), g_based (F.row (by decide) (uh OS).2) (by have sz1_ := uh sz1; have sz2_ := uh sz2; have sz3_ := uh sz3; have sz4_ := uh sz4; have sz5_ := uh sz5; have sz6_ := uh sz6; have sz7_ := uh sz7; have sz8_ := uh sz8; omega)⟩
    ·rw [uh V]; exact g_based (F.row (by decide) (uh RD)) (by have sz1_ := uh sz1; have sz2_ := uh sz2; have sz3_ := uh sz3; have sz4_ := uh sz4; have sz5_ := uh sz5; have sz6_ := uh sz6; have sz7_ := uh sz7; have sz8_ := uh sz8; omega)
    ·rw [uh V]; exact g_based (F.row (by decide) (uh RL)) (by have sz1_ := uh sz1; have sz2_ := uh sz2; have sz3_ := uh sz3; have sz4_ := uh sz4; have sz5_ := uh sz5; have sz6_ := uh sz6; have sz7_ := uh sz7; have sz8_ := uh sz8; omega)
   | true =>
    go_wp2_with fail
    refine (spec_FlagsOk_any bits _).mono ?_
    rintro e w10 ⟨rfl, hw⟩
    subst w10
    cases hq4 : flOk bits with
    | false =>
     have Sc0_3 := (uh S).cell 0 rfl; have Sc1_3 := (uh S).cell 1 rfl; have Sc2_3 := (uh S).cell 2 rfl; have Sc3_3 := (uh S).cell 3 rfl; have Sc4_3 := (uh S).cell 4 rfl; have Sc5_3 := (uh S).cell 5 rfl; have Sc6_3 := (uh S).cell 6 rfl
     have V := hide (uh V1 (by unfold fgOk; rw [hq1, hq2, hq3, hq4]; rfl))
     have Rf0 := (uh R).frozen 0; have Rf1 := (uh R).frozen 1; have Rf2 := (uh R).frozen 2; have Rf3 := (uh R).frozen 3; have Rf4 := (uh R).frozen 4; have Rf5 := (uh R).frozen 5; have Rf6 := (uh R).frozen 6; have Re0 := (uh R).cell 0 rfl; have Re1 := (uh R).cell 1 rfl; have Re2 := (uh R).cell 2 rfl; have Re3 := (uh R).cell 3 rfl; have Re4 := (uh R).cell 4 rfl; have Re5 := (uh R).cell 5 rfl; have Re6 := (uh R).cell 6 rfl; have F := hide (fill7 (uh R) (.string b.name) (.int .i64 b.valid) (.int .i64 b.next) (.int .i64 b.mod) (.slice amS b.mails.length cmS) (.slice atS b.tombs.length ctS) (.int .i64 b.hor))
     obtain ⟨U, hU⟩ : ∃ U, U = (((((((w8.setCell ⟨w1.heap.size, 0, none⟩ (.string b.name)).setCell ⟨w1.heap.size, 1, none⟩ (.int .i64 b.valid)).setCell ⟨w1.heap.size, 2, none⟩ (.int .i64 b.next)).setCell ⟨w1.heap.size, 3, none⟩ (.int .i64 b.mod)).setCell ⟨w1.heap.size, 4, none⟩ (.slice amS b.mails.length cmS)).setCell ⟨w1.heap.size, 5, none⟩ (.slice atS b.tombs.length ctS)).setCell ⟨w1.heap.size, 6, none⟩ (.int .i64 b.hor)) := ⟨_, rfl⟩
     have F9 := uh F
     rw [← hU] at F9
     have EU := hU.symm; clear F hU; have v0 := F9.obj.cell 0 rfl; have v1 := F9.obj.cell 1 rfl; have v2 := F9.obj.cell 2 rfl; have v3 := F9.obj.cell 3 rfl; have v4 := F9.obj.cell 4 rfl; have v5 := F9.obj.cell 5 rfl; have v6 := F9.obj.cell 6 rfl; have F := hide F9; clear F9
     go_wp2_with (refine bodyPost_ret (by simp [results, Tryz.results25, go_sem, v0, v1, v2, v3, v4, v5, v6]; try rfl) rfl ?_)
     clear EU; have F := uh F
     refine ⟨.slice amS b.mails.length cmS, .slice atS b.tombs.length ctS, .slice (some ⟨w4.heap.size, 0, none⟩) 0 0, .slice (some ⟨w5.heap.size, 0, none⟩) 0 0, by rw [uh V], ?_, ?_, ?_, F.below loR (uh BB)⟩
     ·rw [uh V]; exact ⟨g_based (F.row (by decide) (uh OS).1) (by have sz1_ := uh sz1; have sz2_ := uh sz2; have sz3_ := uh sz3; have sz4_ := uh sz4; have sz5_ := uh sz5; have sz6_ := uh sz6; have sz7_ := uh sz7; have sz8_ := uh sz8; omega), g_based (F.row (by decide) (uh OS).2) (by have sz1_ := uh sz1; have sz2_ := uh sz2; have sz3_ := uh sz3; have sz4_ := uh sz4; have sz5_ := uh sz5; have sz6_ := uh sz6; have sz7_ := uh sz7; have sz8_ := uh sz8; omega)⟩
     ·rw [uh V]; exact g_based (F.row (by decide) (uh RD)) (by have sz1_ := uh sz1; have sz2_ := uh sz2; have sz3_ := uh sz3; have sz4_ := uh sz4; have sz5_ := uh sz5; have sz6_ := uh sz6; have sz7_ := uh sz7; have sz8_ := uh sz8; omega)
     ·rw [uh V]; exact g_based (F.row (by decide) (uh RL)) (by have sz1_ := uh sz1; have sz2_ := uh sz2; have sz3_ := uh sz3; have sz4_ := uh sz4; have sz5_ := uh sz5; have sz6_ := uh sz6; have sz7_ := uh sz7; have sz8_ := uh sz8; omega)
    | true =>
     have FOK : Hid (fgOk b s how bits = true) := by show fgOk b s how bits = true; unfold fgOk; rw [hq1, hq2, hq3, hq4]; rfl
     have hmod := inI_iff.1 (head_parts (boxOk_iff.1 hq1).1).2.2.2.1
     have FIT := hide (fun (x : Fg) (hx : x = fgOf b s how bits since) => fg_fit (s := s) (how := how) (bits := bits) (since := since) (uh HF))
     clear hq1 hq2 hq3 hq4
     have nm : IntKind.i64.wrap (b.mod + 1) = b.mod + 1 := by rw [IntKind.wrap_i64]; omega
     have Pc0_3 := (uh P).cell 0 rfl; have Pc1_3 := (uh P).cell 1 rfl; have Pc2_3 := (uh P).cell 2 rfl; have Pc3_3 := (uh P).cell 3 rfl; have Pc4_3 := (uh P).cell 4 rfl; have Pc5_3 := (uh P).cell 5 rfl; have Pc6_3 := (uh P).cell 6 rfl; go_wp2_with fail; clear Pc0_3 Pc1_3 Pc2_3 Pc3_3 Pc4_3 Pc5_3 Pc6_3
     refine (l08Copy_any b _ _ B0 _ hl1 hl2 ((uh HO).up (uh BB))).mono ?_
     rintro e w11 ⟨mQ, tQ, rfl, oQ, hb⟩
     obtain ⟨amQ, cmQ, rfl⟩ := g_shape oQ.1
     obtain ⟨atQ, ctQ, rfl⟩ := g_shape oQ.2
     have NQ := hide (OwnBx.base oQ); replace P := hide ((uh P).ups hb); replace R := hide ((uh R).ups hb); replace S := hide ((uh S).ups hb); replace OS := hide ((uh OS).up hb); replace RD := hide ((uh RD).up hb); replace RL := hide ((uh RL).up hb); have sz9 := hide (hb.size); replace BB := hide (below_y (uh BB) hb); clear hb; have OQ := hide oQ; clear oQ
     obtain ⟨w12, hQ⟩ : ∃ X, X = w11.alloc (.cells ([.string b.name, .int .i64 b.valid, .int .i64 b.next, .int .i64 b.mod, .slice amQ b.mails.length cmQ, .slice atQ b.tombs.length ctQ, .int .i64 b.hor] : List Value).toArray 50) := ⟨_, rfl⟩
     have Qx : HasObj w12 w11.heap.size 50 [.string b.name, .int .i64 b.valid, .int .i64 b.next, .int .i64 b.mod, .slice amQ b.mails.length cmQ, .slice atQ b.tombs.length ctQ, .int .i64 b.hor] := by rw [hQ]; exact HasObj.new _ _ _
     have hbn : Below w11.heap.size w11 w12 := by rw [hQ]; exact (Below.refl _ _).alloc (Nat.le_refl _) _
     have nePQ : w.heap.size ≠ w11.heap.size := Nat.ne_of_lt (uh P).lt
     have neRQ : w1.heap.size ≠ w11.heap.size := Nat.ne_of_lt (uh R).lt
     have neSQ : w3.heap.size ≠ w11.heap.size := Nat.ne_of_lt (uh S).lt
     have loQ : w.heap.size ≤ w11.heap.size := (uh BB).size
     have EQ := hQ.symm; clear hQ; replace P := hide ((uh P).ups hbn); replace R := hide ((uh R).ups hbn); replace S := hide ((uh S).ups hbn); replace OS := hide ((uh OS).up hbn); replace RD := hide ((uh RD).up hbn); replace RL := hide ((uh RL).up hbn); replace OQ := hide ((uh OQ).up hbn); have sz10 := hide (hbn.size); replace BB := hide (below_y (uh BB) hbn); clear hbn; have Q := hide Qx; clear Qx; have Qc0_4 := (uh Q).cell 0 rfl; have Qc1_4 := (uh Q).cell 1 rfl; have Qc2_4 := (uh Q).cell 2 rfl; have Qc3_4 := (uh Q).cell 3 rfl; have Qc4_4 := (uh Q).cell 4 rfl; have Qc5_4 := (uh Q).cell 5 rfl; have Qc6_4 := (uh Q).cell 6 rfl
     have SEP : Hid (∀ x, (Value.ownBlock (.slice amS b.mails.length cmS) = some x ∨ Value.ownBlock (.slice atS b.tombs.length ctS) = some x) → x < w8.heap.size) := fun x hx => by have q1 := (uh NS x hx).2; have sz1_ := uh sz1; have sz2_ := uh sz2; have sz3_ := uh sz3; have sz4_ := uh sz4; have sz5_ := uh sz5; have sz6_ := uh sz6; have sz7_ := uh sz7; have sz8_ := uh sz8; have sz9_ := uh sz9; have sz10_ := uh sz10; omega
     have lQ : w.heap.size ≤ w8.heap.size := by have sz1_ := uh sz1; have sz2_ := uh sz2; have sz3_ := uh sz3; have sz4_ := uh sz4; have sz5_ := uh sz5; have sz6_ := uh sz6; have sz7_ := uh sz7; have sz8_ := uh sz8; have sz9_ := uh sz9; have sz10_ := uh sz10; omega
     have rM0 : Hid (OwnMl w8.heap.size w12 (.slice amQ b.mails.length cmQ) (fgRow b (fgTo b s how bits since 0) 0)) := by show OwnMl _ _ _ _; rw [show fgRow b (fgTo b s how bits since 0) 0 = b.mails by simp [fgRow, fgTo]]; exact (uh OQ).1
     go_wp2
     clear Qc0_4 Qc1_4 Qc2_4 Qc3_4 Qc4_4 Qc5_4 Qc6_4 EQ
     obtain ⟨REL, HREL⟩ : ∃ REL : Value → Value → Value → World → Prop, Hid (REL = fun vd vl i wr => ∃ k : Nat, k ≤ b.mails.length ∧ i = .int .i64 k ∧ HasObj wr w.heap.size 50 [.string b.name, .int .i64 b.valid, .int .i64 b.next, .int .i64 b.mod, .slice am b.mails.length cm, .slice at1 b.tombs.length ct1, .int .i64 b.hor] ∧ HasObj wr (w1.heap.size) 50 [.string ⟨#[]⟩, .int .i64 0, .int .i64 0, .int .i64 0, .slice none 0 0, .slice none 0 0, .int .i64 0] ∧ HasObj wr (w3.heap.size) 50 [.string b.name, .int .i64 b.valid, .int .i64 b.next, .int .i64 b.mod, .slice amS b.mails.length cmS, .slice atS b.tombs.length ctS, .int .i64 b.hor] ∧ HasObj wr (w11.heap.size) 50 [.string b.name, .int .i64 b.valid, .int .i64 b.next, .int .i64 (fgTo b s how bits since k).md, .slice amQ b.mails.length cmQ, .slice atQ b.tombs.length ctQ, .int .i64 b.hor] ∧ OwnBx w2.heap.size wr (.slice amS b.mails.length cmS) (.slice atS b.tombs.length ctS) b ∧ OwnMl w8.heap.size wr (.slice amQ b.mails.length cmQ) (fgRow b (fgTo b s how bits since k) k) ∧ OwnTb w8.heap.size wr (.slice atQ b.tombs.length ctQ) b.tombs ∧ OwnR w.heap.size wr vd (fgTo b s how bits since k).done ∧ OwnR w.heap.size wr vl (fgTo b s how bits since k).late ∧ Below w.heap.size w wr) := ⟨_, rfl⟩
     go_loopw [14, 15, 17] (fun vd vl i wr => REL vd vl i wr) (fun _ _ i _ => b.mails.length - (intOf i).toNat)
     case atStart => rw [uh HREL]; exact ⟨0, Nat.zero_le _, rfl, uh P, uh R, uh S, uh Q, uh OS, uh rM0, (uh OQ).2, g_based (uh RD) (by have sz1_ := uh sz1; have sz2_ := uh sz2; have sz3_ := uh sz3; have sz4_ := uh sz4; have sz5_ := uh sz5; have sz6_ := uh sz6; have sz7_ := uh sz7; have sz8_ := uh sz8; have sz9_ := uh sz9; have sz10_ := uh sz10; omega), g_based (uh RL) (by have sz1_ := uh sz1; have sz2_ := uh sz2; have sz3_ := uh sz3; have sz4_ := uh sz4; have sz5_ := uh sz5; have sz6_ := uh sz6; have sz7_ := uh sz7; have sz8_ := uh sz8; have sz9_ := uh sz9; have sz10_ := uh sz10; omega), uh BB⟩
     have lOS : Hid (w.heap.size ≤ w2.heap.size) := by show _ ≤ _; have sz1_ := uh sz1; have sz2_ := uh sz2; have sz3_ := uh sz3; have sz4_ := uh sz4; have sz5_ := uh sz5; have sz6_ := uh sz6; have sz7_ := uh sz7; have sz8_ := uh sz8; have sz9_ := uh sz9; have sz10_ := uh sz10; omega
     clear P R S Q OS rM0 OQ RD RL BB NS NQ
     case round =>
      rw [uh HREL] at hrel
      obtain ⟨k, hk, rfl, oP, oR, oS, oQ, bS, rM, rT, rD, rL, hbel⟩ := hrel
      obtain ⟨wo, hwo⟩ : ∃ wo, wo = wr := ⟨_, rfl⟩
      subst hwo
      by_cases hlt : k < b.mails.length
      ·have hgk : b.mails[k]? = some b.mails[k] := List.getElem?_eq_getElem hlt
       obtain ⟨l1, l2, l3⟩ := fg_len b s how bits since k hk
       have NX := hide (fg_next (s := s) (how := how) (bits := bits) (since := since) hgk); have SAME := hide (fgRow_same l1 hgk)
       have SET := hide (fun n => fgRow_set n l1 hgk)
       have AT := fgRow_at l1 hgk; have RLen := fgRow_len l1 hk
       have rM2 : wo.ownsRow w8.heap.size 100 4 (.slice amQ b.mails.length cmQ) b.mails.length (rowC mlC (fgRow b (fgTo b s how bits since k) k)) := by have h9 := rM; unfold OwnMl at h9; rw [RLen] at h9; exact h9
       rcases rM2.2 with ⟨_, e0⟩ | ⟨g, cp, cur, e, hgB, _, _⟩
       ·omega
       cases e
       have gl := (rM2.lt g rfl).2
       obtain ⟨c0, c1, c2, c3⟩ := ml_cells rM2 AT hlt
       generalize b.mails[k] = f at *
       generalize fgTo b s how bits since k = x at *
       unfold fgStep at NX
       have AT := hide AT; have RLen := hide RLen; have l1 := hide l1
       have i1 : (0 : Int) ≤ (k : Int) := by omega
       have i2 : (k : Int) < (b.mails.length : Int) := by omega
       have P := hide oP; have R := hide oR; have S := hide oS; have Q := hide oQ; have OS := hide bS; have RM := hide rM2; have RT := hide rT; have RD := hide rD; have RL := hide rL; have BB := hide hbel; clear oP oR oS oQ bS rM rM2 rT rD rL hbel hgk; have Qc0_5 := (uh Q).cell 0 rfl; have Qc1_5 := (uh Q).cell 1 rfl; have Qc2_5 := (uh Q).cell 2 rfl; have Qc3_5 := (uh Q).cell 3 rfl; have Qc4_5 := (uh Q).cell 4 rfl; have Qc5_5 := (uh Q).cell 5 rfl; have Qc6_5 := (uh Q).cell 6 rfl
       obtain ⟨wr1, hM⟩ : ∃ X, X = wo.alloc (.cells ([.int .i64 f.uid, .int .i64 f.flags, .int .i64 f.mod, .string f.text] : List Value).toArray 100) := ⟨_, rfl⟩
       have Mx : HasObj wr1 wo.heap.size 100 [.int .i64 f.uid, .int .i64 f.flags, .int .i64 f.mod, .string f.text] := by rw [hM]; exact HasObj.new _ _ _
       have hbn : Below wo.heap.size wo wr1 := by rw [hM]; exact (Below.refl _ _).alloc (Nat.le_refl _) _
       have nePM : w.heap.size ≠ wo.heap.size := Nat.ne_of_lt (uh P).lt
       have neRM : w1.heap.size ≠ wo.heap.size := Nat.ne_of_lt (uh R).lt
       have neSM : w3.heap.size ≠ wo.heap.size := Nat.ne_of_lt (uh S).lt
       have neQM : w11.heap.size ≠ wo.heap.size := Nat.ne_of_lt (uh Q).lt
       have loM : w.heap.size ≤ wo.heap.size := (uh BB).size
       have EM := hM.symm; clear hM; replace RM := hide (g_stays (uh RM) hbn); replace P := hide ((uh P).ups hbn); replace R := hide ((uh R).ups hbn); replace S := hide ((uh S).ups hbn); replace Q := hide ((uh Q).ups hbn); replace OS := hide ((uh OS).up hbn); replace RT := hide ((uh RT).up hbn); replace RD := hide ((uh RD).up hbn); replace RL := hide ((uh RL).up hbn); have sz101 := hide (hbn.size); replace BB := hide (below_y (uh BB) hbn); clear hbn; have M := hide Mx; clear Mx; have Mc0_6 := (uh M).cell 0 rfl; have Mc1_6 := (uh M).cell 1 rfl; have Mc2_6 := (uh M).cell 2 rfl; have Mc3_6 := (uh M).cell 3 rfl
       have mne : g ≠ wo.heap.size := by omega
       go_wp2_with fail; clear Qc0_5 Qc1_5 Qc2_5 Qc3_5 Qc4_5 Qc5_5 Qc6_5 Mc0_6 Mc1_6 Mc2_6 Mc3_6 EM
       refine (setHas_held s f.uid vs _ hsl ((uh HR).up (uh BB))).mono ?_
       rintro e wr2 ⟨rfl, hb⟩
       replace RM := hide (g_stays (uh RM) hb); replace P := hide ((uh P).ups hb); replace R := hide ((uh R).ups hb); replace S := hide ((uh S).ups hb); replace Q := hide ((uh Q).ups hb); replace M := hide ((uh M).ups hb); replace OS := hide ((uh OS).up hb); replace RT := hide ((uh RT).up hb); replace RD := hide ((uh RD).up hb); replace RL := hide ((uh RL).up hb); have sz102 := hide (hb.size); replace BB := hide (below_y (uh BB) hb); clear hb; clear c0 c2 c3; have c1 := (ml_cells (uh RM) (uh AT) hlt).2.1
       cases hu : hasB s f.uid with
       | false =>
        rw [if_pos hu] at NX
        clear c1
        go_wp2
        go_roundw
        case rel =>
         rw [uh HREL]
         refine ⟨k + 1, by omega, by go_num, uh P, uh R, uh S, ?_, uh OS, ?_, uh RT, ?_, ?_, uh BB⟩
         ·rw [uh NX]; exact uh Q
         ·rw [uh NX]
          exact (by have h9 := uh RM; rw [uh SAME] at h9; unfold OwnMl fgRow; rw [show (x.ms ++ [f] ++ b.mails.drop (k + 1)).length = b.mails.length by rw [← uh SAME]; exact uh RLen]; exact h9)
         ·rw [uh NX]; exact uh RD
         ·rw [uh NX]; exact uh RL
        case measure => simp [intOf]; omega
       | true =>
        rw [if_neg (by rw [hu]; decide)] at NX
        clear hu
        by_cases hs : 0 ≤ since ∧ since < f.mod
        ·rw [if_pos hs] at NX
         have d1 : decide (0 ≤ since) = true := decide_eq_true hs.1
         have d2 : decide (since < f.mod) = true := decide_eq_true hs.2
         clear hs c1; have Mc0_7 := (uh M).cell 0 rfl; have Mc1_7 := (uh M).cell 1 rfl; have Mc2_7 := (uh M).cell 2 rfl; have Mc3_7 := (uh M).cell 3 rfl; go_wp2_with fail; clear Mc0_7 Mc1_7 Mc2_7 Mc3_7
         refine (setAdd_held x.late f.uid _ _ _ l3 (uh RL)).mono ?_
         rintro e wr3 ⟨vv1, rfl, oo, hb⟩
         clear RL; replace RM := hide (g_stays (uh RM) hb); replace P := hide ((uh P).ups hb); replace R := hide ((uh R).ups hb); replace S := hide ((uh S).ups hb); replace Q := hide ((uh Q).ups hb); replace M := hide ((uh M).ups hb); replace OS := hide ((uh OS).up hb); replace RT := hide ((uh RT).up hb); replace RD := hide ((uh RD).up hb); have sz103 := hide (hb.size); replace BB := hide (below_y (uh BB) hb); clear hb; have RL := hide oo; clear oo; clear d1 d2
         go_wp2
         go_roundw
         case rel =>
          rw [uh HREL]
          refine ⟨k + 1, by omega, by go_num, uh P, uh R, uh S, ?_, uh OS, ?_, uh RT, ?_, ?_, uh BB⟩
          ·rw [uh NX]; exact uh Q
          ·rw [uh NX]
           exact (by have h9 := uh RM; rw [uh SAME] at h9; unfold OwnMl fgRow; rw [show (x.ms ++ [f] ++ b.mails.drop (k + 1)).length = b.mails.length by rw [← uh SAME]; exact uh RLen]; exact h9)
          ·rw [uh NX]; exact uh RD
          ·rw [uh NX]; exact g_based (uh RL) (by have q9 := (uh BB).size; have sz101_ := uh sz101; have sz102_ := uh sz102; have sz103_ := uh sz103; omega)
         case measure => simp [intOf]; omega
        rw [if_neg hs] at NX
        have hsx : (0 ≤ since ∧ ¬ since < f.mod) ∨ ¬ 0 ≤ since := by omega
        clear hs
        have dd : (decide (0 ≤ since) = true ∧ decide (since < f.mod) = false) ∨ decide (0 ≤ since) = false := by rcases hsx with h | h; exact .inl ⟨decide_eq_true h.1, decide_eq_false h.2⟩; exact .inr (decide_eq_false h)
        clear hsx
        rcases dd with ⟨d1, d2⟩ | d1
        ·have Mc0_7 := (uh M).cell 0 rfl
         have Mc1_7 := (uh M).cell 1 rfl; have Mc2_7 := (uh M).cell 2 rfl; have Mc3_7 := (uh M).cell 3 rfl; go_wp2_with fail; clear Mc0_7 Mc1_7 Mc2_7 Mc3_7
         refine (spec_FlagsAfter_any f.flags how bits _).mono ?_
         rintro e wra3 ⟨rfl, hw⟩
         subst wra3
         clear d1 d2
         obtain ⟨af, haf⟩ : ∃ y, y = afterV f.flags how bits := ⟨_, rfl⟩
         rw [← haf] at NX ⊢
         clear haf; have Mfz1_8 := (uh M).frozen 1; have Mcz1_8 := (uh M).cell 1 rfl
         obtain ⟨wra4, hst⟩ : ∃ X, X = wr2.setCell ⟨wo.heap.size, 1, none⟩ (.int .i64 af) := ⟨_, rfl⟩
         have gst : wr2.grownBy wra4 (some wo.heap.size) := by rw [hst]; exact g_store (g_self _ (some wo.heap.size)) _
         have OS_ : Hid (OwnBx w2.heap.size wra4 (.slice amS b.mails.length cmS) (.slice atS b.tombs.length ctS) b) := ⟨g_aside (uh OS).1 gst (fun z hz hz2 => by have q1_ := Option.some.inj hz; have q2_ := uh SEP z (.inl hz2); omega), g_aside (uh OS).2 gst (fun z hz hz2 => by have q1_ := Option.some.inj hz; have q2_ := uh SEP z (.inr hz2); omega)⟩
         have RM_ := hide (g_aside (uh RM) gst (fun z hz hz2 => by have q1_ := Option.some.inj hz; have q2_ : g = z := Option.some.inj hz2; omega))
         have RT_ : Hid (OwnTb w8.heap.size wra4 (.slice atQ b.tombs.length ctQ) (b.tombs)) := by show OwnTb _ _ _ _; rw [hst]; exact (uh M).row (j := 1) (by decide) (uh RT) _
         have RD_ : Hid (OwnR w.heap.size wra4 (u14) (x.done)) := by show OwnR _ _ _ _; rw [hst]; exact (uh M).row (j := 1) (by decide) (uh RD) _
         have RL_ : Hid (OwnR w.heap.size wra4 (u15) (x.late)) := by show OwnR _ _ _ _; rw [hst]; exact (uh M).row (j := 1) (by decide) (uh RL) _
         have P_ := hide ((uh P).other (j := 1) nePM (.int .i64 af))
         rw [← hst] at P_
         have R_ := hide ((uh R).other (j := 1) neRM (.int .i64 af))
         rw [← hst] at R_
         have S_ := hide ((uh S).other (j := 1) neSM (.int .i64 af))
         rw [← hst] at S_
         have Q_ := hide ((uh Q).other (j := 1) neQM (.int .i64 af))
         rw [← hst] at Q_
         have M_ := hide ((uh M).set 1 (.int .i64 af))
         rw [← hst] at M_
         have BB_ := hide ((uh BB).setCell (p := ⟨wo.heap.size, 1, none⟩) (show w.heap.size ≤ wo.heap.size from loM) (.int .i64 af))
         rw [← hst] at BB_
         have sz103 : Hid (wr2.heap.size ≤ wra4.heap.size) := by show _ ≤ _; rw [hst]; simp
         replace OS := OS_; clear OS_; replace RT := RT_; clear RT_; replace RD := RD_; clear RD_; replace RL := RL_; clear RL_; replace P := P_; clear P_; replace R := R_; clear R_; replace S := S_; clear S_; replace Q := Q_; clear Q_; replace M := M_; clear M_; replace BB := BB_; clear BB_; replace RM := RM_; clear RM_; have Est103 := hst.symm; clear hst gst; have c1 := (ml_cells (uh RM) (uh AT) hlt).2.1; have Mc0_9 := (uh M).cell 0 rfl; have Mc1_9 := (uh M).cell 1 rfl; have Mc2_9 := (uh M).cell 2 rfl; have Mc3_9 := (uh M).cell 3 rfl; have Qc0_10 := (uh Q).cell 0 rfl; have Qc1_10 := (uh Q).cell 1 rfl; have Qc2_10 := (uh Q).cell 2 rfl; have Qc3_10 := (uh Q).cell 3 rfl; have Qc4_10 := (uh Q).cell 4 rfl; have Qc5_10 := (uh Q).cell 5 rfl; have Qc6_10 := (uh Q).cell 6 rfl
         by_cases hd : af = f.flags
         ·rw [if_pos hd] at NX
          have dn : (af == f.flags) = true := beq_iff_eq.2 hd
          clear hd
          go_wp2
          go_quiet (fail)
          clear Mfz1_8 Mcz1_8 Mc0_9 Mc1_9 Mc2_9 Mc3_9 Qc0_10 Qc1_10 Qc2_10 Qc3_10 Qc4_10 Qc5_10 Qc6_10 Est103; clear c1
          obtain ⟨wq, hwq⟩ : ∃ X, X = wra4.drewN nq := ⟨_, rfl⟩
          rw [← hwq]
          have hb : Below wra4.heap.size wra4 wq := by rw [hwq]; exact below_dN _ _
          clear hwq; replace RM := hide (g_stays (uh RM) hb); replace P := hide ((uh P).ups hb); replace R := hide ((uh R).ups hb); replace S := hide ((uh S).ups hb); replace Q := hide ((uh Q).ups hb); replace M := hide ((uh M).ups hb); replace OS := hide ((uh OS).up hb); replace RT := hide ((uh RT).up hb); replace RD := hide ((uh RD).up hb); replace RL := hide ((uh RL).up hb); have sz104 := hide (hb.size); replace BB := hide (below_y (uh BB) hb); clear hb
          go_wp2
          go_roundw
          case rel =>
           rw [uh HREL]
           refine ⟨k + 1, by omega, by go_num, uh P, uh R, uh S, ?_, uh OS, ?_, uh RT, ?_, ?_, uh BB⟩
           ·rw [uh NX]; exact uh Q
           ·rw [uh NX]
            exact (by have h9 := uh RM; rw [uh SAME] at h9; unfold OwnMl fgRow; rw [show (x.ms ++ [f] ++ b.mails.drop (k + 1)).length = b.mails.length by rw [← uh SAME]; exact uh RLen]; exact h9)
           ·rw [uh NX]; exact uh RD
           ·rw [uh NX]; exact uh RL
          case measure => simp [intOf]; omega
         rw [if_neg hd] at NX
         have dn : (af == f.flags) = false := beq_eq_false_iff_ne.2 hd
         clear hd
         go_wp2
         go_quiet (fail)
         clear Mfz1_8 Mcz1_8 Mc0_9 Mc1_9 Mc2_9 Mc3_9 Qc0_10 Qc1_10 Qc2_10 Qc3_10 Qc4_10 Qc5_10 Qc6_10 Est103; clear c1
         obtain ⟨wq, hwq⟩ : ∃ X, X = wra4.drewN nq := ⟨_, rfl⟩
         rw [← hwq]
         have hb : Below wra4.heap.size wra4 wq := by rw [hwq]; exact below_dN _ _
         clear hwq; replace RM := hide (g_stays (uh RM) hb); replace P := hide ((uh P).ups hb); replace R := hide ((uh R).ups hb); replace S := hide ((uh S).ups hb); replace Q := hide ((uh Q).ups hb); replace M := hide ((uh M).ups hb); replace OS := hide ((uh OS).up hb); replace RT := hide ((uh RT).up hb); replace RD := hide ((uh RD).up hb); replace RL := hide ((uh RL).up hb); have sz104 := hide (hb.size); replace BB := hide (below_y (uh BB) hb); clear hb; have Pc0_11 := (uh P).cell 0 rfl; have Pc1_11 := (uh P).cell 1 rfl; have Pc2_11 := (uh P).cell 2 rfl; have Pc3_11 := (uh P).cell 3 rfl; have Pc4_11 := (uh P).cell 4 rfl; have Pc5_11 := (uh P).cell 5 rfl; have Pc6_11 := (uh P).cell 6 rfl; have Mfz2_12 := (uh M).frozen 2; have Mcz2_12 := (uh M).cell 2 rfl
         obtain ⟨wran5, hst⟩ : ∃ X, X = wq.setCell ⟨wo.heap.size, 2, none⟩ (.int .i64 (b.mod + 1)) := ⟨_, rfl⟩
         have gst : wq.grownBy wran5 (some wo.heap.size) := by rw [hst]; exact g_store (g_self _ (some wo.heap.size)) _
         have OS_ : Hid (OwnBx w2.heap.size wran5 (.slice amS b.mails.length cmS) (.slice atS b.tombs.length ctS) b) := ⟨g_aside (uh OS).1 gst (fun z hz hz2 => by have q1_ := Option.some.inj hz; have q2_ := uh SEP z (.inl hz2); omega), g_aside (uh OS).2 gst (fun z hz hz2 => by have q1_ := Option.some.inj hz; have q2_ := uh SEP z (.inr hz2); omega)⟩
         have RM_ := hide (g_aside (uh RM) gst (fun z hz hz2 => by have q1_ := Option.some.inj hz; have q2_ : g = z := Option.some.inj hz2; omega))
         have RT_ : Hid (OwnTb w8.heap.size wran5 (.slice atQ b.tombs.length ctQ) (b.tombs)) := by show OwnTb _ _ _ _; rw [hst]; exact (uh M).row (j := 2) (by decide) (uh RT) _
         have RD_ : Hid (OwnR w.heap.size wran5 (u14) (x.done)) := by show OwnR _ _ _ _; rw [hst]; exact (uh M).row (j := 2) (by decide) (uh RD) _
         have RL_ : Hid (OwnR w.heap.size wran5 (u15) (x.late)) := by show OwnR _ _ _ _; rw [hst]; exact (uh M).row (j := 2) (by decide) (uh RL) _
         have P_ := hide ((uh P).other (j := 2) nePM (.int .i64 (b.mod + 1)))
         rw [← hst] at P_
         have R_ := hide ((uh R).other (j := 2) neRM (.int .i64 (b.mod + 1)))
         rw [← hst] at R_
         have S_ := hide ((uh S).other (j := 2) neSM (.int .i64 (b.mod + 1)))
         rw [← hst] at S_
         have Q_ := hide ((uh Q).other (j := 2) neQM (.int .i64 (b.mod + 1)))
         rw [← hst] at Q_
         have M_ := hide ((uh M).set 2 (.int .i64 (b.mod + 1)))
         rw [← hst] at M_
         have BB_ := hide ((uh BB).setCell (p := ⟨wo.heap.size, 2, none⟩) (show w.heap.size ≤ wo.heap.size from loM) (.int .i64 (b.mod + 1)))
         rw [← hst] at BB_
         have sz105 : Hid (wq.heap.size ≤ wran5.heap.size) := by show _ ≤ _; rw [hst]; simp
         replace OS := OS_; clear OS_; replace RT := RT_; clear RT_; replace RD := RD_; clear RD_; replace RL := RL_; clear RL_; replace P := P_; clear P_; replace R := R_; clear R_; replace S := S_; clear S_; replace Q := Q_; clear Q_; replace M := M_; clear M_; replace BB := BB_; clear BB_; replace RM := RM_; clear RM_; have Est105 := hst.symm; clear hst gst; have Pc0_13 := (uh P).cell 0 rfl; have Pc1_13 := (uh P).cell 1 rfl; have Pc2_13 := (uh P).cell 2 rfl; have Pc3_13 := (uh P).cell 3 rfl; have Pc4_13 := (uh P).cell 4 rfl; have Pc5_13 := (uh P).cell 5 rfl; have Pc6_13 := (uh P).cell 6 rfl
         replace RM := hide ((uh Q).row (j := 3) (by decide) (uh RM) (.int .i64 (b.mod + 1)))
         have Qfz3_14 := (uh Q).frozen 3; have Qcz3_14 := (uh Q).cell 3 rfl
         obtain ⟨wran6, hst⟩ : ∃ X, X = wran5.setCell ⟨w11.heap.size, 3, none⟩ (.int .i64 (b.mod + 1)) := ⟨_, rfl⟩
         have OS_ : Hid (OwnBx w2.heap.size wran6 (.slice amS b.mails.length cmS) (.slice atS b.tombs.length ctS) b) := by show OwnBx _ _ _ _ _; rw [hst]; exact ⟨(uh Q).row (j := 3) (by decide) (uh OS).1 _, (uh Q).row (j := 3) (by decide) (uh OS).2 _⟩
         have RT_ : Hid (OwnTb w8.heap.size wran6 (.slice atQ b.tombs.length ctQ) (b.tombs)) := by show OwnTb _ _ _ _; rw [hst]; exact (uh Q).row (j := 3) (by decide) (uh RT) _
         have RD_ : Hid (OwnR w.heap.size wran6 (u14) (x.done)) := by show OwnR _ _ _ _; rw [hst]; exact (uh Q).row (j := 3) (by decide) (uh RD) _
         have RL_ : Hid (OwnR w.heap.size wran6 (u15) (x.late)) := by show OwnR _ _ _ _; rw [hst]; exact (uh Q).row (j := 3) (by decide) (uh RL) _
         have P_ := hide ((uh P).other (j := 3) nePQ (.int .i64 (b.mod + 1)))
         rw [← hst] at P_
         have R_ := hide ((uh R).other (j := 3) neRQ (.int .i64 (b.mod + 1)))
         rw [← hst] at R_
         have S_ := hide ((uh S).other (j := 3) neSQ (.int .i64 (b.mod + 1)))
         rw [← hst] at S_
         have Q_ := hide ((uh Q).set 3 (.int .i64 (b.mod + 1)))
         rw [← hst] at Q_
         have M_ := hide ((uh M).other (j := 3) neQM.symm (.int .i64 (b.mod + 1)))
         rw [← hst] at M_
         have BB_ := hide ((uh BB).setCell (p := ⟨w11.heap.size, 3, none⟩) (show w.heap.size ≤ w11.heap.size from loQ) (.int .i64 (b.mod + 1)))
         rw [← hst] at BB_
         have sz106 : Hid (wran5.heap.size ≤ wran6.heap.size) := by show _ ≤ _; rw [hst]; simp
         replace OS := OS_; clear OS_; replace RT := RT_; clear RT_; replace RD := RD_; clear RD_; replace RL := RL_; clear RL_; replace P := P_; clear P_; replace R := R_; clear R_; replace S := S_; clear S_; replace Q := Q_; clear Q_; replace M := M_; clear M_; replace BB := BB_; clear BB_; have Est106 := hst.symm; clear hst
         rw [Est106] at RM
         have Qc0_15 := (uh Q).cell 0 rfl; have Qc1_15 := (uh Q).cell 1 rfl; have Qc2_15 := (uh Q).cell 2 rfl; have Qc3_15 := (uh Q).cell 3 rfl; have Qc4_15 := (uh Q).cell 4 rfl; have Qc5_15 := (uh Q).cell 5 rfl; have Qc6_15 := (uh Q).cell 6 rfl; have Mc0_16 := (uh M).cell 0 rfl; have Mc1_16 := (uh M).cell 1 rfl; have Mc2_16 := (uh M).cell 2 rfl; have Mc3_16 := (uh M).cell 3 rfl
         obtain ⟨d0, d1, d2, d3⟩ := ml_cells (uh RM) (uh AT) hlt
         have f0 := World.ownsRow.frozenAt (uh RM) (k * 4); have f1 := World.ownsRow.frozenAt (uh RM) (k * 4 + 1); have f2 := World.ownsRow.frozenAt (uh RM) (k * 4 + 2); have f3 := World.ownsRow.frozenAt (uh RM) (k * 4 + 3)
         have gst : wran6.grownBy _ (some g) := put_grown (g := g) (k := k) (⟨f.uid, af, b.mod + 1, f.text⟩ : Ml)
         have rst := row_putMail (uh RM) (uh AT) (⟨f.uid, af, b.mod + 1, f.text⟩ : Ml)
         obtain ⟨wran7, hst⟩ : ∃ X, X = (((wran6.setCell ⟨g, k * 4, none⟩ (.int .i64 f.uid)).setCell ⟨g, k * 4 + 1, none⟩ (.int .i64 af)).setCell ⟨g, k * 4 + 2, none⟩ (.int .i64 (b.mod + 1))).setCell ⟨g, k * 4 + 3, none⟩ (.string f.text) := ⟨_, rfl⟩
         simp only at gst rst
         rw [← hst] at gst rst
         have OS_ : Hid (OwnBx w2.heap.size wran7 (.slice amS b.mails.length cmS) (.slice atS b.tombs.length ctS) b) := ⟨g_aside (uh OS).1 gst (fun z hz hz2 => by have q1_ := Option.some.inj hz; have q2_ := uh SEP z (.inl hz2); omega), g_aside (uh OS).2 gst (fun z hz hz2 => by have q1_ := Option.some.inj hz; have q2_ := uh SEP z (.inr hz2); omega)⟩
         have RT_ : Hid (OwnTb w8.heap.size wran7 (.slice atQ b.tombs.length ctQ) (b.tombs)) := g_aside (uh RT) gst (fun x hx => by have := Option.some.inj hx; subst this; exact rows_apart (uh RM) (uh RT) (by decide) g rfl)
         have RD_ : Hid (OwnR w.heap.size wran7 (u14) (x.done)) := g_aside (uh RD) gst (fun x hx => by have := Option.some.inj hx; subst this; exact rows_apart (uh RM) (uh RD) (by decide) g rfl)
         have RL_ : Hid (OwnR w.heap.size wran7 (u15) (x.late)) := g_aside (uh RL) gst (fun x hx => by have := Option.some.inj hx; subst this; exact rows_apart (uh RM) (uh RL) (by decide) g rfl)
         have P_ := hide ((uh P).kept gst (fun e => (uh P).not_row (by decide) (uh RM) (by rw [← Option.some.inj e]; rfl)))
         have R_ := hide ((uh R).kept gst (fun e => (uh R).not_row (by decide) (uh RM) (by rw [← Option.some.inj e]; rfl)))
         have S_ := hide ((uh S).kept gst (fun e => (uh S).not_row (by decide) (uh RM) (by rw [← Option.some.inj e]; rfl)))
         have Q_ := hide ((uh Q).kept gst (fun e => (uh Q).not_row (by decide) (uh RM) (by rw [← Option.some.inj e]; rfl)))
         have M_ := hide ((uh M).kept gst (fun e => by have q1_ := Option.some.inj e; omega))
         have BB_ : Hid (Below w.heap.size w wran7) := (uh BB).grown gst (uh BB).size (fun z hz => by have q1_ := Option.some.inj hz; omega)
         have szq := hide gst.size; have RM_ := hide rst; replace OS := OS_; clear OS_; replace RT := RT_; clear RT_; replace RD := RD_; clear RD_; replace RL := RL_; clear RL_; replace P := P_; clear P_; replace R := R_; clear R_; replace S := S_; clear S_; replace Q := Q_; clear Q_; replace M := M_; clear M_; replace BB := BB_; clear BB_; replace RM := RM_; clear RM_; have Estq := hst.symm; clear hst gst rst; have Mc0_17 := (uh M).cell 0 rfl; have Mc1_17 := (uh M).cell 1 rfl; have Mc2_17 := (uh M).cell 2 rfl; have Mc3_17 := (uh M).cell 3 rfl; go_wp2_with fail; clear Pc0_11 Pc1_11 Pc2_11 Pc3_11 Pc4_11 Pc5_11 Pc6_11 Mfz2_12 Mcz2_12 Pc0_13 Pc1_13 Pc2_13 Pc3_13 Pc4_13 Pc5_13 Pc6_13 Qfz3_14 Qcz3_14 Qc0_15 Qc1_15 Qc2_15 Qc3_15 Qc4_15 Qc5_15 Qc6_15 Mc0_16 Mc1_16 Mc2_16 Mc3_16 d0 d1 d2 d3 f0 f1 f2 f3 Mc0_17 Mc1_17 Mc2_17 Mc3_17 Est105 Est106 Estq
         refine (setAdd_held x.done f.uid _ _ _ l2 (uh RD)).mono ?_
         rintro e wran8 ⟨vv1, rfl, oo, hb⟩
         clear RD; replace RM := hide (g_stays (uh RM) hb); replace P := hide ((uh P).ups hb); replace R := hide ((uh R).ups hb); replace S := hide ((uh S).ups hb); replace Q := hide ((uh Q).ups hb); replace M := hide ((uh M).ups hb); replace OS := hide ((uh OS).up hb); replace RT := hide ((uh RT).up hb); replace RL := hide ((uh RL).up hb); have sz107 := hide (hb.size); replace BB := hide (below_y (uh BB) hb); clear hb; have RD := hide oo; clear oo
         go_wp2
         go_roundw
         case rel =>
          rw [uh HREL]
          refine ⟨k + 1, by omega, by go_num, uh P, uh R, uh S, ?_, uh OS, ?_, uh RT, ?_, ?_, uh BB⟩
          ·rw [uh NX]; exact uh Q
          ·rw [uh NX]
           exact (by have h9 := uh RM; rw [uh SET] at h9; unfold OwnMl fgRow; rw [show (x.ms ++ [(⟨f.uid, af, b.mod + 1, f.text⟩ : Ml)] ++ b.mails.drop (k + 1)).length = b.mails.length by rw [← uh SET, List.length_set]; exact uh RLen]; exact h9)
          ·rw [uh NX]; exact g_based (uh RD) (by have q9 := (uh BB).size; have sz101_ := uh sz101; have sz102_ := uh sz102; have sz103_ := uh sz103; have sz104_ := uh sz104; have sz105_ := uh sz105; have sz106_ := uh sz106; have szq_ := uh szq; have sz107_ := uh sz107; omega)
          ·rw [uh NX]; exact uh RL
         case measure => simp [intOf]; omega
        ·have Mc0_7 := (uh M).cell 0 rfl
         have Mc1_7 := (uh M).cell 1 rfl; have Mc2_7 := (uh M).cell 2 rfl; have Mc3_7 := (uh M).cell 3 rfl; go_wp2_with fail; clear Mc0_7 Mc1_7 Mc2_7 Mc3_7
         refine (spec_FlagsAfter_any f.flags how bits _).mono ?_
         rintro e wrb3 ⟨rfl, hw⟩
         subst wrb3
         clear d1
         obtain ⟨af, haf⟩ : ∃ y, y = afterV f.flags how bits := ⟨_, rfl⟩
         rw [← haf] at NX ⊢
         clear haf; have Mfz1_8 := (uh M).frozen 1; have Mcz1_8 := (uh M).cell 1 rfl
         obtain ⟨wrb4, hst⟩ : ∃ X, X = wr2.setCell ⟨wo.heap.size, 1, none⟩ (.int .i64 af) := ⟨_, rfl⟩
         have gst : wr2.grownBy wrb4 (some wo.heap.size) := by rw [hst]; exact g_store (g_self _ (some wo.heap.size)) _
         have OS_ : Hid (OwnBx w2.heap.size wrb4 (.slice amS b.mails.length cmS) (.slice atS b.tombs.length ctS) b) := ⟨g_aside (uh OS).1 gst (fun z hz hz2 => by have q1_ := Option.some.inj hz; have q2_ := uh SEP z (.inl hz2); omega), g_aside (uh OS).2 gst (fun z hz hz2 => by have q1_ := Option.some.inj hz; have q2_ := uh SEP z (.inr hz2); omega)⟩
         have RM_ := hide (g_aside (uh RM) gst (fun z hz hz2 => by have q1_ := Option.some.inj hz; have q2_ : g = z := Option.some.inj hz2; omega))
         have RT_ : Hid (OwnTb w8.heap.size wrb4 (.slice atQ b.tombs.length ctQ) (b.tombs)) := by show OwnTb _ _ _ _; rw [hst]; exact (uh M).row (j := 1) (by decide) (uh RT) _
         have RD_ : Hid (OwnR w.heap.size wrb4 (u14) (x.done)) := by show OwnR _ _ _ _; rw [hst]; exact (uh M).row (j := 1) (by decide) (uh RD) _
         have RL_ : Hid (OwnR w.heap.size wrb4 (u15) (x.late)) := by show OwnR _ _ _ _; rw [hst]; exact (uh M).row (j := 1) (by decide) (uh RL) _
         have P_ := hide ((uh P).other (j := 1) nePM (.int .i64 af))
         rw [← hst] at P_
         have R_ := hide ((uh R).other (j := 1) neRM (.int .i64 af))
         rw [← hst] at R_
         have S_ := hide ((uh S).other (j := 1) neSM (.int .i64 af))
         rw [← hst] at S_
         have Q_ := hide ((uh Q).other (j := 1) neQM (.int .i64 af))
         rw [← hst] at Q_
         have M_ := hide ((uh M).set 1 (.int .i64 af))
         rw [← hst] at M_
         have BB_ := hide ((uh BB).setCell (p := ⟨wo.heap.size, 1, none⟩) (show w.heap.size ≤ wo.heap.size from loM) (.int .i64 af))
         rw [← hst] at BB_
         have sz103 : Hid (wr2.heap.size ≤ wrb4.heap.size) := by show _ ≤ _; rw [hst]; simp
         replace OS := OS_; clear OS_; replace RT := RT_; clear RT_; replace RD := RD_; clear RD_; replace RL := RL_; clear RL_; replace P := P_; clear P_; replace R := R_; clear R_; replace S := S_; clear S_; replace Q := Q_; clear Q_; replace M := M_; clear M_; replace BB := BB_; clear BB_; replace RM := RM_; clear RM_; have Est103 := hst.symm; clear hst gst; have c1 := (ml_cells (uh RM) (uh AT) hlt).2.1; have Mc0_9 := (uh M).cell 0 rfl; have Mc1_9 := (uh M).cell 1 rfl; have Mc2_9 := (uh M).cell 2 rfl; have Mc3_9 := (uh M).cell 3 rfl; have Qc0_10 := (uh Q).cell 0 rfl; have Qc1_10 := (uh Q).cell 1 rfl; have Qc2_10 := (uh Q).cell 2 rfl; have Qc3_10 := (uh Q).cell 3 rfl; have Qc4_10 := (uh Q).cell 4 rfl; have Qc5_10 := (uh Q).cell 5 rfl; have Qc6_10 := (uh Q).cell 6 rfl
         by_cases hd : af = f.flags
         ·rw [if_pos hd] at NX
          have dn : (af == f.flags) = true := beq_iff_eq.2 hd
          clear hd
          go_wp2
          go_quiet (fail)
          clear Mfz1_8 Mcz1_8 Mc0_9 Mc1_9 Mc2_9 Mc3_9 Qc0_10 Qc1_10 Qc2_10 Qc3_10 Qc4_10 Qc5_10 Qc6_10 Est103; clear c1
          obtain ⟨wq, hwq⟩ : ∃ X, X = wrb4.drewN nq := ⟨_, rfl⟩
          rw [← hwq]
          have hb : Below wrb4.heap.size wrb4 wq := by rw [hwq]; exact below_dN _ _
          clear hwq; replace RM := hide (g_stays (uh RM) hb); replace P := hide ((uh P).ups hb); replace R := hide ((uh R).ups hb); replace S := hide ((uh S).ups hb); replace Q := hide ((uh Q).ups hb); replace M := hide ((uh M).ups hb); replace OS := hide ((uh OS).up hb); replace RT := hide ((uh RT).up hb); replace RD := hide ((uh RD).up hb); replace RL := hide ((uh RL).up hb); have sz104 := hide (hb.size); replace BB := hide (below_y (uh BB) hb); clear hb
          go_wp2
          go_roundw
          case rel =>
           rw [uh HREL]
           refine ⟨k + 1, by omega, by go_num, uh P, uh R, uh S, ?_, uh OS, ?_, uh RT, ?_, ?_, uh BB⟩
           ·rw [uh NX]; exact uh Q
           ·rw [uh NX]
            exact (by have h9 := uh RM; rw [uh SAME] at h9; unfold OwnMl fgRow; rw [show (x.ms ++ [f] ++ b.mails.drop (k + 1)).length = b.mails.length by rw [← uh SAME]; exact uh RLen]; exact h9)
           ·rw [uh NX]; exact uh RD
           ·rw [uh NX]; exact uh RL
          case measure => simp [intOf]; omega
         rw [if_neg hd] at NX
         have dn : (af == f.flags) = false := beq_eq_false_iff_ne.2 hd
         clear hd
         go_wp2
         go_quiet (fail)
         clear Mfz1_8 Mcz1_8 Mc0_9 Mc1_9 Mc2_9 Mc3_9 Qc0_10 Qc1_10 Qc2_10 Qc3_10 Qc4_10 Qc5_10 Qc6_10 Est103; clear c1
         obtain ⟨wq, hwq⟩ : ∃ X, X = wrb4.drewN nq := ⟨_, rfl⟩
         rw [← hwq]
         have hb : Below wrb4.heap.size wrb4 wq := by rw [hwq]; exact below_dN _ _
         clear hwq; replace RM := hide (g_stays (uh RM) hb); replace P := hide ((uh P).ups hb); replace R := hide ((uh R).ups hb); replace S := hide ((uh S).ups hb); replace Q := hide ((uh Q).ups hb); replace M := hide ((uh M).ups hb); replace OS := hide ((uh OS).up hb); replace RT := hide ((uh RT).up hb); replace RD := hide ((uh RD).up hb); replace RL := hide ((uh RL).up hb); have sz104 := hide (hb.size); replace BB := hide (below_y (uh BB) hb); clear hb; have Pc0_11 := (uh P).cell 0 rfl; have Pc1_11 := (uh P).cell 1 rfl; have Pc2_11 := (uh P).cell 2 rfl; have Pc3_11 := (uh P).cell 3 rfl; have Pc4_11 := (uh P).cell 4 rfl; have Pc5_11 := (uh P).cell 5 rfl; have Pc6_11 := (uh P).cell 6 rfl; have Mfz2_12 := (uh M).frozen 2; have Mcz2_12 := (uh M).cell 2 rfl
         obtain ⟨wrbn5, hst⟩ : ∃ X, X = wq.setCell ⟨wo.heap.size, 2, none⟩ (.int .i64 (b.mod + 1)) := ⟨_, rfl⟩
         have gst : wq.grownBy wrbn5 (some wo.heap.size) := by rw [hst]; exact g_store (g_self _ (some wo.heap.size)) _
         have OS_ : Hid (OwnBx w2.heap.size wrbn5 (.slice amS b.mails.length cmS) (.slice atS b.tombs.length ctS) b) := ⟨g_aside (uh OS).1 gst (fun z hz hz2 => by have q1_ := Option.some.inj hz; have q2_ := uh SEP z (.inl hz2); omega), g_aside (uh OS).2 gst (fun z hz hz2 => by have q1_ := Option.some.inj hz; have q2_ := uh SEP z (.inr hz2); omega)⟩
         have RM_ := hide (g_aside (uh RM) gst (fun z hz hz2 => by have q1_ := Option.some.inj hz; have q2_ : g = z := Option.some.inj hz2; omega))
         have RT_ : Hid (OwnTb w8.heap.size wrbn5 (.slice atQ b.tombs.length ctQ) (b.tombs)) := by show OwnTb _ _ _ _; rw [hst]; exact (uh M).row (j := 2) (by decide) (uh RT) _
         have RD_ : Hid (OwnR w.heap.size wrbn5 (u14) (x.done)) := by show OwnR _ _ _ _; rw [hst]; exact (uh M).row (j := 2) (by decide) (uh RD) _
         have RL_ : Hid (OwnR w.heap.size wrbn5 (u15) (x.late)) := by show OwnR _ _ _ _; rw [hst]; exact (uh M).row (j := 2) (by decide) (uh RL) _
         have P_ := hide ((uh P).other (j := 2) nePM (.int .i64 (b.mod + 1)))
         rw [← hst] at P_
         have R_ := hide ((uh R).other (j := 2) neRM (.int .i64 (b.mod + 1)))
         rw [← hst] at R_
         have S_ := hide ((uh S).other (j := 2) neSM (.int .i64 (b.mod + 1)))
         rw [← hst] at S_
         have Q_ := hide ((uh Q).other (j := 2) neQM (.int .i64 (b.mod + 1)))
         rw [← hst] at Q_
         have M_ := hide ((uh M).set 2 (.int .i64 (b.mod + 1)))
         rw [← hst] at M_
         have BB_ := hide ((uh BB).setCell (p := ⟨wo.heap.size, 2, none⟩) (show w.heap.size ≤ wo.heap.size from loM) (.int .i64 (b.mod + 1)))
         rw [← hst] at BB_
         have sz105 : Hid (wq.heap.size ≤ wrbn5.heap.size) := by show _ ≤ _; rw [hst]; simp
         replace OS := OS_; clear OS_; replace RT := RT_; clear RT_; replace RD := RD_; clear RD_; replace RL := RL_; clear RL_; replace P := P_; clear P_; replace R := R_; clear R_; replace S := S_; clear S_; replace Q := Q_; clear Q_; replace M := M_; clear M_; replace BB := BB_; clear BB_; replace RM := RM_; clear RM_; have Est105 := hst.symm; clear hst gst; have Pc0_13 := (uh P).cell 0 rfl; have Pc1_13 := (uh P).cell 1 rfl; have Pc2_13 := (uh P).cell 2 rfl; have Pc3_13 := (uh P).cell 3 rfl; have Pc4_13 := (uh P).cell 4 rfl; have Pc5_13 := (uh P).cell 5 rfl; have Pc6_13 := (uh P).cell 6 rfl
         replace RM := hide ((uh Q).row (j := 3) (by decide) (uh RM) (.int .i64 (b.mod + 1)))
         have Qfz3_14 := (uh Q).frozen 3; have Qcz3_14 := (uh Q).cell 3 rfl
         obtain ⟨wrbn6, hst⟩ : ∃ X, X = wrbn5.setCell ⟨w11.heap.size, 3, none⟩ (.int .i64 (b.mod + 1)) := ⟨_, rfl⟩
         have OS_ : Hid (OwnBx w2.heap.size wrbn6 (.slice amS b.mails.length cmS) (.slice atS b.tombs.length ctS) b) := by show OwnBx _ _ _ _ _; rw [hst]; exact ⟨(uh Q).row (j := 3) (by decide) (uh OS).1 _, (uh Q).row (j := 3) (by decide) (uh OS).2 _⟩
         have RT_ : Hid (OwnTb w8.heap.size wrbn6 (.slice atQ b.tombs.length ctQ) (b.tombs)) := by show OwnTb _ _ _ _; rw [hst]; exact (uh Q).row (j := 3) (by decide) (uh RT) _
         have RD_ : Hid (OwnR w.heap.size wrbn6 (u14) (x.done)) := by show OwnR _ _ _ _; rw [hst]; exact (uh Q).row (j := 3) (by decide) (uh RD) _
         have RL_ : Hid (OwnR w.heap.size wrbn6 (u15) (x.late)) := by show OwnR _ _ _ _; rw [hst]; exact (uh Q).row (j := 3) (by decide) (uh RL) _
         have P_ := hide ((uh P).other (j := 3) nePQ (.int .i64 (b.mod + 1)))
         rw [← hst] at P_
         have R_ := hide ((uh R).other (j := 3) neRQ (.int .i64 (b.mod + 1)))
         rw [← hst] at R_
         have S_ := hide ((uh S).other (j := 3) neSQ (.int .i64 (b.mod + 1)))
         rw [← hst] at S_
         have Q_ := hide ((uh Q).set 3 (.int .i64 (b.mod + 1)))
         rw [← hst] at Q_
         have M_ := hide ((uh M).other (j := 3) neQM.symm (.int .i64 (b.mod + 1)))
         rw [← hst] at M_
         have BB_ := hide ((uh BB).setCell (p := ⟨w11.heap.size, 3, none⟩) (show w.heap.size ≤ w11.heap.size from loQ) (.int .i64 (b.mod + 1)))
         rw [← hst] at BB_
         have sz106 : Hid (wrbn5.heap.size ≤ wrbn6.heap.size) := by show _ ≤ _; rw [hst]; simp
         replace OS := OS_; clear OS_; replace RT := RT_; clear RT_; replace RD := RD_; clear RD_; replace RL := RL_; clear RL_; replace P := P_; clear P_; replace R := R_; clear R_; replace S := S_; clear S_; replace Q := Q_; clear Q_; replace M := M_; clear M_; replace BB := BB_; clear BB_; have Est106 := hst.symm; clear hst
         rw [Est106] at RM
         have Qc0_15 := (uh Q).cell 0 rfl; have Qc1_15 := (uh Q).cell 1 rfl; have Qc2_15 := (uh Q).cell 2 rfl; have Qc3_15 := (uh Q).cell 3 rfl; have Qc4_15 := (uh Q).cell 4 rfl; have Qc5_15 := (uh Q).cell 5 rfl; have Qc6_15 := (uh Q).cell 6 rfl; have Mc0_16 := (uh M).cell 0 rfl; have Mc1_16 := (uh M).cell 1 rfl; have Mc2_16 := (uh M).cell 2 rfl; have Mc3_16 := (uh M).cell 3 rfl
         obtain ⟨d0, d1, d2, d3⟩ := ml_cells (uh RM) (uh AT) hlt
         have f0 := World.ownsRow.frozenAt (uh RM) (k * 4); have f1 := World.ownsRow.frozenAt (uh RM) (k * 4 + 1); have f2 := World.ownsRow.frozenAt (uh RM) (k * 4 + 2); have f3 := World.ownsRow.frozenAt (uh RM) (k * 4 + 3)
         have gst : wrbn6.grownBy _ (some g) := put_grown (g := g) (k := k) (⟨f.uid, af, b.mod + 1, f.text⟩ : Ml)
         have rst := row_putMail (uh RM) (uh AT) (⟨f.uid, af, b.mod + 1, f.text⟩ : Ml)
         obtain ⟨wrbn7, hst⟩ : ∃ X, X = (((wrbn6.setCell ⟨g, k * 4, none⟩ (.int .i64 f.uid)).setCell ⟨g, k * 4 + 1, none⟩ (.int .i64 af)).setCell ⟨g, k * 4 + 2, none⟩ (.int .i64 (b.mod + 1))).setCell ⟨g, k * 4 + 3, none⟩ (.string f.text) := ⟨_, rfl⟩
         simp only at gst rst
         rw [← hst] at gst rst
         have OS_ : Hid (OwnBx w2.heap.size wrbn7 (.slice amS b.mails.length cmS) (.slice atS b.tombs.length ctS) b) := ⟨g_aside (uh OS).1 gst (fun z hz hz2 => by have q1_ := Option.some.inj hz; have q2_ := uh SEP z (.inl hz2); omega), g_aside (uh OS).2 gst (fun z hz hz2 => by have q1_ := Option.some.inj hz; have q2_ := uh SEP z (.inr hz2); omega)⟩
         have RT_ : Hid (OwnTb w8.heap.size wrbn7 (.slice atQ b.tombs.length ctQ) (b.tombs)) := g_aside (uh RT) gst (fun x hx => by have := Option.some.inj hx; subst this; exact rows_apart (uh RM) (uh RT) (by decide) g rfl)
         have RD_ : Hid (OwnR w.heap.size wrbn7 (u14) (x.done)) := g_aside (uh RD) gst (fun x hx => by have := Option.some.inj hx; subst this; exact rows_apart (uh RM) (uh RD) (by decide) g rfl)
         have RL_ : Hid (OwnR w.heap.size wrbn7 (u15) (x.late)) := g_aside (uh RL) gst (fun x hx => by have := Option.some.inj hx; subst this; exact rows_apart (uh RM) (uh RL) (by decide) g rfl)
         have P_ := hide ((uh P).kept gst (fun e => (uh P).not_row (by decide) (uh RM) (by rw [← Option.some.inj e]; rfl)))
         have R_ := hide ((uh R).kept gst (fun e => (uh R).not_row (by decide) (uh RM) (by rw [← Option.some.inj e]; rfl)))
         have S_ := hide ((uh S).kept gst (fun e => (uh S).not_row (by decide) (uh RM) (by rw [← Option.some.inj e]; rfl)))
         have Q_ := hide ((uh Q).kept gst (fun e => (uh Q).not_row (by decide) (uh RM) (by rw [← Option.some.inj e]; rfl)))
         have M_ := hide ((uh M).kept gst (fun e => by have q1_ := Option.some.inj e; omega))
         have BB_ : Hid (Below w.heap.size w wrbn7) := (uh BB).grown gst (uh BB).size (fun z hz => by have q1_ := Option.some.inj hz; omega)
         have szq := hide gst.size; have RM_ := hide rst; replace OS := OS_; clear OS_; replace RT := RT_; clear RT_; replace RD := RD_; clear RD_; replace RL := RL_; clear RL_; replace P := P_; clear P_; replace R := R_; clear R_; replace S := S_; clear S_; replace Q := Q_; clear Q_; replace M := M_; clear M_; replace BB := BB_; clear BB_; replace RM := RM_; clear RM_; have Estq := hst.symm; clear hst gst rst; have Mc0_17 := (uh M).cell 0 rfl; have Mc1_17 := (uh M).cell 1 rfl; have Mc2_17 := (uh M).cell 2 rfl; have Mc3_17 := (uh M).cell 3 rfl; go_wp2_with fail; clear Pc0_11 Pc1_11 Pc2_11 Pc3_11 Pc4_11 Pc5_11 Pc6_11 Mfz2_12 Mcz2_12 Pc0_13 Pc1_13 Pc2_13 Pc3_13 Pc4_13 Pc5_13 Pc6_13 Qfz3_14 Qcz3_14 Qc0_15 Qc1_15 Qc2_15 Qc3_15 Qc4_15 Qc5_15 Qc6_15 Mc0_16 Mc1_16 Mc2_16 Mc3_16 d0 d1 d2 d3 f0 f1 f2 f3 Mc0_17 Mc1_17 Mc2_17 Mc3_17 Est105 Est106 Estq
         refine (setAdd_held x.done f.uid _ _ _ l2 (uh RD)).mono ?_
         rintro e wrbn8 ⟨vv1, rfl, oo, hb⟩
         clear RD; replace RM := hide (g_stays (uh RM) hb); replace P := hide ((uh P).ups hb); replace R := hide ((uh R).ups hb); replace S := hide ((uh S).ups hb); replace Q := hide ((uh Q).ups hb); replace M := hide ((uh M).ups hb); replace OS := hide ((uh OS).up hb); replace RT := hide ((uh RT).up hb); replace RL := hide ((uh RL).up hb); have sz107 := hide (hb.size); replace BB := hide (below_y (uh BB) hb); clear hb; have RD := hide oo; clear oo
         go_wp2
         go_roundw
         case rel =>
          rw [uh HREL]
          refine ⟨k + 1, by omega, by go_num, uh P, uh R, uh S, ?_, uh OS, ?_, uh RT, ?_, ?_, uh BB⟩
          ·rw [uh NX]; exact uh Q
          ·rw [uh NX]
           exact (by have h9 := uh RM; rw [uh SET] at h9; unfold OwnMl fgRow; rw [show (x.ms ++ [(⟨f.uid, af, b.mod + 1, f.text⟩ : Ml)] ++ b.mails.drop (k + 1)).length = b.mails.length by rw [← uh SET, List.length_set]; exact uh RLen]; exact h9)
          ·rw [uh NX]; exact g_based (uh RD) (by have q9 := (uh BB).size; have sz101_ := uh sz101; have sz102_ := uh sz102; have sz103_ := uh sz103; have sz104_ := uh sz104; have sz105_ := uh sz105; have sz106_ := uh sz106; have szq_ := uh szq; have sz107_ := uh sz107; omega)
          ·rw [uh NX]; exact uh RL
         case measure => simp [intOf]; omega
      ·obtain rfl : k = b.mails.length := by omega
       have rM2 : OwnMl w8.heap.size wo (.slice amQ b.mails.length cmQ) (fgOf b s how bits since).ms := by have h9 := rM; rw [fg_all, fgRow_all] at h9; exact h9
       rw [fg_all] at oQ rD rL
       have lwo := hbel.size; have FBX := hide (fg_fit (s := s) (how := how) (bits := bits) (since := since) (uh HF))
       have ML : Hid ((fgOf b s how bits since).ms.length = b.mails.length) := by have h9 := (fg_len b s how bits since b.mails.length (Nat.le_refl _)).1; rw [fg_all] at h9; exact h9
       have OBX : Hid (OwnBx w.heap.size wo (.slice amQ b.mails.length cmQ) (.slice atQ b.tombs.length ctQ) (fgBox b (fgOf b s how bits since))) := ⟨g_based rM2 lQ, g_based rT lQ⟩
       obtain ⟨x, hx⟩ : ∃ x, x = fgOf b s how bits since := ⟨_, rfl⟩
       rw [← hx] at oQ rD rL FBX OBX ML V3
       have V2x : Hid (boxOk (fgBox b x) = false → flagsV b s how bits since = (b, [], [])) := by have h9 := V2; rw [← hx] at h9; exact h9
       clear rM rM2 rT hx V2; have P := hide oP; have R := hide oR; have S := hide oS; have Q := hide oQ; have OS := hide bS; have RD := hide rD; have RL := hide rL; have BB := hide hbel; clear oP oR oS oQ bS rD rL hbel; have Qc0_5 := (uh Q).cell 0 rfl; have Qc1_5 := (uh Q).cell 1 rfl; have Qc2_5 := (uh Q).cell 2 rfl; have Qc3_5 := (uh Q).cell 3 rfl; have Qc4_5 := (uh Q).cell 4 rfl; have Qc5_5 := (uh Q).cell 5 rfl; have Qc6_5 := (uh Q).cell 6 rfl; go_wp2_with fail; clear Qc0_5 Qc1_5 Qc2_5 Qc3_5 Qc4_5 Qc5_5 Qc6_5
       refine (spec_BoxOk_any (fgBox b x) _ _ _ _ (uh FBX) (uh OBX)).mono ?_
       rintro e we1 ⟨rfl, hb⟩
       replace P := hide ((uh P).ups hb); replace R := hide ((uh R).ups hb); replace S := hide ((uh S).ups hb); replace Q := hide ((uh Q).ups hb); replace OS := hide ((uh OS).up hb); replace OBX := hide ((uh OBX).up hb); replace RD := hide ((uh RD).up hb); replace RL := hide ((uh RL).up hb); have sz201 := hide (hb.size); replace BB := hide (below_y (uh BB) hb); clear hb
       cases hq5 : boxOk (fgBox b x) with
       | false =>
        clear RD RL; have Sc0_6 := (uh S).cell 0 rfl; have Sc1_6 := (uh S).cell 1 rfl; have Sc2_6 := (uh S).cell 2 rfl; have Sc3_6 := (uh S).cell 3 rfl; have Sc4_6 := (uh S).cell 4 rfl; have Sc5_6 := (uh S).cell 5 rfl; have Sc6_6 := (uh S).cell 6 rfl
        obtain ⟨wf2, hRD⟩ : ∃ X, X = we1.alloc (.cells #[] 106) := ⟨_, rfl⟩
        have oRD : OwnR we1.heap.size wf2 (.slice (some ⟨we1.heap.size, 0, none⟩) 0 0) [] := by rw [hRD]; exact World.ownsRow_lit (size := 2) (e := 106) we1 #[] 0 (Nat.le_refl _) (Nat.zero_le _) rfl
        have hbn : Below we1.heap.size we1 wf2 := by rw [hRD]; exact (Below.refl _ _).alloc (Nat.le_refl _) _
        have ERD := hRD.symm; clear hRD; replace P := hide ((uh P).ups hbn); replace R := hide ((uh R).ups hbn); replace S := hide ((uh S).ups hbn); replace Q := hide ((uh Q).ups hbn); replace OS := hide ((uh OS).up hbn); replace OBX := hide ((uh OBX).up hbn); have sz202 := hide (hbn.size); replace BB := hide (below_y (uh BB) hbn); clear hbn; have RD := hide oRD; clear oRD
        obtain ⟨wf3, hRL⟩ : ∃ X, X = wf2.alloc (.cells #[] 106) := ⟨_, rfl⟩
        have oRL : OwnR wf2.heap.size wf3 (.slice (some ⟨wf2.heap.size, 0, none⟩) 0 0) [] := by rw [hRL]; exact World.ownsRow_lit (size := 2) (e := 106) wf2 #[] 0 (Nat.le_refl _) (Nat.zero_le _) rfl
        have hbn : Below wf2.heap.size wf2 wf3 := by rw [hRL]; exact (Below.refl _ _).alloc (Nat.le_refl _) _
        have ERL := hRL.symm; clear hRL; replace P := hide ((uh P).ups hbn); replace R := hide ((uh R).ups hbn); replace S := hide ((uh S).ups hbn); replace Q := hide ((uh Q).ups hbn); replace OS := hide ((uh OS).up hbn); replace OBX := hide ((uh OBX).up hbn); replace RD := hide ((uh RD).up hbn); have sz203 := hide (hbn.size); replace BB := hide (below_y (uh BB) hbn); clear hbn; have RL := hide oRL; clear oRL; have Sc0_7 := (uh S).cell 0 rfl; have Sc1_7 := (uh S).cell 1 rfl; have Sc2_7 := (uh S).cell 2 rfl; have Sc3_7 := (uh S).cell 3 rfl; have Sc4_7 := (uh S).cell 4 rfl; have Sc5_7 := (uh S).cell 5 rfl; have Sc6_7 := (uh S).cell 6 rfl; have Sc0_8 := (uh S).cell 0 rfl; have Sc1_8 := (uh S).cell 1 rfl; have Sc2_8 := (uh S).cell 2 rfl; have Sc3_8 := (uh S).cell 3 rfl; have Sc4_8 := (uh S).cell 4 rfl; have Sc5_8 := (uh S).cell 5 rfl; have Sc6_8 := (uh S).cell 6 rfl; have V := hide (uh V2x hq5); have Rf0 := (uh R).frozen 0; have Rf1 := (uh R).frozen 1; have Rf2 := (uh R).frozen 2; have Rf3 := (uh R).frozen 3; have Rf4 := (uh R).frozen 4; have Rf5 := (uh R).frozen 5; have Rf6 := (uh R).frozen 6; have Re0 := (uh R).cell 0 rfl; have Re1 := (uh R).cell 1 rfl; have Re2 := (uh R).cell 2 rfl; have Re3 := (uh R).cell 3 rfl; have Re4 := (uh R).cell 4 rfl; have Re5 := (uh R).cell 5 rfl; have Re6 := (uh R).cell 6 rfl; have F := hide (fill7 (uh R) (.string b.name) (.int .i64 b.valid) (.int .i64 b.next) (.int .i64 b.mod) (.slice amS b.mails.length cmS) (.slice atS b.tombs.length ctS) (.int .i64 b.hor))
        obtain ⟨U, hU⟩ : ∃ U, U = (((((((wf3.setCell ⟨w1.heap.size, 0, none⟩ (.string b.name)).setCell ⟨w1.heap.size, 1, none⟩ (.int .i64 b.valid)).setCell ⟨w1.heap.size, 2, none⟩ (.int .i64 b.next)).setCell ⟨w1.heap.size, 3, none⟩ (.int .i64 b.mod)).setCell ⟨w1.heap.size, 4, none⟩ (.slice amS b.mails.length cmS)).setCell ⟨w1.heap.size, 5, none⟩ (.slice atS b.tombs.length ctS)).setCell ⟨w1.heap.size, 6, none⟩ (.int .i64 b.hor)) := ⟨_, rfl⟩
        have F9 := uh F
        rw [← hU] at F9
        have EU := hU.symm; clear F hU; have v0 := F9.obj.cell 0 rfl; have v1 := F9.obj.cell 1 rfl; have v2 := F9.obj.cell 2 rfl; have v3 := F9.obj.cell 3 rfl; have v4 := F9.obj.cell 4 rfl; have v5 := F9.obj.cell 5 rfl; have v6 := F9.obj.cell 6 rfl; have F := hide F9; clear F9
        go_wp2_with (refine bodyPost_ret (by simp [results, Tryz.results25, go_sem, v0, v1, v2, v3, v4, v5, v6]; try rfl) rfl ?_)
        clear EU; have F := uh F
        refine ⟨.slice amS b.mails.length cmS, .slice atS b.tombs.length ctS, .slice (some ⟨we1.heap.size, 0, none⟩) 0 0, .slice (some ⟨wf2.heap.size, 0, none⟩) 0 0, by rw [uh V], ?_, ?_, ?_, F.below loR (uh BB)⟩
        ·rw [uh V]; exact ⟨g_based (F.row (by decide) (uh OS).1) (by have lo9_ := uh lOS; have lo8_ := (uh BB).size; have sz201_ := uh sz201; have sz202_ := uh sz202; have sz203_ := uh sz203; omega), g_based (F.row (by decide) (uh OS).2) (by have lo9_ := uh lOS; have lo8_ := (uh BB).size; have sz201_ := uh sz201; have sz202_ := uh sz202; have sz203_ := uh sz203; omega)⟩
        ·rw [uh V]; exact g_based (F.row (by decide) (uh RD)) (by have lo9_ := uh lOS; have lo8_ := (uh BB).size; have sz201_ := uh sz201; have sz202_ := uh sz202; have sz203_ := uh sz203; omega)
        ·rw [uh V]; exact g_based (F.row (by decide) (uh RL)) (by have lo9_ := uh lOS; have lo8_ := (uh BB).size; have sz201_ := uh sz201; have sz202_ := uh sz202; have sz203_ := uh sz203; omega)
       | true =>
        have V := hide (uh V3 (uh FOK) hq5); clear hq5; have Qc0_6 := (uh Q).cell 0 rfl; have Qc1_6 := (uh Q).cell 1 rfl; have Qc2_6 := (uh Q).cell 2 rfl; have Qc3_6 := (uh Q).cell 3 rfl; have Qc4_6 := (uh Q).cell 4 rfl; have Qc5_6 := (uh Q).cell 5 rfl; have Qc6_6 := (uh Q).cell 6 rfl; have Rf0 := (uh R).frozen 0; have Rf1 := (uh R).frozen 1; have Rf2 := (uh R).frozen 2; have Rf3 := (uh R).frozen 3; have Rf4 := (uh R).frozen 4; have Rf5 := (uh R).frozen 5; have Rf6 := (uh R).frozen 6; have Re0 := (uh R).cell 0 rfl; have Re1 := (uh R).cell 1 rfl; have Re2 := (uh R).cell 2 rfl; have Re3 := (uh R).cell 3 rfl; have Re4 := (uh R).cell 4 rfl; have Re5 := (uh R).cell 5 rfl; have Re6 := (uh R).cell 6 rfl; have F := hide (fill7 (uh R) (.string b.name) (.int .i64 b.valid) (.int .i64 b.next) (.int .i64 x.md) (.slice amQ b.mails.length cmQ) (.slice atQ b.tombs.length ctQ) (.int .i64 b.hor))
        obtain ⟨U, hU⟩ : ∃ U, U = (((((((we1.setCell ⟨w1.heap.size, 0, none⟩ (.string b.name)).setCell ⟨w1.heap.size, 1, none⟩ (.int .i64 b.valid)).setCell ⟨w1.heap.size, 2, none⟩ (.int .i64 b.next)).setCell ⟨w1.heap.size, 3, none⟩ (.int .i64 x.md)).setCell ⟨w1.heap.size, 4, none⟩ (.slice amQ b.mails.length cmQ)).setCell ⟨w1.heap.size, 5, none⟩ (.slice atQ b.tombs.length ctQ)).setCell ⟨w1.heap.size, 6, none⟩ (.int .i64 b.hor)) := ⟨_, rfl⟩
        have F9 := uh F
        rw [← hU] at F9
        have EU := hU.symm; clear F hU; have v0 := F9.obj.cell 0 rfl; have v1 := F9.obj.cell 1 rfl; have v2 := F9.obj.cell 2 rfl; have v3 := F9.obj.cell 3 rfl; have v4 := F9.obj.cell 4 rfl; have v5 := F9.obj.cell 5 rfl; have v6 := F9.obj.cell 6 rfl; have F := hide F9; clear F9
        go_wp2_with (refine bodyPost_ret (by simp [results, Tryz.results25, go_sem, v0, v1, v2, v3, v4, v5, v6]; try rfl) rfl ?_)
        clear EU; have F := uh F
        refine ⟨.slice amQ b.mails.length cmQ, .slice atQ b.tombs.length ctQ, u14, u15, by rw [uh V]; rfl, ?_, ?_, ?_, F.below loR (uh BB)⟩
        ·rw [uh V]; exact ⟨F.row (by decide) (uh OBX).1, F.row (by decide) (uh OBX).2⟩
        ·rw [uh V]; exact F.row (by decide) (uh RD)
        ·rw [uh V]; exact F.row (by decide) (uh RL)
end Go.Proofs.YtlngjflhbkannaaGreat
