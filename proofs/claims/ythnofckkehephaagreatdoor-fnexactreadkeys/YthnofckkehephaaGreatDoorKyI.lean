/- The program's keyAlone and keyWithWord. Made by gen_keyi.py. -/
import Derived.Test.YthnofckkehephaaGreatDoorKyCon
namespace Go.Proofs.YthnofckkehephaaGreatDoor
open Go.RowKit Go.ChangeShapes Go.WideShapes Go.ChangeAt Go.Deep
open Plain
set_option linter.unusedVariables false
set_option linter.unusedSimpArgs false

set_option maxHeartbeats 4000000 in
set_option maxRecDepth 100000 in
theorem keyAlone_any (x : List UInt8) (w : World) (hx : x.length ≤ 1048576) (he : KEnv w) :
    Calls Tryz.prog 24 #[.string ⟨x.toArray⟩] w fun e w' => e = .returned (.tuple #[.agg #[.int .i64 (aloneP x).1.kind, .int .i64 (aloneP x).1.num, .string (aloneP x).1.text], .bool (aloneP x).2]) ∧ Below w.heap.size w w' := by
  have EN : Hid (∀ W, Below w.heap.size w W → KEnv W) := fun W hb => he.below hb
  clear he
  have BB := hide (Below.refl w.heap.size w)
  obtain ⟨⟨⟨pk, pn, pt⟩, pb⟩, hP⟩ : ∃ P, P = aloneP x := ⟨_, rfl⟩
  rw [← hP]
  have HP := hide hP
  clear hP
  obtain ⟨w1, hR⟩ : ∃ X, X = w.alloc (.cells ([.int .i64 0, .int .i64 0, .string ⟨#[]⟩] : List Value).toArray 33) := ⟨_, rfl⟩
  have Rx : HasObj w1 w.heap.size 33 [.int .i64 0, .int .i64 0, .string ⟨#[]⟩] := by rw [hR]; exact HasObj.new _ _ _
  have hbn : Below w.heap.size w w1 := by rw [hR]; exact (Below.refl _ _).alloc (Nat.le_refl _) _
  have loR : w.heap.size ≤ w.heap.size := (unhide BB).size
  have ER := hR.symm
  clear hR
  have sz1 := hide (hbn.size)
  have BB_ := hide (below_y (unhide BB) hbn)
  clear BB
  have BB := BB_
  clear BB_
  clear hbn
  have R := hide Rx
  clear Rx
  go_enter Tryz.func24, Tryz.ntmps24
  by_cases h1 : x = alW
  · subst h1
    have Rf0 := (unhide R).frozen 0
    have Rf1 := (unhide R).frozen 1
    have Rf2 := (unhide R).frozen 2
    have Re0 := (unhide R).cell 0 rfl
    have Re1 := (unhide R).cell 1 rfl
    have Re2 := (unhide R).cell 2 rfl
    have F := hide (fill3 (unhide R) (.int .i64 1) (.int .i64 0) (.string ⟨#[]⟩))
    obtain ⟨U, hU⟩ : ∃ U, U = (((w1.setCell ⟨w.heap.size, 0, none⟩ (.int .i64 1)).setCell ⟨w.heap.size, 1, none⟩ (.int .i64 0)).setCell ⟨w.heap.size, 2, none⟩ (.string ⟨#[]⟩)) := ⟨_, rfl⟩
    have F9 := unhide F
    rw [← hU] at F9
    have EU := hU.symm
    clear F hU
    have v0 := F9.obj.cell 0 rfl
    have v1 := F9.obj.cell 1 rfl
    have v2 := F9.obj.cell 2 rfl
    have F := hide F9
    clear F9
    go_wp2_with (refine bodyPost_ret (by simp [results, Tryz.results24, go_sem, v0, v1, v2]; try rfl) rfl ?_)
    clear EU
    have F := unhide F
    exact ⟨by have q := unhide HP; unfold aloneP at q; rw [if_pos rfl] at q; cases q; rfl, F.below loR (unhide BB)⟩
  · have f1 : (x == [97, 108, 108]) = false := by rw [beq_eq_false_iff_ne]; exact h1
    go_wp2_with fail
    clear ER
    refine (cutUn_any x _).mono ?_
    rintro e wb2 ⟨rfl, hb⟩
    subst wb2
    clear f1
    obtain ⟨y, hy⟩ : ∃ y, y = if x.take 2 = unW then x.drop 2 else x := ⟨_, rfl⟩
    rw [← hy]
    have HY := hide hy
    clear hy
    go_wp2_with fail
    refine (kFlag_any y _ (unhide EN _ (unhide BB))).mono ?_
    rintro e wb3 ⟨rfl, hb⟩
    have R_ := hide ((unhide R).ups hb)
    clear R
    have R := R_
    clear R_
    have sz2 := hide (hb.size)
    have BB_ := hide (below_y (unhide BB) hb)
    clear BB
    have BB := BB_
    clear BB_
    clear hb
    by_cases h2 : x.take 2 = unW
    · have f2 : decide (x.take 2 = unW) = true := decide_eq_true h2
      obtain ⟨bv, hbv⟩ : ∃ z, z = bitV y := ⟨_, rfl⟩
      rw [← hbv]
      have HBV := hide hbv
      clear hbv
      have Rf0 := (unhide R).frozen 0
      have Rf1 := (unhide R).frozen 1
      have Rf2 := (unhide R).frozen 2
      have Re0 := (unhide R).cell 0 rfl
      have Re1 := (unhide R).cell 1 rfl
      have Re2 := (unhide R).cell 2 rfl
      have F := hide (fill3 (unhide R) (.int .i64 3) (.int .i64 bv) (.string ⟨#[]⟩))
      obtain ⟨U, hU⟩ : ∃ U, U = (((wb3.setCell ⟨w.heap.size, 0, none⟩ (.int .i64 3)).setCell ⟨w.heap.size, 1, none⟩ (.int .i64 bv)).setCell ⟨w.heap.size, 2, none⟩ (.string ⟨#[]⟩)) := ⟨_, rfl⟩
      have F9 := unhide F
      rw [← hU] at F9
      have EU := hU.symm
      clear F hU
      have v0 := F9.obj.cell 0 rfl
      have v1 := F9.obj.cell 1 rfl
      have v2 := F9.obj.cell 2 rfl
      have F := hide F9
      clear F9
      go_wp2_with (refine bodyPost_ret (by simp [results, Tryz.results24, go_sem, v0, v1, v2]; try rfl) rfl ?_)
      clear EU
      have F := unhide F
      exact ⟨by have q := unhide HP; unfold aloneP at q; rw [if_neg h1, if_pos h2] at q; have q2 := unhide HY; rw [if_pos h2] at q2; have q3 := unhide HBV; rw [q2] at q3; rw [← q3] at q; cases q; rfl, F.below loR (unhide BB)⟩
    · have f2 : decide (x.take 2 = unW) = false := decide_eq_false h2
      obtain ⟨bv, hbv⟩ : ∃ z, z = bitV y := ⟨_, rfl⟩
      rw [← hbv]
      have HBV := hide hbv
      clear hbv
      have Rf0 := (unhide R).frozen 0
      have Rf1 := (unhide R).frozen 1
      have Rf2 := (unhide R).frozen 2
      have Re0 := (unhide R).cell 0 rfl
      have Re1 := (unhide R).cell 1 rfl
      have Re2 := (unhide R).cell 2 rfl
      have F := hide (fill3 (unhide R) (.int .i64 2) (.int .i64 bv) (.string ⟨#[]⟩))
      obtain ⟨U, hU⟩ : ∃ U, U = (((wb3.setCell ⟨w.heap.size, 0, none⟩ (.int .i64 2)).setCell ⟨w.heap.size, 1, none⟩ (.int .i64 bv)).setCell ⟨w.heap.size, 2, none⟩ (.string ⟨#[]⟩)) := ⟨_, rfl⟩
      have F9 := unhide F
      rw [← hU] at F9
      have EU := hU.symm
      clear F hU
      have v0 := F9.obj.cell 0 rfl
      have v1 := F9.obj.cell 1 rfl
      have v2 := F9.obj.cell 2 rfl
      have F := hide F9
      clear F9
      go_wp2_with (refine bodyPost_ret (by simp [results, Tryz.results24, go_sem, v0, v1, v2]; try rfl) rfl ?_)
      clear EU
      have F := unhide F
      exact ⟨by have q := unhide HP; unfold aloneP at q; rw [if_neg h1, if_neg h2] at q; have q2 := unhide HY; rw [if_neg h2] at q2; have q3 := unhide HBV; rw [q2] at q3; rw [← q3] at q; cases q; rfl, F.below loR (unhide BB)⟩
set_option maxHeartbeats 4000000 in
set_option maxRecDepth 100000 in
theorem keyWith_any (x m : List UInt8) (w : World) (hx : x.length ≤ 1048576) (hm : m.length ≤ 1048576) (he : KEnv w) :
    Calls Tryz.prog 25 #[.string ⟨x.toArray⟩, .string ⟨m.toArray⟩] w fun e w' => e = .returned (.tuple #[.agg #[.int .i64 (withP x m).1.kind, .int .i64 (withP x m).1.num, .string (withP x m).1.text], .bool (withP x m).2]) ∧ Below w.heap.size w w' := by
  have EN : Hid (∀ W, Below w.heap.size w W → KEnv W) := fun W hb => he.below hb
  clear he
  have BB := hide (Below.refl w.heap.size w)
  obtain ⟨⟨⟨pk, pn, pt⟩, pb⟩, hP⟩ : ∃ P, P = withP x m := ⟨_, rfl⟩
  rw [← hP]
  have HP := hide hP
  clear hP
  obtain ⟨w1, hR⟩ : ∃ X, X = w.alloc (.cells ([.int .i64 0, .int .i64 0, .string ⟨#[]⟩] : List Value).toArray 33) := ⟨_, rfl⟩
  have Rx : HasObj w1 w.heap.size 33 [.int .i64 0, .int .i64 0, .string ⟨#[]⟩] := by rw [hR]; exact HasObj.new _ _ _
  have hbn : Below w.heap.size w w1 := by rw [hR]; exact (Below.refl _ _).alloc (Nat.le_refl _) _
  have loR : w.heap.size ≤ w.heap.size := (unhide BB).size
  have ER := hR.symm
  clear hR
  have sz1 := hide (hbn.size)
  have BB_ := hide (below_y (unhide BB) hbn)
  clear BB
  have BB := BB_
  clear BB_
  clear hbn
  have R := hide Rx
  clear Rx
  go_enter Tryz.func25, Tryz.ntmps25
  by_cases h0 : x = suW
  · subst h0
    go_wp2_with fail
    clear ER
    refine (kClone_any m _ hm).mono ?_
    rintro e wk02 ⟨rfl, hb⟩
    have R_ := hide ((unhide R).ups hb)
    clear R
    have R := R_
    clear R_
    have sz2 := hide (hb.size)
    have BB_ := hide (below_y (unhide BB) hb)
    clear BB
    have BB := BB_
    clear BB_
    clear hb
    obtain ⟨wi, hwi⟩ : ∃ z, z = inI m.length 1 20 := ⟨_, rfl⟩
    go_wp2_with fail
    refine (impl_within_any (m.length : Int) 1 20 _).mono ?_
    rintro e wk03 ⟨rfl, hb⟩
    subst wk03
    rw [← hwi]
    have HW := hide hwi
    clear hwi
    have Rf0 := (unhide R).frozen 0
    have Rf1 := (unhide R).frozen 1
    have Rf2 := (unhide R).frozen 2
    have Re0 := (unhide R).cell 0 rfl
    have Re1 := (unhide R).cell 1 rfl
    have Re2 := (unhide R).cell 2 rfl
    have F := hide (fill3 (unhide R) (.int .i64 4) (.int .i64 0) (.string ⟨m.toArray⟩))
    obtain ⟨U, hU⟩ : ∃ U, U = (((wk02.setCell ⟨w.heap.size, 0, none⟩ (.int .i64 4)).setCell ⟨w.heap.size, 1, none⟩ (.int .i64 0)).setCell ⟨w.heap.size, 2, none⟩ (.string ⟨m.toArray⟩)) := ⟨_, rfl⟩
    have F9 := unhide F
    rw [← hU] at F9
    have EU := hU.symm
    clear F hU
    have v0 := F9.obj.cell 0 rfl
    have v1 := F9.obj.cell 1 rfl
    have v2 := F9.obj.cell 2 rfl
    have F := hide F9
    clear F9
    go_wp2_with (refine bodyPost_ret (by simp [results, Tryz.results25, go_sem, v0, v1, v2]; try rfl) rfl ?_)
    clear EU
    have F := unhide F
    exact ⟨by have q := unhide HP; unfold withP at q; rw [if_pos rfl] at q; rw [← unhide HW] at q; cases q; rfl, F.below loR (unhide BB)⟩
  · have f0 : (x == [115, 117, 98, 106, 101, 99, 116]) = false := by rw [beq_eq_false_iff_ne]; exact h0
    by_cases h1 : x = teW
    · subst h1
      clear f0 h0
      go_wp2_with fail
      clear ER
      refine (kClone_any m _ hm).mono ?_
      rintro e wk12 ⟨rfl, hb⟩
      have R_ := hide ((unhide R).ups hb)
      clear R
      have R := R_
      clear R_
      have sz2 := hide (hb.size)
      have BB_ := hide (below_y (unhide BB) hb)
      clear BB
      have BB := BB_
      clear BB_
      clear hb
      obtain ⟨wi, hwi⟩ : ∃ z, z = inI m.length 1 20 := ⟨_, rfl⟩
      go_wp2_with fail
      refine (impl_within_any (m.length : Int) 1 20 _).mono ?_
      rintro e wk13 ⟨rfl, hb⟩
      subst wk13
      rw [← hwi]
      have HW := hide hwi
      clear hwi
      have Rf0 := (unhide R).frozen 0
      have Rf1 := (unhide R).frozen 1
      have Rf2 := (unhide R).frozen 2
      have Re0 := (unhide R).cell 0 rfl
      have Re1 := (unhide R).cell 1 rfl
      have Re2 := (unhide R).cell 2 rfl
      have F := hide (fill3 (unhide R) (.int .i64 5) (.int .i64 0) (.string ⟨m.toArray⟩))
      obtain ⟨U, hU⟩ : ∃ U, U = (((wk12.setCell ⟨w.heap.size, 0, none⟩ (.int .i64 5)).setCell ⟨w.heap.size, 1, none⟩ (.int .i64 0)).setCell ⟨w.heap.size, 2, none⟩ (.string ⟨m.toArray⟩)) := ⟨_, rfl⟩
      have F9 := unhide F
      rw [← hU] at F9
      have EU := hU.symm
      clear F hU
      have v0 := F9.obj.cell 0 rfl
      have v1 := F9.obj.cell 1 rfl
      have v2 := F9.obj.cell 2 rfl
      have F := hide F9
      clear F9
      go_wp2_with (refine bodyPost_ret (by simp [results, Tryz.results25, go_sem, v0, v1, v2]; try rfl) rfl ?_)
      clear EU
      have F := unhide F
      exact ⟨by have q := unhide HP; unfold withP at q; rw [if_neg (by decide), if_pos rfl] at q; rw [← unhide HW] at q; cases q; rfl, F.below loR (unhide BB)⟩
    · have f1 : (x == [116, 101, 120, 116]) = false := by rw [beq_eq_false_iff_ne]; exact h1
      by_cases h2 : x = uiW
      · subst h2
        clear f0 h0 f1 h1
        go_wp2_with fail
        clear ER
        refine (kSet_any m _ hm (unhide EN _ (unhide BB))).mono ?_
        rintro e wk22 ⟨vS, rfl, hb⟩
        have R_ := hide ((unhide R).ups hb)
        clear R
        have R := R_
        clear R_
        have sz2 := hide (hb.size)
        have BB_ := hide (below_y (unhide BB) hb)
        clear BB
        have BB := BB_
        clear BB_
        clear hb
        obtain ⟨rs, hrs⟩ : ∃ z, z = (readV m 9999).2 := ⟨_, rfl⟩
        rw [← hrs]
        have HW := hide hrs
        clear hrs
        go_wp2_with fail
        refine (kClone_any m _ hm).mono ?_
        rintro e wk23 ⟨rfl, hb⟩
        have R_ := hide ((unhide R).ups hb)
        clear R
        have R := R_
        clear R_
        have sz3 := hide (hb.size)
        have BB_ := hide (below_y (unhide BB) hb)
        clear BB
        have BB := BB_
        clear BB_
        clear hb
        have Rf0 := (unhide R).frozen 0
        have Rf1 := (unhide R).frozen 1
        have Rf2 := (unhide R).frozen 2
        have Re0 := (unhide R).cell 0 rfl
        have Re1 := (unhide R).cell 1 rfl
        have Re2 := (unhide R).cell 2 rfl
        have F := hide (fill3 (unhide R) (.int .i64 6) (.int .i64 0) (.string ⟨m.toArray⟩))
        obtain ⟨U, hU⟩ : ∃ U, U = (((wk23.setCell ⟨w.heap.size, 0, none⟩ (.int .i64 6)).setCell ⟨w.heap.size, 1, none⟩ (.int .i64 0)).setCell ⟨w.heap.size, 2, none⟩ (.string ⟨m.toArray⟩)) := ⟨_, rfl⟩
        have F9 := unhide F
        rw [← hU] at F9
        have EU := hU.symm
        clear F hU
        have v0 := F9.obj.cell 0 rfl
        have v1 := F9.obj.cell 1 rfl
        have v2 := F9.obj.cell 2 rfl
        have F := hide F9
        clear F9
        go_wp2_with (refine bodyPost_ret (by simp [results, Tryz.results25, go_sem, v0, v1, v2]; try rfl) rfl ?_)
        clear EU
        have F := unhide F
        exact ⟨by have q := unhide HP; unfold withP at q; rw [if_neg (by decide), if_neg (by decide), if_pos rfl] at q; rw [← unhide HW] at q; cases q; rfl, F.below loR (unhide BB)⟩
      · have f2 : (x == [117, 105, 100]) = false := by rw [beq_eq_false_iff_ne]; exact h2
        by_cases h3 : x = moW
        · subst h3
          clear f0 h0 f1 h1 f2 h2
          go_wp2_with fail
          clear ER
          refine (kDec_any m _ hm (unhide EN _ (unhide BB))).mono ?_
          rintro e wk32 ⟨rfl, hb⟩
          have R_ := hide ((unhide R).ups hb)
          clear R
          have R := R_
          clear R_
          have sz2 := hide (hb.size)
          have BB_ := hide (below_y (unhide BB) hb)
          clear BB
          have BB := BB_
          clear BB_
          clear hb
          obtain ⟨⟨dn, db⟩, hd⟩ : ∃ z, z = decP m := ⟨_, rfl⟩
          rw [← hd]
          have HD := hide hd
          clear hd
          cases db
          · have Rf0 := (unhide R).frozen 0
            have Rf1 := (unhide R).frozen 1
            have Rf2 := (unhide R).frozen 2
            have Re0 := (unhide R).cell 0 rfl
            have Re1 := (unhide R).cell 1 rfl
            have Re2 := (unhide R).cell 2 rfl
            have F := hide (fill3 (unhide R) (.int .i64 7) (.int .i64 dn) (.string ⟨#[]⟩))
            obtain ⟨U, hU⟩ : ∃ U, U = (((wk32.setCell ⟨w.heap.size, 0, none⟩ (.int .i64 7)).setCell ⟨w.heap.size, 1, none⟩ (.int .i64 dn)).setCell ⟨w.heap.size, 2, none⟩ (.string ⟨#[]⟩)) := ⟨_, rfl⟩
            have F9 := unhide F
            rw [← hU] at F9
            have EU := hU.symm
            clear F hU
            have v0 := F9.obj.cell 0 rfl
            have v1 := F9.obj.cell 1 rfl
            have v2 := F9.obj.cell 2 rfl
            have F := hide F9
            clear F9
            go_wp2_with (refine bodyPost_ret (by simp [results, Tryz.results25, go_sem, v0, v1, v2]; try rfl) rfl ?_)
            clear EU
            have F := unhide F
            exact ⟨by have q := unhide HP; unfold withP at q; rw [if_neg (by decide), if_neg (by decide), if_neg (by decide), if_pos rfl] at q; rw [← unhide HD] at q; cases q; simp, F.below loR (unhide BB)⟩
          · have Rf0 := (unhide R).frozen 0
            have Rf1 := (unhide R).frozen 1
            have Rf2 := (unhide R).frozen 2
            have Re0 := (unhide R).cell 0 rfl
            have Re1 := (unhide R).cell 1 rfl
            have Re2 := (unhide R).cell 2 rfl
            have F := hide (fill3 (unhide R) (.int .i64 7) (.int .i64 dn) (.string ⟨#[]⟩))
            obtain ⟨U, hU⟩ : ∃ U, U = (((wk32.setCell ⟨w.heap.size, 0, none⟩ (.int .i64 7)).setCell ⟨w.heap.size, 1, none⟩ (.int .i64 dn)).setCell ⟨w.heap.size, 2, none⟩ (.string ⟨#[]⟩)) := ⟨_, rfl⟩
            have F9 := unhide F
            rw [← hU] at F9
            have EU := hU.symm
            clear F hU
            have v0 := F9.obj.cell 0 rfl
            have v1 := F9.obj.cell 1 rfl
            have v2 := F9.obj.cell 2 rfl
            have F := hide F9
            clear F9
            go_wp2_with (refine bodyPost_ret (by simp [results, Tryz.results25, go_sem, v0, v1, v2]; try rfl) rfl ?_)
            clear EU
            have F := unhide F
            exact ⟨by have q := unhide HP; unfold withP at q; rw [if_neg (by decide), if_neg (by decide), if_neg (by decide), if_pos rfl] at q; rw [← unhide HD] at q; cases q; simp, F.below loR (unhide BB)⟩
        · have f3 : (x == [109, 111, 100, 115, 101, 113]) = false := by rw [beq_eq_false_iff_ne]; exact h3
          have Rf0 := (unhide R).frozen 0
          have Rf1 := (unhide R).frozen 1
          have Rf2 := (unhide R).frozen 2
          have Re0 := (unhide R).cell 0 rfl
          have Re1 := (unhide R).cell 1 rfl
          have Re2 := (unhide R).cell 2 rfl
          have F := hide (fill3 (unhide R) (.int .i64 0) (.int .i64 0) (.string ⟨#[]⟩))
          obtain ⟨U, hU⟩ : ∃ U, U = (((w1.setCell ⟨w.heap.size, 0, none⟩ (.int .i64 0)).setCell ⟨w.heap.size, 1, none⟩ (.int .i64 0)).setCell ⟨w.heap.size, 2, none⟩ (.string ⟨#[]⟩)) := ⟨_, rfl⟩
          have F9 := unhide F
          rw [← hU] at F9
          have EU := hU.symm
          clear F hU
          have v0 := F9.obj.cell 0 rfl
          have v1 := F9.obj.cell 1 rfl
          have v2 := F9.obj.cell 2 rfl
          have F := hide F9
          clear F9
          go_wp2_with (refine bodyPost_ret (by simp [results, Tryz.results25, go_sem, v0, v1, v2]; try rfl) rfl ?_)
          clear EU
          have F := unhide F
          exact ⟨by have q := unhide HP; unfold withP at q; rw [if_neg h0, if_neg h1, if_neg h2, if_neg h3] at q; cases q; rfl, F.below loR (unhide BB)⟩
end Go.Proofs.YthnofckkehephaaGreatDoor
