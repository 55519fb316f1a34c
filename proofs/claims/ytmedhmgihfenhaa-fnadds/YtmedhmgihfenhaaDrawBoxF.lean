/- The draw of a box out of bytes. Made by gen_fnforgets.py. -/
import Derived.Test.YtmedhmgihfenhaaDrawBox
namespace Go.Proofs.Ytmedhmgihfenhaa
open Go.RowKit
open Plain
set_option linter.unusedVariables false
set_option linter.unusedSimpArgs false

set_option maxHeartbeats 4000000 in
set_option maxRecDepth 100000 in
theorem DrawBox_any (B len cap : Nat) (a : Option Addr) (w : World) (ha : Arg B w a len) (hB : B ≤ w.heap.size) :
    Calls Try.prog 7 #[.slice a len cap] w fun e w' => ∃ b m t, e = .returned (boxV b m t) ∧ boxOk b = true ∧ OwnBx w.heap.size w' m t b ∧ Below w.heap.size w w' := by
  have HA := hide (fun (W : World) (hb : Below B w W) => ha.below hb)
  clear ha
  have BB := hide (Below.refl w.heap.size w)
  obtain ⟨w1, hR⟩ : ∃ X, X = w.alloc (.cells ([.string ⟨#[]⟩, .int .i64 0, .int .i64 0, .int .i64 0, .slice none 0 0, .slice none 0 0, .int .i64 0] : List Value).toArray 27) := ⟨_, rfl⟩
  have Rx : HasObj w1 w.heap.size 27 [.string ⟨#[]⟩, .int .i64 0, .int .i64 0, .int .i64 0, .slice none 0 0, .slice none 0 0, .int .i64 0] := by rw [hR]; exact HasObj.new _ _ _
  have hbn : Below w.heap.size w w1 := by rw [hR]; exact (Below.refl _ _).alloc (Nat.le_refl _) _
  have loR : w.heap.size ≤ w.heap.size := (unhide BB).size
  have ER := hR.symm
  clear hR
  have sz1 := hide (hbn.size)
  have BB_ := hide (below_y (unhide BB) hbn)
  clear BB
  have BB := BB_
  clear BB_
  clear hbn
  have R := hide Rx
  clear Rx
  have q1 := hide (l01New_any B len cap a w1 (unhide HA w1 ((unhide BB).mono hB)) (Nat.le_trans hB (unhide BB).size))
  have nR := (unhide R).lt
  go_enter Try.func7, Try.ntmps7
  go_wp2_with fail
  clear ER
  refine (unhide q1).mono ?_
  rintro e w2 ⟨rfl, hc1, hg1⟩
  have hb := g_below hg1
  have CU := hide hc1
  clear q1 hg1 hc1
  have R_ := hide ((unhide R).ups hb)
  clear R
  have R := R_
  clear R_
  have sz2 := hide (hb.size)
  have BB_ := hide (below_y (unhide BB) hb)
  clear BB
  have BB := BB_
  clear BB_
  clear hb
  go_wp2_with fail
  refine (l08Box_any B w1.heap.size w2 (unhide CU)).mono ?_
  rintro e w3 ⟨b, m, t, rfl, hok, own, hc2, hg2⟩
  have OK := hide hok
  have LB : Hid (w.heap.size ≤ w2.heap.size) := (unhide BB).size
  obtain ⟨am, cm, rfl⟩ := g_shape own.1
  obtain ⟨at1, ct1, rfl⟩ := g_shape own.2
  have OB := hide own
  clear hok own hc2 CU
  have R_ := hide ((unhide R).kept hg2 (fun e => by have q1_ := Option.some.inj e; omega))
  have BB_ : Hid (Below w.heap.size w w3) := (unhide BB).grown hg2 (unhide BB).size (fun k hk => by have q1_ := Option.some.inj hk; omega)
  clear R BB hg2
  have R := R_
  have BB := BB_
  clear R_ BB_
  have Rf0 := (unhide R).frozen 0
  have Rf1 := (unhide R).frozen 1
  have Rf2 := (unhide R).frozen 2
  have Rf3 := (unhide R).frozen 3
  have Rf4 := (unhide R).frozen 4
  have Rf5 := (unhide R).frozen 5
  have Rf6 := (unhide R).frozen 6
  have Re0 := (unhide R).cell 0 rfl
  have Re1 := (unhide R).cell 1 rfl
  have Re2 := (unhide R).cell 2 rfl
  have Re3 := (unhide R).cell 3 rfl
  have Re4 := (unhide R).cell 4 rfl
  have Re5 := (unhide R).cell 5 rfl
  have Re6 := (unhide R).cell 6 rfl
  have F := hide (fill7 (unhide R) (.string b.name) (.int .i64 b.valid) (.int .i64 b.next) (.int .i64 b.mod) (.slice am b.mails.length cm) (.slice at1 b.tombs.length ct1) (.int .i64 b.hor))
  obtain ⟨U, hU⟩ : ∃ U, U = (((((((w3.setCell ⟨w.heap.size, 0, none⟩ (.string b.name)).setCell ⟨w.heap.size, 1, none⟩ (.int .i64 b.valid)).setCell ⟨w.heap.size, 2, none⟩ (.int .i64 b.next)).setCell ⟨w.heap.size, 3, none⟩ (.int .i64 b.mod)).setCell ⟨w.heap.size, 4, none⟩ (.slice am b.mails.length cm)).setCell ⟨w.heap.size, 5, none⟩ (.slice at1 b.tombs.length ct1)).setCell ⟨w.heap.size, 6, none⟩ (.int .i64 b.hor)) := ⟨_, rfl⟩
  have F9 := unhide F
  rw [← hU] at F9
  have EU := hU.symm
  clear F hU
  have v0 := F9.obj.cell 0 rfl
  have v1 := F9.obj.cell 1 rfl
  have v2 := F9.obj.cell 2 rfl
  have v3 := F9.obj.cell 3 rfl
  have v4 := F9.obj.cell 4 rfl
  have v5 := F9.obj.cell 5 rfl
  have v6 := F9.obj.cell 6 rfl
  have F := hide F9
  clear F9
  go_wp2_with (refine bodyPost_ret (by simp [results, Try.results7, go_sem, v0, v1, v2, v3, v4, v5, v6]; try rfl) rfl ?_)
  clear EU
  have F := unhide F
  exact ⟨b, _, _, rfl, unhide OK, ⟨g_based (F.row (by decide) (unhide OB).1) (unhide LB), g_based (F.row (by decide) (unhide OB).2) (unhide LB)⟩, F.below loR (unhide BB)⟩
end Go.Proofs.Ytmedhmgihfenhaa
