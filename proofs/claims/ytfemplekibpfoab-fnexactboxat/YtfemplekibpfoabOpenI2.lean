/- The program's store and copiedStore. Made by gen_stores.py. -/
import Derived.Test.YtfemplekibpfoabOpenI
namespace Go.Proofs.Ytfemplekibpfoab
open Go.RowKit
open Plain
set_option linter.unusedVariables false
set_option linter.unusedSimpArgs false

theorem OwnSt.filled {B r : Nat} {W U : World} {v : Value} {l : List Bx} {t : TypeId} {us : List Value} (h : OwnSt B W v l) (F : Filled W r t us U) (h0 : t ≠ 36) (h1 : t ≠ 67) (h2 : t ≠ 70) : OwnSt B U v l := by
  obtain ⟨L, e, o, ap⟩ := h
  exact ⟨L, e, ⟨F.row h0 o.row, fun x hx => ⟨F.row h1 (o.each x hx).1, F.row h2 (o.each x hx).2⟩⟩, ap⟩
theorem OpenSt.based {B B' : Nat} {w : World} {v : Value} {mb : Nat} {P : List (Lb × Nat)} (h : OpenSt B w v mb P) (hB : B' ≤ B) : OpenSt B' w v mb P := by
  obtain ⟨S, h1, h2, h3⟩ := h.map
  exact ⟨h.row.based hB, h.objs.based hB, h.apart, S, h1.based hB, h2, h3⟩
theorem OpenSt.own {B : Nat} {w w' : World} {v v' : Value} {mb : Nat} {P : List (Lb × Nat)} {l : List Bx} (h : OpenSt B w v mb P) (hP : P.map (·.1.b) = l) (hr : OwnBr w.heap.size w' v' (P.map (·.1))) (hb : Below w.heap.size w w') (hB : B ≤ w.heap.size) : OwnSt B w' v' l := by
  refine ⟨P.map (·.1), by rw [List.map_map]; exact hP, ⟨hr.based hB, fun x hx => ?_⟩, ?_⟩
  · obtain ⟨p, hp, rfl⟩ := List.mem_map.1 hx
    exact (h.objs p hp).2.2.up hb
  · rw [List.pairwise_map]
    exact h.apart.imp fun h => h.2
theorem open_len {P : List (Lb × Nat)} {s : Sx} (h : P.map (·.1.b) = s.boxes) (hf : FitSt s) : P.length ≤ 1048578 := by have := congrArg List.length h; rw [List.length_map] at this; have := hf.len; omega
theorem field_named (w : World) (a c : Value) (mb : Nat) : (Instr.field 53 (.agg #[a, .map (some mb), c]) 1).run Try.prog w = .ok (.map (some mb)) w := by kernel_rfl
theorem found_at {P : List (Lb × Nat)} {s : Sx} {n : ByteArray} {g : Nat} (hP : P.map (·.1.b) = s.boxes) (hf : findB P n = some g) : ∃ k x, P[k]? = some (x, g) ∧ s.boxes[k]? = some x.b ∧ sameN n x.b = true ∧ (∀ y ∈ s.boxes.take k, sameN n y = false) ∧ boxAt s n = some x.b := by
  obtain ⟨k, ⟨x, g'⟩, h1, h2, h3, h4⟩ := findB_some hf
  simp only at h2
  subst h2
  have h5 : s.boxes[k]? = some x.b := by rw [← hP, List.getElem?_map, h1]; rfl
  have h6 : ∀ y ∈ s.boxes.take k, sameN n y = false := fun y hy => by
    rw [← hP, ← List.map_take] at hy
    obtain ⟨z, hz, rfl⟩ := List.mem_map.1 hy
    exact h4 z hz
  exact ⟨k, x, h1, h5, h3, h6, boxAt_first h5 h3 h6⟩
theorem found_no {P : List (Lb × Nat)} {s : Sx} {n : ByteArray} (hP : P.map (·.1.b) = s.boxes) (hf : findB P n = none) : boxAt s n = none := boxAt_none fun y hy => by
  rw [← hP] at hy
  obtain ⟨z, hz, rfl⟩ := List.mem_map.1 hy
  exact findB_none hf z hz
set_option maxHeartbeats 4000000 in
set_option maxRecDepth 100000 in
theorem impl_BoxAt_any (s : Sx) (name : ByteArray) (v : Value) (B : Nat) (w : World) (hf : FitSt s) (hz : name.size ≤ 1048576) (h : ReadSt B w v s.boxes) :
    Calls Try.prog 11 #[.agg #[v, .int .i64 s.valid], .string name] w fun e w' => ∃ m t, e = .returned (.tuple #[boxV (atV s name).1 m t, .bool (atV s name).2]) ∧ OwnBx w.heap.size w' m t (atV s name).1 ∧ Below w.heap.size w w' := by
  obtain ⟨a1, c1, rfl⟩ := h.shape
  have S1 := hide h
  have FT := hide hf
  have FLD := field_named
  clear h hf
  have BB := hide (Below.refl w.heap.size w)
  obtain ⟨wb1, hA⟩ : ∃ X, X = w.alloc (.cells ([.slice a1 s.boxes.length c1, .int .i64 s.valid] : List Value).toArray 29) := ⟨_, rfl⟩
  have Ax : HasObj wb1 w.heap.size 29 [.slice a1 s.boxes.length c1, .int .i64 s.valid] := by rw [hA]; exact HasObj.new _ _ _
  have hbn : Below w.heap.size w wb1 := by rw [hA]; exact (Below.refl _ _).alloc (Nat.le_refl _) _
  have loA : w.heap.size ≤ w.heap.size := (unhide BB).size
  have EA := hA.symm
  clear hA
  have S1_ := hide ((unhide S1).up hbn)
  clear S1
  have S1 := S1_
  clear S1_
  have sz1 := hide (hbn.size)
  have BB_ := hide (below_y (unhide BB) hbn)
  clear BB
  have BB := BB_
  clear BB_
  clear hbn
  have A := hide Ax
  clear Ax
  obtain ⟨wb2, hR⟩ : ∃ X, X = wb1.alloc (.cells ([.string ⟨#[]⟩, .int .i64 0, .int .i64 0, .int .i64 0, .slice none 0 0, .slice none 0 0, .int .i64 0] : List Value).toArray 36) := ⟨_, rfl⟩
  have Rx : HasObj wb2 wb1.heap.size 36 [.string ⟨#[]⟩, .int .i64 0, .int .i64 0, .int .i64 0, .slice none 0 0, .slice none 0 0, .int .i64 0] := by rw [hR]; exact HasObj.new _ _ _
  have hbn : Below wb1.heap.size wb1 wb2 := by rw [hR]; exact (Below.refl _ _).alloc (Nat.le_refl _) _
  have neAR : w.heap.size ≠ wb1.heap.size := Nat.ne_of_lt (unhide A).lt
  have loR : w.heap.size ≤ wb1.heap.size := (unhide BB).size
  have ER := hR.symm
  clear hR
  have A_ := hide ((unhide A).ups hbn)
  clear A
  have A := A_
  clear A_
  have S1_ := hide ((unhide S1).up hbn)
  clear S1
  have S1 := S1_
  clear S1_
  have sz2 := hide (hbn.size)
  have BB_ := hide (below_y (unhide BB) hbn)
  clear BB
  have BB := BB_
  clear BB_
  clear hbn
  have R := hide Rx
  clear Rx
  have Ac0_1 := (unhide A).cell 0 rfl
  have Ac1_1 := (unhide A).cell 1 rfl
  go_enter Try.func11, Try.ntmps11
  go_wp2_with fail
  clear Ac0_1 Ac1_1 EA ER
  have LOP : Hid (w.heap.size ≤ wb2.heap.size) := (unhide BB).size
  refine (openedStore_any s _ _ _ (unhide FT) (unhide S1)).mono ?_
  rintro e wb3 ⟨vP, mbP, P, hPP, rfl, oS, hb⟩
  obtain ⟨aP, cP, rfl⟩ := g_shape oS.row
  rw [List.length_map] at oS ⊢
  have OSP_ := hide (oS.based (unhide LOP))
  have HPP := hide hPP
  clear oS hPP
  have A_ := hide ((unhide A).ups hb)
  clear A
  have A := A_
  clear A_
  have R_ := hide ((unhide R).ups hb)
  clear R
  have R := R_
  clear R_
  have S1_ := hide ((unhide S1).up hb)
  clear S1
  have S1 := S1_
  clear S1_
  have sz3 := hide (hb.size)
  have BB_ := hide (below_y (unhide BB) hb)
  clear BB
  have BB := BB_
  clear BB_
  clear hb
  have OSP := OSP_
  clear OSP_
  replace LOP : Hid (w.heap.size ≤ wb3.heap.size) := (unhide BB).size
  have LK := (unhide OSP).look hz
  cases hfb : findB P name with
  | none =>
    rw [hfb] at LK
    simp only [ptrOf] at LK
    have ANS : Hid (atV s name = (bx0, false)) := atV_none (found_no (unhide HPP) hfb)
    clear hfb
    have Rf0 := (unhide R).frozen 0
    have Rf1 := (unhide R).frozen 1
    have Rf2 := (unhide R).frozen 2
    have Rf3 := (unhide R).frozen 3
    have Rf4 := (unhide R).frozen 4
    have Rf5 := (unhide R).frozen 5
    have Rf6 := (unhide R).frozen 6
    have Re0 := (unhide R).cell 0 rfl
    have Re1 := (unhide R).cell 1 rfl
    have Re2 := (unhide R).cell 2 rfl
    have Re3 := (unhide R).cell 3 rfl
    have Re4 := (unhide R).cell 4 rfl
    have Re5 := (unhide R).cell 5 rfl
    have Re6 := (unhide R).cell 6 rfl
    have F := hide (fill7 (unhide R) (.string ⟨#[]⟩) (.int .i64 0) (.int .i64 0) (.int .i64 0) (.slice none 0 0) (.slice none 0 0) (.int .i64 0))
    obtain ⟨U, hU⟩ : ∃ U, U = (((((((wb3.setCell ⟨wb1.heap.size, 0, none⟩ (.string ⟨#[]⟩)).setCell ⟨wb1.heap.size, 1, none⟩ (.int .i64 0)).setCell ⟨wb1.heap.size, 2, none⟩ (.int .i64 0)).setCell ⟨wb1.heap.size, 3, none⟩ (.int .i64 0)).setCell ⟨wb1.heap.size, 4, none⟩ (.slice none 0 0)).setCell ⟨wb1.heap.size, 5, none⟩ (.slice none 0 0)).setCell ⟨wb1.heap.size, 6, none⟩ (.int .i64 0)) := ⟨_, rfl⟩
    have F9 := unhide F
    rw [← hU] at F9
    have EU := hU.symm
    clear F hU
    have v0 := F9.obj.cell 0 rfl
    have v1 := F9.obj.cell 1 rfl
    have v2 := F9.obj.cell 2 rfl
    have v3 := F9.obj.cell 3 rfl
    have v4 := F9.obj.cell 4 rfl
    have v5 := F9.obj.cell 5 rfl
    have v6 := F9.obj.cell 6 rfl
    have F := hide F9
    clear F9
    go_wp2_with (refine bodyPost_ret (by simp [results, Try.results11, go_sem, v0, v1, v2, v3, v4, v5, v6]; try rfl) rfl ?_)
    clear EU
    have F := unhide F
    rw [unhide ANS]
    exact ⟨.slice none 0 0, .slice none 0 0, rfl, ⟨World.ownsRow_nil _ _ _ _, World.ownsRow_nil _ _ _ _⟩, F.below loR (unhide BB)⟩
  | some g0 =>
    rw [hfb] at LK
    simp only [ptrOf] at LK
    obtain ⟨k, x, hk, _, _, _, hat⟩ := found_at (unhide HPP) hfb
    have ANS : Hid (atV s name = (x.b, true)) := atV_some hat
    have hob := (unhide OSP).objs _ (List.mem_of_getElem? hk)
    clear hk hat hfb
    obtain ⟨b, m, t⟩ := x
    simp only at hob ANS
    obtain ⟨am, cm, rfl⟩ := g_shape hob.2.2.1
    obtain ⟨at1, ct1, rfl⟩ := g_shape hob.2.2.2
    have G := hide hob.2.1
    have OX := hide hob.2.2
    clear hob
    have Gc0_2 := (unhide G).cell 0 rfl
    have Gc1_2 := (unhide G).cell 1 rfl
    have Gc2_2 := (unhide G).cell 2 rfl
    have Gc3_2 := (unhide G).cell 3 rfl
    have Gc4_2 := (unhide G).cell 4 rfl
    have Gc5_2 := (unhide G).cell 5 rfl
    have Gc6_2 := (unhide G).cell 6 rfl
    have Rf0 := (unhide R).frozen 0
    have Rf1 := (unhide R).frozen 1
    have Rf2 := (unhide R).frozen 2
    have Rf3 := (unhide R).frozen 3
    have Rf4 := (unhide R).frozen 4
    have Rf5 := (unhide R).frozen 5
    have Rf6 := (unhide R).frozen 6
    have Re0 := (unhide R).cell 0 rfl
    have Re1 := (unhide R).cell 1 rfl
    have Re2 := (unhide R).cell 2 rfl
    have Re3 := (unhide R).cell 3 rfl
    have Re4 := (unhide R).cell 4 rfl
    have Re5 := (unhide R).cell 5 rfl
    have Re6 := (unhide R).cell 6 rfl
    have F := hide (fill7 (unhide R) (.string b.name) (.int .i64 b.valid) (.int .i64 b.next) (.int .i64 b.mod) (.slice am b.mails.length cm) (.slice at1 b.tombs.length ct1) (.int .i64 b.hor))
    obtain ⟨U, hU⟩ : ∃ U, U = (((((((wb3.setCell ⟨wb1.heap.size, 0, none⟩ (.string b.name)).setCell ⟨wb1.heap.size, 1, none⟩ (.int .i64 b.valid)).setCell ⟨wb1.heap.size, 2, none⟩ (.int .i64 b.next)).setCell ⟨wb1.heap.size, 3, none⟩ (.int .i64 b.mod)).setCell ⟨wb1.heap.size, 4, none⟩ (.slice am b.mails.length cm)).setCell ⟨wb1.heap.size, 5, none⟩ (.slice at1 b.tombs.length ct1)).setCell ⟨wb1.heap.size, 6, none⟩ (.int .i64 b.hor)) := ⟨_, rfl⟩
    have F9 := unhide F
    rw [← hU] at F9
    have EU := hU.symm
    clear F hU
    have v0 := F9.obj.cell 0 rfl
    have v1 := F9.obj.cell 1 rfl
    have v2 := F9.obj.cell 2 rfl
    have v3 := F9.obj.cell 3 rfl
    have v4 := F9.obj.cell 4 rfl
    have v5 := F9.obj.cell 5 rfl
    have v6 := F9.obj.cell 6 rfl
    have F := hide F9
    clear F9
    go_wp2_with (refine bodyPost_ret (by simp [results, Try.results11, go_sem, v0, v1, v2, v3, v4, v5, v6]; try rfl) rfl ?_)
    clear EU
    have F := unhide F
    rw [unhide ANS]
    exact ⟨_, _, rfl, ⟨F.row (by decide) (unhide OX).1, F.row (by decide) (unhide OX).2⟩, F.below loR (unhide BB)⟩
end Go.Proofs.Ytfemplekibpfoab
