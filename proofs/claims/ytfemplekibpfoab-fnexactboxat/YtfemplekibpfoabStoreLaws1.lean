/- The walk of FnExactStoreOk. Made by gen_storelaws.py. -/
import Derived.Test.YtfemplekibpfoabStorePlain
import Derived.Test.YtfemplekibpfoabStoreMarks
import Derived.Test.YtfemplekibpfoabRegA
namespace Go.Proofs.Ytfemplekibpfoab
open Go.RowKit
open Plain
set_option linter.unusedVariables false
set_option linter.unusedSimpArgs false

namespace Plain
/-- A store's boxes are few enough. -/
structure SmallA (l : List Bx) : Prop where
  sum : sizeBs l ≤ 4194304
  each : ∀ b ∈ l, b.mails.length ≤ 1048576 ∧ b.tombs.length ≤ 1048576
theorem SmallA.len {l : List Bx} (h : SmallA l) : l.length ≤ 4194304 := Nat.le_trans (sizeBs_len l) h.sum
theorem SmallA.on {l : List Bx} {L : List Lb} (h : SmallA l) (e : L.map (·.b) = l) : ∀ x ∈ L, x.b.mails.length ≤ 1048576 ∧ x.b.tombs.length ≤ 1048576 := fun x hx => h.each x.b (by rw [← e]; exact List.mem_map.2 ⟨x, hx, rfl⟩)
theorem SmallA.sumL {l : List Bx} {L : List Lb} (h : SmallA l) (e : L.map (·.b) = l) : sizeBs (L.map (·.b)) ≤ 4194304 := by rw [e]; exact h.sum
theorem SmallBs.a {l : List Bx} (h : SmallBs 1048576 l) : SmallA l := ⟨Nat.le_trans h.sum (by decide), fun b hb => ⟨(h.each b hb).2.1.1, (h.each b hb).2.2⟩⟩
theorem SmallBs.fit {s : Sx} (h : SmallBs 1048576 s.boxes) : FitSt s := ⟨Nat.le_trans (Nat.le_trans (sizeBs_len _) h.sum) (by decide), fun b hb => (h.each b hb).fit⟩
end Plain
set_option maxHeartbeats 16000000 in
set_option maxRecDepth 100000 in
theorem FnExactStoreOk_walk (s : Sx) (a0 : Option Addr) (c0 : Nat) (w : World) (h : ArgSt w.heap.size w a0 s)
    (CI : ∀ (v : Value) (B : Nat) (W : World), SmallBs 1048576 s.boxes → ReadSt B W v s.boxes → Below w.heap.size w W → Calls Try.prog 8 #[.agg #[v, .int .i64 s.valid]] W fun e w' => e = .returned (.bool (storeOk s)) ∧ Below W.heap.size W w')
    (SI : ∀ (v : Value) (B : Nat) (W : World), SmallBs 1048576 s.boxes → ReadSt B W v s.boxes → Calls Try.prog 6 #[.agg #[v, .int .i64 s.valid]] W fun e w' => e = .returned (.bool (storeOk s)) ∧ Below W.heap.size W w') :
    Calls Try.prog 3 #[.agg #[.slice a0 s.boxes.length c0, .int .i64 s.valid]] w fun e w' => e = .returned (.bool true) ∧ Below w.heap.size w w' := by
  have HA := hide h
  have CH := hide CI
  have SH := hide SI
  clear h CI SI
  have BB := hide (Below.refl w.heap.size w)
  obtain ⟨w1, hA⟩ : ∃ X, X = w.alloc (.cells ([.slice a0 s.boxes.length c0, .int .i64 s.valid] : List Value).toArray 24) := ⟨_, rfl⟩
  have Ax : HasObj w1 w.heap.size 24 [.slice a0 s.boxes.length c0, .int .i64 s.valid] := by rw [hA]; exact HasObj.new _ _ _
  have hbn : Below w.heap.size w w1 := by rw [hA]; exact (Below.refl _ _).alloc (Nat.le_refl _) _
  have loA : w.heap.size ≤ w.heap.size := (unhide BB).size
  have EA := hA.symm
  clear hA
  have sz1 := hide (hbn.size)
  have BB_ := hide (below_y (unhide BB) hbn)
  clear BB
  have BB := BB_
  clear BB_
  clear hbn
  have A := hide Ax
  clear Ax
  have SZ := hide (fun W (hb : Below w.heap.size w W) => szStore_sum s a0 c0 1048576 W (Nat.le_refl _) ((unhide HA).up hb))
  have Ac0_1 := (unhide A).cell 0 rfl
  have Ac1_1 := (unhide A).cell 1 rfl
  go_enter Try.func3, Try.ntmps3
  go_wp2_with fail
  clear Ac0_1 Ac1_1 EA
  refine (unhide SZ _ (unhide BB)).mono ?_
  rintro e w2 ⟨⟨q, rfl, hq⟩, hb⟩
  have A_ := hide ((unhide A).ups hb)
  clear A
  have A := A_
  clear A_
  have sz2 := hide (hb.size)
  have BB_ := hide (below_y (unhide BB) hb)
  clear BB
  have BB := BB_
  clear BB_
  clear hb
  clear SZ
  rcases hq with rfl | ⟨q, rfl, hq, hsm⟩
  · go_wp2
    go_ret
    exact ⟨rfl, unhide BB⟩
  have iq : ¬ (q : Int) < 0 := by omega
  have SM := hide hsm
  clear hsm
  have TS := hide (fun W (hb : Below w.heap.size w W) => toStore_any s a0 c0 W (unhide SM) ((unhide HA).up hb))
  have Ac0_2 := (unhide A).cell 0 rfl
  have Ac1_2 := (unhide A).cell 1 rfl
  go_wp2_with fail
  clear Ac0_2 Ac1_2
  refine (unhide TS _ (unhide BB)).mono ?_
  rintro e w3 ⟨vP, LP, hLP, rfl, oP, hapP, hb⟩
  obtain ⟨aP, cP, rfl⟩ := g_shape oP.row
  have NP := hide (OwnBs.base oP)
  have OP_ := hide oP
  have HLP := hide hLP
  clear oP hLP
  have APP := hide hapP
  clear hapP
  have A_ := hide ((unhide A).ups hb)
  clear A
  have A := A_
  clear A_
  have sz3 := hide (hb.size)
  have BB_ := hide (below_y (unhide BB) hb)
  clear BB
  have BB := BB_
  clear BB_
  clear hb
  have OP := OP_
  clear OP_
  go_wp2_with fail
  refine (unhide SH _ _ _ (unhide SM) ⟨LP, unhide HLP, unhide OP⟩).mono ?_
  rintro e w4 ⟨rfl, hb⟩
  have A_ := hide ((unhide A).ups hb)
  clear A
  have A := A_
  clear A_
  have OP_ := hide ((unhide OP).up hb)
  clear OP
  have OP := OP_
  clear OP_
  have sz4 := hide (hb.size)
  have BB_ := hide (below_y (unhide BB) hb)
  clear BB
  have BB := BB_
  clear BB_
  clear hb
  clear OP
  have Ac0_3 := (unhide A).cell 0 rfl
  have Ac1_3 := (unhide A).cell 1 rfl
  go_wp2_with fail
  clear Ac0_3 Ac1_3
  refine (unhide TS _ (unhide BB)).mono ?_
  rintro e w5 ⟨vX, LX, hLX, rfl, oX, hapX, hb⟩
  obtain ⟨aX, cX, rfl⟩ := g_shape oX.row
  have NX := hide (OwnBs.base oX)
  have OX_ := hide oX
  have HLX := hide hLX
  clear oX hLX
  have APX := hide hapX
  clear hapX
  have A_ := hide ((unhide A).ups hb)
  clear A
  have A := A_
  clear A_
  have sz5 := hide (hb.size)
  have BB_ := hide (below_y (unhide BB) hb)
  clear BB
  have BB := BB_
  clear BB_
  clear hb
  have OX := OX_
  clear OX_
  obtain ⟨w6, hX⟩ : ∃ X, X = w5.alloc (.cells ([.slice aX LX.length cX, .int .i64 s.valid] : List Value).toArray 29) := ⟨_, rfl⟩
  have Xx : HasObj w6 w5.heap.size 29 [.slice aX LX.length cX, .int .i64 s.valid] := by rw [hX]; exact HasObj.new _ _ _
  have hbn : Below w5.heap.size w5 w6 := by rw [hX]; exact (Below.refl _ _).alloc (Nat.le_refl _) _
  have neAX : w.heap.size ≠ w5.heap.size := Nat.ne_of_lt (unhide A).lt
  have loX : w.heap.size ≤ w5.heap.size := (unhide BB).size
  have EX := hX.symm
  clear hX
  have A_ := hide ((unhide A).ups hbn)
  clear A
  have A := A_
  clear A_
  have OX_ := hide ((unhide OX).up hbn)
  clear OX
  have OX := OX_
  clear OX_
  have sz6 := hide (hbn.size)
  have BB_ := hide (below_y (unhide BB) hbn)
  clear BB
  have BB := BB_
  clear BB_
  clear hbn
  have X := hide Xx
  clear Xx
  have Xc0_4 := (unhide X).cell 0 rfl
  have Xc1_4 := (unhide X).cell 1 rfl
  go_wp2_with fail
  clear Xc0_4 Xc1_4 EX
  refine (unhide CH _ _ _ (unhide SM) ⟨LX, unhide HLX, unhide OX⟩ (unhide BB)).mono ?_
  rintro e w7 ⟨rfl, hb⟩
  have A_ := hide ((unhide A).ups hb)
  clear A
  have A := A_
  clear A_
  have X_ := hide ((unhide X).ups hb)
  clear X
  have X := X_
  clear X_
  have OX_ := hide ((unhide OX).up hb)
  clear OX
  have OX := OX_
  clear OX_
  have sz7 := hide (hb.size)
  have BB_ := hide (below_y (unhide BB) hb)
  clear BB
  have BB := BB_
  clear BB_
  clear hb
  generalize storeOk s = so at *
  have Xc0_5 := (unhide X).cell 0 rfl
  have Xc1_5 := (unhide X).cell 1 rfl
  have Ac0_6 := (unhide A).cell 0 rfl
  have Ac1_6 := (unhide A).cell 1 rfl
  go_wp2
  clear Xc0_5 Xc1_5 Ac0_6 Ac1_6
  refine wp_region_held_drew (S := fun w' => w'.cell? ⟨w5.heap.size, 0, none⟩ = some (.slice aX LX.length cX) ∧ w'.cell? ⟨w5.heap.size, 1, none⟩ = some (.int .i64 s.valid) ∧ w'.cell? ⟨w.heap.size, 0, none⟩ = some (.slice a0 s.boxes.length c0) ∧ w'.cell? ⟨w.heap.size, 1, none⟩ = some (.int .i64 s.valid)) (by kernel_rfl) (⟨(unhide X).cell 0 rfl, (unhide X).cell 1 rfl, (unhide A).cell 0 rfl, (unhide A).cell 1 rfl⟩) (fun hHeld => ?_)
  have A_ := hide ((unhide A).drew)
  clear A
  have A := A_
  clear A_
  have X_ := hide ((unhide X).drew)
  clear X
  have X := X_
  clear X_
  have OX_ := hide ((unhide OX).drew)
  clear OX
  have OX := OX_
  clear OX_
  have BB_ := hide ((unhide BB).drew)
  clear BB
  have BB := BB_
  clear BB_
  have sz8 : Hid (w7.heap.size ≤ w7.drew.heap.size) := Nat.le_refl _
  refine takeVal 0 (some 22) ?_ rfl (by kernel_rfl) (by kernel_rfl) (by kernel_rfl) rfl (fun _ _ _ h => h) (by rfl) (by assumption) ?_ ?_
  rotate_left
  · (intro w hSw; (try dsimp only at hSw); go_simp <;> with_reducible rfl)
  simp only [Act.put, List.setIfInBounds_toArray, List.set_cons_zero, List.set_cons_succ]
  refine takeVal 1 (some 23) ?_ rfl (by kernel_rfl) (by kernel_rfl) (by kernel_rfl) rfl (fun _ _ _ h => h) (by rfl) (by assumption) ?_ ?_
  rotate_left
  · (intro w hSw; (try dsimp only at hSw); go_simp <;> with_reducible rfl)
  simp only [Act.put, List.setIfInBounds_toArray, List.set_cons_zero, List.set_cons_succ]
  refine wpAnyH_ready (rs := [2]) (by kernel_rfl) (by simp) ?_
  refine AllReadyH.cons rfl (fun K hK => ?_) AllReadyH.nil
  go_simp
  refine (unhide TS _ (unhide BB)).mono ?_
  rintro e w8 ⟨vC, LC, hLC, rfl, oC, hapC, hb⟩
  obtain ⟨aC, cC, rfl⟩ := g_shape oC.row
  have NC := hide (OwnBs.base oC)
  have OC_ := hide oC
  have HLC := hide hLC
  clear oC hLC
  have APC := hide hapC
  clear hapC
  have A_ := hide ((unhide A).ups hb)
  clear A
  have A := A_
  clear A_
  have X_ := hide ((unhide X).ups hb)
  clear X
  have X := X_
  clear X_
  have OX_ := hide ((unhide OX).up hb)
  clear OX
  have OX := OX_
  clear OX_
  have sz9 := hide (hb.size)
  have BB_ := hide (below_y (unhide BB) hb)
  clear BB
  have BB := BB_
  clear BB_
  clear hb
  have OC := OC_
  clear OC_
  go_wp2_with fail
  refine hK.out _ _ (⟨(unhide X).cell 0 rfl, (unhide X).cell 1 rfl, (unhide A).cell 0 rfl, (unhide A).cell 1 rfl⟩) (fun hHeld2 => ?_)
  clear hK K hHeld
  have hHeld := hHeld2; clear hHeld2
  try simp only [Act.put, List.setIfInBounds_toArray, List.set_cons_zero, List.set_cons_succ]
  refine wpAnyH_ready (rs := [3]) (by kernel_rfl) (by simp) ?_
  refine AllReadyH.cons rfl (fun K hK => ?_) AllReadyH.nil
  go_simp
  refine (eqStore_same s LX LC _ _ _ _ _ (unhide SM).a.len (unhide SM).a.each (unhide HLX) (unhide HLC) (unhide OX) (unhide OC)).mono ?_
  rintro e w9 ⟨rfl, hb⟩
  have A_ := hide ((unhide A).ups hb)
  clear A
  have A := A_
  clear A_
  have X_ := hide ((unhide X).ups hb)
  clear X
  have X := X_
  clear X_
  have OX_ := hide ((unhide OX).up hb)
  clear OX
  have OX := OX_
  clear OX_
  have OC_ := hide ((unhide OC).up hb)
  clear OC
  have OC := OC_
  clear OC_
  have sz10 := hide (hb.size)
  have BB_ := hide (below_y (unhide BB) hb)
  clear BB
  have BB := BB_
  clear BB_
  clear hb
  go_wp2_with fail
  refine hK.out _ _ (⟨(unhide X).cell 0 rfl, (unhide X).cell 1 rfl, (unhide A).cell 0 rfl, (unhide A).cell 1 rfl⟩) (fun hHeld2 => ?_)
  clear hK K hHeld
  have hHeld := hHeld2; clear hHeld2
  try simp only [Act.put, List.setIfInBounds_toArray, List.set_cons_zero, List.set_cons_succ]
  refine takeVal 4 (some 26) ?_ rfl (by kernel_rfl) (by kernel_rfl) (by kernel_rfl) rfl (fun _ _ _ h => h) (by rfl) (by assumption) ?_ ?_
  rotate_left
  · (intro w hSw; (try dsimp only at hSw); go_simp <;> with_reducible rfl)
  simp only [Act.put, List.setIfInBounds_toArray, List.set_cons_zero, List.set_cons_succ]
  refine wpAnyH_done (by kernel_rfl) ?_ _
  clear OC
  clear HLC APC NC
  go_wp2
  go_ret
  exact ⟨rfl, unhide BB⟩
end Go.Proofs.Ytfemplekibpfoab
