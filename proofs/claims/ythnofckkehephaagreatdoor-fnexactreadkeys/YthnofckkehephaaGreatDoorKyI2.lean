/- The program's readKey and ReadKeys. Made by gen_keyi2.py. -/
import Derived.Test.YthnofckkehephaaGreatDoorKyI
import Derived.Test.YthnofckkehephaaGreatDoorIntRow
import Derived.Deep.Cut
namespace Go.Proofs.YthnofckkehephaaGreatDoor
open Go.RowKit Go.ChangeShapes Go.WideShapes Go.ChangeAt Go.Deep
open Plain
set_option linter.unusedVariables false
set_option linter.unusedSimpArgs false

/-- Words that can be read. -/
def ReadW (w : World) (v : Value) (l : List (List UInt8)) : Prop :=
  ∃ a c, v = .slice a l.length c ∧ l.length ≤ c ∧ ∀ k x, l[k]? = some x → ∃ g q, a = some ⟨g, q, none⟩ ∧ g < w.heap.size ∧ w.cell? ⟨g, q + k, none⟩ = some (.string ⟨x.toArray⟩)
theorem ReadW.up {w w' : World} {v : Value} {l : List (List UInt8)} (h : ReadW w v l) (hb : Below w.heap.size w w') : ReadW w' v l := by
  obtain ⟨a, c, hv, hc, h1⟩ := h
  exact ⟨a, c, hv, hc, fun k x hx => by obtain ⟨g, q, e, hl, h2⟩ := h1 k x hx; exact ⟨g, q, e, Nat.lt_of_lt_of_le hl hb.size, g_cell hb h2⟩⟩
theorem OwnKy.drew {B : Nat} {W : World} {v : Value} {l : List Ky} (h : OwnKy B W v l) : OwnKy B W.drew v l := h
theorem OwnKy.snoc {B : Nat} {w : World} {v : Value} {l : List Ky} {x : Ky} (h : w.ownsRow B 33 3 v (l.length + 1) (rowC kyC l ++ kyC x)) : OwnKy B w v (l ++ [x]) := by
  unfold OwnKy
  rw [rowC_snoc, List.length_append]
  exact h
theorem step_a {x : List UInt8} {r : List (List UInt8)} (h : (aloneP x).2 = true) : stepP (x :: r) = ((aloneP x).1, 1) := by unfold stepP; exact if_pos h
theorem step_b {x : List UInt8} (h : (aloneP x).2 = false) : stepP [x] = (k0, 0) := by unfold stepP; exact if_neg (by rw [h]; decide)
theorem step_c {x m : List UInt8} {r : List (List UInt8)} (h : (aloneP x).2 = false) (h2 : (withP x m).2 = true) : stepP (x :: m :: r) = ((withP x m).1, 2) := by unfold stepP; exact (if_neg (by rw [h]; decide)).trans (if_pos h2)
theorem step_d {x m : List UInt8} {r : List (List UInt8)} (h : (aloneP x).2 = false) (h2 : (withP x m).2 = false) : stepP (x :: m :: r) = (k0, 0) := by unfold stepP; exact (if_neg (by rw [h]; decide)).trans (if_neg (by rw [h2]; decide))
theorem readW_own {B : Nat} {w : World} {v : Value} {l : List (List UInt8)} (h : w.ownsRow B 9 1 v l.length (Plain.strs l)) : ReadW w v l := by
  rcases h.2 with ⟨rfl, h0⟩ | ⟨g, c, cur, rfl, hb, hh, hlc, _⟩
  · refine ⟨none, 0, by rw [h0], by omega, fun k x hx => ?_⟩
    rw [List.eq_nil_of_length_eq_zero h0] at hx
    simp at hx
  · refine ⟨_, _, rfl, hlc, fun k x hx => ⟨g, 0, rfl, (h.lt _ rfl).2, ?_⟩⟩
    have hk : k < l.length := (List.getElem?_eq_some_iff.1 hx).1
    rw [Nat.zero_add, h.cellAt k (by omega)]
    simp [Plain.strs, hx]
set_option maxHeartbeats 4000000 in
set_option maxRecDepth 100000 in
theorem readKey_any (l : List (List UInt8)) (v : Value) (w : World) (h0 : l ≠ []) (hs : ∀ x ∈ l, x.length ≤ 1048576) (h : ReadW w v l) (he : KEnv w) :
    Calls Tryz.prog 17 #[v] w fun e w' => e = .returned (.tuple #[.agg #[.int .i64 (stepP l).1.kind, .int .i64 (stepP l).1.num, .string (stepP l).1.text], .int .i64 (((stepP l).2 : Nat) : Int)]) ∧ Below w.heap.size w w' := by
  obtain ⟨a, c, rfl, hcap, hc⟩ := h
  match l, h0 with
  | x :: r, _ =>
  obtain ⟨g, q, rfl, hgl, c0⟩ := hc 0 x rfl
  rw [Nat.add_zero] at c0
  have C0 := hide c0
  clear c0
  have hx := hs x (by simp)
  have EN : Hid (∀ W, Below w.heap.size w W → KEnv W) := fun W hb => he.below hb
  clear he
  have BB := hide (Below.refl w.heap.size w)
  obtain ⟨⟨⟨sk, sn, st⟩, sq⟩, hS⟩ : ∃ P, P = stepP (x :: r) := ⟨_, rfl⟩
  rw [← hS]
  have HS := hide hS
  clear hS
  obtain ⟨⟨⟨ak, an, at1⟩, ab⟩, hA⟩ : ∃ P, P = aloneP x := ⟨_, rfl⟩
  have HA := hide hA
  clear hA
  obtain ⟨n, hn⟩ : ∃ n, n = (x :: r).length := ⟨_, rfl⟩
  rw [← hn]
  have HN := hide hn
  have n0 : (0 : Int) < (n : Int) := by have q_ := hn; simp at q_; omega
  clear hn
  obtain ⟨w1, hR⟩ : ∃ X, X = w.alloc (.cells ([.int .i64 0, .int .i64 0, .string ⟨#[]⟩] : List Value).toArray 33) := ⟨_, rfl⟩
  have Rx : HasObj w1 w.heap.size 33 [.int .i64 0, .int .i64 0, .string ⟨#[]⟩] := by rw [hR]; exact HasObj.new _ _ _
  have hbn : Below w.heap.size w w1 := by rw [hR]; exact (Below.refl _ _).alloc (Nat.le_refl _) _
  have loR : w.heap.size ≤ w.heap.size := (unhide BB).size
  have ER := hR.symm
  clear hR
  have sz1 := hide (hbn.size)
  have BB_ := hide (below_y (unhide BB) hbn)
  clear BB
  have BB := BB_
  clear BB_
  clear hbn
  have R := hide Rx
  clear Rx
  have c0 := g_cell (unhide BB) (unhide C0)
  go_enter Tryz.func17, Tryz.ntmps17
  go_wp2_with fail
  clear ER
  refine (keyAlone_any x _ hx (unhide EN _ (unhide BB))).mono ?_
  rintro e w2 ⟨rfl, hb⟩
  rw [← unhide HA]
  clear c0
  have R_ := hide ((unhide R).ups hb)
  clear R
  have R := R_
  clear R_
  have sz2 := hide (hb.size)
  have BB_ := hide (below_y (unhide BB) hb)
  clear BB
  have BB := BB_
  clear BB_
  clear hb
  obtain ⟨w3, hA⟩ : ∃ X, X = w2.alloc (.cells ([.int .i64 ak, .int .i64 an, .string at1] : List Value).toArray 33) := ⟨_, rfl⟩
  have Ax : HasObj w3 w2.heap.size 33 [.int .i64 ak, .int .i64 an, .string at1] := by rw [hA]; exact HasObj.new _ _ _
  have hbn : Below w2.heap.size w2 w3 := by rw [hA]; exact (Below.refl _ _).alloc (Nat.le_refl _) _
  have neRA : w.heap.size ≠ w2.heap.size := Nat.ne_of_lt (unhide R).lt
  have loA : w.heap.size ≤ w2.heap.size := (unhide BB).size
  have EA := hA.symm
  clear hA
  have R_ := hide ((unhide R).ups hbn)
  clear R
  have R := R_
  clear R_
  have sz3 := hide (hbn.size)
  have BB_ := hide (below_y (unhide BB) hbn)
  clear BB
  have BB := BB_
  clear BB_
  clear hbn
  have A := hide Ax
  clear Ax
  skip
  cases ab
  · match r, HS, HN, hs, hc with
    | [], HS, HN, hs, hc =>
      have en : n = 1 := unhide HN
      subst en
      have Rf0 := (unhide R).frozen 0
      have Rf1 := (unhide R).frozen 1
      have Rf2 := (unhide R).frozen 2
      have Re0 := (unhide R).cell 0 rfl
      have Re1 := (unhide R).cell 1 rfl
      have Re2 := (unhide R).cell 2 rfl
      have F := hide (fill3 (unhide R) (.int .i64 0) (.int .i64 0) (.string ⟨#[]⟩))
      obtain ⟨U, hU⟩ : ∃ U, U = (((w3.setCell ⟨w.heap.size, 0, none⟩ (.int .i64 0)).setCell ⟨w.heap.size, 1, none⟩ (.int .i64 0)).setCell ⟨w.heap.size, 2, none⟩ (.string ⟨#[]⟩)) := ⟨_, rfl⟩
      have F9 := unhide F
      rw [← hU] at F9
      have EU := hU.symm
      clear F hU
      have v0 := F9.obj.cell 0 rfl
      have v1 := F9.obj.cell 1 rfl
      have v2 := F9.obj.cell 2 rfl
      have F := hide F9
      clear F9
      go_wp2_with (refine bodyPost_ret (by simp [results, Tryz.results17, go_sem, v0, v1, v2]; try rfl) rfl ?_)
      clear EU
      have F := unhide F
      exact ⟨by have q_ := unhide HS; rw [step_b (by rw [← unhide HA])] at q_; cases q_; rfl, F.below loR (unhide BB)⟩
    | m :: r2, HS, HN, hs, hc =>
      have hm := hs m (by simp)
      obtain ⟨g2, q2, e2, _, c1⟩ := hc 1 m rfl
      cases e2
      obtain ⟨⟨⟨pk, pn, pt⟩, pb⟩, hP⟩ : ∃ P, P = withP x m := ⟨_, rfl⟩
      have HP := hide hP
      clear hP
      have n1 : ((n : Int) == 1) = false := by rw [show n = r2.length + 2 from unhide HN]; simp; omega
      have n2 : (1 : Int) < (n : Int) := by have := unhide HN; simp at this; omega
      have m0 : 0 < n := by omega
      have m1 : 1 < n := by omega
      have C1 := hide c1
      clear c1
      have Ac0_1 := (unhide A).cell 0 rfl
      have Ac1_1 := (unhide A).cell 1 rfl
      have Ac2_1 := (unhide A).cell 2 rfl
      go_wp2
      clear Ac0_1 Ac1_1 Ac2_1 EA
      have d0 : w3.cell? ⟨g, q, none⟩ = some (.string ⟨x.toArray⟩) := g_cell (unhide BB) (unhide C0)
      have d1 : w3.cell? ⟨g, q + 1, none⟩ = some (.string ⟨m.toArray⟩) := g_cell (unhide BB) (unhide C1)
      have B0 := BB
      go_cut [6, 7] from 8 (fun s6 s7 wc => ∃ (bxN : Nat), s6 = .pointer (some ⟨bxN, 0, none⟩) ∧ s7 = .bool pb ∧ HasObj wc bxN 33 [.int .i64 pk, .int .i64 pn, .string pt] ∧ w3.heap.size ≤ bxN ∧ Below w3.heap.size w3 wc)
      case first =>
        clear BB
        have BB := hide (Below.refl w3.heap.size w3)
        refine wp_region_held_drew (S := fun w' => w'.cell? ⟨g, q, none⟩ = some (.string ⟨x.toArray⟩) ∧ w'.cell? ⟨g, q + 1, none⟩ = some (.string ⟨m.toArray⟩)) (by kernel_rfl) (⟨(by first | exact g_cell (unhide BB) d0 | exact d0), (by first | exact g_cell (unhide BB) d1 | exact d1)⟩) (fun hHeld => ?_)
        have R_ := hide ((unhide R).drew)
        clear R
        have R := R_
        clear R_
        have A_ := hide ((unhide A).drew)
        clear A
        have A := A_
        clear A_
        have BB_ := hide ((unhide BB).drew)
        clear BB
        have BB := BB_
        clear BB_
        have sz4 : Hid (w3.heap.size ≤ w3.drew.heap.size) := Nat.le_refl _
        refine takeVal 0 (some 22) ?_ rfl (by kernel_rfl) (by kernel_rfl) (by kernel_rfl) rfl (fun _ _ _ h => h) (by rfl) (by assumption) ?_ ?_
        rotate_left
        · (intro w hSw; (try dsimp only at hSw); go_simp <;> with_reducible rfl)
        simp only [Act.put, List.setIfInBounds_toArray, List.set_cons_zero, List.set_cons_succ]
        refine takeVal 1 (some 23) ?_ rfl (by kernel_rfl) (by kernel_rfl) (by kernel_rfl) rfl (fun _ _ _ h => h) (by rfl) (by assumption) ?_ ?_
        rotate_left
        · (intro w hSw; (try dsimp only at hSw); go_simp <;> with_reducible rfl)
        simp only [Act.put, List.setIfInBounds_toArray, List.set_cons_zero, List.set_cons_succ]
        refine takeVal 2 (some 24) ?_ rfl (by kernel_rfl) (by kernel_rfl) (by kernel_rfl) rfl (fun _ _ _ h => h) (by rfl) (by assumption) ?_ ?_
        rotate_left
        · (intro w hSw; (try dsimp only at hSw); go_simp <;> with_reducible rfl)
        simp only [Act.put, List.setIfInBounds_toArray, List.set_cons_zero, List.set_cons_succ]
        refine takeVal 3 (some 25) ?_ rfl (by kernel_rfl) (by kernel_rfl) (by kernel_rfl) rfl (fun _ _ _ h => h) (by rfl) (by assumption) ?_ ?_
        rotate_left
        · (intro w hSw; (try dsimp only at hSw); go_simp <;> with_reducible rfl)
        simp only [Act.put, List.setIfInBounds_toArray, List.set_cons_zero, List.set_cons_succ]
        refine takeVal 4 (some 26) ?_ rfl (by kernel_rfl) (by kernel_rfl) (by kernel_rfl) rfl (fun _ _ _ h => h) (by rfl) (by assumption) ?_ ?_
        rotate_left
        · (intro w hSw; (try dsimp only at hSw); go_simp <;> with_reducible rfl)
        simp only [Act.put, List.setIfInBounds_toArray, List.set_cons_zero, List.set_cons_succ]
        refine takeVal 5 (some 27) ?_ rfl (by kernel_rfl) (by kernel_rfl) (by kernel_rfl) rfl (fun _ _ _ h => h) (by rfl) (by assumption) ?_ ?_
        rotate_left
        · (intro w hSw; (try dsimp only at hSw); go_simp <;> with_reducible rfl)
        simp only [Act.put, List.setIfInBounds_toArray, List.set_cons_zero, List.set_cons_succ]
        refine wpAnyH_ready (rs := [6, 10]) (by kernel_rfl) (by simp) ?_
        refine (AllReadyH.cons rfl (fun K hK => ?_) (AllReadyH.cons rfl (fun K hK => ?_) AllReadyH.nil))
        · skip
          go_simp
          refine (keyWith_any x m _ hx hm (unhide EN _ (below_y (unhide B0) (unhide BB)))).mono ?_
          rintro e wnbe4 ⟨rfl, hb⟩
          rw [← unhide HP]
          have R_ := hide ((unhide R).ups hb)
          clear R
          have R := R_
          clear R_
          have A_ := hide ((unhide A).ups hb)
          clear A
          have A := A_
          clear A_
          have sz5 := hide (hb.size)
          have BB_ := hide (below_y (unhide BB) hb)
          clear BB
          have BB := BB_
          clear BB_
          clear hb
          go_wp2_with fail
          refine hK.out _ _ (⟨(by first | exact g_cell (unhide BB) d0 | exact d0), (by first | exact g_cell (unhide BB) d1 | exact d1)⟩) (fun hHeld2 => ?_)
          clear hK K hHeld
          have hHeld := hHeld2; clear hHeld2
          try simp only [Act.put, List.setIfInBounds_toArray, List.set_cons_zero, List.set_cons_succ]
          refine takeVal 7 (some 21) ?_ rfl (by kernel_rfl) (by kernel_rfl) (by kernel_rfl) rfl (fun _ _ _ h => h) (by rfl) (by assumption) ?_ ?_
          rotate_left
          · (intro w hSw; (try dsimp only at hSw); go_simp <;> with_reducible rfl)
          simp only [Act.put, List.setIfInBounds_toArray, List.set_cons_zero, List.set_cons_succ]
          refine takeVal 8 (some 29) ?_ rfl (by kernel_rfl) (by kernel_rfl) (by kernel_rfl) rfl (fun _ _ _ h => h) (by rfl) (by assumption) ?_ ?_
          rotate_left
          · (intro w hSw; (try dsimp only at hSw); go_simp <;> with_reducible rfl)
          simp only [Act.put, List.setIfInBounds_toArray, List.set_cons_zero, List.set_cons_succ]
          refine takeVal 9 (some 30) ?_ rfl (by kernel_rfl) (by kernel_rfl) (by kernel_rfl) rfl (fun _ _ _ h => h) (by rfl) (by assumption) ?_ ?_
          rotate_left
          · (intro w hSw; (try dsimp only at hSw); go_simp <;> with_reducible rfl)
          simp only [Act.put, List.setIfInBounds_toArray, List.set_cons_zero, List.set_cons_succ]
          refine wpAnyH_ready (rs := [10]) (by kernel_rfl) (by simp) ?_
          refine (AllReadyH.cons rfl (fun K hK => ?_) AllReadyH.nil)
          go_simp
          obtain ⟨wnbe5, hX⟩ : ∃ X, X = (wnbe4.alloc (.cells ([.int .i64 0, .int .i64 0, .string ⟨#[]⟩] : List Value).toArray 33)) := ⟨_, rfl⟩
          rw [← hX]
          have Nx : HasObj wnbe5 wnbe4.heap.size 33 [.int .i64 0, .int .i64 0, .string ⟨#[]⟩] := by rw [hX]; exact HasObj.new _ _ _
          have hbn : Below wnbe4.heap.size wnbe4 wnbe5 := by rw [hX]; exact (Below.refl wnbe4.heap.size wnbe4).alloc (Nat.le_refl _) _
          clear hX
          have neRN : w.heap.size ≠ wnbe4.heap.size := Nat.ne_of_lt (unhide R).lt
          have neAN : w2.heap.size ≠ wnbe4.heap.size := Nat.ne_of_lt (unhide A).lt
          have loN : w3.heap.size ≤ wnbe4.heap.size := (unhide BB).size
          have R_ := hide ((unhide R).ups hbn)
          clear R
          have R := R_
          clear R_
          have A_ := hide ((unhide A).ups hbn)
          clear A
          have A := A_
          clear A_
          have sz6 := hide (hbn.size)
          have BB_ := hide (below_y (unhide BB) hbn)
          clear BB
          have BB := BB_
          clear BB_
          clear hbn
          have N := hide Nx
          clear Nx
          refine hK.out _ _ (⟨(by first | exact g_cell (unhide BB) d0 | exact d0), (by first | exact g_cell (unhide BB) d1 | exact d1)⟩) (fun hHeld2 => ?_)
          clear hK K hHeld
          have hHeld := hHeld2; clear hHeld2
          try simp only [Act.put, List.setIfInBounds_toArray, List.set_cons_zero, List.set_cons_succ]
          have Nf0 := (unhide N).frozen 0
          have Nf1 := (unhide N).frozen 1
          have Nf2 := (unhide N).frozen 2
          have Ne0 := (unhide N).cell 0 rfl
          have Ne1 := (unhide N).cell 1 rfl
          have Ne2 := (unhide N).cell 2 rfl
          have F_ := hide (fill3 (unhide N) (.int .i64 pk) (.int .i64 pn) (.string pt))
          refine wpAnyH_ready (rs := [11]) (by kernel_rfl) (by simp) ?_
          refine AllReadyH.cons rfl (fun K hK => ?_) AllReadyH.nil
          go_simp
          obtain ⟨wnbe6, hU⟩ : ∃ U, U = (((wnbe5.setCell ⟨wnbe4.heap.size, 0, none⟩ (.int .i64 pk)).setCell ⟨wnbe4.heap.size, 1, none⟩ (.int .i64 pn)).setCell ⟨wnbe4.heap.size, 2, none⟩ (.string pt)) := ⟨_, rfl⟩
          have F := unhide F_
          rw [← hU] at F ⊢
          clear hU F_
          clear Nf0 Nf1 Nf2 Ne0 Ne1 Ne2
          have R_ := hide (F.other neRN (unhide R))
          have A_ := hide (F.other neAN (unhide A))
          have N_ := hide (F.obj)
          have BB_ : Hid (Below w3.heap.size w3 wnbe6) := F.below loN (unhide BB)
          have sz7 : Hid (wnbe5.heap.size ≤ wnbe6.heap.size) := by show _ ≤ _; rw [F.size]; exact Nat.le_refl _
          clear R
          have R := R_
          clear R_
          clear A
          have A := A_
          clear A_
          clear N
          have N := N_
          clear N_
          clear BB
          have BB := BB_
          clear BB_
          clear F
          refine hK.out _ _ (⟨(by first | exact g_cell (unhide BB) d0 | exact d0), (by first | exact g_cell (unhide BB) d1 | exact d1)⟩) (fun hHeld2 => ?_)
          clear hK K hHeld
          have hHeld := hHeld2; clear hHeld2
          try simp only [Act.put, List.setIfInBounds_toArray, List.set_cons_zero, List.set_cons_succ]
          refine takeVal 12 (some 7) ?_ rfl (by kernel_rfl) (by kernel_rfl) (by kernel_rfl) rfl (fun _ _ _ h => h) (by rfl) (by assumption) ?_ ?_
          rotate_left
          · (intro w hSw; (try dsimp only at hSw); go_simp <;> with_reducible rfl)
          simp only [Act.put, List.setIfInBounds_toArray, List.set_cons_zero, List.set_cons_succ]
          refine wpAnyH_done (by kernel_rfl) ?_ _
          go_wp2
          go_meet
          case rel => exact ⟨_, rfl, rfl, unhide N, loN, unhide BB⟩
        · skip
          go_simp
          obtain ⟨wnbe4, hX⟩ : ∃ X, X = (w3.alloc (.cells ([.int .i64 0, .int .i64 0, .string ⟨#[]⟩] : List Value).toArray 33)).drew := ⟨_, rfl⟩
          rw [← hX]
          have Nx : HasObj wnbe4 w3.heap.size 33 [.int .i64 0, .int .i64 0, .string ⟨#[]⟩] := by rw [hX]; exact (HasObj.new _ _ _).drew
          have hbn : Below w3.drew.heap.size w3.drew wnbe4 := by rw [hX]; exact (Below.refl w3.drew.heap.size w3.drew).alloc (Nat.le_refl _) _
          clear hX
          have neRN : w.heap.size ≠ w3.heap.size := Nat.ne_of_lt (unhide R).lt
          have neAN : w2.heap.size ≠ w3.heap.size := Nat.ne_of_lt (unhide A).lt
          have loN : w3.heap.size ≤ w3.heap.size := (unhide BB).size
          have R_ := hide ((unhide R).ups hbn)
          clear R
          have R := R_
          clear R_
          have A_ := hide ((unhide A).ups hbn)
          clear A
          have A := A_
          clear A_
          have sz5 := hide (hbn.size)
          have BB_ := hide (below_y (unhide BB) hbn)
          clear BB
          have BB := BB_
          clear BB_
          clear hbn
          have N := hide Nx
          clear Nx
          refine hK.out _ _ (⟨(by first | exact g_cell (unhide BB) d0 | exact d0), (by first | exact g_cell (unhide BB) d1 | exact d1)⟩) (fun hHeld2 => ?_)
          clear hK K hHeld
          have hHeld := hHeld2; clear hHeld2
          try simp only [Act.put, List.setIfInBounds_toArray, List.set_cons_zero, List.set_cons_succ]
          refine wpAnyH_ready (rs := [6]) (by kernel_rfl) (by simp) ?_
          refine (AllReadyH.cons rfl (fun K hK => ?_) AllReadyH.nil)
          go_simp
          refine (keyWith_any x m _ hx hm (unhide EN _ (below_y (unhide B0) (unhide BB)))).mono ?_
          rintro e wnbe5 ⟨rfl, hb⟩
          rw [← unhide HP]
          have R_ := hide ((unhide R).ups hb)
          clear R
          have R := R_
          clear R_
          have A_ := hide ((unhide A).ups hb)
          clear A
          have A := A_
          clear A_
          have N_ := hide ((unhide N).ups hb)
          clear N
          have N := N_
          clear N_
          have sz6 := hide (hb.size)
          have BB_ := hide (below_y (unhide BB) hb)
          clear BB
          have BB := BB_
          clear BB_
          clear hb
          go_wp2_with fail
          refine hK.out _ _ (⟨(by first | exact g_cell (unhide BB) d0 | exact d0), (by first | exact g_cell (unhide BB) d1 | exact d1)⟩) (fun hHeld2 => ?_)
          clear hK K hHeld
          have hHeld := hHeld2; clear hHeld2
          try simp only [Act.put, List.setIfInBounds_toArray, List.set_cons_zero, List.set_cons_succ]
          refine takeVal 7 (some 21) ?_ rfl (by kernel_rfl) (by kernel_rfl) (by kernel_rfl) rfl (fun _ _ _ h => h) (by rfl) (by assumption) ?_ ?_
          rotate_left
          · (intro w hSw; (try dsimp only at hSw); go_simp <;> with_reducible rfl)
          simp only [Act.put, List.setIfInBounds_toArray, List.set_cons_zero, List.set_cons_succ]
          refine takeVal 8 (some 29) ?_ rfl (by kernel_rfl) (by kernel_rfl) (by kernel_rfl) rfl (fun _ _ _ h => h) (by rfl) (by assumption) ?_ ?_
          rotate_left
          · (intro w hSw; (try dsimp only at hSw); go_simp <;> with_reducible rfl)
          simp only [Act.put, List.setIfInBounds_toArray, List.set_cons_zero, List.set_cons_succ]
          refine takeVal 9 (some 30) ?_ rfl (by kernel_rfl) (by kernel_rfl) (by kernel_rfl) rfl (fun _ _ _ h => h) (by rfl) (by assumption) ?_ ?_
          rotate_left
          · (intro w hSw; (try dsimp only at hSw); go_simp <;> with_reducible rfl)
          simp only [Act.put, List.setIfInBounds_toArray, List.set_cons_zero, List.set_cons_succ]
          have Nf0 := (unhide N).frozen 0
          have Nf1 := (unhide N).frozen 1
          have Nf2 := (unhide N).frozen 2
          have Ne0 := (unhide N).cell 0 rfl
          have Ne1 := (unhide N).cell 1 rfl
          have Ne2 := (unhide N).cell 2 rfl
          have F_ := hide (fill3 (unhide N) (.int .i64 pk) (.int .i64 pn) (.string pt))
          refine wpAnyH_ready (rs := [11]) (by kernel_rfl) (by simp) ?_
          refine AllReadyH.cons rfl (fun K hK => ?_) AllReadyH.nil
          go_simp
          obtain ⟨wnbe6, hU⟩ : ∃ U, U = (((wnbe5.setCell ⟨w3.heap.size, 0, none⟩ (.int .i64 pk)).setCell ⟨w3.heap.size, 1, none⟩ (.int .i64 pn)).setCell ⟨w3.heap.size, 2, none⟩ (.string pt)) := ⟨_, rfl⟩
          have F := unhide F_
          rw [← hU] at F ⊢
          clear hU F_
          clear Nf0 Nf1 Nf2 Ne0 Ne1 Ne2
          have R_ := hide (F.other neRN (unhide R))
          have A_ := hide (F.other neAN (unhide A))
          have N_ := hide (F.obj)
          have BB_ : Hid (Below w3.heap.size w3 wnbe6) := F.below loN (unhide BB)
          have sz7 : Hid (wnbe5.heap.size ≤ wnbe6.heap.size) := by show _ ≤ _; rw [F.size]; exact Nat.le_refl _
          clear R
          have R := R_
          clear R_
          clear A
          have A := A_
          clear A_
          clear N
          have N := N_
          clear N_
          clear BB
          have BB := BB_
          clear BB_
          clear F
          refine hK.out _ _ (⟨(by first | exact g_cell (unhide BB) d0 | exact d0), (by first | exact g_cell (unhide BB) d1 | exact d1)⟩) (fun hHeld2 => ?_)
          clear hK K hHeld
          have hHeld := hHeld2; clear hHeld2
          try simp only [Act.put, List.setIfInBounds_toArray, List.set_cons_zero, List.set_cons_succ]
          refine takeVal 12 (some 7) ?_ rfl (by kernel_rfl) (by kernel_rfl) (by kernel_rfl) rfl (fun _ _ _ h => h) (by rfl) (by assumption) ?_ ?_
          rotate_left
          · (intro w hSw; (try dsimp only at hSw); go_simp <;> with_reducible rfl)
          simp only [Act.put, List.setIfInBounds_toArray, List.set_cons_zero, List.set_cons_succ]
          refine wpAnyH_done (by kernel_rfl) ?_ _
          go_wp2
          go_meet
          case rel => exact ⟨_, rfl, rfl, unhide N, loN, unhide BB⟩
      case rest =>
        obtain ⟨bxN, rfl, rfl, obN, hloN, hb⟩ := hcut
        obtain ⟨wnb4, rfl⟩ : ∃ x, x = wc := ⟨_, rfl⟩
        have neRN : w.heap.size ≠ bxN := Nat.ne_of_lt (Nat.lt_of_lt_of_le (unhide R).lt hloN)
        have neAN : w2.heap.size ≠ bxN := Nat.ne_of_lt (Nat.lt_of_lt_of_le (unhide A).lt hloN)
        have loN : w.heap.size ≤ bxN := Nat.le_trans (unhide BB).size hloN
        clear B0
        have R_ := hide ((unhide R).ups hb)
        clear R
        have R := R_
        clear R_
        have A_ := hide ((unhide A).ups hb)
        clear A
        have A := A_
        clear A_
        have sz4 := hide (hb.size)
        have BB_ := hide (below_y (unhide BB) hb)
        clear BB
        have BB := BB_
        clear BB_
        clear hb
        have N := hide obN
        clear obN
        cases pb
        · have Rf0 := (unhide R).frozen 0
          have Rf1 := (unhide R).frozen 1
          have Rf2 := (unhide R).frozen 2
          have Re0 := (unhide R).cell 0 rfl
          have Re1 := (unhide R).cell 1 rfl
          have Re2 := (unhide R).cell 2 rfl
          have F := hide (fill3 (unhide R) (.int .i64 0) (.int .i64 0) (.string ⟨#[]⟩))
          obtain ⟨U, hU⟩ : ∃ U, U = (((wnb4.setCell ⟨w.heap.size, 0, none⟩ (.int .i64 0)).setCell ⟨w.heap.size, 1, none⟩ (.int .i64 0)).setCell ⟨w.heap.size, 2, none⟩ (.string ⟨#[]⟩)) := ⟨_, rfl⟩
          have F9 := unhide F
          rw [← hU] at F9
          have EU := hU.symm
          clear F hU
          have v0 := F9.obj.cell 0 rfl
          have v1 := F9.obj.cell 1 rfl
          have v2 := F9.obj.cell 2 rfl
          have F := hide F9
          clear F9
          go_wp2_with (refine bodyPost_ret (by simp [results, Tryz.results17, go_sem, v0, v1, v2]; try rfl) rfl ?_)
          clear EU
          have F := unhide F
          exact ⟨by have q_ := unhide HS; rw [step_d (by rw [← unhide HA]) (by rw [← unhide HP])] at q_; cases q_; rfl, F.below loR (unhide BB)⟩
        · have Nc0_2 := (unhide N).cell 0 rfl
          have Nc1_2 := (unhide N).cell 1 rfl
          have Nc2_2 := (unhide N).cell 2 rfl
          have Rf0 := (unhide R).frozen 0
          have Rf1 := (unhide R).frozen 1
          have Rf2 := (unhide R).frozen 2
          have Re0 := (unhide R).cell 0 rfl
          have Re1 := (unhide R).cell 1 rfl
          have Re2 := (unhide R).cell 2 rfl
          have F := hide (fill3 (unhide R) (.int .i64 pk) (.int .i64 pn) (.string pt))
          obtain ⟨U, hU⟩ : ∃ U, U = (((wnb4.setCell ⟨w.heap.size, 0, none⟩ (.int .i64 pk)).setCell ⟨w.heap.size, 1, none⟩ (.int .i64 pn)).setCell ⟨w.heap.size, 2, none⟩ (.string pt)) := ⟨_, rfl⟩
          have F9 := unhide F
          rw [← hU] at F9
          have EU := hU.symm
          clear F hU
          have v0 := F9.obj.cell 0 rfl
          have v1 := F9.obj.cell 1 rfl
          have v2 := F9.obj.cell 2 rfl
          have F := hide F9
          clear F9
          go_wp2_with (refine bodyPost_ret (by simp [results, Tryz.results17, go_sem, v0, v1, v2]; try rfl) rfl ?_)
          clear EU
          have F := unhide F
          exact ⟨by have q_ := unhide HS; rw [step_c (by rw [← unhide HA]) (by rw [← unhide HP]), ← unhide HP] at q_; cases q_; rfl, F.below loR (unhide BB)⟩
  · have Ac0_1 := (unhide A).cell 0 rfl
    have Ac1_1 := (unhide A).cell 1 rfl
    have Ac2_1 := (unhide A).cell 2 rfl
    have Rf0 := (unhide R).frozen 0
    have Rf1 := (unhide R).frozen 1
    have Rf2 := (unhide R).frozen 2
    have Re0 := (unhide R).cell 0 rfl
    have Re1 := (unhide R).cell 1 rfl
    have Re2 := (unhide R).cell 2 rfl
    have F := hide (fill3 (unhide R) (.int .i64 ak) (.int .i64 an) (.string at1))
    obtain ⟨U, hU⟩ : ∃ U, U = (((w3.setCell ⟨w.heap.size, 0, none⟩ (.int .i64 ak)).setCell ⟨w.heap.size, 1, none⟩ (.int .i64 an)).setCell ⟨w.heap.size, 2, none⟩ (.string at1)) := ⟨_, rfl⟩
    have F9 := unhide F
    rw [← hU] at F9
    have EU := hU.symm
    clear F hU
    have v0 := F9.obj.cell 0 rfl
    have v1 := F9.obj.cell 1 rfl
    have v2 := F9.obj.cell 2 rfl
    have F := hide F9
    clear F9
    go_wp2_with (refine bodyPost_ret (by simp [results, Tryz.results17, go_sem, v0, v1, v2]; try rfl) rfl ?_)
    clear EU
    have F := unhide F
    exact ⟨by have q_ := unhide HS; rw [step_a (by rw [← unhide HA]), ← unhide HA] at q_; cases q_; rfl, F.below loR (unhide BB)⟩
end Go.Proofs.YthnofckkehephaaGreatDoor
