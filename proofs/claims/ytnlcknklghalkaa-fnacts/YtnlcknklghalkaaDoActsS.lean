/- Acts one behind the other: the specification's answer. -/
import Derived.Test.YtnlcknklghalkaaDoActsI
import Derived.Test.YtnlcknklghalkaaDoActS
import Derived.Test.YtnlcknklghalkaaLedger2
import Derived.Deep.AppendSrc
import Derived.Deep.CutRange
namespace Go.Proofs.Ytnlcknklghalkaa
open Go.RowKit
open Plain
set_option linter.unusedVariables false
set_option linter.unusedSimpArgs false

/-- An append whose run is known. -/
theorem wpList_append_run {P : Program} {ops : Array Oper} {rest : List Oper} {o : Oper} {a : Act} {w w' : World} {Q : Exit → Act → World → Prop} (hgd : o.guard = none) (s x : Operand) (t : TypeId)
    (ho : o.op = .call { callee := .builtin .append, args := #[s, x], argTypes := #[t, t] }) (v1 v2 v' : Value) (hs : a.eval s = v1) (hx : a.eval x = v2)
    (hr : (Builtin.append_ #[t, t] o.type #[v1, v2]).run P w = .ok v' w') (h : wpList P ops Q rest (a.put o.dst v') w') : wpList P ops Q (o :: rest) a w := by
  refine wpList_plain hgd fun K hK => ?_
  unfold Oper.wp execOp
  simp only [ho, resolve, invoke, builtin, Sem.run_bind, Sem.run_pure, Result.andThen_ok, List.map_toArray, List.map_cons, List.map_nil, hs, hx, hr]
  exact hK _ _ h
/-- A row of files behind an empty row of one's own. -/
theorem append_files (l : List Fl) (v : Value) (B base b : Nat) (w : World) (hs : l.length ≤ 1048576) (h : OwnF B w v l) (hb : w.heap[b]? = some (.cells #[] 55 (0, 0))) (hB : base ≤ b) :
    ∃ v' w', (Builtin.append_ #[24, 24] 24 #[.slice (some ⟨b, 0, none⟩) 0 0, v]).run Try.prog w = .ok v' w' ∧ OwnF base w' v' l ∧ w.grownBy w' (some b) := by
  obtain ⟨i0, hi, hz0, hz1, hz2⟩ := info_parts Try.infoFile
  have hown : w.ownsRow base 55 3 (.slice (some ⟨b, 0, none⟩) 0 0) 0 [] := ⟨rfl, .inr ⟨b, 0, #[], rfl, hB, hb, Nat.le_refl _, Nat.zero_le _, rfl, rfl⟩⟩
  have hbl : b < w.heap.size := (Array.getElem?_eq_some_iff.1 hb).1
  unfold OwnF at h
  rcases h.2 with ⟨rfl, h0⟩ | ⟨g, c, cur, rfl, _, hg, hlc, hcm, hcs, hct⟩
  · have e : l = [] := List.eq_nil_of_length_eq_zero h0
    subst e
    refine ⟨.slice (some ⟨b, 0, none⟩) 0 0, w, ?_, hown, ⟨rfl, rfl, rfl, Nat.le_refl _, fun _ _ _ => rfl⟩⟩
    have := run_append_room_src w 24 24 24 55 i0 Try.underlying24 hi b 0 0 0 (.slice none 0 0) 0 [] (Src.ofNil w Try.underlying24 0) (by omega) (fun j hj => by simp at hj) (fun j hj => by simp at hj)
    simpa [World.setCells] using this
  · have hcell : ∀ j u, (fcs l)[j]? = some u → w.cell? ((⟨g, 0, none⟩ : Addr).add j) = some u := fun j u hu => by
      have hj : j < l.length * 3 := by
        have := (List.getElem?_eq_some_iff.1 hu).1
        rwa [fcs_length] at this
      have hadd : (⟨g, 0, none⟩ : Addr).add j = ⟨g, j, none⟩ := by unfold Addr.add; split <;> simp_all
      rw [hadd, h.cellAt j (by simpa using hj), hu]
    have hone : ∀ u ∈ fcs l, u.oneCell' = true := fun u hu => by
      unfold fcs at hu
      obtain ⟨f, _, hf⟩ := List.mem_flatMap.1 hu
      exact one3F f u hf
    obtain ⟨v', w', hr, ho, hgr, _⟩ := run_append_own (P := Try.prog) w base 24 24 55 i0 _ 3 40 Try.underlying24 hi hz0 hz1 hz2 rfl (by decide) (.slice (some ⟨b, 0, none⟩) 0 0) 0 [] hown ⟨g, 0, none⟩ l.length c (fcs l) (fcs_length l) hcell hone (by unfold maxLen; omega) (by omega) (by omega)
    refine ⟨v', w', hr, ?_, hgr⟩
    unfold OwnF
    simpa using ho

set_option maxHeartbeats 8000000 in
set_option maxRecDepth 100000 in
theorem spec_DoActs_any (l : List Fl) (la : List Ac) (v u : Value) (B : Nat) (w : World) (hs : SmallF 1048576 l) (ha : SmallAs 1048576 la) (h : OwnF B w v l) (hu : ReadA w u la) :
    Calls Try.prog 7 #[.agg #[v], u] w fun e w' => ∃ v', e = .returned (.tuple #[.agg #[v'], .int .i64 ((runActs l la).2 : Int)]) ∧ OwnF w.heap.size w' v' (runActs l la).1 ∧ Below w.heap.size w w' := by
  obtain ⟨va, c, rfl, hcell⟩ := h.shape
  obtain ⟨ua, uc, rfl, hacts⟩ := hu
  clear hcell
  have hal := ha.1
  have hl0 := hs.1
  have HSA := hide ha
  have HAC := hide hacts
  have HS := hide hs
  obtain ⟨res, hres⟩ : ∃ r, r = runActs l la := ⟨_, rfl⟩
  rw [← hres]
  have HRUN := hide hres
  have hb0 := (((Below.refl w.heap.size w).alloc (Nat.le_refl _) (.cells #[.slice va l.length c] 26)).alloc (by simp) (.cells #[.slice none 0 0] 26)).alloc (by simp; omega) (.cells #[] 55)
  have HR := hide (show (((w.alloc (.cells #[.slice va l.length c] 26)).alloc (.cells #[.slice none 0 0] 26)).alloc (.cells #[] 55)).heap[w.heap.size + 1]? = some (.cells #[.slice none 0 0] 26 (0, 0)) by rw [Below.heap_alloc _ _ _ (by simp)]; exact heap_alloc2_new _ _ _)
  have hbb : (((w.alloc (.cells #[.slice va l.length c] 26)).alloc (.cells #[.slice none 0 0] 26)).alloc (.cells #[] 55)).heap[w.heap.size + 2]? = some (.cells #[] 55 (0, 0)) := by
    have := heap_alloc_new ((w.alloc (.cells #[.slice va l.length c] 26)).alloc (.cells #[.slice none 0 0] 26)) (.cells #[] 55)
    simpa using this
  have hsz : (((w.alloc (.cells #[.slice va l.length c] 26)).alloc (.cells #[.slice none 0 0] 26)).alloc (.cells #[] 55)).heap.size = w.heap.size + 3 := by simp
  obtain ⟨v5, w5, hrun, hown5, hgr5⟩ := append_files l (.slice va l.length c) B w.heap.size (w.heap.size + 2) _ hl0 (own_stays h hb0) hbb (by omega)
  obtain ⟨xa, xn, xc, hv5⟩ := own_shape hown5
  subst hv5
  have hb5 : Below w.heap.size w w5 := hb0.grown hgr5 (by omega) (fun k e => by have := Option.some.inj e; omega)
  have HR5 := hide ((hgr5.block (w.heap.size + 1) (by omega) (by intro e; have := Option.some.inj e; omega)).trans (unhide HR))
  have hz5 : w.heap.size + 3 ≤ w5.heap.size := by have := hgr5.size; omega
  have HB5 := hide hb5
  have HO5 := hide hown5
  clear h hs ha hacts hres hb0 hgr5 hown5 hb5 HR hbb hsz
  go_enter Try.func7, Try.ntmps7
  go_wp2_with (at_builtin; refine wpList_append_run rfl (.tmp 10) (.tmp 12) 24 rfl _ _ _ rfl rfl hrun ?_)
  clear hrun
  have hx6 : (w5.alloc (.cells #[.slice xa xn xc] 26)).heap[w5.heap.size]? = some (.cells #[.slice xa xn xc] 26 (0, 0)) := heap_alloc_new _ _
  have hb6 := (Below.refl w5.heap.size w5).alloc (Nat.le_refl _) (.cells #[.slice xa xn xc] 26)
  have hz6 : (w5.alloc (.cells #[.slice xa xn xc] 26)).heap.size = w5.heap.size + 1 := by simp
  generalize w5.alloc (.cells #[.slice xa xn xc] 26) = W6 at *
  obtain ⟨b6, hb6e⟩ : ∃ b, b = w5.heap.size := ⟨_, rfl⟩
  rw [← hb6e] at hx6 hz6 ⊢
  have HX6 := hide hx6
  have HO6 := hide (own_stays (unhide HO5) hb6)
  have HR6 := hide (row_on hb6 (unhide HR5) (by omega))
  have HB6 := hide ((unhide HB5).trans (hb6.mono (by omega)))
  have hz6' : b6 < W6.heap.size := by omega
  have hzb : w.heap.size + 3 ≤ b6 := by omega
  clear hx6 hb6 hb6e hz6 HR5 HO5 HB5 hz5
  go_loopw [7] (fun i wr => ∃ (k : Nat) (lk : List Fl) (ov : Value), k ≤ la.length ∧ i = .int .i64 k ∧ stepsL l (la.take k) = some lk ∧ SmallF 1048576 lk ∧ wr.heap[b6]? = some (.cells #[ov] 26 (0, 0)) ∧ OwnF w.heap.size wr ov lk ∧ W6.grownBy wr (some b6)) (fun i _ => la.length - (intOf i).toNat)
  case atStart => exact ⟨0, l, _, Nat.zero_le _, rfl, rfl, unhide HS, unhide HX6, unhide HO6, ⟨rfl, rfl, rfl, Nat.le_refl _, fun _ _ _ => rfl⟩⟩
  case round =>
    obtain ⟨k, lk, ov, hk, rfl, hst, hsm, hxo, hown, hgr⟩ := hrel
    have hszr : W6.heap.size ≤ wr.heap.size := hgr.size
    have HBr := hide ((unhide HB6).grown hgr (by omega) (fun k e => by have := Option.some.inj e; omega))
    have HRr := hide ((hgr.block (w.heap.size + 1) (by omega) (by intro e; have := Option.some.inj e; omega)).trans (unhide HR6))
    have bv1 := row_cell hxo
    have HXO := hide hxo
    have HOW := hide hown
    have HGR := hide hgr
    by_cases hlt : k < la.length
    · have hgk : la[k]? = some la[k] := List.getElem?_eq_getElem hlt
      obtain ⟨g, hga, hgl, c0, c1, c2, c3⟩ := unhide HAC k la[k] hgk
      rw [← (unhide HBr).cell (p := ⟨g, _, none⟩) hgl] at c0 c1 c2 c3
      subst hga
      have hsx := (unhide HSA).2 la[k] (List.getElem_mem hlt)
      have htk := List.take_succ_eq_append_getElem hlt
      have hrn : ∀ (x : Ac), la[k]? = some x → doneL lk x = none → res = (lk, k) := fun x hx hn => by rw [unhide HRUN]; exact runActs_stop hst hx hn
      generalize la[k] = x at *
      have hsn := stepsL_snoc (a := x) hst
      rw [← htk] at hsn
      have HSN := hide hsn
      have HRN := hide (hrn x hgk)
      have CS := hide (fun wx h => spec_DoAct_any lk x ov w.heap.size wx hsm hsx h)
      have HDR := hide (fun l' (h : doneL lk x = some l') => diskB_iff.1 (doneL_right h))
      generalize doneL lk x = dn at *
      obtain ⟨kd, nm, tx, tt⟩ := x
      simp only [ac] at c0 c1 c2 c3 CS
      have hik : (0 : Int) ≤ (k : Int) := by omega
      have hil : (k : Int) < (la.length : Int) := by omega
      obtain ⟨ans, hans⟩ : ∃ a, a = dn.getD [] := ⟨_, rfl⟩
      obtain ⟨d, hd⟩ : ∃ d, d = dn.isSome := ⟨_, rfl⟩
      rw [← hans, ← hd] at CS
      have HANS := hide hans
      have HDD := hide hd
      clear hsn hrn htk hsx hgk hst hsm hown hxo hgr hans hd
      go_wp2
      go_cut [8, 9] from 15 to 34 (fun s8 s9 wc => ∃ (bx : Nat) (vx : Value), s8 = .pointer (some ⟨bx, 0, none⟩) ∧ s9 = .bool d ∧ wc.heap[bx]? = some (.cells #[vx] 26 (0, 0)) ∧ wr.heap.size ≤ bx ∧ OwnF wr.heap.size wc vx ans ∧ Below wr.heap.size wr wc)
      case first =>
        refine wp_region_held_drew (S := fun w' => w'.cell? ⟨b6, 0, none⟩ = some ov ∧ w'.cell? ⟨g, k * 4, none⟩ = some (.int .i64 kd) ∧ w'.cell? ⟨g, k * 4 + 1, none⟩ = some (.string nm) ∧ w'.cell? ⟨g, k * 4 + 2, none⟩ = some (.string tx) ∧ w'.cell? ⟨g, k * 4 + 3, none⟩ = some (.string tt)) (by kernel_rfl) (⟨bv1, c0, c1, c2, c3⟩) (fun hHeld => ?_)
        refine takeVal 0 (some 22) ?_ rfl (by kernel_rfl) (by kernel_rfl) (by kernel_rfl) rfl (fun _ _ _ h => h) (by rfl) (by assumption) ?_ ?_
        rotate_left
        · (intro w hSw; (try dsimp only at hSw); go_simp <;> with_reducible rfl)
        simp only [Act.put, List.setIfInBounds_toArray, List.set_cons_zero, List.set_cons_succ]
        refine takeVal 1 (some 23) ?_ rfl (by kernel_rfl) (by kernel_rfl) (by kernel_rfl) rfl (fun _ _ _ h => h) (by rfl) (by assumption) ?_ ?_
        rotate_left
        · (intro w hSw; (try dsimp only at hSw); go_simp <;> with_reducible rfl)
        simp only [Act.put, List.setIfInBounds_toArray, List.set_cons_zero, List.set_cons_succ]
        refine takeVal 2 (some 24) ?_ rfl (by kernel_rfl) (by kernel_rfl) (by kernel_rfl) rfl (fun _ _ _ h => h) (by rfl) (by assumption) ?_ ?_
        rotate_left
        · (intro w hSw; (try dsimp only at hSw); go_simp <;> with_reducible rfl)
        simp only [Act.put, List.setIfInBounds_toArray, List.set_cons_zero, List.set_cons_succ]
        refine takeVal 3 (some 25) ?_ rfl (by kernel_rfl) (by kernel_rfl) (by kernel_rfl) rfl (fun _ _ _ h => h) (by rfl) (by assumption) ?_ ?_
        rotate_left
        · (intro w hSw; (try dsimp only at hSw); go_simp <;> with_reducible rfl)
        simp only [Act.put, List.setIfInBounds_toArray, List.set_cons_zero, List.set_cons_succ]
        refine takeVal 4 (some 26) ?_ rfl (by kernel_rfl) (by kernel_rfl) (by kernel_rfl) rfl (fun _ _ _ h => h) (by rfl) (by assumption) ?_ ?_
        rotate_left
        · (intro w hSw; (try dsimp only at hSw); go_simp <;> with_reducible rfl)
        simp only [Act.put, List.setIfInBounds_toArray, List.set_cons_zero, List.set_cons_succ]
        have hB0 : Below wr.heap.size wr wr.drew := (Below.refl _ _).drew
        refine wpAnyH_ready (rs := [5, 9]) (by kernel_rfl) (by simp) ?_
        refine (AllReadyH.cons rfl (fun K hK => ?_) (AllReadyH.cons rfl (fun K hK => ?_) AllReadyH.nil))
        · skip
          go_simp
          refine (unhide CS (wr.drew) (own_stays (unhide HOW) (hB0))).mono ?_
          rintro e v1w ⟨vv1, rfl, hans1, hbk1⟩
          go_wp2_with fail
          refine hK.out _ _ (⟨(cell_on (w := wr.drew) hbk1 hHeld.1), (cell_on (w := wr.drew) hbk1 hHeld.2.1), (cell_on (w := wr.drew) hbk1 hHeld.2.2.1), (cell_on (w := wr.drew) hbk1 hHeld.2.2.2.1), (cell_on (w := wr.drew) hbk1 hHeld.2.2.2.2)⟩) (fun hHeld2 => ?_)
          clear hK K hHeld
          have hHeld := hHeld2; clear hHeld2
          try simp only [Act.put, List.setIfInBounds_toArray, List.set_cons_zero, List.set_cons_succ]
          have hB1 : Below wr.heap.size wr v1w := (hB0).trans (hbk1.mono (by have := (hB0).size; first | exact this | omega))
          have hz1 : wr.heap.size ≤ v1w.heap.size := (hB1).size
          refine takeVal 6 (some 21) ?_ rfl (by kernel_rfl) (by kernel_rfl) (by kernel_rfl) rfl (fun _ _ _ h => h) (by rfl) (by assumption) ?_ ?_
          rotate_left
          · (intro w hSw; (try dsimp only at hSw); go_simp <;> with_reducible rfl)
          simp only [Act.put, List.setIfInBounds_toArray, List.set_cons_zero, List.set_cons_succ]
          refine takeVal 7 (some 28) ?_ rfl (by kernel_rfl) (by kernel_rfl) (by kernel_rfl) rfl (fun _ _ _ h => h) (by rfl) (by assumption) ?_ ?_
          rotate_left
          · (intro w hSw; (try dsimp only at hSw); go_simp <;> with_reducible rfl)
          simp only [Act.put, List.setIfInBounds_toArray, List.set_cons_zero, List.set_cons_succ]
          refine takeVal 8 (some 29) ?_ rfl (by kernel_rfl) (by kernel_rfl) (by kernel_rfl) rfl (fun _ _ _ h => h) (by rfl) (by assumption) ?_ ?_
          rotate_left
          · (intro w hSw; (try dsimp only at hSw); go_simp <;> with_reducible rfl)
          simp only [Act.put, List.setIfInBounds_toArray, List.set_cons_zero, List.set_cons_succ]
          refine wpAnyH_ready (rs := [9]) (by kernel_rfl) (by simp) ?_
          refine (AllReadyH.cons rfl (fun K hK => ?_) AllReadyH.nil)
          go_simp
          refine hK.out _ _ (⟨(cell_on ((Below.refl _ _).alloc (Nat.le_refl _) _) hHeld.1), (cell_on ((Below.refl _ _).alloc (Nat.le_refl _) _) hHeld.2.1), (cell_on ((Below.refl _ _).alloc (Nat.le_refl _) _) hHeld.2.2.1), (cell_on ((Below.refl _ _).alloc (Nat.le_refl _) _) hHeld.2.2.2.1), (cell_on ((Below.refl _ _).alloc (Nat.le_refl _) _) hHeld.2.2.2.2)⟩) (fun hHeld2 => ?_)
          clear hK K hHeld
          have hHeld := hHeld2; clear hHeld2
          try simp only [Act.put, List.setIfInBounds_toArray, List.set_cons_zero, List.set_cons_succ]
          have hrw2 : (v1w.alloc (.cells #[.slice none 0 0] 26)).heap[v1w.heap.size]? = some (.cells #[.slice none 0 0] 26 (0, 0)) := heap_alloc_new v1w _
          have hbk2 : Below v1w.heap.size v1w (v1w.alloc (.cells #[.slice none 0 0] 26)) := ((Below.refl v1w.heap.size v1w).alloc (Nat.le_refl _) (.cells #[.slice none 0 0] 26))
          have hbs2 : wr.heap.size ≤ v1w.heap.size := (hB1).size
          obtain ⟨v2w, hwa2⟩ : ∃ W, W = (v1w.alloc (.cells #[.slice none 0 0] 26)) := ⟨_, rfl⟩
          rw [← hwa2] at hrw2 hbk2 hHeld ⊢
          clear hwa2
          have hB2 : Below wr.heap.size wr v2w := (hB1).trans (hbk2.mono (by have := (hB1).size; first | exact this | omega))
          have hz2 : wr.heap.size ≤ v2w.heap.size := (hB2).size
          have hlt2 : v1w.heap.size < v2w.heap.size := row_lt hrw2
          have hans1_2 := own_stays (w := v1w) hans1 hbk2
          obtain ⟨xa, xn, xc, hvx⟩ := own_shape hans1_2
          subst hvx
          have r0 := row_cell hrw2
          have z0 := row_frozen hrw2
          have RW := hide (set1 (.slice xa xn xc) hrw2)
          have OW := hide (own_set (u := .slice xa xn xc) hans1_2 hrw2 (by decide))
          have BW := hide ((hB2).setCell (p := ⟨v1w.heap.size, 0, none⟩) (by show wr.heap.size ≤ v1w.heap.size; omega) (.slice xa xn xc))
          refine wpAnyH_ready (rs := [10]) (by kernel_rfl) (by simp) ?_
          refine AllReadyH.cons rfl (fun K hK => ?_) AllReadyH.nil
          go_simp
          refine hK.out _ _ (⟨((World.cell?_setCell_other _ _ _ _ (by simp <;> omega)).trans hHeld.1), ((World.cell?_setCell_other _ _ _ _ (by simp <;> omega)).trans hHeld.2.1), ((World.cell?_setCell_other _ _ _ _ (by simp <;> omega)).trans hHeld.2.2.1), ((World.cell?_setCell_other _ _ _ _ (by simp <;> omega)).trans hHeld.2.2.2.1), ((World.cell?_setCell_other _ _ _ _ (by simp <;> omega)).trans hHeld.2.2.2.2)⟩) (fun hHeld2 => ?_)
          clear hK K hHeld
          have hHeld := hHeld2; clear hHeld2
          try simp only [Act.put, List.setIfInBounds_toArray, List.set_cons_zero, List.set_cons_succ]
          refine takeVal 11 (some 9) ?_ rfl (by kernel_rfl) (by kernel_rfl) (by kernel_rfl) rfl (fun _ _ _ h => h) (by rfl) (by assumption) ?_ ?_
          rotate_left
          · (intro w hSw; (try dsimp only at hSw); go_simp <;> with_reducible rfl)
          simp only [Act.put, List.setIfInBounds_toArray, List.set_cons_zero, List.set_cons_succ]
          refine wpAnyH_done (by kernel_rfl) ?_ _
          go_wp2
          go_meet
          case rel => exact ⟨v1w.heap.size, .slice xa xn xc, rfl, rfl, unhide RW, by omega, own_based (unhide OW) (by first | omega | exact Nat.le_refl _), unhide BW⟩
        · skip
          go_simp
          refine hK.out _ _ (⟨(cell_on ((Below.refl _ _).alloc (Nat.le_refl _) _) hHeld.1), (cell_on ((Below.refl _ _).alloc (Nat.le_refl _) _) hHeld.2.1), (cell_on ((Below.refl _ _).alloc (Nat.le_refl _) _) hHeld.2.2.1), (cell_on ((Below.refl _ _).alloc (Nat.le_refl _) _) hHeld.2.2.2.1), (cell_on ((Below.refl _ _).alloc (Nat.le_refl _) _) hHeld.2.2.2.2)⟩) (fun hHeld2 => ?_)
          clear hK K hHeld
          have hHeld := hHeld2; clear hHeld2
          try simp only [Act.put, List.setIfInBounds_toArray, List.set_cons_zero, List.set_cons_succ]
          have hrw3 : (wr.alloc (.cells #[.slice none 0 0] 26)).drew.heap[wr.heap.size]? = some (.cells #[.slice none 0 0] 26 (0, 0)) := heap_alloc_new wr _
          have hbk3 : Below wr.heap.size wr (wr.alloc (.cells #[.slice none 0 0] 26)).drew := ((Below.refl wr.heap.size wr).alloc (Nat.le_refl _) (.cells #[.slice none 0 0] 26)).drew
          have hbs3 : wr.heap.size ≤ wr.heap.size := Nat.le_refl _
          obtain ⟨v3w, hwa3⟩ : ∃ W, W = (wr.alloc (.cells #[.slice none 0 0] 26)).drew := ⟨_, rfl⟩
          rw [← hwa3] at hrw3 hbk3 hHeld ⊢
          clear hwa3
          have hB3 : Below wr.heap.size wr v3w := hbk3
          have hz3 : wr.heap.size ≤ v3w.heap.size := (hB3).size
          have hlt3 : wr.heap.size < v3w.heap.size := row_lt hrw3
          refine wpAnyH_ready (rs := [5]) (by kernel_rfl) (by simp) ?_
          refine (AllReadyH.cons rfl (fun K hK => ?_) AllReadyH.nil)
          go_simp
          refine (unhide CS (v3w) (own_stays (unhide HOW) (hB3))).mono ?_
          rintro e v4w ⟨vv4, rfl, hans4, hbk4⟩
          go_wp2_with fail
          refine hK.out _ _ (⟨(cell_on (w := v3w) hbk4 hHeld.1), (cell_on (w := v3w) hbk4 hHeld.2.1), (cell_on (w := v3w) hbk4 hHeld.2.2.1), (cell_on (w := v3w) hbk4 hHeld.2.2.2.1), (cell_on (w := v3w) hbk4 hHeld.2.2.2.2)⟩) (fun hHeld2 => ?_)
          clear hK K hHeld
          have hHeld := hHeld2; clear hHeld2
          try simp only [Act.put, List.setIfInBounds_toArray, List.set_cons_zero, List.set_cons_succ]
          have hB4 : Below wr.heap.size wr v4w := (hB3).trans (hbk4.mono (by have := (hB3).size; first | exact this | omega))
          have hz4 : wr.heap.size ≤ v4w.heap.size := (hB4).size
          have hrw4 := row_up (w := v3w) hrw3 hbk4
          refine takeVal 6 (some 21) ?_ rfl (by kernel_rfl) (by kernel_rfl) (by kernel_rfl) rfl (fun _ _ _ h => h) (by rfl) (by assumption) ?_ ?_
          rotate_left
          · (intro w hSw; (try dsimp only at hSw); go_simp <;> with_reducible rfl)
          simp only [Act.put, List.setIfInBounds_toArray, List.set_cons_zero, List.set_cons_succ]
          refine takeVal 7 (some 28) ?_ rfl (by kernel_rfl) (by kernel_rfl) (by kernel_rfl) rfl (fun _ _ _ h => h) (by rfl) (by assumption) ?_ ?_
          rotate_left
          · (intro w hSw; (try dsimp only at hSw); go_simp <;> with_reducible rfl)
          simp only [Act.put, List.setIfInBounds_toArray, List.set_cons_zero, List.set_cons_succ]
          refine takeVal 8 (some 29) ?_ rfl (by kernel_rfl) (by kernel_rfl) (by kernel_rfl) rfl (fun _ _ _ h => h) (by rfl) (by assumption) ?_ ?_
          rotate_left
          · (intro w hSw; (try dsimp only at hSw); go_simp <;> with_reducible rfl)
          simp only [Act.put, List.setIfInBounds_toArray, List.set_cons_zero, List.set_cons_succ]
          obtain ⟨xa, xn, xc, hvx⟩ := own_shape hans4
          subst hvx
          have r0 := row_cell hrw4
          have z0 := row_frozen hrw4
          have RW := hide (set1 (.slice xa xn xc) hrw4)
          have OW := hide (own_set (u := .slice xa xn xc) hans4 hrw4 (by decide))
          have BW := hide ((hB4).setCell (p := ⟨wr.heap.size, 0, none⟩) (by show wr.heap.size ≤ wr.heap.size; omega) (.slice xa xn xc))
          refine wpAnyH_ready (rs := [10]) (by kernel_rfl) (by simp) ?_
          refine AllReadyH.cons rfl (fun K hK => ?_) AllReadyH.nil
          go_simp
          refine hK.out _ _ (⟨((World.cell?_setCell_other _ _ _ _ (by simp <;> omega)).trans hHeld.1), ((World.cell?_setCell_other _ _ _ _ (by simp <;> omega)).trans hHeld.2.1), ((World.cell?_setCell_other _ _ _ _ (by simp <;> omega)).trans hHeld.2.2.1), ((World.cell?_setCell_other _ _ _ _ (by simp <;> omega)).trans hHeld.2.2.2.1), ((World.cell?_setCell_other _ _ _ _ (by simp <;> omega)).trans hHeld.2.2.2.2)⟩) (fun hHeld2 => ?_)
          clear hK K hHeld
          have hHeld := hHeld2; clear hHeld2
          try simp only [Act.put, List.setIfInBounds_toArray, List.set_cons_zero, List.set_cons_succ]
          refine takeVal 11 (some 9) ?_ rfl (by kernel_rfl) (by kernel_rfl) (by kernel_rfl) rfl (fun _ _ _ h => h) (by rfl) (by assumption) ?_ ?_
          rotate_left
          · (intro w hSw; (try dsimp only at hSw); go_simp <;> with_reducible rfl)
          simp only [Act.put, List.setIfInBounds_toArray, List.set_cons_zero, List.set_cons_succ]
          refine wpAnyH_done (by kernel_rfl) ?_ _
          go_wp2
          go_meet
          case rel => exact ⟨wr.heap.size, .slice xa xn xc, rfl, rfl, unhide RW, by omega, own_based (unhide OW) (by first | omega | exact Nat.le_refl _), unhide BW⟩
      case rest =>
        obtain ⟨bx, vx, rfl, rfl, hx, hlo, hownx, hbx⟩ := hcut
        obtain ⟨w3, rfl⟩ : ∃ x, x = wc := ⟨_, rfl⟩
        have HXO3 := hide (row_up (unhide HXO) hbx)
        have HOW3 := hide (own_stays (unhide HOW) hbx)
        have HR3 := hide (row_up (unhide HRr) hbx)
        have HB3 := hide ((unhide HBr).trans (hbx.mono (by omega)))
        have HG3 := hide (show W6.grownBy w3 (some b6) from ⟨hbx.os.trans (unhide HGR).os, hbx.tape.trans (unhide HGR).tape, hbx.output.trans (unhide HGR).output, Nat.le_trans (unhide HGR).size hbx.size, fun q hq hn => (hbx.block q (by omega)).trans ((unhide HGR).block q hq hn)⟩)
        have hsz3 : wr.heap.size ≤ w3.heap.size := hbx.size
        have q6 := row_cell (unhide HXO3)
        have qx := row_cell hx
        have zf := row_frozen (unhide HXO3)
        have HOX := hide hownx
        have HX := hide hx
        clear hbx hownx hx HXO HOW HRr HGR bv1 c0 c1 c2 c3
        cases hdn : dn with
        | none =>
          subst hdn
          have hd : d = false := unhide HDD
          subst hd
          have hre : res = (lk, k) := unhide HRN rfl
          have HRE := hide hre
          have r0 := row_cell (unhide HR3)
          have z0 := row_frozen (unhide HR3)
          obtain ⟨ya, yn, yc, hov⟩ := own_shape (unhide HOW3)
          subst hov
          have HRR := hide (set1 (.slice ya yn yc) (unhide HR3))
          have HOE := hide (own_set (u := .slice ya yn yc) (unhide HOW3) (unhide HR3) (by decide))
          have HBE := hide ((unhide HB3).setCell (p := ⟨w.heap.size + 1, 0, none⟩) (by show w.heap.size ≤ w.heap.size + 1; omega) (.slice ya yn yc))
          clear hre HX HOX qx
          go_wp2
          refine bodyPost_ret (by rw [results_cell_tmp rfl]; simp [asAddr, run_loadVar_row _ _ _ _ _ _ _ (unhide HRR) Try.underlying26 rfl (by kernel_rfl)]; rfl) rfl ?_
          refine ⟨.slice ya yn yc, by rw [unhide HRE], ?_, unhide HBE⟩
          rw [unhide HRE]
          exact unhide HOE
        | some l' =>
          subst hdn
          have hd : d = true := unhide HDD
          subst hd
          have hdr := unhide HDR l' rfl
          have hans : ans = l' := unhide HANS
          subst hans
          have HNX := hide (unhide HSN)
          have HSM := hide (show SmallF 1048576 ans from ⟨by have := hdr.1; omega, fun f hf => by
            obtain ⟨p1, p2, _, _⟩ := fileB_parts ((DiskR_iff.1 hdr).2.1 f hf)
            refine ⟨?_, by omega⟩
            simp [nameB] at p1; omega⟩)
          obtain ⟨ya, yn, yc, hov⟩ := own_shape (unhide HOX)
          subst hov
          have HXN := hide (set1 (.slice ya yn yc) (unhide HXO3))
          have HON := hide (own_based (own_set (u := .slice ya yn yc) (unhide HOX) (unhide HXO3) (by decide)) (show w.heap.size ≤ wr.heap.size by omega))
          have HGN := hide (show W6.grownBy (w3.setCell ⟨b6, 0, none⟩ (.slice ya yn yc)) (some b6) from ⟨(unhide HG3).os, (unhide HG3).tape, (unhide HG3).output, by simpa using (unhide HG3).size, fun q hq hn => (Below.heap_setCell _ _ _ q (fun e => hn (by rw [e]))).trans ((unhide HG3).block q hq hn)⟩)
          clear hdr HX HOX HXO3 HG3
          go_wp2
          go_roundw
          case rel => exact ⟨k + 1, ans, _, by omega, by go_num, unhide HNX, unhide HSM, unhide HXN, unhide HON, unhide HGN⟩
          case measure => simp [intOf]; omega
    · obtain rfl : k = la.length := by omega
      rw [List.take_length] at hst
      have hre : res = (lk, la.length) := by rw [unhide HRUN]; exact runActs_all hst
      have HRE := hide hre
      have r0 := row_cell (unhide HRr)
      have z0 := row_frozen (unhide HRr)
      obtain ⟨ya, yn, yc, hov⟩ := own_shape (unhide HOW)
      subst hov
      have HRR := hide (set1 (.slice ya yn yc) (unhide HRr))
      have HOE := hide (own_set (u := .slice ya yn yc) (unhide HOW) (unhide HRr) (by decide))
      have HBE := hide ((unhide HBr).setCell (p := ⟨w.heap.size + 1, 0, none⟩) (by show w.heap.size ≤ w.heap.size + 1; omega) (.slice ya yn yc))
      clear hre hst hsm hown hxo hgr
      go_wp2
      refine bodyPost_ret (by rw [results_cell_tmp rfl]; simp [asAddr, run_loadVar_row _ _ _ _ _ _ _ (unhide HRR) Try.underlying26 rfl (by kernel_rfl)]; rfl) rfl ?_
      refine ⟨.slice ya yn yc, by rw [unhide HRE], ?_, unhide HBE⟩
      rw [unhide HRE]
      exact unhide HOE
end Go.Proofs.Ytnlcknklghalkaa
