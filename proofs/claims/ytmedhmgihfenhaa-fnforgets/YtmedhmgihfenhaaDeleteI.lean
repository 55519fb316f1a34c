/- Tombs out of which some go: slices.DeleteFunc at the function that the program hands it. Made by gen_delete.py. -/
import Derived.Test.YtmedhmgihfenhaaDeletePlain
import Derived.Test.YtmedhmgihfenhaaBoxA
import Derived.Test.YtmedhmgihfenhaaBoxNameS
namespace Go.Proofs.Ytmedhmgihfenhaa
open Go.RowKit
open Plain
set_option linter.unusedVariables false
set_option linter.unusedSimpArgs false

theorem zeroTomb (w : World) : (zeroValue 35).run Try.prog w = .ok (.agg #[.int .i64 0, .int .i64 0]) w := by kernel_rfl
theorem rowC_take {α : Type} {enc : α → List Value} {k : Nat} (hk : ∀ a, (enc a).length = k) {l : List α} {i : Nat} (hi : i ≤ l.length) : (rowC enc l).take (i * k) = rowC enc (l.take i) := by
  have e : rowC enc l = rowC enc (l.take i) ++ rowC enc (l.drop i) := by rw [← rowC_append, List.take_append_drop]
  have hl : (rowC enc (l.take i)).length = i * k := by rw [rowC_len hk, List.length_take, Nat.min_eq_left hi]
  rw [e, ← hl, List.take_left']
  rfl
theorem forget1_any (f : Tb) (c : Nat) (upto : Int) (w : World) (h : HasObj w c 3 [.int .i64 upto]) :
    Calls Try.prog 70 #[.agg #[.int .i64 f.uid, .int .i64 f.mod], .pointer (some ⟨c, 0, none⟩)] w fun e w' => e = .returned (.bool (decide (f.mod ≤ upto))) ∧ Below w.heap.size w w' := by
  obtain ⟨X, hX⟩ : ∃ X, X = w.alloc (.cells ([.int .i64 f.uid, .int .i64 f.mod] : List Value).toArray 35) := ⟨_, rfl⟩
  have x0 : HasObj X w.heap.size 35 [.int .i64 f.uid, .int .i64 f.mod] := by rw [hX]; exact HasObj.new _ _ _
  have hbX : Below w.heap.size w X := by rw [hX]; exact (Below.refl _ _).alloc (Nat.le_refl _) _
  have c0 := (h.ups hbX).cell 0 rfl
  have k1 := x0.cell 1 rfl
  have HX := hX.symm
  have BX := hide hbX
  clear hX x0 hbX h
  go_enter Try.func70, Try.ntmps70
  go_wp2
  go_ret
  exact ⟨rfl, unhide BX⟩
abbrev forgets (c : Nat) : Value := .func (.func 70) #[] #[.pointer (some ⟨c, 0, none⟩)]
set_option maxHeartbeats 2000000 in
set_option maxRecDepth 100000 in
theorem indexTombs_any (l : List Tb) (v : Value) (B c : Nat) (upto : Int) (w : World) (hs : l.length ≤ 4000000) (hc : HasObj w c 3 [.int .i64 upto]) (h : OwnTb B w v l) :
    Calls Try.prog 83 #[v, forgets c] w fun e w' => (∃ r : Int, e = .returned (.int .i64 r) ∧ ((r = -1 ∧ ∀ j (hj : j < l.length), upto < l[j].mod) ∨ ∃ k : Nat, r = k ∧ ∃ hk : k < l.length, (∀ j (hj : j < k), upto < l[j].mod) ∧ l[k].mod ≤ upto)) ∧ Below w.heap.size w w' := by
  obtain ⟨a0, c0, rfl⟩ := g_shape h
  have HC := hide hc
  have HO := hide (fun (W : World) hb k f hx => tb_read (W := W) h hb (k := k) (f := f) hx)
  clear h hc
  go_enter Try.func83, Try.ntmps83
  go_wp2
  go_loopw [8] (fun i wr => ∃ k : Nat, k ≤ l.length ∧ i = .int .i64 k ∧ (∀ j (hj : j < l.length), j < k → upto < l[j].mod) ∧ Below w.heap.size w wr) (fun i _ => l.length - (intOf i).toNat)
  case atStart => exact ⟨0, Nat.zero_le _, rfl, fun j _ hj => by omega, Below.refl _ _⟩
  case round =>
    obtain ⟨k, hk, rfl, hall, hbel⟩ := hrel
    by_cases hlt : k < l.length
    · have hgk : l[k]? = some l[k] := List.getElem?_eq_getElem hlt
      obtain ⟨g, c', e, hg, c0, c1⟩ := unhide HO wr hbel k _ hgk
      cases e
      have ON : Hid (upto < l[k].mod → ∀ j (hj : j < l.length), j < k + 1 → upto < l[j].mod) := fun h j hj hjk => by
        by_cases e : j = k
        · subst e; exact h
        · exact hall j hj (by omega)
      have YES : Hid (l[k].mod ≤ upto → ∃ k' : Nat, (k : Int) = k' ∧ ∃ hk : k' < l.length, (∀ j (hj : j < k'), upto < l[j].mod) ∧ l[k'].mod ≤ upto) := fun h => ⟨k, rfl, hlt, fun j hj => hall j (by omega) hj, h⟩
      generalize l[k] = f at *
      have i1 : (0 : Int) ≤ (k : Int) := by omega
      have i2 : (k : Int) < (l.length : Int) := by omega
      have Q := hide (forget1_any f c upto wr ((unhide HC).up hbel (unhide HC).lt))
      have BB := hide hbel
      clear hbel hall hgk
      go_wp2_with fail
      refine (unhide Q).mono ?_
      rintro e w1 ⟨rfl, hb1⟩
      have B1 := hide (below_y (unhide BB) hb1)
      clear hb1 Q c0 c1
      by_cases hm : upto < f.mod
      · have dm : decide (f.mod ≤ upto) = false := decide_eq_false (by omega)
        have on := hide (unhide ON hm)
        rw [dm]
        clear hm dm ON YES
        go_wp2
        go_roundw
        case rel => exact ⟨k + 1, by omega, by go_num, unhide on, unhide B1⟩
        case measure => simp [intOf]; omega
      · have dm : decide (f.mod ≤ upto) = true := decide_eq_true (by omega)
        have yes := hide (unhide YES (by omega))
        rw [dm]
        clear hm dm ON YES
        go_wp2
        go_ret
        exact ⟨⟨_, rfl, .inr (unhide yes)⟩, unhide B1⟩
    · have V : Hid (∀ j (hj : j < l.length), upto < l[j].mod) := fun j hj => hall j hj (by omega)
      obtain rfl : k = l.length := by omega
      have BB := hide hbel
      clear hbel hall
      go_wp2
      go_ret
      exact ⟨⟨_, rfl, .inl ⟨rfl, unhide V⟩⟩, unhide BB⟩
set_option maxHeartbeats 4000000 in
set_option maxRecDepth 100000 in
theorem deleteTombs_any (l : List Tb) (v : Value) (B c : Nat) (upto : Int) (w : World) (hs : l.length ≤ 4000000) (hc : HasObj w c 3 [.int .i64 upto]) (h : OwnTb B w v l) :
    Calls Try.prog 69 #[v, forgets c] w fun e w' => ∃ v', e = .returned v' ∧ OwnTb B w' v' (l.filter (fun t => decide (upto < t.mod))) ∧ v'.ownBlock = v.ownBlock ∧ w.grownBy w' v.ownBlock := by
  have IX := hide (indexTombs_any l v B c upto w hs hc h)
  have HO := hide h
  have HC := hide hc
  clear hc
  obtain ⟨a0, c0, rfl⟩ := g_shape h
  clear h
  go_enter Try.func69, Try.ntmps69
  go_wp2_with fail
  refine (unhide IX).mono ?_
  rintro e w1 ⟨⟨r, rfl, hr⟩, hb1⟩
  rcases hr with ⟨rfl, hall⟩ | ⟨k, rfl, hk, hlow, hat⟩
  · have EF : Hid (l.filter (fun t => decide (upto < t.mod)) = l) := List.filter_eq_self.2 (fun t ht => by
      obtain ⟨j, hj, rfl⟩ := List.getElem_of_mem ht
      exact decide_eq_true (hall j hj))
    have BB := hide hb1
    clear hall hb1 IX
    go_wp2
    go_ret
    exact ⟨_, rfl, by rw [unhide EF]; exact (unhide HO).up (unhide BB), rfl, g_grown (unhide BB) _⟩
  · rcases (unhide HO).2 with ⟨_, h0⟩ | ⟨g, cap, cur0, e, hgB, _⟩
    · omega
    cases e
    have INV := hide (GoInv.start (p := fun t : Tb => decide (upto < t.mod)) hk (fun j hj => decide_eq_true (hlow j hj)) (decide_eq_false (by omega)))
    have HO1 := hide ((unhide HO).up hb1)
    have GB := hide (g_grown hb1 (some g))
    have n1 : ((k : Int) == -1) = false := beq_eq_false_iff_ne.2 (by omega)
    have n2 : IntKind.i64.wrap ((k : Int) + 1) = (k : Int) + 1 := by rw [IntKind.wrap_i64]; omega
    clear hlow hat hb1 IX
    go_wp2
    clear n1 n2
    go_loopw [5, 6] (fun iv jv wr => ∃ (i j : Nat) (cur : List Tb), iv = .int .i64 i ∧ jv = .int .i64 j ∧ GoInv (fun t : Tb => decide (upto < t.mod)) l cur i j ∧ OwnTb B wr (.slice (some ⟨g, 0, none⟩) l.length c0) cur ∧ w.grownBy wr (some g)) (fun _ jv _ => l.length - (intOf jv).toNat)
    case atStart => exact ⟨k, k + 1, l, rfl, by go_num, unhide INV, unhide HO1, unhide GB⟩
    clear INV HO1 GB
    case round =>
      obtain ⟨i, j, cur, rfl, rfl, hinv, hown, hgr⟩ := hrel
      have hli := hinv.lt
      have hle := hinv.le
      have hcl := hinv.len
      have own2 : wr.ownsRow B 35 2 (.slice (some ⟨g, 0, none⟩) l.length c0) l.length (rowC tbC cur) := by have h9 := hown; unfold OwnTb at h9; rw [hcl] at h9; exact h9
      by_cases hlt : j < l.length
      · obtain ⟨d0, d1⟩ := tb_cells own2 (hinv.at hlt) hlt
        have KEEP := hide (fun h => hinv.keep hlt h)
        have SKIP := hide (fun h => hinv.skip hlt h)
        have hgi : cur[i]? = some (cur[i]'(by omega)) := List.getElem?_eq_getElem (by omega)
        generalize l[j] = f at *
        generalize cur[i]'(by omega) = x at *
        obtain ⟨Y, hY⟩ : ∃ Y, Y = wr.alloc (.cells ([.int .i64 f.uid, .int .i64 f.mod] : List Value).toArray 35) := ⟨_, rfl⟩
        have y0 : HasObj Y wr.heap.size 35 [.int .i64 f.uid, .int .i64 f.mod] := by rw [hY]; exact HasObj.new _ _ _
        have hbY : Below wr.heap.size wr Y := by rw [hY]; exact (Below.refl _ _).alloc (Nat.le_refl _) _
        have HY := hY.symm
        have hcW : HasObj wr c 3 [.int .i64 upto] := (unhide HC).kept hgr (fun e => (unhide HC).not_row (by decide) (unhide HO) e.symm)
        have Q := hide (forget1_any f c upto Y (hcW.ups hbY))
        have z0 := y0.cell 0 rfl
        have z1 := y0.cell 1 rfl
        have Y0 := hide y0
        have BY := hide hbY
        have OW := hide own2
        have GR := hide hgr
        have HGI := hide hgi
        have i1 : (0 : Int) ≤ (j : Int) := by omega
        have i2 : (j : Int) < (l.length : Int) := by omega
        have i3 : (0 : Int) ≤ (i : Int) := by omega
        have i4 : (i : Int) < (l.length : Int) := by omega
        have n1 : IntKind.i64.wrap ((i : Int) + 1) = (i : Int) + 1 := by rw [IntKind.wrap_i64]; omega
        have n2 : IntKind.i64.wrap ((j : Int) + 1) = (j : Int) + 1 := by rw [IntKind.wrap_i64]; omega
        have HCL := hide hcl
        clear hinv hown own2 hgr hY y0 hbY hcW hgi hcl
        go_wp2_with fail
        clear HY z0 z1 d0 d1
        refine (unhide Q).mono ?_
        rintro e w2 ⟨rfl, hb2⟩
        have B2 := below_y (unhide BY) hb2
        have own2 := g_stays (unhide OW) B2
        have gr2 := hide (g_then (unhide GR) B2)
        have y2 := (unhide Y0).ups hb2
        have z0 := y2.cell 0 rfl
        have z1 := y2.cell 1 rfl
        clear hb2 Q Y0 BY y2
        by_cases hm : upto < f.mod
        · have dm : decide (f.mod ≤ upto) = false := decide_eq_false (by omega)
          have on := hide (unhide KEEP (decide_eq_true hm))
          rw [dm]
          have f0 := own2.frozenAt (i * 2)
          have f1 := own2.frozenAt (i * 2 + 1)
          obtain ⟨d0, d1⟩ := tb_cells own2 (unhide HGI) (by omega)
          have st0 := own2.stored (i * 2) (.int .i64 f.uid)
          rw [show i * 2 = i * 2 + 0 from rfl, rowC_set tbC_len (unhide HGI) (j := 0) (by decide) ⟨f.uid, x.mod⟩ (.int .i64 f.uid) rfl] at st0
          have st1 := st0.1.stored (i * 2 + 1) (.int .i64 f.mod)
          rw [rowC_set2 tbC_len (unhide HGI) ⟨f.uid, x.mod⟩ (j := 1) (by decide) ⟨f.uid, f.mod⟩ (.int .i64 f.mod) rfl] at st1
          rw [show (⟨f.uid, f.mod⟩ : Tb) = f from rfl] at st1
          have HST := hide st1.1
          have G3 := hide (g_store (j := i * 2 + 1) (g_store (j := i * 2) (unhide gr2) (.int .i64 f.uid)) (.int .i64 f.mod))
          clear hm dm KEEP SKIP own2 st0 st1 B2
          go_wp2
          go_roundw
          case rel =>
            refine ⟨i + 1, j + 1, _, by go_num, by go_num, unhide on, ?_, unhide G3⟩
            have h9 := unhide HST
            unfold OwnTb
            rw [List.length_set, unhide HCL]
            exact h9
          case measure => simp [intOf]; omega
        · have dm : decide (f.mod ≤ upto) = true := decide_eq_true (by omega)
          have on := hide (unhide SKIP (decide_eq_false hm))
          rw [dm]
          have O2 := hide own2
          clear hm dm KEEP SKIP own2 B2
          go_wp2
          go_roundw
          case rel =>
            refine ⟨i, j + 1, _, rfl, by go_num, unhide on, ?_, unhide gr2⟩
            have h9 := unhide O2
            unfold OwnTb
            rw [unhide HCL]
            exact h9
          case measure => simp [intOf]; omega
      · obtain rfl : j = l.length := by omega
        have DN := hide hinv.done
        have hcap : l.length ≤ c0 := by
          rcases own2.2 with ⟨h1, _⟩ | ⟨_, _, _, h1, _, _, h2, _⟩
          · cases h1
          · cases h1; exact h2
        have i3 : (0 : Int) ≤ (i : Int) := by omega
        have i4 : (i : Int) ≤ (l.length : Int) := by omega
        have hcl2 := fun ty => run_clear_row (P := Try.prog) wr 25 35 ty (.agg #[.int .i64 0, .int .i64 0]) Try.underlying25 zeroTomb g (i * 2) (l.length - i) (c0 - i) (by omega) (fun j hj => by
          rw [own2.cellAt (i * 2 + j) (by simp [Value.cells] at hj; omega)]
          rw [List.getElem?_eq_getElem (by rw [rowC_len tbC_len, hcl]; simp [Value.cells] at hj; omega)]; rfl) (fun j hj => own2.frozenAt _) (by
          intro u hu
          simp [Builtin.zeroCells, Value.cells] at hu
          obtain ⟨a, ha, rfl⟩ := hu
          rcases Nat.mod_two_eq_zero_or_one a with h | h <;> rw [h] <;> rfl)
        obtain ⟨ys, oy, ey, gy⟩ := own_cells (Builtin.zeroCells (Value.agg #[.int .i64 0, .int .i64 0]).cells (l.length - i)).toList (i * 2) wr _ own2
        have oc := own_cut oy (i := i) (by omega)
        rw [ey] at oc
        have OC := hide oc
        have GY := hide (g_join hgr gy)
        have HCL := hide hcl
        generalize (wr.setCells g (i * 2) (Builtin.zeroCells (Value.agg #[.int .i64 0, .int .i64 0]).cells (l.length - i)).toList) = Z at *
        clear hinv hown own2 hgr oy ey gy oc hcl
        go_wp2
        go_ret
        refine ⟨_, rfl, ?_, rfl, unhide GY⟩
        unfold OwnTb
        rw [(unhide DN).2]
        have h9 := unhide OC
        have e9 : (rowC tbC cur).take (i * 2) = rowC tbC (cur.take i) := rowC_take tbC_len (by rw [unhide HCL]; omega)
        rw [e9, (unhide DN).1] at h9
        exact h9
end Go.Proofs.Ytmedhmgihfenhaa
