/- Several texts in one. -/
import Derived.Test.YtlngjflhbkannaaGreatIntRow
import Derived.Test.YtlngjflhbkannaaGreatBoxA
import Derived.Lib.SliceRun
import Derived.Test.YtlngjflhbkannaaGreatBoxNameS
import Derived.Test.YtlngjflhbkannaaGreatBoxI
import Derived.Test.YtlngjflhbkannaaGreatForgetS
import Derived.Test.YtlngjflhbkannaaGreatTv
import Derived.Test.YtlngjflhbkannaaGreatFfA
import Derived.Test.YtlngjflhbkannaaGreatDwB
import Derived.Test.YtlngjflhbkannaaGreatUiA
namespace Go.Proofs.YtlngjflhbkannaaGreat
open Go.RowKit
set_option linter.unusedVariables false

theorem own_cells {base g n cap size : Nat} {e : TypeId} : ∀ (cs : List Value) (o : Nat) (w : World) (xs : List Value), w.ownsRow base e size (.slice (some ⟨g, 0, none⟩) n cap) n xs → ∃ ys, (w.setCells g o cs).ownsRow base e size (.slice (some ⟨g, 0, none⟩) n cap) n ys ∧ ys.take o = xs.take o ∧ w.grownBy (w.setCells g o cs) (some g) := by
 intro cs
 induction cs with
 | nil => intro o w xs h; exact ⟨xs, h, rfl, g_self _ _⟩
 | cons v r ih =>
  intro o w xs h
  have h1 := World.ownsRow.stored h o v
  obtain ⟨ys, h2, h3, h4⟩ := ih (o + 1) _ _ h1.1
  refine ⟨ys, h2, ?_, g_join h1.2 h4⟩
  have e1 : ys.take o = (ys.take (o + 1)).take o := by rw [List.take_take]; congr 1; omega
  rw [e1, h3, List.take_take, Nat.min_eq_left (by omega), List.take_set_of_le (by omega)]
theorem own_cut {w : World} {base g n cap size i : Nat} {e : TypeId} {xs : List Value} (h : w.ownsRow base e size (.slice (some ⟨g, 0, none⟩) n cap) n xs) (hi : i ≤ n) : w.ownsRow base e size (.slice (some ⟨g, 0, none⟩) i cap) i (xs.take (i * size)) := by
 rcases h.2 with ⟨h', _⟩ | ⟨g', cap', cur, h', hb, hg, hnc, hcm, hcs, ht⟩
 ·cases h'
 ·cases h'
  have hle : i * size ≤ n * size := Nat.mul_le_mul_right _ hi
  refine ⟨by rw [List.length_take, h.1]; omega, .inr ⟨g, cap, cur, rfl, hb, hg, by omega, hcm, hcs, ?_⟩⟩
  rw [← ht, List.take_take, Nat.min_eq_left hle]
theorem run_clear_row {P : Program} (w : World) (t e ty : TypeId) (z : Value) (ht : P.underlying t = some (.slice e)) (hv : ∀ w, (zeroValue e).run P w = .ok z w) (b o n c : Nat) (hn : 0 < n)
  (hc : ∀ j, j < n * z.cells.size → (w.cell? ⟨b, o + j, none⟩).isSome = true) (hf : ∀ j, j < n * z.cells.size → w.frozen? ⟨b, o + j, none⟩ = false) (h1 : ∀ v ∈ (Builtin.zeroCells z.cells n).toList, v.oneCell' = true) :
  (Builtin.clear_ #[t] ty #[.slice (some ⟨b, o, none⟩) n c]).run P w = .ok (.tuple #[]) (w.setCells b o (Builtin.zeroCells z.cells n).toList) := by
 have hlen : (Builtin.zeroCells z.cells n).toList.length = n * z.cells.size := by simp [Builtin.zeroCells]
 have hst := run_storeCells_cells (P := P) b o (Builtin.zeroCells z.cells n).toList 0 w (by rw [hlen]; simpa using hc) (by rw [hlen]; simpa using hf) h1
 simp only [Nat.add_zero] at hst
 obtain ⟨m, rfl⟩ : ∃ m, n = m + 1 := ⟨n - 1, by omega⟩
 simp [Builtin.clear_, run_underlying ht, hv, hst]
namespace Plain
variable {α : Type}
/-- What is under way: of the first j those that stay lie at the beginning; from j on all is as it was. -/
structure GoInv (p : α → Bool) (l cur : List α) (i j : Nat) : Prop where
 len : cur.length = l.length
 lt : i < j
 le : j ≤ l.length
 low : cur.take i = (l.take j).filter p
 high : cur.drop j = l.drop j
theorem GoInv.start {p : α → Bool} {l : List α} {k : Nat} (hk : k < l.length) (h : ∀ j (hj : j < k), p (l[j]'(by omega)) = true) (hn : p l[k] = false) : GoInv p l l k (k + 1) := by
 refine ⟨rfl, by omega, hk, ?_, rfl⟩
 rw [List.take_add_one, List.getElem?_eq_getElem hk, List.filter_append]
 have e1 : (l.take k).filter p = l.take k := by
  rw [List.filter_eq_self]
  intro a ha
  obtain ⟨j, hj, rfl⟩ := List.mem_take_iff_getElem.1 ha
  exact h j (by omega)
 rw [e1]
 simp [hn]
theorem GoInv.at {p : α → Bool} {l cur : List α} {i j : Nat} (h : GoInv p l cur i j) (hj : j < l.length) : cur[j]? = some l[j] := by
 have : (cur.drop j)[0]? = (l.drop j)[0]? := by rw [h.high]
 rw [List.getElem?_drop, List.getElem?_drop, Nat.add_zero] at this
 rw [this, List.getElem?_eq_getElem hj]
theorem GoInv.keep {p : α → Bool} {l cur : List α} {i j : Nat} (h : GoInv p l cur i j) (hj : j < l.length) (hp : p l[j] = true) : GoInv p l (cur.set i l[j]) (i + 1) (j + 1) := by
 have hil : i < cur.length := by have := h.len; have := h.lt; omega
 have := h.lt
 refine ⟨by simp [h.len], by omega, by omega, ?_, ?_⟩
 ·rw [List.take_add_one, List.getElem?_set_self hil, List.take_set_of_le (Nat.le_refl _), h.low, List.take_add_one, List.getElem?_eq_getElem hj, List.filter_append]
  simp [hp]
 ·rw [List.drop_set_of_lt (by omega)]
  have : cur.drop (j + 1) = (cur.drop j).drop 1 := by rw [List.drop_drop]
  rw [this, h.high, List.drop_drop]
theorem GoInv.skip {p : α → Bool} {l cur : List α} {i j : Nat} (h : GoInv p l cur i j) (hj : j < l.length) (hp : p l[j] = false) : GoInv p l cur i (j + 1) := by
 have := h.lt
 refine ⟨h.len, by omega, by omega, ?_, ?_⟩
 ·rw [h.low, List.take_add_one, List.getElem?_eq_getElem hj, List.filter_append]
  simp [hp]
 ·have : cur.drop (j + 1) = (cur.drop j).drop 1 := by rw [List.drop_drop]
  rw [this, h.high, List.drop_drop]
theorem GoInv.done {p : α → Bool} {l cur : List α} {i : Nat} (h : GoInv p l cur i l.length) : cur.take i = l.filter p ∧ (l.filter p).length = i := by
 have h1 := h.low
 rw [List.take_length] at h1
 refine ⟨h1, ?_⟩
 rw [← h1, List.length_take, h.len]
 have := h.lt
 omega
end Plain
end Go.Proofs.YtlngjflhbkannaaGreat

namespace Go.Proofs.YtlngjflhbkannaaGreat
open Go.RowKit
open Plain
set_option linter.unusedVariables false
set_option linter.unusedSimpArgs false

theorem zeroTomb (w : World) : (zeroValue 117).run Tryz.prog w = .ok (.agg #[.int .i64 0, .int .i64 0]) w := by kernel_rfl
theorem rowC_take {α : Type} {enc : α → List Value} {k : Nat} (hk : ∀ a, (enc a).length = k) {l : List α} {i : Nat} (hi : i ≤ l.length) : (rowC enc l).take (i * k) = rowC enc (l.take i) := by
 have e : rowC enc l = rowC enc (l.take i) ++ rowC enc (l.drop i) := by rw [← rowC_append, List.take_append_drop]
 have hl : (rowC enc (l.take i)).length = i * k := by rw [rowC_len hk, List.length_take, Nat.min_eq_left hi]
 rw [e, ← hl, List.take_left']
 rfl
theorem forget1_any (f : Tb) (c : Nat) (upto : Int) (w : World) (h : HasObj w c 3 [.int .i64 upto]) :
  Calls Tryz.prog 137 #[.agg #[.int .i64 f.uid, .int .i64 f.mod], .pointer (some ⟨c, 0, none⟩)] w fun e w' => e = .returned (.bool (decide (f.mod ≤ upto))) ∧ Below w.heap.size w w' := by
 obtain ⟨X, hX⟩ : ∃ X, X = w.alloc (.cells ([.int .i64 f.uid, .int .i64 f.mod] : List Value).toArray 117) := ⟨_, rfl⟩
 have x0 : HasObj X w.heap.size 117 [.int .i64 f.uid, .int .i64 f.mod] := by rw [hX]; exact HasObj.new _ _ _
 have hbX : Below w.heap.size w X := by rw [hX]; exact (Below.refl _ _).alloc (Nat.le_refl _) _
 have c0 := (h.ups hbX).cell 0 rfl; have k1 := x0.cell 1 rfl; have HX := hX.symm; have BX := hide hbX; clear hX x0 hbX h
 go_enter Tryz.func137, Tryz.ntmps137
 go_wp2
 go_ret
 exact ⟨rfl, uh BX⟩
abbrev forgets (c : Nat) : Value := .func (.func 137) #[] #[.pointer (some ⟨c, 0, none⟩)]
set_option maxHeartbeats 2000000 in
set_option maxRecDepth 100000 in
theorem indexTombs_any (l : List Tb) (v : Value) (B c : Nat) (upto : Int) (w : World) (hs : l.length ≤ 4000000) (hc : HasObj w c 3 [.int .i64 upto]) (h : OwnTb B w v l) :
  Calls Tryz.prog 162 #[v, forgets c] w fun e w' => (∃ r : Int, e = .returned (.int .i64 r) ∧ ((r = -1 ∧ ∀ j (hj : j < l.length), upto < l[j].mod) ∨ ∃ k : Nat, r = k ∧ ∃ hk : k < l.length, (∀ j (hj : j < k), upto < l[j].mod) ∧ l[k].mod ≤ upto)) ∧ Below w.heap.size w w' := by
 obtain ⟨a0, c0, rfl⟩ := g_shape h
 have HC := hide hc
 have HO := hide (fun (W : World) hb k f hx => tb_read (W := W) h hb (k := k) (f := f) hx)
 clear h hc
 go_enter Tryz.func162, Tryz.ntmps162
 go_wp2
 go_loopw [8] (fun i wr => ∃ k : Nat, k ≤ l.length ∧ i = .int .i64 k ∧ (∀ j (hj : j < l.length), j < k → upto < l[j].mod) ∧ Below w.heap.size w wr) (fun i _ => l.length - (intOf i).toNat)
 case atStart => exact ⟨0, Nat.zero_le _, rfl, fun j _ hj => by omega, Below.refl _ _⟩
 case round =>
  obtain ⟨k, hk, rfl, hall, hbel⟩ := hrel
  by_cases hlt : k < l.length
  ·have hgk : l[k]? = some l[k] := List.getElem?_eq_getElem hlt
   obtain ⟨g, c', e, hg, c0, c1⟩ := uh HO wr hbel k _ hgk
   cases e
   have ON : Hid (upto < l[k].mod → ∀ j (hj : j < l.length), j < k + 1 → upto < l[j].mod) := fun h j hj hjk => by
    by_cases e : j = k
    ·subst e; exact h
    ·exact hall j hj (by omega)
   have YES : Hid (l[k].mod ≤ upto → ∃ k' : Nat, (k : Int) = k' ∧ ∃ hk : k' < l.length, (∀ j (hj : j < k'), upto < l[j].mod) ∧ l[k'].mod ≤ upto) := fun h => ⟨k, rfl, hlt, fun j hj => hall j (by omega) hj, h⟩
   generalize l[k] = f at *
   have i1 : (0 : Int) ≤ (k : Int) := by omega
   have i2 : (k : Int) < (l.length : Int) := by omega
   have Q := hide (forget1_any f c upto wr ((uh HC).up hbel (uh HC).lt)); have BB := hide hbel; clear hbel hall hgk; go_wp2_with fail
   refine (uh Q).mono ?_
   rintro e w1 ⟨rfl, hb1⟩
   have B1 := hide (below_y (uh BB) hb1); clear hb1 Q c0 c1
   by_cases hm : upto < f.mod
   ·have dm : decide (f.mod ≤ upto) = false := decide_eq_false (by omega)
    have on := hide (uh ON hm)
    rw [dm]
    clear hm dm ON YES
    go_wp2
    go_roundw
    case rel => exact ⟨k + 1, by omega, by go_num, uh on, uh B1⟩
    case measure => simp [intOf]; omega
   ·have dm : decide (f.mod ≤ upto) = true := decide_eq_true (by omega)
    have yes := hide (uh YES (by omega))
    rw [dm]
    clear hm dm ON YES
    go_wp2
    go_ret
    exact ⟨⟨_, rfl, .inr (uh yes)⟩, uh B1⟩
  ·have V : Hid (∀ j (hj : j < l.length), upto < l[j].mod) := fun j hj => hall j hj (by omega)
   obtain rfl : k = l.length := by omega
   have BB := hide hbel; clear hbel hall
   go_wp2
   go_ret
   exact ⟨⟨_, rfl, .inl ⟨rfl, uh V⟩⟩, uh BB⟩
set_option maxHeartbeats 4000000 in
set_option maxRecDepth 100000 in
theorem deleteTombs_any (l : List Tb) (v : Value) (B c : Nat) (upto : Int) (w : World) (hs : l.length ≤ 4000000) (hc : HasObj w c 3 [.int .i64 upto]) (h : OwnTb B w v l) :
  Calls Tryz.prog 136 #[v, forgets c] w fun e w' => ∃ v', e = .returned v' ∧ OwnTb B w' v' (l.filter (fun t => decide (upto < t.mod))) ∧ v'.ownBlock = v.ownBlock ∧ w.grownBy w' v.ownBlock := by
 have IX := hide (indexTombs_any l v B c upto w hs hc h); have HO := hide h; have HC := hide hc; clear hc
 obtain ⟨a0, c0, rfl⟩ := g_shape h
 clear h
 go_enter Tryz.func136, Tryz.ntmps136
 go_wp2_with fail
 refine (uh IX).mono ?_
 rintro e w1 ⟨⟨r, rfl, hr⟩, hb1⟩
 rcases hr with ⟨rfl, hall⟩ | ⟨k, rfl, hk, hlow, hat⟩
 ·have EF : Hid (l.filter (fun t => decide (upto < t.mod)) = l) := List.filter_eq_self.2 (fun t ht => by
   obtain ⟨j, hj, rfl⟩ := List.getElem_of_mem ht
   exact decide_eq_true (hall j hj))
  have BB := hide hb1; clear hall hb1 IX
  go_wp2
  go_ret
  exact ⟨_, rfl, by rw [uh EF]; exact (uh HO).up (uh BB), rfl, g_grown (uh BB) _⟩
 ·rcases (uh HO).2 with ⟨_, h0⟩ | ⟨g, cap, cur0, e, hgB, _⟩
  ·omega
  cases e
  have INV := hide (GoInv.start (p := fun t : Tb => decide (upto < t.mod)) hk (fun j hj => decide_eq_true (hlow j hj)) (decide_eq_false (by omega)))
  have HO1 := hide ((uh HO).up hb1); have GB := hide (g_grown hb1 (some g))
  have n1 : ((k : Int) == -1) = false := beq_eq_false_iff_ne.2 (by omega)
  have n2 : IntKind.i64.wrap ((k : Int) + 1) = (k : Int) + 1 := by rw [IntKind.wrap_i64]; omega
  clear hlow hat hb1 IX
  go_wp2
  clear n1 n2
  go_loopw [5, 6] (fun iv jv wr => ∃ (i j : Nat) (cur : List Tb), iv = .int .i64 i ∧ jv = .int .i64 j ∧ GoInv (fun t : Tb => decide (upto < t.mod)) l cur i j ∧ OwnTb B wr (.slice (some ⟨g, 0, none⟩) l.length c0) cur ∧ w.grownBy wr (some g)) (fun _ jv _ => l.length - (intOf jv).toNat)
  case atStart => exact ⟨k, k + 1, l, rfl, by go_num, uh INV, uh HO1, uh GB⟩
  clear INV HO1 GB
  case round =>
   obtain ⟨i, j, cur, rfl, rfl, hinv, hown, hgr⟩ := hrel
   have hli := hinv.lt; have hle := hinv.le; have hcl := hinv.len
   have own2 : wr.ownsRow B 117 2 (.slice (some ⟨g, 0, none⟩) l.length c0) l.length (rowC tbC cur) := by have h9 := hown; unfold OwnTb at h9; rw [hcl] at h9; exact h9
   by_cases hlt : j < l.length
   ·obtain ⟨d0, d1⟩ := tb_cells own2 (hinv.at hlt) hlt
    have KEEP := hide (fun h => hinv.keep hlt h)
    have SKIP := hide (fun h => hinv.skip hlt h)
    have hgi : cur[i]? = some (cur[i]'(by omega)) := List.getElem?_eq_getElem (by omega)
    generalize l[j] = f at *
    generalize cur[i]'(by omega) = x at *
    obtain ⟨Y, hY⟩ : ∃ Y, Y = wr.alloc (.cells ([.int .i64 f.uid, .int .i64 f.mod] : List Value).toArray 117) := ⟨_, rfl⟩
    have y0 : HasObj Y wr.heap.size 117 [.int .i64 f.uid, .int .i64 f.mod] := by rw [hY]; exact HasObj.new _ _ _
    have hbY : Below wr.heap.size wr Y := by rw [hY]; exact (Below.refl _ _).alloc (Nat.le_refl _) _
    have HY := hY.symm
    have hcW : HasObj wr c 3 [.int .i64 upto] := (uh HC).kept hgr (fun e => (uh HC).not_row (by decide) (uh HO) e.symm)
    have Q := hide (forget1_any f c upto Y (hcW.ups hbY)); have z0 := y0.cell 0 rfl; have z1 := y0.cell 1 rfl; have Y0 := hide y0; have BY := hide hbY; have OW := hide own2; have GR := hide hgr; have HGI := hide hgi
    have i1 : (0 : Int) ≤ (j : Int) := by omega
    have i2 : (j : Int) < (l.length : Int) := by omega
    have i3 : (0 : Int) ≤ (i : Int) := by omega
    have i4 : (i : Int) < (l.length : Int) := by omega
    have n1 : IntKind.i64.wrap ((i : Int) + 1) = (i : Int) + 1 := by rw [IntKind.wrap_i64]; omega
    have n2 : IntKind.i64.wrap ((j : Int) + 1) = (j : Int) + 1 := by rw [IntKind.wrap_i64]; omega
    have HCL := hide hcl; clear hinv hown own2 hgr hY y0 hbY hcW hgi hcl; go_wp2_with fail; clear HY z0 z1 d0 d1
    refine (uh Q).mono ?_
    rintro e w2 ⟨rfl, hb2⟩
    have B2 := below_y (uh BY) hb2; have own2 := g_stays (uh OW) B2; have gr2 := hide (g_then (uh GR) B2); have y2 := (uh Y0).ups hb2; have z0 := y2.cell 0 rfl; have z1 := y2.cell 1 rfl; clear hb2 Q Y0 BY y2
    by_cases hm : upto < f.mod
    ·have dm : decide (f.mod ≤ upto) = false := decide_eq_false (by omega)
     have on := hide (uh KEEP (decide_eq_true hm))
     rw [dm]
     have f0 := own2.frozenAt (i * 2); have f1 := own2.frozenAt (i * 2 + 1)
     obtain ⟨d0, d1⟩ := tb_cells own2 (uh HGI) (by omega)
     have st0 := own2.stored (i * 2) (.int .i64 f.uid)
     rw [show i * 2 = i * 2 + 0 from rfl, rowC_set tbC_len (uh HGI) (j := 0) (by decide) ⟨f.uid, x.mod⟩ (.int .i64 f.uid) rfl] at st0
     have st1 := st0.1.stored (i * 2 + 1) (.int .i64 f.mod)
     rw [rowC_set2 tbC_len (uh HGI) ⟨f.uid, x.mod⟩ (j := 1) (by decide) ⟨f.uid, f.mod⟩ (.int .i64 f.mod) rfl] at st1
     rw [show (⟨f.uid, f.mod⟩ : Tb) = f from rfl] at st1
     have HST := hide st1.1; have G3 := hide (g_store (j := i * 2 + 1) (g_store (j := i * 2) (uh gr2) (.int .i64 f.uid)) (.int .i64 f.mod)); clear hm dm KEEP SKIP own2 st0 st1 B2
     go_wp2
     go_roundw
     case rel =>
      refine ⟨i + 1, j + 1, _, by go_num, by go_num, uh on, ?_, uh G3⟩
      have h9 := uh HST
      unfold OwnTb
      rw [List.length_set, uh HCL]
      exact h9
     case measure => simp [intOf]; omega
    ·have dm : decide (f.mod ≤ upto) = true := decide_eq_true (by omega)
     have on := hide (uh SKIP (decide_eq_false hm))
     rw [dm]
     have O2 := hide own2; clear hm dm KEEP SKIP own2 B2
     go_wp2
     go_roundw
     case rel =>
      refine ⟨i, j + 1, _, rfl, by go_num, uh on, ?_, uh gr2⟩
      have h9 := uh O2
      unfold OwnTb
      rw [uh HCL]
      exact h9
     case measure => simp [intOf]; omega
   ·obtain rfl : j = l.length := by omega
    have DN := hide hinv.done
    have hcap : l.length ≤ c0 := by
     rcases own2.2 with ⟨h1, _⟩ | ⟨_, _, _, h1, _, _, h2, _⟩
     ·cases h1
     ·cases h1; exact h2
    have i3 : (0 : Int) ≤ (i : Int) := by omega
    have i4 : (i : Int) ≤ (l.length : Int) := by omega
    have hcl2 := fun ty => run_clear_row (P := Tryz.prog) wr 48 117 ty (.agg #[.int .i64 0, .int .i64 0]) Tryz.underlying48 zeroTomb g (i * 2) (l.length - i) (c0 - i) (by omega) (fun j hj => by
     rw [own2.cellAt (i * 2 + j) (by simp [Value.cells] at hj; omega)]
     rw [List.getElem?_eq_getElem (by rw [rowC_len tbC_len, hcl]; simp [Value.cells] at hj; omega)]; rfl) (fun j hj => own2.frozenAt _) (by
     intro u hu
     simp [Builtin.zeroCells, Value.cells] at hu
     obtain ⟨a, ha, rfl⟩ := hu
     rcases Nat.mod_two_eq_zero_or_one a with h | h <;> rw [h] <;> rfl)
    obtain ⟨ys, oy, ey, gy⟩ := own_cells (Builtin.zeroCells (Value.agg #[.int .i64 0, .int .i64 0]).cells (l.length - i)).toList (i * 2) wr _ own2
    have oc := own_cut oy (i := i) (by omega)
    rw [ey] at oc
    have OC := hide oc; have GY := hide (g_join hgr gy); have HCL := hide hcl
    generalize (wr.setCells g (i * 2) (Builtin.zeroCells (Value.agg #[.int .i64 0, .int .i64 0]).cells (l.length - i)).toList) = Z at *
    clear hinv hown own2 hgr oy ey gy oc hcl
    go_wp2
    go_ret
    refine ⟨_, rfl, ?_, rfl, uh GY⟩
    unfold OwnTb
    rw [(uh DN).2]
    have h9 := uh OC
    have e9 : (rowC tbC cur).take (i * 2) = rowC tbC (cur.take i) := rowC_take tbC_len (by rw [uh HCL]; omega)
    rw [e9, (uh DN).1] at h9
    exact h9
end Go.Proofs.YtlngjflhbkannaaGreat

namespace Go.Proofs.YtlngjflhbkannaaGreat
open Go.RowKit
open Plain
set_option linter.unusedVariables false
set_option linter.unusedSimpArgs false

theorem GrownBut.drew {w w' : World} {S : Nat → Prop} (h : GrownBut w w' S) : GrownBut w w'.drew S := ⟨h.os, h.tape, h.output, h.size, h.block⟩
set_option maxHeartbeats 2000000 in
set_option maxRecDepth 100000 in
theorem forget_any (q B : Nat) (v0 v1 v2 v3 v4 v5 tv : Value) (hor upto : Int) (l : List Tb) (w : World) (hs : l.length ≤ 4000000) (hq : HasObj w q 97 [v0, v1, v2, v3, v4, v5, tv, .int .i64 hor]) (h : OwnTb B w tv l) :
  Calls Tryz.prog 94 #[.pointer (some ⟨q, 0, none⟩), .int .i64 upto] w fun e w' => e = .returned (.tuple #[]) ∧ ∃ tv', HasObj w' q 97 [v0, v1, v2, v3, v4, v5, tv', .int .i64 (if hor < upto then upto else hor)] ∧ OwnTb B w' tv' (l.filter (fun t => decide (upto < t.mod))) ∧ tv'.ownBlock = tv.ownBlock ∧ GrownBut w w' (fun k => k = q ∨ tv.ownBlock = some k) := by
 obtain ⟨at0, ct0, rfl⟩ := g_shape h
 obtain ⟨X, hX⟩ : ∃ X, X = w.alloc (.cells ([.int .i64 upto] : List Value).toArray 3) := ⟨_, rfl⟩
 have x0 : HasObj X w.heap.size 3 [.int .i64 upto] := by rw [hX]; exact HasObj.new _ _ _
 have hbX : Below w.heap.size w X := by rw [hX]; exact (Below.refl _ _).alloc (Nat.le_refl _) _
 have nq : w.heap.size ≠ q := Nat.ne_of_gt hq.lt
 have q0 := hq.ups hbX; have k6 := q0.cell 6 rfl; have HX := hX.symm; have X0 := hide x0; have Q0 := hide q0; have BX := hide hbX; have OX := hide (h.up hbX); have SX := hide hbX.size; have D := hide (deleteTombs_any l _ B w.heap.size upto X hs x0 (h.up hbX)); clear hX x0 hbX h q0 hq
 go_enter Tryz.func94, Tryz.ntmps94
 go_wp2_with fail; clear HX k6
 refine (uh D).mono ?_
 rintro e w1 ⟨v', rfl, ov, eb, hg1⟩
 have q1 := (uh Q0).kept hg1 (fun e => (uh Q0).not_row (by decide) (uh OX) e.symm)
 have x1 := (uh X0).kept hg1 (fun e => (uh X0).not_row (by decide) (uh OX) e.symm)
 obtain ⟨a1, c1, rfl⟩ := g_shape ov
 have g1 : GrownBut w w1 (fun k => k = q ∨ (Value.slice at0 l.length ct0).ownBlock = some k) := ((GrownBut.below (uh BX) rfl).then (GrownBut.of hg1)).mono (fun k hk hx => by rcases hx with hx | hx; exact absurd hx id; exact .inr hx)
 have f6 := q1.frozen 6; have k6 := q1.cell 6 rfl
 obtain ⟨Y, hY⟩ : ∃ Y, Y = w1.setCell ⟨q, 6, none⟩ (.slice a1 (l.filter (fun t => decide (upto < t.mod))).length c1) := ⟨_, rfl⟩
 have q2 := q1.set 6 (.slice a1 (l.filter (fun t => decide (upto < t.mod))).length c1)
 have x2 := x1.other (j := 6) nq (.slice a1 (l.filter (fun t => decide (upto < t.mod))).length c1)
 have o2 := q1.row (j := 6) (by decide) ov (.slice a1 (l.filter (fun t => decide (upto < t.mod))).length c1)
 have g2 := g1.then (GrownBut.of (g_store (j := 6) (g_self w1 (some q)) (.slice a1 (l.filter (fun t => decide (upto < t.mod))).length c1)))
 rw [← hY] at q2 x2 o2 g2
 have HY := hY.symm; have k7 := q2.cell 7 rfl; have f7 := q2.frozen 7; have kx := x2.cell 0 rfl; have Q2 := hide q2; have O2 := hide o2; have G2 := hide g2; have EB := hide eb; clear D q1 x1 ov eb hg1 g1 hY q2 x2 o2 g2 OX X0 Q0 BX
 obtain ⟨l2, hl2⟩ : ∃ x, x = l.filter (fun t => decide (upto < t.mod)) := ⟨_, rfl⟩
 rw [← hl2] at HY Q2 O2 EB ⊢
 have HL := hide hl2; clear hl2
 by_cases hh : hor < upto
 ·have dh : decide (hor < upto) = true := decide_eq_true hh
  have VV : Hid ((if hor < upto then upto else hor) = upto) := if_pos hh
  have m1 : max hor upto = upto := by omega
  have Q3 := hide ((uh Q2).set 7 (.int .i64 upto))
  have O3 := hide ((uh Q2).row (j := 7) (by decide) (uh O2) (.int .i64 upto))
  have G3 : Hid (GrownBut w (Y.setCell ⟨q, 7, none⟩ (.int .i64 upto)).drew (fun k => k = q ∨ (Value.slice at0 l.length ct0).ownBlock = some k)) := GrownBut.drew (((uh G2).then (GrownBut.of (w' := Y.setCell ⟨q, 7, none⟩ (.int .i64 upto)) (g_store (j := 7) (g_self Y (some q)) (.int .i64 upto)))).mono (fun k hk hx => by
   rcases hx with (hx | hx) | hx
   ·exact hx
   ·exact .inl (Option.some.inj hx).symm
   ·exact .inl (Option.some.inj hx).symm))
  clear Q2 O2 G2 hh
  go_wp2
  go_region
  go_end0
  exact ⟨rfl, _, by rw [uh VV]; exact (uh Q3).drewn, by rw [← uh HL]; exact uh O3, uh EB, uh G3⟩
 ·have dh : decide (hor < upto) = false := decide_eq_false hh
  have VV : Hid ((if hor < upto then upto else hor) = hor) := if_neg hh
  have m1 : max hor upto = hor := by omega
  have Q3 := hide ((uh Q2).set 7 (.int .i64 hor))
  have O3 := hide ((uh Q2).row (j := 7) (by decide) (uh O2) (.int .i64 hor))
  have G3 : Hid (GrownBut w (Y.setCell ⟨q, 7, none⟩ (.int .i64 hor)).drew (fun k => k = q ∨ (Value.slice at0 l.length ct0).ownBlock = some k)) := GrownBut.drew (((uh G2).then (GrownBut.of (w' := Y.setCell ⟨q, 7, none⟩ (.int .i64 hor)) (g_store (j := 7) (g_self Y (some q)) (.int .i64 hor)))).mono (fun k hk hx => by
   rcases hx with (hx | hx) | hx
   ·exact hx
   ·exact .inl (Option.some.inj hx).symm
   ·exact .inl (Option.some.inj hx).symm))
  clear Q2 O2 G2 hh
  go_wp2
  go_region
  go_end0
  exact ⟨rfl, _, by rw [uh VV]; exact (uh Q3).drewn, by rw [← uh HL]; exact uh O3, uh EB, uh G3⟩

set_option maxHeartbeats 8000000 in
set_option maxRecDepth 100000 in
theorem impl_ForgetTombs_any (b : Bx) (m t : Value) (B : Nat) (upto : Int) (w : World) (hf : FitBx b) (h : OwnBx B w m t b) :
  Calls Tryz.prog 32 #[boxV b m t, .int .i64 upto] w fun e w' => ∃ m' t', e = .returned (boxV (forgetV b upto) m' t') ∧ OwnBx w.heap.size w' m' t' (forgetV b upto) ∧ Below w.heap.size w w' := by
 have hl2 := hf.tombs; have HF := hide hf; have HO := hide h
 obtain ⟨am, cm, rfl⟩ := g_shape h.1
 obtain ⟨at1, ct1, rfl⟩ := g_shape h.2
 have V1 := hide (fun hq => forgetV_no1 (b := b) (upto := upto) hq)
 have V2 := hide (fun hq => forgetV_no2 (b := b) (upto := upto) hq)
 have V3 := hide (fun h1 h2 => forgetV_yes (b := b) (upto := upto) h1 h2)
 clear h hf; have BB := hide (Below.refl w.heap.size w)
 obtain ⟨w1, hP⟩ : ∃ X, X = w.alloc (.cells ([.string b.name, .int .i64 b.valid, .int .i64 b.next, .int .i64 b.mod, .slice am b.mails.length cm, .slice at1 b.tombs.length ct1, .int .i64 b.hor] : List Value).toArray 50) := ⟨_, rfl⟩
 have Px : HasObj w1 w.heap.size 50 [.string b.name, .int .i64 b.valid, .int .i64 b.next, .int .i64 b.mod, .slice am b.mails.length cm, .slice at1 b.tombs.length ct1, .int .i64 b.hor] := by rw [hP]; exact HasObj.new _ _ _
 have hbn : Below w.heap.size w w1 := by rw [hP]; exact (Below.refl _ _).alloc (Nat.le_refl _) _
 have loP : w.heap.size ≤ w.heap.size := (uh BB).size
 have EP := hP.symm; clear hP; have sz1 := hide (hbn.size); replace BB := hide (below_y (uh BB) hbn); clear hbn; have P := hide Px; clear Px
 obtain ⟨w2, hR⟩ : ∃ X, X = w1.alloc (.cells ([.string ⟨#[]⟩, .int .i64 0, .int .i64 0, .int .i64 0, .slice none 0 0, .slice none 0 0, .int .i64 0] : List Value).toArray 50) := ⟨_, rfl⟩
 have Rx : HasObj w2 w1.heap.size 50 [.string ⟨#[]⟩, .int .i64 0, .int .i64 0, .int .i64 0, .slice none 0 0, .slice none 0 0, .int .i64 0] := by rw [hR]; exact HasObj.new _ _ _
 have hbn : Below w1.heap.size w1 w2 := by rw [hR]; exact (Below.refl _ _).alloc (Nat.le_refl _) _
 have nePR : w.heap.size ≠ w1.heap.size := Nat.ne_of_lt (uh P).lt
 have loR : w.heap.size ≤ w1.heap.size := (uh BB).size
 have ER := hR.symm; clear hR; replace P := hide ((uh P).ups hbn); have sz2 := hide (hbn.size); replace BB := hide (below_y (uh BB) hbn); clear hbn; have R := hide Rx; clear Rx; have Pc0_1 := (uh P).cell 0 rfl; have Pc1_1 := (uh P).cell 1 rfl; have Pc2_1 := (uh P).cell 2 rfl; have Pc3_1 := (uh P).cell 3 rfl; have Pc4_1 := (uh P).cell 4 rfl; have Pc5_1 := (uh P).cell 5 rfl; have Pc6_1 := (uh P).cell 6 rfl
 go_enter Tryz.func32, Tryz.ntmps32
 go_wp2_with fail; clear Pc0_1 Pc1_1 Pc2_1 Pc3_1 Pc4_1 Pc5_1 Pc6_1 EP ER
 refine (impl_BoxOk_any b _ _ B _ (uh HF) ((uh HO).up (uh BB))).mono ?_
 rintro e w3 ⟨rfl, hb⟩
 replace P := hide ((uh P).ups hb); replace R := hide ((uh R).ups hb); have sz3 := hide (hb.size); replace BB := hide (below_y (uh BB) hb); clear hb
 cases hq1 : boxOk b with
 | false =>
  have Pc0_2 := (uh P).cell 0 rfl; have Pc1_2 := (uh P).cell 1 rfl; have Pc2_2 := (uh P).cell 2 rfl; have Pc3_2 := (uh P).cell 3 rfl; have Pc4_2 := (uh P).cell 4 rfl; have Pc5_2 := (uh P).cell 5 rfl; have Pc6_2 := (uh P).cell 6 rfl; go_wp2_with fail; clear Pc0_2 Pc1_2 Pc2_2 Pc3_2 Pc4_2 Pc5_2 Pc6_2
  refine (copiedBox_any b _ _ B _ (uh HF) ((uh HO).up (uh BB))).mono ?_
  rintro e w4 ⟨vm, vt, rfl, ob, hb⟩
  obtain ⟨am7, cm7, rfl⟩ := g_shape ob.1
  obtain ⟨at7, ct7, rfl⟩ := g_shape ob.2
  replace P := hide ((uh P).ups hb); replace R := hide ((uh R).ups hb); have sz4 := hide (hb.size); replace BB := hide (below_y (uh BB) hb); clear hb; have OM7 := hide ob.1; have OT7 := hide ob.2; clear ob; have V := hide (uh V1 hq1); have Rf0 := (uh R).frozen 0; have Rf1 := (uh R).frozen 1; have Rf2 := (uh R).frozen 2; have Rf3 := (uh R).frozen 3; have Rf4 := (uh R).frozen 4; have Rf5 := (uh R).frozen 5; have Rf6 := (uh R).frozen 6; have Re0 := (uh R).cell 0 rfl; have Re1 := (uh R).cell 1 rfl; have Re2 := (uh R).cell 2 rfl; have Re3 := (uh R).cell 3 rfl; have Re4 := (uh R).cell 4 rfl; have Re5 := (uh R).cell 5 rfl; have Re6 := (uh R).cell 6 rfl; have F := hide (fill7 (uh R) (.string b.name) (.int .i64 b.valid) (.int .i64 b.next) (.int .i64 b.mod) (.slice am7 b.mails.length cm7) (.slice at7 b.tombs.length ct7) (.int .i64 b.hor))
  go_wp2
  obtain ⟨U, hU⟩ : ∃ U, U = (((((((w4.setCell ⟨w1.heap.size, 0, none⟩ (.string b.name)).setCell ⟨w1.heap.size, 1, none⟩ (.int .i64 b.valid)).setCell ⟨w1.heap.size, 2, none⟩ (.int .i64 b.next)).setCell ⟨w1.heap.size, 3, none⟩ (.int .i64 b.mod)).setCell ⟨w1.heap.size, 4, none⟩ (.slice am7 b.mails.length cm7)).setCell ⟨w1.heap.size, 5, none⟩ (.slice at7 b.tombs.length ct7)).setCell ⟨w1.heap.size, 6, none⟩ (.int .i64 b.hor)) := ⟨_, rfl⟩
  have F := uh F
  rw [← hU] at F ⊢
  have v0 := F.obj.cell 0 rfl; have v1 := F.obj.cell 1 rfl; have v2 := F.obj.cell 2 rfl; have v3 := F.obj.cell 3 rfl; have v4 := F.obj.cell 4 rfl; have v5 := F.obj.cell 5 rfl; have v6 := F.obj.cell 6 rfl
  refine bodyPost_ret (by simp [results, Tryz.results32, go_sem, v0, v1, v2, v3, v4, v5, v6]; try rfl) rfl ?_
  refine ⟨_, _, by rw [uh V], ?_, F.below loR (uh BB)⟩
  rw [uh V]
  exact ⟨g_based (F.row (by decide) (uh OM7)) (by have sz1_ := uh sz1; have sz2_ := uh sz2; have sz3_ := uh sz3; have sz4_ := uh sz4; omega), g_based (F.row (by decide) (uh OT7)) (by have sz1_ := uh sz1; have sz2_ := uh sz2; have sz3_ := uh sz3; have sz4_ := uh sz4; omega)⟩
 | true =>
  have Pc0_2 := (uh P).cell 0 rfl; have Pc1_2 := (uh P).cell 1 rfl; have Pc2_2 := (uh P).cell 2 rfl; have Pc3_2 := (uh P).cell 3 rfl; have Pc4_2 := (uh P).cell 4 rfl; have Pc5_2 := (uh P).cell 5 rfl; have Pc6_2 := (uh P).cell 6 rfl; go_wp2_with fail; clear Pc0_2 Pc1_2 Pc2_2 Pc3_2 Pc4_2 Pc5_2 Pc6_2
  refine (impl_within_any upto 0 b.mod _).mono ?_
  rintro e w4 ⟨rfl, hw⟩
  subst w4
  cases hq2 : inI upto 0 b.mod with
  | false =>
   have Pc0_3 := (uh P).cell 0 rfl; have Pc1_3 := (uh P).cell 1 rfl; have Pc2_3 := (uh P).cell 2 rfl; have Pc3_3 := (uh P).cell 3 rfl; have Pc4_3 := (uh P).cell 4 rfl; have Pc5_3 := (uh P).cell 5 rfl; have Pc6_3 := (uh P).cell 6 rfl; go_wp2_with fail; clear Pc0_3 Pc1_3 Pc2_3 Pc3_3 Pc4_3 Pc5_3 Pc6_3
   refine (copiedBox_any b _ _ B _ (uh HF) ((uh HO).up (uh BB))).mono ?_
   rintro e w5 ⟨vm, vt, rfl, ob, hb⟩
   obtain ⟨am7, cm7, rfl⟩ := g_shape ob.1
   obtain ⟨at7, ct7, rfl⟩ := g_shape ob.2
   replace P := hide ((uh P).ups hb); replace R := hide ((uh R).ups hb); have sz4 := hide (hb.size); replace BB := hide (below_y (uh BB) hb); clear hb; have OM7 := hide ob.1; have OT7 := hide ob.2; clear ob; have V := hide (uh V2 hq2); have Rf0 := (uh R).frozen 0; have Rf1 := (uh R).frozen 1; have Rf2 := (uh R).frozen 2; have Rf3 := (uh R).frozen 3; have Rf4 := (uh R).frozen 4; have Rf5 := (uh R).frozen 5; have Rf6 := (uh R).frozen 6; have Re0 := (uh R).cell 0 rfl; have Re1 := (uh R).cell 1 rfl; have Re2 := (uh R).cell 2 rfl; have Re3 := (uh R).cell 3 rfl; have Re4 := (uh R).cell 4 rfl; have Re5 := (uh R).cell 5 rfl; have Re6 := (uh R).cell 6 rfl; have F := hide (fill7 (uh R) (.string b.name) (.int .i64 b.valid) (.int .i64 b.next) (.int .i64 b.mod) (.slice am7 b.mails.length cm7) (.slice at7 b.tombs.length ct7) (.int .i64 b.hor))
   go_wp2
   obtain ⟨U, hU⟩ : ∃ U, U = (((((((w5.setCell ⟨w1.heap.size, 0, none⟩ (.string b.name)).setCell ⟨w1.heap.size, 1, none⟩ (.int .i64 b.valid)).setCell ⟨w1.heap.size, 2, none⟩ (.int .i64 b.next)).setCell ⟨w1.heap.size, 3, none⟩ (.int .i64 b.mod)).setCell ⟨w1.heap.size, 4, none⟩ (.slice am7 b.mails.length cm7)).setCell ⟨w1.heap.size, 5, none⟩ (.slice at7 b.tombs.length ct7)).setCell ⟨w1.heap.size, 6, none⟩ (.int .i64 b.hor)) := ⟨_, rfl⟩
   have F := uh F
   rw [← hU] at F ⊢
   have v0 := F.obj.cell 0 rfl; have v1 := F.obj.cell 1 rfl; have v2 := F.obj.cell 2 rfl; have v3 := F.obj.cell 3 rfl; have v4 := F.obj.cell 4 rfl; have v5 := F.obj.cell 5 rfl; have v6 := F.obj.cell 6 rfl
   refine bodyPost_ret (by simp [results, Tryz.results32, go_sem, v0, v1, v2, v3, v4, v5, v6]; try rfl) rfl ?_
   refine ⟨_, _, by rw [uh V], ?_, F.below loR (uh BB)⟩
   rw [uh V]
   exact ⟨g_based (F.row (by decide) (uh OM7)) (by have sz1_ := uh sz1; have sz2_ := uh sz2; have sz3_ := uh sz3; have sz4_ := uh sz4; omega), g_based (F.row (by decide) (uh OT7)) (by have sz1_ := uh sz1; have sz2_ := uh sz2; have sz3_ := uh sz3; have sz4_ := uh sz4; omega)⟩
  | true =>
   have V := hide (uh V3 hq1 hq2); clear hq1 hq2; have Pc0_3 := (uh P).cell 0 rfl; have Pc1_3 := (uh P).cell 1 rfl; have Pc2_3 := (uh P).cell 2 rfl; have Pc3_3 := (uh P).cell 3 rfl; have Pc4_3 := (uh P).cell 4 rfl; have Pc5_3 := (uh P).cell 5 rfl; have Pc6_3 := (uh P).cell 6 rfl; go_wp2_with fail; clear Pc0_3 Pc1_3 Pc2_3 Pc3_3 Pc4_3 Pc5_3 Pc6_3
   refine (opened_any b _ _ B _ (uh HF) ((uh HO).up (uh BB))).mono ?_
   rintro e w5 ⟨vl, vt, rfl, ol, ot, hb⟩
   obtain ⟨al, cl, rfl⟩ := g_shape ol
   obtain ⟨a2, c2, rfl⟩ := g_shape ot
   replace P := hide ((uh P).ups hb); replace R := hide ((uh R).ups hb); have sz4 := hide (hb.size); replace BB := hide (below_y (uh BB) hb); clear hb
   have OL : Hid (OwnMl w3.heap.size w5 (.slice al b.mails.length cl) (b.mails)) := ol
   have OT : Hid (OwnTb w3.heap.size w5 (.slice a2 b.tombs.length c2) (b.tombs)) := ot
   clear ol ot
   obtain ⟨w6, hQ⟩ : ∃ X, X = w5.alloc (.cells ([.slice al b.mails.length cl, .string b.name, .int .i64 b.valid, .int .i64 b.next, .int .i64 b.mod, .slice none 0 0, .slice a2 b.tombs.length c2, .int .i64 b.hor] : List Value).toArray 97) := ⟨_, rfl⟩
   have Qx : HasObj w6 w5.heap.size 97 [.slice al b.mails.length cl, .string b.name, .int .i64 b.valid, .int .i64 b.next, .int .i64 b.mod, .slice none 0 0, .slice a2 b.tombs.length c2, .int .i64 b.hor] := by rw [hQ]; exact HasObj.new _ _ _
   have hbn : Below w5.heap.size w5 w6 := by rw [hQ]; exact (Below.refl _ _).alloc (Nat.le_refl _) _
   have nePQ : w.heap.size ≠ w5.heap.size := Nat.ne_of_lt (uh P).lt
   have neRQ : w1.heap.size ≠ w5.heap.size := Nat.ne_of_lt (uh R).lt
   have loQ : w.heap.size ≤ w5.heap.size := (uh BB).size
   have EQ := hQ.symm; clear hQ; replace P := hide ((uh P).ups hbn); replace R := hide ((uh R).ups hbn); replace OL := hide ((uh OL).up hbn); replace OT := hide ((uh OT).up hbn); have sz5 := hide (hbn.size); replace BB := hide (below_y (uh BB) hbn); clear hbn; have Q := hide Qx; clear Qx; go_wp2_with fail; clear EQ
   refine (forget_any w5.heap.size _ _ _ _ _ _ _ _ b.hor upto b.tombs _ hl2 (uh Q) (uh OT)).mono ?_
   rintro e w7 ⟨rfl, tv, hQ, hT, eb, gb⟩
   obtain ⟨a5, c5, rfl⟩ := g_shape hT
   have nOT := fun k (hk : (Value.slice a2 b.tombs.length c2).ownBlock = some k) => World.ownsRow.lt (uh OT) k hk
   have hR := gb.obj (uh R) (fun hx => by rcases hx with hx | hx; exact neRQ hx; exact (uh R).not_row (by decide) (uh OT) hx)
   have hL : OwnMl w3.heap.size w7 (.slice al b.mails.length cl) b.mails := gb.row (uh OL) (fun k hk hx => by rcases hx with hx | hx; (rw [hx] at hk; exact (uh Q).not_row (by decide) (uh OL) hk); exact rows_apart (uh OL) (uh OT) (by decide) k hk hx)
   have hB : Below w.heap.size w w7 := (uh BB).trans (gb.toBelow (uh BB).size (fun k hx => by rcases hx with hx | hx; (rw [hx]; exact loQ); have q8_ := (nOT k hx).1; have sz1_ := uh sz1; have sz2_ := uh sz2; have sz3_ := uh sz3; have sz4_ := uh sz4; have sz5_ := uh sz5; omega))
   have sz99 := hide gb.size; clear gb nOT R Q OL OT BB P eb; have R := hide hR; have Q := hide hQ; have OL := hide hL; have OT := hide hT; have BB := hide hB; clear hR hQ hL hT hB
   have el : b.tombs.filter (fun t => decide (upto < t.mod)) = leftL b upto := rfl
   rw [el] at Q OT
   clear el
   obtain ⟨hz, ehz⟩ : ∃ x, x = (if b.hor < upto then upto else b.hor) := ⟨_, rfl⟩
   rw [← ehz] at Q
   have EH := hide ehz; clear ehz; have Qc0_4 := (uh Q).cell 0 rfl; have Qc1_4 := (uh Q).cell 1 rfl; have Qc2_4 := (uh Q).cell 2 rfl; have Qc3_4 := (uh Q).cell 3 rfl; have Qc4_4 := (uh Q).cell 4 rfl; have Qc5_4 := (uh Q).cell 5 rfl; have Qc6_4 := (uh Q).cell 6 rfl; have Qc7_4 := (uh Q).cell 7 rfl; go_wp2_with fail; clear Qc0_4 Qc1_4 Qc2_4 Qc3_4 Qc4_4 Qc5_4 Qc6_4 Qc7_4
   refine (box_any { b with mails := [], hor := hz } _ _ _ _ _ _ _ _ _ _).mono ?_
   rintro e w8 ⟨rfl, hb⟩
   replace R := hide ((uh R).ups hb); replace Q := hide ((uh Q).ups hb); replace OL := hide ((uh OL).up hb); replace OT := hide ((uh OT).up hb); have sz6 := hide (hb.size); replace BB := hide (below_y (uh BB) hb); clear hb; have Rf0 := (uh R).frozen 0; have Rf1 := (uh R).frozen 1; have Rf2 := (uh R).frozen 2; have Rf3 := (uh R).frozen 3; have Rf4 := (uh R).frozen 4; have Rf5 := (uh R).frozen 5; have Rf6 := (uh R).frozen 6; have Re0 := (uh R).cell 0 rfl; have Re1 := (uh R).cell 1 rfl; have Re2 := (uh R).cell 2 rfl; have Re3 := (uh R).cell 3 rfl; have Re4 := (uh R).cell 4 rfl; have Re5 := (uh R).cell 5 rfl; have Re6 := (uh R).cell 6 rfl; have F := hide (fill7 (uh R) (.string b.name) (.int .i64 b.valid) (.int .i64 b.next) (.int .i64 b.mod) (.slice al b.mails.length cl) (.slice a5 (leftL b upto).length c5) (.int .i64 hz))
   go_wp2
   obtain ⟨U, hU⟩ : ∃ U, U = (((((((w8.setCell ⟨w1.heap.size, 0, none⟩ (.string b.name)).setCell ⟨w1.heap.size, 1, none⟩ (.int .i64 b.valid)).setCell ⟨w1.heap.size, 2, none⟩ (.int .i64 b.next)).setCell ⟨w1.heap.size, 3, none⟩ (.int .i64 b.mod)).setCell ⟨w1.heap.size, 4, none⟩ (.slice al b.mails.length cl)).setCell ⟨w1.heap.size, 5, none⟩ (.slice a5 (leftL b upto).length c5)).setCell ⟨w1.heap.size, 6, none⟩ (.int .i64 hz)) := ⟨_, rfl⟩
   have F := uh F
   rw [← hU] at F ⊢
   have v0 := F.obj.cell 0 rfl; have v1 := F.obj.cell 1 rfl; have v2 := F.obj.cell 2 rfl; have v3 := F.obj.cell 3 rfl; have v4 := F.obj.cell 4 rfl; have v5 := F.obj.cell 5 rfl; have v6 := F.obj.cell 6 rfl
   refine bodyPost_ret (by simp [results, Tryz.results32, go_sem, v0, v1, v2, v3, v4, v5, v6]; try rfl) rfl ?_
   have ef : forgetV b upto = { b with tombs := leftL b upto, hor := hz } := by rw [uh V]; unfold forgot; rw [uh EH]
   refine ⟨.slice al b.mails.length cl, .slice a5 (leftL b upto).length c5, by rw [ef], ?_, F.below loR (uh BB)⟩
   rw [ef]
   exact ⟨g_based (F.row (by decide) (uh OL)) (by have sz1_ := uh sz1; have sz2_ := uh sz2; have sz3_ := uh sz3; have sz4_ := uh sz4; have sz5_ := uh sz5; have sz99_ := uh sz99; have sz6_ := uh sz6; omega), g_based (F.row (by decide) (uh OT)) (by have sz1_ := uh sz1; have sz2_ := uh sz2; have sz3_ := uh sz3; have sz4_ := uh sz4; have sz5_ := uh sz5; have sz99_ := uh sz99; have sz6_ := uh sz6; omega)⟩
end Go.Proofs.YtlngjflhbkannaaGreat

namespace Go.Proofs.YtlngjflhbkannaaGreat
open Go.RowKit
open Plain
set_option linter.unusedVariables false
set_option linter.unusedSimpArgs false

theorem but_then {w W W2 : World} {S : Nat → Prop} (h : GrownBut w W S) (hb : Below W.heap.size W W2) : GrownBut w W2 S := (h.then (GrownBut.below hb rfl)).mono (fun k _ hx => by rcases hx with hx | hx; exact hx; exact absurd hx id)
theorem but_set {w W : World} {S : Nat → Prop} {q j : Nat} (h : GrownBut w W S) (hq : S q) (u : Value) : GrownBut w (W.setCell ⟨q, j, none⟩ u) S := (h.then (GrownBut.of (g_store (j := j) (g_self W (some q)) u))).mono (fun k _ hx => by rcases hx with hx | hx; exact hx; have := Option.some.inj hx; subst this; exact hq)
theorem but_grown {w W W2 : World} {S : Nat → Prop} {r : Option Nat} (h : GrownBut w W S) (hg : W.grownBy W2 r) (hr : ∀ k, r = some k → S k ∨ w.heap.size ≤ k) : GrownBut w W2 S := (h.then (GrownBut.of hg)).mono (fun k hk hx => by rcases hx with hx | hx; exact hx; rcases hr k hx with h1 | h1; exact h1; omega)
namespace Plain
def buriedL (mod : Int) (us : List Int) : List Tb := us.map (fun u => ⟨u, mod⟩)
def buriedTo (ts : List Tb) (mod : Int) (us : List Int) (k : Nat) : List Tb := ts ++ buriedL mod (us.take k)
theorem buriedTo_next {ts : List Tb} {mod : Int} {us : List Int} {k : Nat} {u : Int} (h : us[k]? = some u) : buriedTo ts mod us (k + 1) = buriedTo ts mod us k ++ [⟨u, mod⟩] := by unfold buriedTo buriedL; rw [List.take_add_one, h, List.map_append, List.append_assoc]; rfl
theorem buriedTo_len (ts : List Tb) (mod : Int) (us : List Int) (k : Nat) : (buriedTo ts mod us k).length ≤ ts.length + us.length := by simp [buriedTo, buriedL]; omega
theorem buriedTo_all (ts : List Tb) (mod : Int) (us : List Int) : buriedTo ts mod us us.length = ts ++ buriedL mod us := by simp [buriedTo]
theorem filt_less (t : Tb) (r : List Tb) : ((t :: r).filter (fun y => decide (t.mod < y.mod))).length ≤ r.length := by
 rw [List.filter_cons_of_neg (by simp)]
 exact List.length_filter_le _ _
theorem trimI_more : ∀ (n m : Nat) (ts : List Tb) (hor : Int), ts.length ≤ n → ts.length ≤ m → trimI n (ts, hor) = trimI m (ts, hor) := by
 intro n
 induction n with
 | zero =>
  intro m ts hor h1 h2
  have : ts = [] := List.length_eq_zero_iff.1 (by omega)
  subst this
  cases m <;> simp [trimI]
 | succ n ih =>
  intro m ts hor h1 h2
  cases m with
  | zero =>
   have : ts = [] := List.length_eq_zero_iff.1 (by omega)
   subst this
   simp [trimI]
  | succ m =>
   unfold trimI
   split
   ·rfl
   ·cases ts with
    | nil => rename_i h; simp at h
    | cons t r =>
     have := filt_less t r
     simp only [List.length_cons] at h1 h2
     exact ih m _ _ (by omega) (by omega)
def trimJ (ts : List Tb) (hor : Int) : List Tb × Int := trimI ts.length (ts, hor)
theorem trimJ_in {ts : List Tb} {hor : Int} (h : ts.length ≤ 40) : trimJ ts hor = (ts, hor) := by
 unfold trimJ
 cases hn : ts.length with
 | zero => rfl
 | succ n => unfold trimI; rw [if_pos (by omega)]
theorem trimJ_on {t : Tb} {r : List Tb} {hor : Int} (h : ¬ (t :: r).length ≤ 40) : trimJ (t :: r) hor = trimJ ((t :: r).filter (fun y => decide (t.mod < y.mod))) (if hor < t.mod then t.mod else hor) := by
 have hd := filt_less t r
 unfold trimJ
 rw [show (t :: r).length = r.length + 1 from rfl]
 conv => lhs; unfold trimI
 rw [if_neg h]
 exact trimI_more _ _ _ _ hd (Nat.le_refl _)
theorem buriedTo_zero (ts : List Tb) (mod : Int) (us : List Int) : buriedTo ts mod us 0 = ts := by simp [buriedTo, buriedL]
end Plain
def lenAt (q : Nat) (w : World) : Nat := match w.cell? ⟨q, 6, none⟩ with | some (.slice _ n _) => n | _ => 0
set_option maxHeartbeats 8000000 in
set_option maxRecDepth 100000 in
theorem bury_any (q B B2 : Nat) (v0 v1 v2 v3 v5 tv uv : Value) (mod hor : Int) (ts : List Tb) (us : List Int) (w : World) (hm0 : 0 ≤ mod) (hm1 : mod ≤ 100000) (ht : ts.length ≤ 4000) (hu : us.length ≤ 4000) (hB : B ≤ w.heap.size) (hq : HasObj w q 97 [v0, v1, v2, v3, .int .i64 mod, v5, tv, .int .i64 hor]) (hT : OwnTb B w tv ts) (hU : OwnI B2 w uv us) :
  Calls Tryz.prog 73 #[.pointer (some ⟨q, 0, none⟩), uv] w fun e w' => e = .returned (.tuple #[]) ∧ ∃ tv', HasObj w' q 97 [v0, v1, v2, v3, .int .i64 (mod + 1), v5, tv', .int .i64 (trimJ (ts ++ buriedL (mod + 1) us) hor).2] ∧ OwnTb B w' tv' (trimJ (ts ++ buriedL (mod + 1) us) hor).1 ∧ (∀ k, tv'.ownBlock = some k → (k = q ∨ tv.ownBlock = some k) ∨ w.heap.size ≤ k) ∧ GrownBut w w' (fun k => k = q ∨ tv.ownBlock = some k) := by
 obtain ⟨iT, hT', hT0, hT1, hT2⟩ := info_parts Tryz.infoTomb
 have hT_ := hT; clear hT; have hT := hT'
 obtain ⟨at0, ct0, rfl⟩ := g_shape hT_
 obtain ⟨au0, cu0, rfl⟩ := g_shape hU
 have n1 : IntKind.i64.wrap (mod + 1) = mod + 1 := by rw [IntKind.wrap_i64]; omega
 have HU : Hid (∀ W, GrownBut w W (fun k => k = q ∨ (Value.slice at0 ts.length ct0).ownBlock = some k) → OwnI B2 W (.slice au0 us.length cu0) us) := fun W hg => hg.row hU (fun g hg1 hx => by
  rcases hx with hx | hx
  ·rw [hx] at hg1; exact hq.not_row (by decide) hU hg1
  ·exact rows_apart hU hT_ (by decide) g hg1 hx)
 have k4 := hq.cell 4 rfl; have f4 := hq.frozen 4
 obtain ⟨X, hX⟩ : ∃ X, X = w.setCell ⟨q, 4, none⟩ (.int .i64 (mod + 1)) := ⟨_, rfl⟩
 have q1 := hq.set 4 (.int .i64 (mod + 1))
 have t1 := hq.row (j := 4) (by decide) hT_ (.int .i64 (mod + 1))
 have g1 : GrownBut w X (fun k => k = q ∨ (Value.slice at0 ts.length ct0).ownBlock = some k) := by rw [hX]; exact but_set ⟨rfl, rfl, rfl, Nat.le_refl _, fun _ _ _ => rfl⟩ (.inl rfl) _
 rw [← hX] at q1 t1
 have EX := hX.symm; have Q1 := hide q1; have T1 := hide t1; have G1 := hide g1; clear hX q1 t1 g1 hT_ hU hq
 go_enter Tryz.func73, Tryz.ntmps73
 go_wp2
 clear EX k4 f4
 go_loopw [17] (fun i wr => ∃ (k : Nat) (v : Value), k ≤ us.length ∧ i = .int .i64 k ∧ HasObj wr q 97 [v0, v1, v2, v3, .int .i64 (mod + 1), v5, v, .int .i64 hor] ∧ OwnTb B wr v (buriedTo ts (mod + 1) us k) ∧ (∀ k, v.ownBlock = some k → (k = q ∨ (Value.slice at0 ts.length ct0).ownBlock = some k) ∨ w.heap.size ≤ k) ∧ GrownBut w wr (fun k => k = q ∨ (Value.slice at0 ts.length ct0).ownBlock = some k)) (fun i _ => us.length - (intOf i).toNat)
 case atStart => exact ⟨0, _, Nat.zero_le _, rfl, uh Q1, by rw [buriedTo_zero]; exact uh T1, fun k hk => .inl (.inr hk), uh G1⟩
 clear Q1 T1 G1
 case round =>
  obtain ⟨k, v, hk, rfl, hQ, hTv, htv, hgb⟩ := hrel
  obtain ⟨wo, hwo⟩ : ∃ wo, wo = wr := ⟨_, rfl⟩
  subst hwo
  obtain ⟨av, cv, rfl⟩ := g_shape hTv
  by_cases hlt : k < us.length
  ·have hgk : us[k]? = some us[k] := List.getElem?_eq_getElem hlt
   obtain ⟨g, c, e, _, hg, c0⟩ := OwnI.cell (uh HU wo hgb) hgk
   cases e
   have NX := hide (buriedTo_next (ts := ts) (mod := mod + 1) hgk); have LN := buriedTo_len ts (mod + 1) us k
   generalize us[k] = u at *
   have i1 : (0 : Int) ≤ (k : Int) := by omega
   have i2 : (k : Int) < (us.length : Int) := by omega
   have Q := hide hQ; have OT := hide hTv; have TVI := hide htv; have BB := hide hgb; clear hQ hTv htv hgb hgk
   have hBw : B ≤ wo.heap.size := Nat.le_trans hB (uh BB).size
   have Qc0_1 := (uh Q).cell 0 rfl; have Qc1_1 := (uh Q).cell 1 rfl; have Qc2_1 := (uh Q).cell 2 rfl; have Qc3_1 := (uh Q).cell 3 rfl; have Qc4_1 := (uh Q).cell 4 rfl; have Qc5_1 := (uh Q).cell 5 rfl; have Qc6_1 := (uh Q).cell 6 rfl; have Qc7_1 := (uh Q).cell 7 rfl
   go_wp2
   refine lateBegin (S := fun w' => w'.cell? ⟨q, 4, none⟩ = some (.int .i64 (mod + 1)) ∧ w'.cell? ⟨q, 6, none⟩ = some (.slice av (buriedTo ts (mod + 1) us k).length cv)) 18 (by kernel_rfl) (⟨(uh Q).cell 4 rfl, (uh Q).cell 6 rfl⟩) (fun hHeld => ?_)
   clear Qc0_1 Qc1_1 Qc2_1 Qc3_1 Qc4_1 Qc5_1 Qc6_1 Qc7_1; replace Q := hide ((uh Q).drew); replace OT := hide ((uh OT).drew); replace BB := hide ((uh BB).drew)
   have sz101 : Hid (wo.heap.size ≤ wo.drew.heap.size) := Nat.le_refl _
   refine lt 0 21 ?_; refine lt 1 22 ?_; refine lt 2 23 ?_; refine lt 3 24 ?_; refine lt 4 25 ?_; refine lt 5 26 ?_; refine lt 6 27 ?_; refine lt 7 28 ?_; refine lt 8 29 ?_; refine lt 9 30 ?_; refine lt 10 31 ?_; refine lt 11 32 ?_; refine lt 12 33 ?_
   refine lateStep 13 (by kernel_rfl) rfl (by rfl) (fun K hK => ?_)
   go_simp
   have hA : Below wo.drew.heap.size wo.drew (wo.drew.alloc (.cells ((tbC (⟨u, mod + 1⟩ : Tb)) : List Value).toArray 117)) := (Below.refl _ _).alloc (Nat.le_refl _) _
   replace Q := hide ((uh Q).ups hA); replace OT := hide ((uh OT).up hA); have sz102 := hide (hA.size); replace BB := hide (but_then (uh BB) hA); clear hA
   refine hK.out _ _ (⟨(uh Q).cell 4 rfl, (uh Q).cell 6 rfl⟩) (fun hHeld2 => ?_)
   clear hK K hHeld; have hHeld := hHeld2; clear hHeld2
   try simp only [Act.put, p1, p2, p3]
   have oa := uh OT; have ldl := (uh BB).size
   refine lateStep 14 (by kernel_rfl) rfl (by rfl) (fun K hK => ?_)
   refine wp_append_lies _ (.tmp 26) (.tmp 34) 48 rfl (B) 117 iT _ 2 16 Tryz.underlying48 hT hT0 hT1 hT2 rfl (by decide) (.slice av (buriedTo ts (mod + 1) us k).length cv) _ _ rfl oa ⟨wo.drew.heap.size, 0, none⟩ 1 1 (tbC (⟨u, mod + 1⟩ : Tb)) rfl rfl (newsC _ _) ?c2 (by decide) ?c3 ?c4 ?c5 (wo.drew.heap.size + 1) (by simp) ?_
   case c2 => intro u hu; simp [mlC, tbC, rgl] at hu; (try rcases hu with rfl | rfl | rfl | rfl) <;> (try rcases hu with rfl | rfl) <;> (try subst hu) <;> rfl
   case c3 => unfold maxLen; omega
   case c4 => omega
   case c5 => have q1_ := (uh BB).size; have sz101_ := uh sz101; have sz102_ := uh sz102; (try simp at q1_); (try simp); omega
   intro gr1 capr1 wr1 hown hgr hat hlt_
   have Q_ := hide ((uh Q).kept hgr (fun e => (uh Q).not_row (by decide) oa e.symm))
   have OT_ : Hid (OwnTb (B) wr1 (.slice (some ⟨gr1, 0, none⟩) ((buriedTo ts (mod + 1) us k).length + 1) capr1) (buriedTo ts (mod + 1) us (k + 1))) := by show OwnTb _ _ _ _; rw [uh NX]; exact OwnTb.snoc hown
   have BB_ : Hid (GrownBut w wr1 (fun k => k = q ∨ (Value.slice at0 ts.length ct0).ownBlock = some k)) := but_grown (uh BB) hgr (uh TVI)
   replace TVI : Hid (∀ x, (Value.slice (some ⟨gr1, 0, none⟩) ((buriedTo ts (mod + 1) us k).length + 1) capr1).ownBlock = some x → (x = q ∨ (Value.slice at0 ts.length ct0).ownBlock = some x) ∨ w.heap.size ≤ x) := fun x hx => by have e1 : gr1 = x := Option.some.inj hx; subst e1; rcases hat with hat | hat; exact uh TVI _ hat; (right; have t1 := (uh BB).size; simp at t1 hat; omega)
   have sz103 : Hid ((wo.drew.alloc (.cells ((tbC (⟨u, mod + 1⟩ : Tb)) : List Value).toArray 117)).heap.size ≤ wr1.heap.size) := hgr.size
   replace Q := Q_; clear Q_; replace OT := OT_; clear OT_; replace BB := BB_; clear BB_; clear hown hgr hat hlt_ oa ldl
   refine hK.out _ _ (⟨(uh Q).cell 4 rfl, (uh Q).cell 6 rfl⟩) (fun hHeld2 => ?_)
   clear hK K hHeld; have hHeld := hHeld2; clear hHeld2
   try simp only [Act.put, p1, p2, p3]
   refine lateStep 15 (by kernel_rfl) rfl (by rfl) (fun K hK => ?_)
   go_simp
   refine hK.out _ _ (⟨(uh Q).cell 4 rfl, (uh Q).cell 6 rfl⟩) (fun hHeld2 => ?_)
   clear hK K hHeld; have hHeld := hHeld2; clear hHeld2
   try simp only [Act.put, p1, p2, p3]
   refine lateStep 16 (by kernel_rfl) rfl (by rfl) (fun K hK => ?_)
   go_simp
   refine hK.out _ _ (⟨(uh Q).cell 4 rfl, (uh Q).cell 6 rfl⟩) (fun hHeld2 => ?_)
   clear hK K hHeld; have hHeld := hHeld2; clear hHeld2
   try simp only [Act.put, p1, p2, p3]
   refine lateStep 17 (by kernel_rfl) rfl (by rfl) (fun K hK => ?_)
   go_simp
   refine hK.out _ _ (⟨(uh Q).cell 4 rfl, (uh Q).cell 6 rfl⟩) (fun hHeld2 => ?_)
   clear hK K hHeld; have hHeld := hHeld2; clear hHeld2
   try simp only [Act.put, p1, p2, p3]
   have Qfz6_2 := (uh Q).frozen 6; have Qcz6_2 := (uh Q).cell 6 rfl
   obtain ⟨wr2, hst⟩ : ∃ X, X = wr1.setCell ⟨q, 6, none⟩ (.slice (some ⟨gr1, 0, none⟩) ((buriedTo ts (mod + 1) us k).length + 1) capr1) := ⟨_, rfl⟩
   have OT_ : Hid (OwnTb B wr2 (.slice (some ⟨gr1, 0, none⟩) ((buriedTo ts (mod + 1) us k).length + 1) capr1) (buriedTo ts (mod + 1) us (k + 1))) := by show OwnTb _ _ _ _; rw [hst]; exact (uh Q).row (j := 6) (by decide) (uh OT) _
   have Q_ := hide ((uh Q).set 6 (.slice (some ⟨gr1, 0, none⟩) ((buriedTo ts (mod + 1) us k).length + 1) capr1))
   rw [← hst] at Q_
   have BB_ := hide (but_set (j := 6) (uh BB) (.inl rfl) (.slice (some ⟨gr1, 0, none⟩) ((buriedTo ts (mod + 1) us k).length + 1) capr1))
   rw [← hst] at BB_
   have sz104 : Hid (wr1.heap.size ≤ wr2.heap.size) := by show _ ≤ _; rw [hst]; simp
   replace OT := OT_; clear OT_; replace Q := Q_; clear Q_; replace BB := BB_; clear BB_; have Est104 := hst.symm; clear hst
   refine lateLast 18 (by decide) (by kernel_rfl) rfl (by rfl) (fun K hK => ?_)
   go_simp
   refine hK.out _ _ ?_
   clear hK K hHeld
   try simp only [Act.put, p1, p2, p3]
   try rw [Est104]
   clear Qfz6_2 Qcz6_2 Est104
   refine lateDone (by kernel_rfl) ?_ _
   go_wp2
   go_roundw
   case rel => exact ⟨k + 1, _, by omega, by go_num, uh Q, uh OT, uh TVI, uh BB⟩
   case measure => simp [intOf]; omega
  ·obtain rfl : k = us.length := by omega
   rw [buriedTo_all] at hTv hQ htv
   have LT : (ts ++ buriedL (mod + 1) us).length ≤ 8000 := by simp [buriedL]; omega
   obtain ⟨TR, hTR⟩ : ∃ x, x = trimJ (ts ++ buriedL (mod + 1) us) hor := ⟨_, rfl⟩
   have TRE := hide hTR; have Q := hide hQ; have OT := hide hTv; have TVI := hide htv; have BB := hide hgb; clear hQ hTv htv hgb hTR
   go_wp2
   go_loopw [41] (fun _ wr => ∃ (tz : List Tb) (hz : Int) (v : Value), tz.length ≤ 8000 ∧ TR = trimJ tz hz ∧ HasObj wr q 97 [v0, v1, v2, v3, .int .i64 (mod + 1), v5, v, .int .i64 hz] ∧ OwnTb B wr v tz ∧ (∀ k, v.ownBlock = some k → (k = q ∨ (Value.slice at0 ts.length ct0).ownBlock = some k) ∨ w.heap.size ≤ k) ∧ GrownBut w wr (fun k => k = q ∨ (Value.slice at0 ts.length ct0).ownBlock = some k)) (fun _ wr => lenAt q wr)
   case atStart => exact ⟨_, _, _, LT, uh TRE, uh Q, uh OT, uh TVI, uh BB⟩
   clear Q OT TVI BB LT
   case round =>
    obtain ⟨tz, hz, v, hlz, htr, hQ, hTv, htv, hgb⟩ := hrel
    obtain ⟨wo, hwo⟩ : ∃ wo, wo = wr := ⟨_, rfl⟩
    subst hwo
    obtain ⟨av, cv, rfl⟩ := g_shape hTv
    have k6 := hQ.cell 6 rfl
    by_cases h40 : tz.length ≤ 40
    ·have d1 : decide ((40 : Int) < (tz.length : Int)) = false := by rw [decide_eq_false_iff_not]; omega
     have V := hide (htr.trans (trimJ_in h40)); have Q := hide hQ; have OT := hide hTv; have TVI := hide htv; have BB := hide hgb; clear hQ hTv htv hgb htr
     go_wp2
     go_end0
     refine ⟨rfl, _, ?_, ?_, uh TVI, uh BB⟩
     ·rw [← uh TRE, uh V]; exact uh Q
     ·rw [← uh TRE, uh V]; exact uh OT
    ·have d1 : decide ((40 : Int) < (tz.length : Int)) = true := by rw [decide_eq_true_eq]; omega
     cases tz with
     | nil => simp at h40
     | cons t r =>
      obtain ⟨g, c, e, hg, c0, c1⟩ := tb_read hTv (Below.refl _ _) (k := 0) (f := t) rfl
      cases e
      simp only [Nat.zero_mul, Nat.zero_add] at c0 c1
      have ON := hide (htr.trans (trimJ_on h40)); have LS := hide (filt_less t r)
      have FG := hide (forget_any q B _ _ _ _ _ _ _ hz t.mod (t :: r) wo (by omega) hQ hTv)
      have i1 : (0 : Int) < ((t :: r).length : Int) := by rw [List.length_cons]; omega
      have M0 : Hid (lenAt q wo = (t :: r).length) := by show _ = _; unfold lenAt; rw [k6]
      have TVI := hide htv; have BB := hide hgb
      have hl9 : Hid ((t :: r).length ≤ 8000) := hlz
      obtain ⟨nz, hnz⟩ : ∃ n, n = (t :: r).length := ⟨_, rfl⟩
      rw [← hnz] at k6 i1 d1
      clear hQ hTv htv hgb htr hlz h40; have HNZ := hide hnz; clear hnz; go_wp2_with fail
      refine (show Calls _ _ _ _ _ from uh FG).mono ?_
      rintro e w5 ⟨rfl, tv5, hQ5, hT5, eb5, gb5⟩
      obtain ⟨a5, c5, rfl⟩ := g_shape hT5
      have G5 : Hid (GrownBut w w5 (fun k => k = q ∨ (Value.slice at0 ts.length ct0).ownBlock = some k)) := ((uh BB).then gb5).mono (fun k hk hx => by
       rcases hx with hx | hx | hx
       ·exact hx
       ·exact .inl hx
       ·rcases uh TVI k (by rw [← hx]) with h1 | h1
        ·exact h1
        ·omega)
      have TV5 : Hid (∀ k, (Value.slice a5 ((t :: r).filter (fun y => decide (t.mod < y.mod))).length c5).ownBlock = some k → (k = q ∨ (Value.slice at0 ts.length ct0).ownBlock = some k) ∨ w.heap.size ≤ k) := fun k hk => uh TVI k (by rw [eb5] at hk; rw [← hk])
      have L5 : Hid (lenAt q w5 = ((t :: r).filter (fun y => decide (t.mod < y.mod))).length) := by show _ = _; unfold lenAt; rw [hQ5.cell 6 rfl]
      have Q5 := hide hQ5; have T5 := hide hT5; clear hQ5 hT5 eb5 gb5 k6 c0 c1 i1 d1
      go_wp2
      go_roundw
      case rel => exact ⟨_, _, _, by have := uh LS; have h8 := uh hl9; rw [List.length_cons] at h8; omega, uh ON, uh Q5, uh T5, uh TV5, uh G5⟩
      case measure => rw [uh M0, uh L5]; have := uh LS; rw [List.length_cons]; omega
end Go.Proofs.YtlngjflhbkannaaGreat

namespace Go.Proofs.YtlngjflhbkannaaGreat.Plain
open Go.RowKit
set_option linter.unusedVariables false

theorem tombs_asc {b : Bx} (h : boxOk b = true) : b.tombs.Pairwise (fun x y => x.mod ≤ y.mod) := by
 have hT := (boxOk_iff.1 h).2.2
 have step : ∀ i, i + 1 < b.tombs.length → (b.tombs.map (·.mod)).getD i 0 ≤ (b.tombs.map (·.mod)).getD (i + 1) 0 := fun i hi => by
  have h1 := (tomb_parts hi (hT (i + 1) hi)).1
  rw [tombIn_is (List.getElem?_eq_getElem hi)] at h1
  simp only [before, List.getElem?_eq_getElem (show i < b.tombs.length by omega), Bool.and_eq_true] at h1
  have h2 := h1.2.2
  unfold tombLess at h2
  simp only [List.getD_eq_getElem?_getD, List.getElem?_map, List.getElem?_eq_getElem hi, List.getElem?_eq_getElem (show i < b.tombs.length by omega), Option.map_some, Option.getD_some]
  rw [Bool.or_eq_true, Bool.and_eq_true] at h2
  rcases h2 with h2 | h2
  ·have := of_decide_eq_true h2; omega
  ·have := of_decide_eq_true h2.1; omega
 have all : ∀ j i, i < j → j < b.tombs.length → (b.tombs.map (·.mod)).getD i 0 ≤ (b.tombs.map (·.mod)).getD j 0 := by
  intro j
  induction j with
  | zero => intro i hi; omega
  | succ j ih =>
   intro i hi hj
   have h1 := step j hj
   by_cases e : i = j
   ·subst e; exact h1
   ·have := ih i (by omega) (by omega); omega
 rw [List.pairwise_iff_getElem]
 intro i j hi hj hij
 have := all j i hij hj
 simpa only [List.getD_eq_getElem?_getD, List.getElem?_map, List.getElem?_eq_getElem hi, List.getElem?_eq_getElem hj, Option.map_some, Option.getD_some] using this
theorem tomb_mods {b : Bx} (h : boxOk b = true) : ∀ t ∈ b.tombs, b.hor < t.mod ∧ t.mod ≤ b.mod := by
 intro t ht
 obtain ⟨i, hi, rfl⟩ := List.getElem_of_mem ht
 have h1 := (tomb_parts hi ((boxOk_iff.1 h).2.2 i hi)).1
 rw [tombIn_is (List.getElem?_eq_getElem hi)] at h1
 rw [Bool.and_eq_true, Bool.and_eq_true] at h1
 have := inI_iff.1 h1.2.1
 omega
theorem trims_same {b : Bx} (us : List Int) (h : boxOk b = true) : trimJ (b.tombs ++ buriedL (b.mod + 1) us) b.hor = trimmed (b.tombs ++ tombsOf b us) b.hor := by
 have hh : 0 ≤ b.hor ∧ b.hor ≤ b.mod := by
  have := (boxOk_iff.1 h).1
  unfold headOk at this
  simp only [Bool.and_eq_true] at this
  exact inI_iff.1 this.2.2.2.2.2.2
 have e : buriedL (b.mod + 1) us = tombsOf b us := rfl
 rw [e]
 unfold trimJ trimmed
 refine trim_same _ _ _ ?_ ?_
 ·rw [List.pairwise_append]
  refine ⟨tombs_asc h, ?_, ?_⟩
  ·unfold tombsOf
   rw [List.pairwise_map]
   exact List.pairwise_of_forall (fun _ _ => Int.le_refl _)
  ·intro x hx y hy
   obtain ⟨u, _, rfl⟩ := List.mem_map.1 hy
   have := (tomb_mods h x hx).2
   show x.mod ≤ b.mod + 1
   omega
 ·intro t ht
  rcases List.mem_append.1 ht with ht | ht
  ·exact (tomb_mods h t ht).1
  ·obtain ⟨u, _, rfl⟩ := List.mem_map.1 ht
   show b.hor < b.mod + 1
   omega
end Go.Proofs.YtlngjflhbkannaaGreat.Plain
