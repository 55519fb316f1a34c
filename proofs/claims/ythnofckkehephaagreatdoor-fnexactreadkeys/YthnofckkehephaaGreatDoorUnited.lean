/- The program's ranges, united. -/
import Derived.Test.YthnofckkehephaaGreatDoorSortR
import Derived.Test.YthnofckkehephaaGreatDoorSetA
import Derived.Test.YthnofckkehephaaGreatDoorRegA
import Derived.Deep.AppendLies
namespace Go.Proofs.YthnofckkehephaaGreatDoor
open Go.RowKit Go.Deep
open Plain
set_option linter.unusedVariables false

namespace Plain
theorem united_snoc {l : List Rg} {k : Nat} {r : Rg} (h : l[k]? = some r) : unitedL (l.take (k + 1)) = uniteTo (unitedL (l.take k)) r := by
  unfold unitedL
  rw [ok_snoc h, List.foldl_append]
  rfl
theorem uniteTo_len (out : List Rg) (r : Rg) : (uniteTo out r).length ≤ out.length + 1 := by
  rcases snoc_cases out with rfl | ⟨o, u, rfl⟩
  · rw [uniteTo_nil]; simp
  · by_cases c : r.lo ≤ u.hi + 1
    · rw [uniteTo_in c]; simp
    · rw [uniteTo_new c]; simp
theorem united_len (l : List Rg) : ∀ k, (unitedL (l.take k)).length ≤ k := by
  intro k
  induction k with
  | zero => simp [unitedL]
  | succ k ih =>
    cases h : l[k]? with
    | none =>
      have : l.length ≤ k := by rw [List.getElem?_eq_none_iff] at h; exact h
      rw [List.take_of_length_le (by omega)]
      rw [List.take_of_length_le this] at ih
      omega
    | some r =>
      rw [united_snoc h]
      have := uniteTo_len (unitedL (l.take k)) r
      omega
theorem uniteTo_hi {out : List Rg} {r : Rg} (ho : ∀ u ∈ out, u.hi ≤ 9999) (hr : r.hi ≤ 9999) : ∀ u ∈ uniteTo out r, u.hi ≤ 9999 := by
  rcases snoc_cases out with rfl | ⟨o, u, rfl⟩
  · rw [uniteTo_nil]; intro x hx; rw [List.mem_singleton] at hx; subst hx; exact hr
  · by_cases c : r.lo ≤ u.hi + 1
    · rw [uniteTo_in c]
      intro x hx
      rcases List.mem_append.1 hx with hx | hx
      · exact ho x (by simp [hx])
      · rw [List.mem_singleton] at hx
        subst hx
        have := ho u (by simp)
        show max u.hi r.hi ≤ 9999
        omega
    · rw [uniteTo_new c]
      intro x hx
      rcases List.mem_append.1 hx with hx | hx
      · exact ho x hx
      · rw [List.mem_singleton] at hx; subst hx; exact hr
theorem uniteTo_lo {out : List Rg} {r : Rg} (ho : ∀ u ∈ out, 0 ≤ u.hi) (hr : 0 ≤ r.hi) : ∀ u ∈ uniteTo out r, 0 ≤ u.hi := by
  rcases snoc_cases out with rfl | ⟨o, u, rfl⟩
  · rw [uniteTo_nil]; intro x hx; rw [List.mem_singleton] at hx; subst hx; exact hr
  · by_cases c : r.lo ≤ u.hi + 1
    · rw [uniteTo_in c]
      intro x hx
      rcases List.mem_append.1 hx with hx | hx
      · exact ho x (by simp [hx])
      · rw [List.mem_singleton] at hx
        subst hx
        have := ho u (by simp)
        show 0 ≤ max u.hi r.hi
        omega
    · rw [uniteTo_new c]
      intro x hx
      rcases List.mem_append.1 hx with hx | hx
      · exact ho x hx
      · rw [List.mem_singleton] at hx; subst hx; exact hr
theorem united_bounds {l : List Rg} (h : ∀ r ∈ l, rightR r) : ∀ k, ∀ u ∈ unitedL (l.take k), 0 ≤ u.hi ∧ u.hi ≤ 9999 := by
  intro k
  induction k with
  | zero => intro u hu; simp [unitedL] at hu
  | succ k ih =>
    cases hk : l[k]? with
    | none =>
      have : l.length ≤ k := by rw [List.getElem?_eq_none_iff] at hk; exact hk
      rw [List.take_of_length_le (by omega)]
      rw [List.take_of_length_le this] at ih
      exact ih
    | some r =>
      rw [united_snoc hk]
      have hr := h r (List.mem_of_getElem? hk)
      unfold rightR at hr
      intro u hu
      exact ⟨uniteTo_lo (fun x hx => (ih x hx).1) (by omega) u hu, uniteTo_hi (fun x hx => (ih x hx).2) (by omega) u hu⟩
end Plain

set_option maxHeartbeats 4000000 in
set_option maxRecDepth 100000 in
theorem impl_united_full (s : List Rg) (g c B : Nat) (w : World) (hs : s.length ≤ 4000000) (hr : ∀ r ∈ s, rightR r) (h : OwnR B w (.slice (some ⟨g, 0, none⟩) s.length c) s) (hB : B ≤ w.heap.size) :
    Calls Tryz.prog 40 #[.slice (some ⟨g, 0, none⟩) s.length c] w fun e w' => ∃ u t, e = .returned u ∧ t.Perm s ∧ t.Pairwise (fun x y => x.lo ≤ y.lo) ∧ OwnR w.heap.size w' u (unitedL t) ∧ Below B w w' ∧ w.grownBy w' (some g) := by
  obtain ⟨i0, hi, hz0, hz1, hz2⟩ := info_parts Tryz.infoRange
  have hgB := (h.lt g rfl).1
  have hgl := (h.lt g rfl).2
  have SF := hide (sortFunc_any s g c B w hs h)
  clear h
  go_enter Tryz.func40, Tryz.ntmps40
  go_wp2_with fail
  refine (unhide SF).mono ?_
  rintro e w1 ⟨rfl, ⟨t, ht1, ht2, ht3⟩, hb1, hgr1⟩
  have hw1 : w.heap.size ≤ w1.heap.size := hb1.size
  have hbB : Below B w w1 := hb1.mono hgB
  have htl : t.length = s.length := ht1.length_eq
  have RB := hide (united_bounds (l := t) (fun r hr' => hr r (ht1.mem_iff.1 hr')))
  have RT := hide (fun r (hr' : r ∈ t) => hr r (ht1.mem_iff.1 hr'))
  have T := hide ht3
  have T1 := hide ht1
  have T2 := hide ht2
  have HGR := hide hgr1
  clear ht1 ht2 ht3 SF hb1 hgr1
  go_wp2
  go_loopw [3, 11] (fun u i wr => ∃ k : Nat, k ≤ t.length ∧ i = .int .i64 k ∧ OwnR w1.heap.size wr u (unitedL (t.take k)) ∧ Below w1.heap.size w1 wr) (fun _ i _ => t.length - (intOf i).toNat)
  case atStart => exact ⟨0, Nat.zero_le _, rfl, ⟨rfl, .inl ⟨rfl, rfl⟩⟩, Below.refl _ _⟩
  case round =>
    obtain ⟨k, hk, rfl, how, hbel⟩ := hrel
    by_cases hlt : k < t.length
    · have hgk : t[k]? = some t[k] := List.getElem?_eq_getElem hlt
      obtain ⟨a', c', hv', _, hc'⟩ := (unhide T).up hbel
      obtain ⟨rfl, -, rfl⟩ := Value.slice.inj hv'
      clear hv'
      obtain ⟨g', o', hga, _, d0, d1⟩ := hc' k _ hgk
      cases hga
      rw [Nat.zero_add] at d0 d1
      have US := hide (united_snoc hgk)
      have ULN := united_len t k
      have UB := hide (unhide RB k)
      have hrr := unhide RT t[k] (List.getElem_mem _)
      unfold rightR at hrr
      generalize t[k] = x at *
      obtain ⟨xl, xh⟩ := x
      simp only at d0 d1 hrr
      generalize unitedL (t.take k) = out at *
      have hik : (0 : Int) ≤ (k : Int) := by omega
      have hil : (k : Int) < (s.length : Int) := by omega
      have hwr : w1.heap.size ≤ wr.heap.size := hbel.size
      clear hgk hc'
      obtain ⟨W1, hW1⟩ : ∃ W1, W1 = wr.alloc (Obj.cells #[Value.int IntKind.i64 xl, Value.int IntKind.i64 xh] 56) := ⟨_, rfl⟩
      have hA : Below wr.heap.size wr W1 := by rw [hW1]; exact (Below.refl _ _).alloc (Nat.le_refl _) _
      have s0 : W1.cell? ⟨wr.heap.size, 0, none⟩ = some (.int .i64 xl) := by rw [hW1]; go_simp
      have s1 : W1.cell? ⟨wr.heap.size, 1, none⟩ = some (.int .i64 xh) := by rw [hW1]; go_simp
      have hsz1 : wr.heap.size < W1.heap.size := by rw [hW1]; simp
      have hB1 : Below w1.heap.size w1 W1 := hbel.trans (hA.mono hwr)
      have O1 : OwnR w1.heap.size W1 u3 out := how.up hA
      have HW1 := hide hW1
      clear hW1
      rcases snoc_cases out with hO | ⟨o, u, hO⟩
      · subst hO
        have US2 : Hid (unitedL (t.take (k + 1)) = [] ++ [⟨xl, xh⟩]) := (unhide US).trans rfl
        obtain ⟨ua, uc, hu⟩ := g_shape how
        have hu2 : u3 = .slice ua 0 uc := hu
        subst hu2
        clear hu
        have OO : Hid (W1.ownsRow w1.heap.size 56 2 (.slice ua 0 uc) 0 []) := O1
        clear how O1 US
        go_wp2
        rw [← unhide HW1]
        go_quiet (fail)
        obtain ⟨W2, hW2⟩ : ∃ W2, W2 = W1.drewN nq := ⟨_, rfl⟩
        rw [← hW2]
        have hD : Below W1.heap.size W1 W2 := by rw [hW2]; exact b_drewN (Below.refl _ _) _
        have hz2' : W2.heap.size = W1.heap.size := by rw [hW2]; rfl
        have x0 := (hD.cell (p := ⟨wr.heap.size, 0, none⟩) hsz1).trans s0
        have x1 := (hD.cell (p := ⟨wr.heap.size, 1, none⟩) hsz1).trans s1
        have hB2 : Below w1.heap.size w1 W2 := hB1.trans (hD.mono hB1.size)
        have hs2 : w1.heap.size ≤ W2.heap.size := hB2.size
        have O2 := hide (g_stays (unhide OO) hD)
        clear s0 s1 HW1 hW2 hA hB1 hz2'
        go_wp2_with (at_builtin; refine wpList_append_own _ rfl _ _ 66 rfl w1.heap.size 56 i0 _ 2 16 Tryz.underlying66 hi hz0 hz1 hz2 rfl (by decide) _ _ _ rfl ((unhide O2).alloc _) ⟨W2.heap.size, 0, none⟩ 1 1 [.int .i64 xl, .int .i64 xh] rfl rfl (news_two _ _) ?c2 ?c3 ?c4 ?c5 ?_)
        case c2 => intro u hu; simp at hu; rcases hu with rfl | rfl <;> rfl
        case c3 => unfold maxLen; simp
        case c4 => simp
        case c5 => simp; omega
        intro v' w3 hown3 hg3' _
        have hB3 : Below w1.heap.size w1 w3 := (hB2.alloc hs2 _).grown hg3' (by simp; omega) (fun b hb => ((unhide O2).lt b hb).1)
        have O3 : Hid (OwnR w1.heap.size w3 v' (unitedL (t.take (k + 1)))) := by
          rw [unhide US2]
          show w3.ownsRow _ _ _ _ _ _
          rw [rgs_append, List.length_append]
          exact hown3
        clear hown3 hg3'
        go_wp2
        go_roundw
        case rel => exact ⟨k + 1, by omega, by go_num, unhide O3, hB3⟩
        case measure => simp [intOf]; omega
      · subst hO
        have hub := unhide UB u (by simp)
        have hlen1 : (o ++ [u]).length = o.length + 1 := by simp
        have how2 : W1.ownsRow w1.heap.size 56 2 u3 (o.length + 1) (rgs (o ++ [u])) := by rw [← hlen1]; exact O1
        obtain ⟨g3, cap3, rfl⟩ := ownsRow_succ how2
        have hg3 := how.lt g3 rfl
        have l1 : W1.cell? ⟨g3, o.length * 2 + 1, none⟩ = some (.int .i64 u.hi) := (rg_cells how2 (k := o.length) (f := u) (by simp) (by omega)).2
        have z1 := how2.frozenAt (o.length * 2 + 1)
        have OO := hide how2
        rw [hlen1] at ULN
        have b0 : IntKind.i64.wrap ((o.length : Int) + 1 - 1) = (o.length : Int) := by rw [IntKind.wrap_i64]; omega
        have b1 : IntKind.i64.wrap (u.hi + 1) = u.hi + 1 := by rw [IntKind.wrap_i64]; omega
        have b2 : (0 : Int) ≤ (o.length : Int) := by omega
        have b3 : (o.length : Int) < (o.length : Int) + 1 := by omega
        clear how O1
        by_cases hc : xl ≤ u.hi + 1
        · have dc : decide (xl ≤ u.hi + 1) = true := by simpa using hc
          have US2 : Hid (unitedL (t.take (k + 1)) = o ++ [⟨u.lo, max u.hi xh⟩]) := (unhide US).trans (uniteTo_in hc)
          clear US
          go_wp2
          rw [← unhide HW1]
          go_quiet (fail)
          obtain ⟨W2, hW2⟩ : ∃ W2, W2 = W1.drewN nq := ⟨_, rfl⟩
          rw [← hW2]
          have hD : Below W1.heap.size W1 W2 := by rw [hW2]; exact b_drewN (Below.refl _ _) _
          have hz2' : W2.heap.size = W1.heap.size := by rw [hW2]; rfl
          have x0 := (hD.cell (p := ⟨wr.heap.size, 0, none⟩) hsz1).trans s0
          have x1 := (hD.cell (p := ⟨wr.heap.size, 1, none⟩) hsz1).trans s1
          have hB2 : Below w1.heap.size w1 W2 := hB1.trans (hD.mono hB1.size)
          have hs2 : w1.heap.size ≤ W2.heap.size := hB2.size
          have O2 := hide (g_stays (unhide OO) hD)
          have l2 := (hD.cell (p := ⟨g3, o.length * 2 + 1, none⟩) (by show g3 < W1.heap.size; omega)).trans l1
          have z2 := (unhide O2).frozenAt (o.length * 2 + 1)
          clear s0 s1 HW1 hW2 hA hB1 hz2' l1 z1
          go_wp2
          go_region
          have st := ((unhide O2).stored (o.length * 2 + 1) (.int .i64 (max u.hi xh))).1
          rw [set_last] at st
          have O3 : Hid (OwnR w1.heap.size (W2.setCell ⟨g3, o.length * 2 + 1, none⟩ (.int .i64 (max u.hi xh))).drew (.slice (some ⟨g3, 0, none⟩) (o.length + 1) cap3) (unitedL (t.take (k + 1)))) := by
            rw [unhide US2]
            show World.ownsRow _ _ _ _ _ _ _
            rw [List.length_append]
            exact st
          have hB3 := (hB2.setCell (p := ⟨g3, o.length * 2 + 1, none⟩) hg3.1 (.int .i64 (max u.hi xh))).drew
          clear st l2 z2 x0 x1
          generalize (W2.setCell ⟨g3, o.length * 2 + 1, none⟩ (.int .i64 (max u.hi xh))).drew = W3 at *
          go_wp2
          go_roundw
          case rel => exact ⟨k + 1, by omega, by go_num, unhide O3, hB3⟩
          case measure => simp [intOf]; omega
        · have dc : decide (xl ≤ u.hi + 1) = false := by simpa using hc
          have US2 : Hid (unitedL (t.take (k + 1)) = o ++ [u] ++ [⟨xl, xh⟩]) := (unhide US).trans (uniteTo_new hc)
          clear US
          go_wp2
          rw [← unhide HW1]
          go_quiet (fail)
          obtain ⟨W2, hW2⟩ : ∃ W2, W2 = W1.drewN nq := ⟨_, rfl⟩
          rw [← hW2]
          have hD : Below W1.heap.size W1 W2 := by rw [hW2]; exact b_drewN (Below.refl _ _) _
          have hz2' : W2.heap.size = W1.heap.size := by rw [hW2]; rfl
          have x0 := (hD.cell (p := ⟨wr.heap.size, 0, none⟩) hsz1).trans s0
          have x1 := (hD.cell (p := ⟨wr.heap.size, 1, none⟩) hsz1).trans s1
          have hB2 : Below w1.heap.size w1 W2 := hB1.trans (hD.mono hB1.size)
          have hs2 : w1.heap.size ≤ W2.heap.size := hB2.size
          have O2 := hide (g_stays (unhide OO) hD)
          clear s0 s1 HW1 hW2 hA hB1 hz2'
          go_wp2_with (at_builtin; refine wpList_append_own _ rfl _ _ 66 rfl w1.heap.size 56 i0 _ 2 16 Tryz.underlying66 hi hz0 hz1 hz2 rfl (by decide) _ _ _ rfl ((unhide O2).alloc _) ⟨W2.heap.size, 0, none⟩ 1 1 [.int .i64 xl, .int .i64 xh] rfl rfl (news_two _ _) ?c2 ?c3 ?c4 ?c5 ?_)
          case c2 => intro u hu; simp at hu; rcases hu with rfl | rfl <;> rfl
          case c3 => unfold maxLen; omega
          case c4 => omega
          case c5 => simp; omega
          intro v' w3 hown3 hg3' _
          have hB3 : Below w1.heap.size w1 w3 := (hB2.alloc hs2 _).grown hg3' (by simp; omega) (fun b hb => ((unhide O2).lt b hb).1)
          have O3 : Hid (OwnR w1.heap.size w3 v' (unitedL (t.take (k + 1)))) := by
            rw [unhide US2]
            show w3.ownsRow _ _ _ _ _ _
            rw [rgs_append, List.length_append, hlen1]
            exact hown3
          clear hown3 hg3'
          go_wp2
          go_roundw
          case rel => exact ⟨k + 1, by omega, by go_num, unhide O3, hB3⟩
          case measure => simp [intOf]; omega
    · obtain rfl : k = t.length := by omega
      rw [List.take_length] at how
      have OO := hide (g_based how hw1)
      clear how
      go_wp2
      go_ret
      exact ⟨_, t, rfl, unhide T1, unhide T2, unhide OO, hbB.trans (hbel.mono (Nat.le_trans hB hw1)), g_then (unhide HGR) hbel⟩
theorem impl_united_any (s : List Rg) (g c B : Nat) (w : World) (hs : s.length ≤ 4000000) (hr : ∀ r ∈ s, rightR r) (h : OwnR B w (.slice (some ⟨g, 0, none⟩) s.length c) s) (hB : B ≤ w.heap.size) :
    Calls Tryz.prog 40 #[.slice (some ⟨g, 0, none⟩) s.length c] w fun e w' => ∃ u t, e = .returned u ∧ t.Perm s ∧ t.Pairwise (fun x y => x.lo ≤ y.lo) ∧ OwnR w.heap.size w' u (unitedL t) ∧ Below B w w' :=
  (impl_united_full s g c B w hs hr h hB).mono fun e w' ⟨u, t, h1, h2, h3, h4, h5, _⟩ => ⟨u, t, h1, h2, h3, h4, h5⟩
end Go.Proofs.YthnofckkehephaaGreatDoor
