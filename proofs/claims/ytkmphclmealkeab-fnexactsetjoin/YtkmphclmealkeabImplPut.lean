/- The program's sets: what became of one, or as it is; a range put behind a row. -/
import Derived.Test.YtkmphclmealkeabImplCut
import Derived.Test.YtkmphclmealkeabOrNothing
import Derived.Test.YtkmphclmealkeabImplMoved
import Derived.Test.YtkmphclmealkeabSetRuns
namespace Go.Proofs.Ytkmphclmealkeab
open Go.RowKit
open Plain
set_option linter.unusedVariables false

theorem rows_one {W : World} {v : Value} {s : List Rg} (h : ReadO W v s) : RowsO (W.alloc (.cells #[v] 42)) W.heap.size [(v, s)] := by
  have hb : Below W.heap.size W (W.alloc (.cells #[v] 42)) := (Below.refl _ _).alloc (Nat.le_refl _) _
  refine ⟨by simp, fun i p hp => ?_⟩
  match i with
  | 0 =>
    simp at hp
    subst hp
    exact ⟨by simp, h.up hb⟩
  | i + 1 => simp at hp
theorem impl_moved_one (v : Value) (s : List Rg) (W : World) (hs : s.length ≤ 8000000) (h : ReadO W v s) :
    Calls Try.prog 27 #[.slice (some ⟨W.heap.size, 0, none⟩) 1 1] (W.alloc (.cells #[v] 42)) fun e w' => ∃ u, e = .returned u ∧ OwnR W.heap.size w' u s ∧ Below W.heap.size W w' := by
  have hb : Below W.heap.size W (W.alloc (.cells #[v] 42)) := (Below.refl _ _).alloc (Nat.le_refl _) _
  refine (impl_moved_any [(v, s)] W.heap.size 1 _ (by simp) (by simpa [flatP] using hs) (rows_one h)).mono ?_
  rintro e w' ⟨u, rfl, ho, hb2⟩
  refine ⟨u, rfl, ?_, hb.trans (hb2.mono hb.size)⟩
  have : flatP [(v, s)] = s := by simp [flatP]
  rw [this] at ho
  exact g_based ho hb.size

theorem impl_orAsItIs_any (s t : List Rg) (v u : Value) (B : Nat) (w : World) (hs : s.length ≤ 8000000) (ht : t.length ≤ 1048576) (h : ReadO w v s) (hu : OwnR B w u t) (hB : B ≤ w.heap.size) :
    Calls Try.prog 29 #[v, u] w fun e w' => ∃ v', e = .returned (.tuple #[v', .bool (okS t)]) ∧ OwnR B w' v' (if okS t = true then t else s) ∧ Below w.heap.size w w' := by
  have OK := impl_SetOk_any t u w ht hu.wide
  have HU := hide hu
  have H := hide h
  obtain ⟨a, c, rfl, _, _⟩ := id h
  obtain ⟨a2, c2, rfl⟩ := g_shape hu
  have MV := hide (fun W h => impl_moved_one (.slice a s.length c) s W hs h)
  cases ho : okS t with
  | false =>
    rw [ho] at OK
    have Q := hide OK
    clear OK hu h
    go_enter Try.func29, Try.ntmps29
    go_wp2_with fail
    refine (unhide Q).mono ?_
    rintro e w1 ⟨rfl, hb1⟩
    have M1 := hide (unhide MV w1 ((unhide H).up hb1))
    go_wp2_with fail
    refine (unhide M1).mono ?_
    rintro e w2 ⟨x, rfl, ho2, hb2⟩
    have O2 := hide ho2
    clear ho2
    go_wp2
    go_ret2
    exact ⟨_, rfl, g_based (unhide O2) (Nat.le_trans hB hb1.size), hb1.trans (hb2.mono hb1.size)⟩
  | true =>
    rw [ho] at OK
    have Q := hide OK
    clear OK hu h
    go_enter Try.func29, Try.ntmps29
    go_wp2_with fail
    refine (unhide Q).mono ?_
    rintro e w1 ⟨rfl, hb1⟩
    go_wp2
    go_ret2
    exact ⟨_, rfl, (unhide HU).up hb1, hb1⟩

set_option maxHeartbeats 2000000 in
theorem impl_withRange_any (l : List Rg) (v : Value) (x y : Int) (B : Nat) (w : World) (hs : l.length ≤ 1048576) (h : OwnR B w v l) (hB : B ≤ w.heap.size) :
    Calls Try.prog 31 #[v, .agg #[.int .i64 x, .int .i64 y]] w fun e w' => ∃ v', e = .returned v' ∧ OwnR B w' v' (withR l ⟨x, y⟩) ∧ w.grownBy w' v.ownBlock := by
  obtain ⟨i0, hi, hz0, hz1, hz2⟩ := info_parts Try.infoRange
  have hb0 : Below w.heap.size w (w.alloc (Obj.cells #[Value.int IntKind.i64 x, Value.int IntKind.i64 y] 37)) := (Below.refl _ _).alloc (Nat.le_refl _) _
  have O0 := hide (h.up hb0)
  unfold withR
  simp only
  by_cases hc : y < x
  · have d : decide (y < x) = true := by simpa using hc
    rw [if_pos hc]
    obtain ⟨a, c, rfl⟩ := g_shape h
    clear h
    go_enter Try.func31, Try.ntmps31
    go_wp2
    go_ret
    exact ⟨_, rfl, unhide O0, g_grown hb0 _⟩
  · have d : decide (y < x) = false := by simpa using hc
    rw [if_neg hc]
    obtain ⟨a, c, rfl⟩ := g_shape h
    clear h
    go_enter Try.func31, Try.ntmps31
    go_wp2_with (at_builtin; refine wpList_append_own _ rfl _ _ 42 rfl B 37 i0 _ 2 16 Try.underlying42 hi hz0 hz1 hz2 rfl (by decide) _ _ _ rfl ((unhide O0).alloc _) ⟨w.heap.size + 1, 0, none⟩ 1 1 [.int .i64 x, .int .i64 y] rfl rfl ?c1 ?c2 ?c3 ?c4 ?c5 ?_)
    case c2 => exact ⟨rfl, rfl⟩
    case c3 => unfold maxLen; omega
    case c4 => omega
    case c5 => omega
    intro v' w1 hown hgrow _
    have O1 : Hid (OwnR B w1 v' (l ++ [⟨x, y⟩])) := by
      show w1.ownsRow _ _ _ _ _ _
      rw [rgs_append, List.length_append]
      exact hown
    have G1 := hide (g_join (g_grown (hb0.alloc (by simp) (Obj.cells #[Value.int IntKind.i64 x, Value.int IntKind.i64 y] 37)) _) hgrow)
    clear hown hgrow
    go_wp2
    go_ret
    exact ⟨_, rfl, unhide O1, unhide G1⟩

theorem rows_three {W : World} {u v x : Value} {a b c : List Rg} (h1 : ReadO W u a) (h2 : ReadO W v b) (h3 : ReadO W x c) : RowsO (W.alloc (.cells #[u, v, x] 42)) W.heap.size [(u, a), (v, b), (x, c)] := by
  have hb : Below W.heap.size W (W.alloc (.cells #[u, v, x] 42)) := (Below.refl _ _).alloc (Nat.le_refl _) _
  refine ⟨by simp, fun i p hp => ?_⟩
  match i with
  | 0 => simp at hp; subst hp; exact ⟨by simp, h1.up hb⟩
  | 1 => simp at hp; subst hp; exact ⟨by simp, h2.up hb⟩
  | 2 => simp at hp; subst hp; exact ⟨by simp, h3.up hb⟩
  | i + 3 => simp at hp
theorem impl_moved_three (u v x : Value) (a b c : List Rg) (W : World) (hs : a.length + (b.length + c.length) ≤ 8000000) (h1 : ReadO W u a) (h2 : ReadO W v b) (h3 : ReadO W x c) :
    Calls Try.prog 27 #[.slice (some ⟨W.heap.size, 0, none⟩) 3 3] (W.alloc (.cells #[u, v, x] 42)) fun e w' => ∃ r, e = .returned r ∧ OwnR W.heap.size w' r (a ++ (b ++ c)) ∧ Below W.heap.size W w' := by
  have hb : Below W.heap.size W (W.alloc (.cells #[u, v, x] 42)) := (Below.refl _ _).alloc (Nat.le_refl _) _
  have hf : flatP [(u, a), (v, b), (x, c)] = a ++ (b ++ c) := by simp [flatP]
  refine (impl_moved_any [(u, a), (v, b), (x, c)] W.heap.size 3 _ (by simp) (by rw [hf]; simpa using hs) (rows_three h1 h2 h3)).mono ?_
  rintro e w' ⟨r, rfl, ho, hb2⟩
  refine ⟨r, rfl, ?_, hb.trans (hb2.mono hb.size)⟩
  rw [hf] at ho
  exact g_based ho hb.size
theorem rows_two {W : World} {u v : Value} {a b : List Rg} (h1 : ReadO W u a) (h2 : ReadO W v b) : RowsO (W.alloc (.cells #[u, v] 42)) W.heap.size [(u, a), (v, b)] := by
  have hb : Below W.heap.size W (W.alloc (.cells #[u, v] 42)) := (Below.refl _ _).alloc (Nat.le_refl _) _
  refine ⟨by simp, fun i p hp => ?_⟩
  match i with
  | 0 => simp at hp; subst hp; exact ⟨by simp, h1.up hb⟩
  | 1 => simp at hp; subst hp; exact ⟨by simp, h2.up hb⟩
  | i + 2 => simp at hp
theorem impl_moved_two (u v : Value) (a b : List Rg) (W : World) (hs : a.length + b.length ≤ 8000000) (h1 : ReadO W u a) (h2 : ReadO W v b) :
    Calls Try.prog 27 #[.slice (some ⟨W.heap.size, 0, none⟩) 2 2] (W.alloc (.cells #[u, v] 42)) fun e w' => ∃ r, e = .returned r ∧ OwnR W.heap.size w' r (a ++ b) ∧ Below W.heap.size W w' ∧ ∃ g n c, r = .slice (some ⟨g, 0, none⟩) n c := by
  have hb : Below W.heap.size W (W.alloc (.cells #[u, v] 42)) := (Below.refl _ _).alloc (Nat.le_refl _) _
  have hf : flatP [(u, a), (v, b)] = a ++ b := by simp [flatP]
  refine (impl_moved_full [(u, a), (v, b)] W.heap.size 2 _ (by simp) (by rw [hf]; simpa using hs) (rows_two h1 h2)).mono ?_
  rintro e w' ⟨r, rfl, ho, hb2, hr⟩
  refine ⟨r, rfl, ?_, hb.trans (hb2.mono hb.size), hr⟩
  rw [hf] at ho
  exact g_based ho hb.size
end Go.Proofs.Ytkmphclmealkeab
