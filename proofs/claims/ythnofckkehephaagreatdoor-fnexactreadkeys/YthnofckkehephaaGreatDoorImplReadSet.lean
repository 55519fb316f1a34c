/- The program's ReadSet. -/
import Derived.Test.YthnofckkehephaaGreatDoorSplit1
import Derived.Test.YthnofckkehephaaGreatDoorUnited
import Derived.Test.YthnofckkehephaaGreatDoorOrNothing
namespace Go.Proofs.YthnofckkehephaaGreatDoor
open Go.RowKit Go.Shelf
open Plain
set_option linter.unusedVariables false

attribute [local go_sem] Oper.semAt_some

namespace Plain
def rgOf (last : Int) (p : List UInt8) : Rg := ⟨(partV p last).1, (partV p last).2.1⟩
theorem okParts_pre {a b : List (List UInt8)} {last : Int} (h : a <+: b) (ha : okParts a last = false) : okParts b last = false := by
  obtain ⟨c, rfl⟩ := h
  unfold okParts at ha ⊢
  rw [List.all_append, ha, Bool.false_and]
theorem rg_right {last : Int} (h1 : 1 ≤ last) (h2 : last ≤ 9999) {ps : List (List UInt8)} (h : okParts ps last = true) : ∀ r ∈ ps.map (rgOf last), rightR r := by
  intro r hr
  obtain ⟨p, hp, rfl⟩ := List.mem_map.1 hr
  have ho : (partV p last).2.2 = true := by
    unfold okParts at h
    rw [List.all_eq_true] at h
    exact h p hp
  exact part_ok h1 h2 ho
theorem marks_has {last : Int} (ps : List (List UInt8)) (n : Nat) : marksV ps last n = hasB (ps.map (rgOf last)) (n : Int) := by
  unfold marksV hasB
  rw [List.any_map]
  rfl
theorem read_united {l : List UInt8} {last : Int} {t : List Rg} (h1 : 1 ≤ last) (h2 : last ≤ 9999) (h : okParts (cutsL 44 l) last = true) (hp : t.Perm ((cutsL 44 l).map (rgOf last))) (hs : t.Pairwise (fun x y => x.lo ≤ y.lo)) : readV l last = orNo (unitedL t) := by
  have hr : ∀ r ∈ t, rightR r := fun r hr => rg_right h1 h2 h r (hp.mem_iff.1 hr)
  have hu := united_ok hr hs
  rw [readV_in ⟨h1, h2, h⟩]
  refine setV_is (marks_zero h1 h2 h) hu.1 (fun m hm _ => ?_)
  rw [hu.2, hasB_perm hp, marks_has, Int.toNat_of_nonneg (by omega)]
theorem cuts_len (c : UInt8) (l : List UInt8) : (cutsL c l).length ≤ l.length + 1 := by
  induction l with
  | nil => simp [cutsL]
  | cons b r ih =>
    rw [cutsL]
    split
    · simp; omega
    · split
      · rename_i h t e
        rw [e] at ih
        simp at ih ⊢
        omega
      · simp
end Plain

theorem keepsR_below {W W' : World} (h : Below W.heap.size W W') : KeepsOthers W W' :=
  ⟨h.size, fun k o hk _ => (h.block k (Array.getElem?_eq_some_iff.1 hk).1).trans hk⟩
theorem boxedR_below {W W' : World} {B : Nat} {t : TypeId} {v : Value} (h : Below W.heap.size W W') (b : Boxed W B t v) : Boxed W' B t v := (h.block B b.lt).trans b

/-- What the loop holds on to. -/
def InvR (w : World) (last : Int) (pre : List Pt) (W : World) : Prop :=
  (∃ v, Boxed W (w.heap.size + 3) 66 v ∧ W.ownsRow (w.heap.size + 7) 56 2 v pre.length (rgs ((pre.map ptOf).map (rgOf last))) ∧ True) ∧
  (Boxed W w.heap.size 3 (.int .i64 last) ∧ Boxed W (w.heap.size + 1) 36 (.slice none 0 0) ∧ Boxed W (w.heap.size + 2) 4 (.bool false)) ∧ okParts (pre.map ptOf) last = true ∧ Below w.heap.size w W ∧ w.heap.size + 7 ≤ W.heap.size
def InvX (w : World) (last : Int) (pre : List Pt) (W : World) : Prop :=
  (Boxed W (w.heap.size + 1) 36 (.slice none 0 0) ∧ Boxed W (w.heap.size + 2) 4 (.bool false)) ∧ okParts (pre.map ptOf) last = false ∧ Below w.heap.size w W
theorem InvR.own (w : World) (last : Int) (B : Nat) (hB : w.heap.size ≤ B) : OwnFrom B (InvR w last) :=
  OwnFrom.and (Own.from (holdsRow_own (w.heap.size + 7) (w.heap.size + 3) 66 56 2 (fun (pre : List Pt) => pre.length) (fun (pre : List Pt) => rgs ((pre.map ptOf).map (rgOf last))) (fun _ _ => True)) _)
    (OwnFrom.and (OwnFrom.and (Own.from (boxed_own w.heap.size 3 (fun _ => .int .i64 last)) _) (OwnFrom.and (Own.from (boxed_own (w.heap.size + 1) 36 (fun _ => .slice none 0 0)) _) (Own.from (boxed_own (w.heap.size + 2) 4 (fun _ => .bool false)) _)))
      (OwnFrom.and (ownFrom_pure _ (fun (pre : List Pt) => okParts (pre.map ptOf) last = true)) (OwnFrom.and (ownFrom_below (Nat.le_refl _) hB) (fun _ _ _ _ hs hg _ => Nat.le_trans hs hg.size))))
theorem InvX.own (w : World) (last : Int) (B : Nat) (hB : w.heap.size ≤ B) : OwnFrom B (InvX w last) :=
  OwnFrom.and (OwnFrom.and (Own.from (boxed_own (w.heap.size + 1) 36 (fun _ => .slice none 0 0)) _) (Own.from (boxed_own (w.heap.size + 2) 4 (fun _ => .bool false)) _))
    (OwnFrom.and (ownFrom_pure _ (fun (pre : List Pt) => okParts (pre.map ptOf) last = false)) (ownFrom_below (Nat.le_refl _) hB))
theorem InvR.moved (w : World) (last : Int) (s : List Pt) (A : World) (v : Value) (h : InvR w last s A) : InvR w last s (A.setCell ⟨w.heap.size + 4, 0, none⟩ v) := by
  obtain ⟨⟨u, h1, h2, _⟩, ⟨h3, h4, h5⟩, h6, h7, h8⟩ := h
  refine ⟨⟨u, h1.other (by omega) _, h2.kept (grownBy_setCell' A (w.heap.size + 4) v) ?_, trivial⟩, ⟨h3.other (by omega) _, h4.other (by omega) _, h5.other (by omega) _⟩, h6, h7.setCell (p := ⟨w.heap.size + 4, 0, none⟩) (by show w.heap.size ≤ w.heap.size + 4; omega) v, by simpa using h8⟩
  cases hv : u.ownBlock with
  | none => exact .inl rfl
  | some b =>
    refine .inr fun e => ?_
    cases e
    have := (h2.lt _ hv).1
    omega

/-- A range is laid behind the others, and the box holds the longer row. -/
theorem appendedR {W w1 : World} {B n₀ m : Nat} {t e : TypeId} {size : Nat} {v v' : Value} {k j : Nat} {xs ys : List Value} {tmp : Obj}
    (hv : Boxed W B t v) (hte : t ≠ e) (hrow : W.ownsRow n₀ e size v k xs) (hm0 : m ≤ W.heap.size) (hm : m ≤ n₀) (hB : m ≤ B)
    (hown' : w1.ownsRow n₀ e size v' j ys) (hgrow : (W.alloc tmp).grownBy w1 v.ownBlock) :
    Boxed w1 B t v ∧ Boxed (w1.setCell ⟨B, 0, none⟩ v') B t v' ∧ (w1.setCell ⟨B, 0, none⟩ v').ownsRow n₀ e size v' j ys ∧ KeepsOthers W (w1.setCell ⟨B, 0, none⟩ v') ∧ Below m W (w1.setCell ⟨B, 0, none⟩ v') ∧
      ∀ k, k ≠ B → k < n₀ → k < W.heap.size → (w1.setCell ⟨B, 0, none⟩ v').heap[k]? = W.heap[k]? := by
  obtain ⟨h1, h2, h3, h4, h5⟩ := hv.appended hte (g_based hrow hm) hm0 hB (g_based hown' hm) hgrow
  refine ⟨h1, h2, hown'.kept (grownBy_setCell' w1 B v') (.inr (h1.not_row hte hown').symm), h4, h5, fun k hne hlt hk => ?_⟩
  rw [Below.heap_setCell w1 ⟨B, 0, none⟩ v' k (fun e => hne e), hgrow.block k (by simp; omega) (fun e' => ?_), Below.heap_alloc _ _ _ hk]
  have := (hrow.lt k e'.symm).1
  omega

set_option maxRecDepth 100000 in
set_option maxHeartbeats 4000000 in
theorem impl_ReadSet_in (t : ByteArray) (last : Int) (w : World) (ht : t.size ≤ 1048576) (h1 : 1 ≤ last) (h2 : last ≤ 9999) (he : ErrOk w) :
    Calls Tryz.prog 33 #[.string t, .int .i64 last] w fun e w' => ∃ v', e = .returned (.tuple #[v', .bool (readV t.data.toList last).2]) ∧ OwnR w.heap.size w' v' (readV t.data.toList last).1 ∧ Below w.heap.size w w' := by
  obtain ⟨i0, hi, hz0, hz1, hz2⟩ := info_parts Tryz.infoRange
  have HE := hide he
  clear he
  have d1 : decide (last < 1) = false := by simp; omega
  have d2 : decide (9999 < last) = false := by simp; omega
  refine (callsIn_wide (n := 6)).1 ?_
  refine callsIn_of_wp_marks Tryz.func33 rfl trivial ?_ rfl
  simp only [Tryz.ntmps33, List.size_toArray, List.length_cons, List.length_nil, Nat.reduceAdd, Nat.reduceSub, Array.replicate_succ, Array.replicate_zero, List.push_toArray, List.append_toArray, List.nil_append, List.cons_append]
  gi_wp2_with (refine ⟨trivial, ?_⟩; gi_at_call 37; refine (SplitSeq_in _ t _).mono ?_; rintro e w1 ⟨rfl, q1, q2, q3, q4⟩)
  have bL := Boxed.new w 3 (.int .i64 last)
  have bS := Boxed.new (w.alloc (.cells #[.int .i64 last] 3)) 36 (.slice none 0 0)
  have bO := Boxed.new ((w.alloc (.cells #[.int .i64 last] 3)).alloc (.cells #[.slice none 0 0] 36)) 4 (.bool false)
  have bT := Boxed.new (((w.alloc (.cells #[.int .i64 last] 3)).alloc (.cells #[.slice none 0 0] 36)).alloc (.cells #[.bool false] 4)) 66 (.slice none 0 0)
  rw [World.size_alloc] at bS
  rw [World.size_alloc, World.size_alloc] at bO
  rw [World.size_alloc, World.size_alloc, World.size_alloc] at bT
  obtain ⟨WA, hWA⟩ : ∃ WA, WA = ((((w.alloc (.cells #[.int .i64 last] 3)).alloc (.cells #[.slice none 0 0] 36)).alloc (.cells #[.bool false] 4)).alloc (.cells #[.slice none 0 0] 66)) := ⟨_, rfl⟩
  have b1 : Boxed WA w.heap.size 3 (.int .i64 last) := by rw [hWA]; exact ((bL.alloc _).alloc _).alloc _
  have b2 : Boxed WA (w.heap.size + 1) 36 (.slice none 0 0) := by rw [hWA]; exact (bS.alloc _).alloc _
  have b3 : Boxed WA (w.heap.size + 2) 4 (.bool false) := by rw [hWA]; exact bO.alloc _
  have b4 : Boxed WA (w.heap.size + 3) 66 (.slice none 0 0) := by rw [hWA]; exact bT
  have hbA : Below w.heap.size w WA := by rw [hWA]; exact ((((Below.refl _ w).alloc (Nat.le_refl _) _).alloc (by simp) _).alloc (by simp; omega) _).alloc (by simp; omega) _
  have hsA : WA.heap.size = w.heap.size + 4 := by rw [hWA]; simp
  rw [← hWA] at q1 q2 q3 q4
  clear bL bS bO bT hWA
  have hs1 : w1.heap.size = w.heap.size + 7 := by omega
  have q1' : SpBox (w.heap.size + 1 + 1 + 1 + 1) w1 t := by rw [hsA] at q1; exact q1
  have hB1 : Below w.heap.size w w1 := below2 hbA q3
  have k1 := boxedR_below q3 b1
  have k2 := boxedR_below q3 b2
  have k3 := boxedR_below q3 b3
  have k4 := boxedR_below q3 b4
  have HS1 := hide hs1
  have RU := hide (fun (tt : List Rg) h hp hs => read_united (l := t.data.toList) (last := last) (t := tt) h1 h2 h hp hs)
  have RN := hide (fun h => readV_no (l := t.data.toList) (last := last) h)
  have CL := cuts_len 44 t.data.toList
  have hls : Hid (t.data.toList.length = t.size) := rfl
  rw [unhide hls] at CL
  clear q1 q2 q3 q4 b1 b2 b3 b4 hbA hsA
  refine wpIn_range_moves (by omega) (gf := 51) (lb := #[.pointer (some ⟨w.heap.size + 1 + 1 + 1 + 1 + 1, 0, none⟩), .pointer (some ⟨w.heap.size + 1 + 1 + 1 + 1, 0, none⟩), .pointer (some ⟨w.heap.size + 1 + 1 + 1 + 1 + 2, 0, none⟩)]) rfl (enters_of Tryz.func51 (by kernel_rfl) rfl)
    (split_moves 5 (by omega) (w.heap.size + 1 + 1 + 1 + 1) w.heap.size t ht w1 q1' (by omega)) KpS.t (KpS.b (by omega) (by omega)) (fun _ => rfl)
    (InvR w last) (InvX w last) (InvR.own w last _ (by omega)) (InvX.own w last _ (by omega)) (InvR.moved w last) ⟨⟨_, k4, World.ownsRow_nil _ _ _ _, trivial⟩, ⟨k1, k2, k3⟩, rfl, hB1, by omega⟩
    (fun x => { tmps := #[.string t, .int .i64 last, undef, .pointer (some ⟨w.heap.size, 0, none⟩), .pointer (some ⟨w.heap.size + 1, 0, none⟩), .pointer (some ⟨w.heap.size + 1 + 1, 0, none⟩), .pointer (some ⟨w.heap.size + 1 + 1 + 1, 0, none⟩), .string x.1, undef, undef, .int .i64 last, .bool false, .bool false, .int .i64 last, .bool false, .bool false, .string t, .func (.func 51) #[] #[.pointer (some ⟨w.heap.size + 1 + 1 + 1 + 1 + 1, 0, none⟩), .pointer (some ⟨w.heap.size + 1 + 1 + 1 + 1, 0, none⟩), .pointer (some ⟨w.heap.size + 1 + 1 + 1 + 1 + 2, 0, none⟩)], .string x.1, undef, undef, undef, undef, undef, undef, undef, undef, undef, undef, undef, undef, undef, undef, undef, undef, undef], defers := [] }) ?assign ?body ?done ?stop
  case assign =>
    intro l x W K hK
    gi_wp2
    exact hK
  case body =>
    rintro l pre x W ⟨⟨v, hv, hrow, _⟩, ⟨hL, hR1, hR2⟩, hok, hB, hsz⟩ hlt
    have RR := hide (impl_readRange_any x.1 last W x.2 ((unhide HE).below hB))
    have c0 := hL.cell
    gi_wp2
    refine ⟨trivial, (CallsIn.inRound l (callsIn_wide.2 (unhide RR))).mono ?_⟩
    rintro e w2 ⟨⟨X, Y, rfl, hxy⟩, hb2⟩
    have hB2 : Below w.heap.size w w2 := hB.trans (hb2.mono hB.size)
    have e1 := boxedR_below hb2 hR1
    have e2 := boxedR_below hb2 hR2
    have e3 := boxedR_below hb2 hv
    have e0 := boxedR_below hb2 hL
    have hrow2 := g_stays hrow hb2
    have KO2 := keepsR_below hb2
    have hsz2 : w.heap.size + 7 ≤ w2.heap.size := Nat.le_trans hsz hb2.size
    have OS := hide (okParts_snoc (pre.map ptOf) (ptOf x) last)
    have hpt : ptOf x = x.1.data.toList := rfl
    cases hpo : (partV x.1.data.toList last).2.2 with
    | false =>
      rw [hpo] at hxy
      have OX : Hid (okParts ((pre ++ [x]).map ptOf) last = false) := by
        rw [List.map_append]
        show okParts (pre.map ptOf ++ [ptOf x]) last = false
        rw [unhide OS, hpt, hpo, Bool.and_false]
      clear hxy hpt
      have f1 : (w2.alloc (Obj.cells #[Value.int IntKind.i64 X, Value.int IntKind.i64 Y] 56)).cell? ⟨w.heap.size + 1, 0, none⟩ = some (.slice none 0 0) := (e1.alloc _).cell
      have f2 : (w2.alloc (Obj.cells #[Value.int IntKind.i64 X, Value.int IntKind.i64 Y] 56)).cell? ⟨w.heap.size + 1 + 1, 0, none⟩ = some (.bool false) := (e2.alloc _).cell
      have f3 := (e1.alloc (Obj.cells #[Value.int IntKind.i64 X, Value.int IntKind.i64 Y] 56)).frozen
      have f4 : (w2.alloc (Obj.cells #[Value.int IntKind.i64 X, Value.int IntKind.i64 Y] 56)).frozen? ⟨w.heap.size + 1 + 1, 0, none⟩ = false := (e2.alloc _).frozen
      gi_wp2
      have n12 : w.heap.size + 1 ≠ w.heap.size + 2 := by omega
      exact ⟨(((KO2.trans (KeepsOthers.alloc _ _)).trans (KeepsOthers.setCell _ _ _)).trans (KeepsOthers.setCell _ _ _)).from _, ⟨((e1.alloc _).set (.slice none 0 0)).other n12 _, ((e2.alloc _).other n12.symm _).set (.bool false)⟩, unhide OX, ((hB2.alloc (by omega) _).setCell (p := ⟨w.heap.size + 1, 0, none⟩) (by show w.heap.size ≤ w.heap.size + 1; omega) _).setCell (p := ⟨w.heap.size + 1 + 1, 0, none⟩) (by show w.heap.size ≤ w.heap.size + 1 + 1; omega) _⟩
    | true =>
      rw [hpo] at hxy
      obtain ⟨hx1, hy1⟩ := hxy rfl
      have OX : Hid (okParts ((pre ++ [x]).map ptOf) last = true) := by
        rw [List.map_append]
        show okParts (pre.map ptOf ++ [ptOf x]) last = true
        rw [unhide OS, hpt, hpo, hok]
        rfl
      have RG : Hid (rgs (((pre ++ [x]).map ptOf).map (rgOf last)) = rgs ((pre.map ptOf).map (rgOf last)) ++ [.int .i64 X, .int .i64 Y]) := by
        rw [List.map_append, List.map_append, rgs_append, hx1, hy1]
        rfl
      clear hxy hpt hx1 hy1
      have f3 : (w2.alloc (Obj.cells #[Value.int IntKind.i64 X, Value.int IntKind.i64 Y] 56)).cell? ⟨w.heap.size + 1 + 1 + 1, 0, none⟩ = some v := (e3.alloc _).cell
      have hrow3 := hrow2.alloc (Obj.cells #[Value.int IntKind.i64 X, Value.int IntKind.i64 Y] 56)
      have E3 := e3.alloc (Obj.cells #[Value.int IntKind.i64 X, Value.int IntKind.i64 Y] 56)
      have nw := news_two (W := w2.alloc (Obj.cells #[Value.int IntKind.i64 X, Value.int IntKind.i64 Y] 56)) (.int .i64 X) (.int .i64 Y)
      rw [World.size_alloc] at nw
      have hpl : pre.length ≤ 1048577 := by omega
      gi_wp2_with (gi_at_builtin; refine wpListIn_append_own _ rfl _ _ 66 rfl (w.heap.size + 7) 56 i0 _ 2 16 Tryz.underlying66 hi hz0 hz1 hz2 rfl (by decide) _ _ _ rfl (hrow3.alloc _) ⟨w2.heap.size + 1, 0, none⟩ 1 1 [.int .i64 X, .int .i64 Y] rfl rfl nw (by intro u hu; simp at hu; rcases hu with rfl | rfl <;> rfl) (by unfold maxLen; omega) (by omega) (by simp; omega) ?_; intro v' w3 hown' hgrow _; obtain ⟨g', cap', rfl⟩ := ownsRow_succ hown'; obtain ⟨a1, a2, a3, a4, a5, a6⟩ := appendedR (m := w.heap.size) E3 (by decide) hrow3 (by simp; omega) (by omega) (by omega) hown' hgrow; have hc1 : w3.cell? ⟨w.heap.size + 1 + 1 + 1, 0, none⟩ = some v := a1.cell; have hf1 : w3.frozen? ⟨w.heap.size + 1 + 1 + 1, 0, none⟩ = false := a1.frozen)
      have hAl : Below w2.heap.size w2 (w2.alloc (Obj.cells #[Value.int IntKind.i64 X, Value.int IntKind.i64 Y] 56)) := (Below.refl _ _).alloc (Nat.le_refl _) _
      have keep : ∀ k, k ≠ w.heap.size + 3 → k < w.heap.size + 7 → (w3.setCell ⟨w.heap.size + 3, 0, none⟩ (.slice (some ⟨g', 0, none⟩) (pre.length + 1) cap')).heap[k]? = W.heap[k]? := fun k h1 h2 =>
        (a6 k h1 h2 (by simp; omega)).trans ((hAl.block k (by omega)).trans (hb2.block k (by omega)))
      refine ⟨((KO2.trans (KeepsOthers.alloc _ _)).trans a4).from _, ⟨((hb2.mono hB.size).trans (hAl.mono hB2.size)).trans a5, fun k h1 h2 => keep k (by omega) (by omega)⟩, ⟨⟨_, a2, ?_, trivial⟩, ⟨(keep _ (by omega) (by omega)).trans hL, (keep _ (by omega) (by omega)).trans hR1, (keep _ (by omega) (by omega)).trans hR2⟩, unhide OX, (hB2.trans (hAl.mono hB2.size)).trans a5, ?_⟩⟩
      · rw [unhide RG, List.length_append]
        exact a3
      · have := a5.size
        simp at this ⊢
        omega
  case done =>
    rintro D ys W hD hS0 ⟨⟨v, hv, hrow, _⟩, ⟨hL, hR1, hR2⟩, hok, hB, hsz⟩ hK
    have hDs : w.heap.size + 7 ≤ D := by have := unhide HS1; omega
    have hyl : ys.length = (cutsL 44 t.data.toList).length := by rw [← hS0, List.length_map]
    have hpos := cuts_pos 44 t.data.toList
    obtain ⟨m, hm⟩ : ∃ m, ys.length = m + 1 := ⟨ys.length - 1, by omega⟩
    obtain ⟨L, hL0⟩ : ∃ L, L = (cutsL 44 t.data.toList).map (rgOf last) := ⟨_, rfl⟩
    have hLl : L.length = m + 1 := by rw [hL0, List.length_map]; omega
    rw [hS0, ← hL0, hm] at hrow
    rw [hS0] at hok
    obtain ⟨g3, cap3, rfl⟩ := ownsRow_succ hrow
    have c3 : W.cell? ⟨w.heap.size + 1 + 1 + 1, 0, none⟩ = some (.slice (some ⟨g3, 0, none⟩) (m + 1) cap3) := hv.cell
    have OL : OwnR (w.heap.size + 7) W (.slice (some ⟨g3, 0, none⟩) L.length cap3) L := by rw [hLl]; show W.ownsRow _ _ _ _ _ _; rw [hLl]; exact hrow
    have hgD : g3 ≠ D := by
      intro e
      rcases hrow.2 with ⟨hx, _⟩ | ⟨g4, _, cur, hx, _, hh, _⟩
      · cases hx
      · cases hx
        rw [e, hK] at hh
        cases hh
    have UN := impl_united_full L g3 cap3 (w.heap.size + 7) W (by omega) (by rw [hL0]; exact rg_right h1 h2 hok) OL hsz
    rw [hLl] at UN
    have UH := hide UN
    have RU2 := hide (fun tt hp hs => unhide RU tt hok (by rw [← hL0]; exact hp) hs)
    clear UN OL hok
    gi_wp2
    refine ⟨trivial, (callsIn_wide.2 (unhide UH)).mono ?_⟩
    rintro e w4 ⟨u4, tt, rfl, p4, s4, o4, hb4, hg4⟩
    have RV := hide (unhide RU2 tt p4 s4)
    have hln : (unitedL tt).length ≤ 4000000 := by
      have := united_len tt tt.length
      rw [List.take_length, p4.length_eq] at this
      omega
    have ON := hide (impl_orNothing_any (unitedL tt) u4 W.heap.size w4 hln o4)
    have hK4 : w4.heap[D]? = some (.deferred (some [])) := (hg4.block D (Array.getElem?_eq_some_iff.1 hK).1 (fun e => hgD (Option.some.inj e).symm)).trans hK
    have r1 : Boxed w4 (w.heap.size + 1) 36 (.slice none 0 0) := (hb4.block _ (by omega)).trans hR1
    have r2 : Boxed w4 (w.heap.size + 2) 4 (.bool false) := (hb4.block _ (by omega)).trans hR2
    obtain ⟨a4, c4, rfl⟩ := g_shape o4
    clear o4 p4 s4
    gi_wp2
    refine ⟨trivial, (callsIn_wide.2 (unhide ON)).mono ?_⟩
    rintro e w5 ⟨v5, rfl, o5, hb5⟩
    have r3 := boxedR_below hb5 r1
    have r4 := boxedR_below hb5 r2
    have hK5 : w5.heap[D]? = some (.deferred (some [])) := (hb5.block D (Array.getElem?_eq_some_iff.1 hK4).1).trans hK4
    obtain ⟨a5, c5, rfl⟩ := g_shape o5
    have O5 := hide o5
    clear o5
    have j1 := r3.cell
    have j2 : w5.cell? ⟨w.heap.size + 1 + 1, 0, none⟩ = some (.bool false) := r4.cell
    have j3 := r3.frozen
    have j4 : w5.frozen? ⟨w.heap.size + 1 + 1, 0, none⟩ = false := r4.frozen
    gi_wp2
    have n12 : w.heap.size + 1 ≠ w.heap.size + 2 := by omega
    obtain ⟨xv, hxv⟩ : ∃ xv, xv = Value.slice a5 (orNo (unitedL tt)).1.length c5 := ⟨_, rfl⟩
    obtain ⟨dv, hdv⟩ : ∃ dv, dv = Value.bool (orNo (unitedL tt)).2 := ⟨_, rfl⟩
    rw [← hxv] at O5
    rw [← hxv, ← hdv]
    have o5 := unhide O5
    have nb : ∀ k, k < W.heap.size → (Value.ownBlock xv = none ∨ Value.ownBlock xv ≠ some k) := fun k hk => by
      cases hv5 : xv.ownBlock with
      | none => exact .inl rfl
      | some b =>
        refine .inr fun e => ?_
        cases e
        have := (o5.lt _ hv5).1
        omega
    have r5 := (r3.set xv).other n12 dv
    have r6 := (r4.other n12.symm xv).set dv
    have o6 : ((w5.setCell ⟨w.heap.size + 1, 0, none⟩ xv).setCell ⟨w.heap.size + 2, 0, none⟩ dv).ownsRow W.heap.size 56 2 xv (orNo (unitedL tt)).1.length (rgs (orNo (unitedL tt)).1) :=
      (o5.kept (grownBy_setCell' w5 (w.heap.size + 1) xv) (nb _ (by omega))).kept (grownBy_setCell' _ (w.heap.size + 2) dv) (nb _ (by omega))
    have hK6 : ((w5.setCell ⟨w.heap.size + 1, 0, none⟩ xv).setCell ⟨w.heap.size + 2, 0, none⟩ dv).heap[D]? = some (.deferred (some [])) := ((KeepsOthers.setCell _ _ _).trans (KeepsOthers.setCell _ _ _)).same D _ hK5 rfl
    have hW5 : Below w.heap.size w w5 := (hB.trans (hb4.mono (by omega))).trans (hb5.mono (by have := hg4.size; have := hB.size; omega))
    have hB6 : Below w.heap.size w ((w5.setCell ⟨w.heap.size + 1, 0, none⟩ xv).setCell ⟨w.heap.size + 2, 0, none⟩ dv) := (hW5.setCell (p := ⟨w.heap.size + 1, 0, none⟩) (by show w.heap.size ≤ w.heap.size + 1; omega) _).setCell (p := ⟨w.heap.size + 2, 0, none⟩) (by show w.heap.size ≤ w.heap.size + 2; omega) _
    show bodyPostM Fence.wide 6 Tryz.prog Tryz.f33 _ Exit.ret _ ((w5.setCell ⟨w.heap.size + 1, 0, none⟩ xv).setCell ⟨w.heap.size + 2, 0, none⟩ dv)
    generalize (w5.setCell ⟨w.heap.size + 1, 0, none⟩ xv).setCell ⟨w.heap.size + 2, 0, none⟩ dv = W6 at *
    refine ⟨by simp, .inl ⟨_, _, rfl, run_takeDeferred hK6, ?_⟩⟩
    have g1 := (r5.kept (grownBy_putObj' W6 D (.deferred none)) (by simp; omega)).cell
    have g2 : (W6.putObj D (.deferred none)).cell? ⟨w.heap.size + 1 + 1, 0, none⟩ = some dv := (r6.kept (grownBy_putObj' W6 D (.deferred none)) (by simp; omega)).cell
    refine ⟨_, by simp [results, Tryz.results33, go_sem, g1, g2]; try rfl, xv, ?_, ?_, ?_⟩
    · rw [unhide RV, hdv]
    · rw [unhide RV]
      exact ownsRow_putObj (g_based o6 hB.size) _ hK6 rfl
    · exact hB6.trans (belowK_b (w := w) (Nat.le_refl _) W6 D _ _ (by omega) hK6 rfl rfl)
  case stop =>
    rintro D pre W hD hSp ⟨⟨hR1, hR2⟩, hok, hB⟩ hK
    have NO := hide (unhide RN (fun h => by rw [okParts_pre hSp hok] at h; cases h.2.2))
    gi_wp2
    refine ⟨by simp, .inl ⟨_, _, rfl, run_takeDeferred hK, ?_⟩⟩
    have hDs : w.heap.size + 7 ≤ D := by have := unhide HS1; omega
    have g1 := (hR1.kept (grownBy_putObj' W D (.deferred none)) (by simp; omega)).cell
    have g2 : (W.putObj D (.deferred none)).cell? ⟨w.heap.size + 1 + 1, 0, none⟩ = some (.bool false) := (hR2.kept (grownBy_putObj' W D (.deferred none)) (by simp; omega)).cell
    refine ⟨_, by simp [results, Tryz.results33, go_sem, g1, g2]; try rfl, .slice none 0 0, ?_, ?_, ?_⟩
    · rw [unhide NO]
    · rw [unhide NO]; exact ⟨rfl, .inl ⟨rfl, rfl⟩⟩
    · exact hB.trans (belowK_b (w := w) (Nat.le_refl _) W D _ _ (by omega) hK rfl rfl)

set_option maxHeartbeats 2000000 in
set_option maxRecDepth 100000 in
theorem impl_ReadSet_out (t : ByteArray) (last : Int) (w : World) (h : ¬ (1 ≤ last ∧ last ≤ 9999)) :
    Calls Tryz.prog 33 #[.string t, .int .i64 last] w fun e w' => ∃ v', e = .returned (.tuple #[v', .bool (readV t.data.toList last).2]) ∧ OwnR w.heap.size w' v' (readV t.data.toList last).1 ∧ Below w.heap.size w w' := by
  have NO := hide (readV_no (l := t.data.toList) (last := last) (fun hx => h ⟨hx.1, hx.2.1⟩))
  by_cases h1 : last < 1
  · have d1 : decide (last < 1) = true := by simpa using h1
    go_enter Tryz.func33, Tryz.ntmps33
    go_wp2
    refine bodyPost_ret (by simp [results, Tryz.results33, go_sem]; try rfl) rfl ?_
    exact ⟨.slice none 0 0, by rw [unhide NO], by rw [unhide NO]; exact ⟨rfl, .inl ⟨rfl, rfl⟩⟩, (((Below.refl _ _).alloc (Nat.le_refl _) _).alloc (by simp) _).alloc (by simp; omega) _⟩
  · have d1 : decide (last < 1) = false := by simpa using h1
    have d2 : decide (9999 < last) = true := by simp; omega
    go_enter Tryz.func33, Tryz.ntmps33
    go_wp2
    refine bodyPost_ret (by simp [results, Tryz.results33, go_sem]; try rfl) rfl ?_
    exact ⟨.slice none 0 0, by rw [unhide NO], by rw [unhide NO]; exact ⟨rfl, .inl ⟨rfl, rfl⟩⟩, (((Below.refl _ _).alloc (Nat.le_refl _) _).alloc (by simp) _).alloc (by simp; omega) _⟩
theorem impl_ReadSet_any (t : ByteArray) (last : Int) (w : World) (ht : t.size ≤ 1048576) (he : ErrOk w) :
    Calls Tryz.prog 33 #[.string t, .int .i64 last] w fun e w' => ∃ v', e = .returned (.tuple #[v', .bool (readV t.data.toList last).2]) ∧ OwnR w.heap.size w' v' (readV t.data.toList last).1 ∧ Below w.heap.size w w' := by
  by_cases h : 1 ≤ last ∧ last ≤ 9999
  · exact impl_ReadSet_in t last w ht h.1 h.2 he
  · exact impl_ReadSet_out t last w h
end Go.Proofs.YthnofckkehephaaGreatDoor
