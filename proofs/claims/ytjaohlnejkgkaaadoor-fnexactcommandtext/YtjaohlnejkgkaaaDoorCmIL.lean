/- Commands: the program's isList. -/
import Derived.Test.YtjaohlnejkgkaaaDoorCmI
import Derived.Test.YtjaohlnejkgkaaaDoorSplitC
namespace Go.Proofs.YtjaohlnejkgkaaaDoor
open Go.RowKit Go.Shelf
open Plain
set_option linter.unusedVariables false
set_option linter.unusedSimpArgs false

attribute [local go_sem] Oper.semAt_some

theorem keepsC_below {W W' : World} (h : Below W.heap.size W W') : KeepsOthers W W' :=
  ⟨h.size, fun k o hk _ => (h.block k (Array.getElem?_eq_some_iff.1 hk).1).trans hk⟩
theorem boxedC_below {W W' : World} {B : Nat} {t : TypeId} {v : Value} (h : Below W.heap.size W W') (b : Boxed W B t v) : Boxed W' B t v := (h.block B b.lt).trans b
theorem cutPC (s : ByteArray) (w : World) : Calls Tryd.prog 46 #[.string s, .string ⟨#[40]⟩] w fun e w' => e = .returned (.tuple #[.string ⟨(restF s.data.toList).toArray⟩, .bool (openB s.data.toList)]) ∧ w' = w := Tryd.strings_CutPrefix s ⟨#[40]⟩ w
namespace Plain
theorem rest_len (l : List UInt8) : (restF l).length ≤ l.length := by
  unfold restF Lib.trimPrefix
  split
  · simp
  · exact Nat.le_refl _
theorem innerC_len (l : List UInt8) : (innerF l).length ≤ l.length := by
  have h1 := rest_len l
  unfold innerF Lib.trimSuffix
  split
  · simp; omega
  · exact h1
theorem all_pre {a b : List (List UInt8)} (h : a <+: b) (ha : a.all plainW = false) : b.all plainW = false := by
  obtain ⟨c, rfl⟩ := h
  rw [List.all_append, ha]; rfl
end Plain
theorem cutSC (s : ByteArray) (w : World) (hs : s.size ≤ 1048576) : Calls Tryd.prog 47 #[.string ⟨(restF s.data.toList).toArray⟩, .string ⟨#[41]⟩] w fun e w' => e = .returned (.tuple #[.string ⟨(innerF s.data.toList).toArray⟩, .bool (shutB s.data.toList)]) ∧ w' = w := by
  refine Tryd.strings_CutSuffix ⟨(restF s.data.toList).toArray⟩ ⟨#[41]⟩ w ?_
  show (restF s.data.toList).length ≤ _
  have := rest_len s.data.toList
  have h2 : s.data.toList.length = s.size := rfl
  omega
set_option maxRecDepth 100000 in
set_option maxHeartbeats 2000000 in
theorem impl_isList_out (t : ByteArray) (w : World) (ht : t.size ≤ 1048576) (h : (openB t.data.toList && shutB t.data.toList) = false) :
    Calls Tryd.prog 31 #[.string t] w fun e w' => e = .returned (.bool (listW t.data.toList)) ∧ Below w.heap.size w w' := by
  have V := hide (listW_cut t.data.toList)
  rw [h, Bool.false_and] at V
  have Q1 := hide (cutPC t)
  have Q2 := hide (fun W => cutSC t W ht)
  generalize openB t.data.toList = ob at *
  generalize shutB t.data.toList = sb at *
  cases ob with
  | false =>
    clear h
    go_enter Tryd.func31, Tryd.ntmps31
    go_wp2_with (first | (go_at_call 46; refine (unhide Q1 _).mono ?_; rintro e w1 ⟨rfl, hw1⟩; subst w1) | (go_at_call 47; refine (unhide Q2 _).mono ?_; rintro e w1 ⟨rfl, hw1⟩; subst w1))
    refine bodyPost_ret (by simp [results, Tryd.results31, go_sem]; try rfl) rfl ?_
    exact ⟨by rw [unhide V], (Below.refl _ _).alloc (Nat.le_refl _) _⟩
  | true =>
    have hsb : sb = false := by simpa using h
    subst hsb
    clear h
    go_enter Tryd.func31, Tryd.ntmps31
    go_wp2_with (first | (go_at_call 46; refine (unhide Q1 _).mono ?_; rintro e w1 ⟨rfl, hw1⟩; subst w1) | (go_at_call 47; refine (unhide Q2 _).mono ?_; rintro e w1 ⟨rfl, hw1⟩; subst w1))
    refine bodyPost_ret (by simp [results, Tryd.results31, go_sem]; try rfl) rfl ?_
    exact ⟨by rw [unhide V], (Below.refl _ _).alloc (Nat.le_refl _) _⟩
set_option maxRecDepth 100000 in
set_option maxHeartbeats 2000000 in
theorem impl_isList_none (t : ByteArray) (w : World) (ht : t.size ≤ 1048576) (h1 : openB t.data.toList = true) (h2 : shutB t.data.toList = true) (h3 : innerF t.data.toList = []) :
    Calls Tryd.prog 31 #[.string t] w fun e w' => e = .returned (.bool (listW t.data.toList)) ∧ Below w.heap.size w w' := by
  have V := hide (listW_cut t.data.toList)
  have Q1 := hide (cutPC t)
  have Q2 := hide (fun W => cutSC t W ht)
  rw [h1] at Q1
  rw [h2, h3] at Q2
  rw [h1, h2, h3] at V
  clear h1 h2 h3
  go_enter Tryd.func31, Tryd.ntmps31
  go_wp2_with (first | (go_at_call 46; refine (unhide Q1 _).mono ?_; rintro e w1 ⟨rfl, hw1⟩; subst w1) | (go_at_call 47; refine (unhide Q2 _).mono ?_; rintro e w1 ⟨rfl, hw1⟩; subst w1))
  refine bodyPost_ret (by simp [results, Tryd.results31, go_sem]; try rfl) rfl ?_
  exact ⟨by rw [unhide V]; rfl, (Below.refl _ _).alloc (Nat.le_refl _) _⟩

/-- What the loop holds on to. -/
def wordsC (pre : List Pt) : List (List UInt8) := pre.map ptOf
def InvL (v : Bool) (w : World) (pre : List Pt) (W : World) : Prop :=
  Boxed W w.heap.size 4 (.bool false) ∧ (wordsC pre).all plainW = v ∧ Below w.heap.size w W ∧ w.heap.size + 4 ≤ W.heap.size
theorem InvL.own (v : Bool) (w : World) (B : Nat) (hB : w.heap.size ≤ B) : OwnFrom B (InvL v w) :=
  OwnFrom.and (Own.from (boxed_own w.heap.size 4 (fun _ => .bool false)) _)
    (OwnFrom.and (ownFrom_pure _ (fun (pre : List Pt) => (wordsC pre).all plainW = v)) (OwnFrom.and (ownFrom_below (Nat.le_refl _) hB) (fun _ _ _ _ hs hg _ => Nat.le_trans hs hg.size)))
theorem InvL.moved (v : Bool) (w : World) (s : List Pt) (A : World) (x : Value) (h : InvL v w s A) : InvL v w s (A.setCell ⟨w.heap.size + 1, 0, none⟩ x) := by
  obtain ⟨h1, h4, h5, h6⟩ := h
  exact ⟨h1.other (by omega) _, h4, h5.setCell (p := ⟨w.heap.size + 1, 0, none⟩) (by show w.heap.size ≤ w.heap.size + 1; omega) x, by simpa using h6⟩

set_option maxRecDepth 100000 in
set_option maxHeartbeats 2000000 in
theorem impl_isList_in (t : ByteArray) (w : World) (ht : t.size ≤ 1048576) (h1 : openB t.data.toList = true) (h2 : shutB t.data.toList = true) (h3 : innerF t.data.toList ≠ []) :
    Calls Tryd.prog 31 #[.string t] w fun e w' => e = .returned (.bool (listW t.data.toList)) ∧ Below w.heap.size w w' := by
  have V : Hid (listW t.data.toList = (cutsL 32 (innerF t.data.toList)).all plainW) := by show _ = _; rw [listW_cut, h1, h2, show (innerF t.data.toList).isEmpty = false by simpa using h3]; rfl
  have Q1 := hide (cutPC t)
  have Q2 := hide (fun W => cutSC t W ht)
  rw [h1] at Q1
  rw [h2] at Q2
  have IL : Hid ((innerF t.data.toList).length ≤ 1048576) := Nat.le_trans (innerC_len _) ht
  generalize innerF t.data.toList = L at *
  have tE : L.isEmpty = false := by simpa using h3
  have tE2 : (⟨L.toArray⟩ : ByteArray).toList.isEmpty = false := by rw [ByteArray.toList_eq]; simpa using h3
  refine (callsIn_wide (n := 6)).1 ?_
  refine callsIn_of_wp_marks Tryd.func31 rfl trivial ?_ rfl
  simp only [Tryd.ntmps31, List.size_toArray, List.length_cons, List.length_nil, Nat.reduceAdd, Nat.reduceSub, Array.replicate_succ, Array.replicate_zero, List.push_toArray, List.append_toArray, List.nil_append, List.cons_append]
  gi_wp2_with (refine ⟨trivial, ?_⟩; gi_at_call 46; refine (callsIn_wide.2 (unhide Q1 _)).mono ?_; rintro e w1 ⟨rfl, hw1⟩; subst w1)
  gi_wp2_with (refine ⟨trivial, ?_⟩; gi_at_call 47; refine (callsIn_wide.2 (unhide Q2 _)).mono ?_; rintro e w1 ⟨rfl, hw1⟩; subst w1)
  gi_wp2_with (refine ⟨trivial, ?_⟩; gi_at_call 48; refine (SplitSeq_in 32 _ ⟨L.toArray⟩ _).mono ?_; rintro e w1 ⟨rfl, q1, q2, q3, q4⟩)
  have tS : (⟨L.toArray⟩ : ByteArray).size ≤ 1048576 := unhide IL
  have b0 := Boxed.new w 4 (.bool false)
  obtain ⟨WA, hWA⟩ : ∃ WA, WA = w.alloc (.cells #[.bool false] 4) := ⟨_, rfl⟩
  have d0 : Boxed WA w.heap.size 4 (.bool false) := by rw [hWA]; exact b0
  have hbA : Below w.heap.size w WA := by rw [hWA]; exact (Below.refl _ w).alloc (Nat.le_refl _) _
  have hsA : WA.heap.size = w.heap.size + 1 := by rw [hWA]; simp
  rw [← hWA] at q1 q2 q3 q4
  clear b0 hWA
  have hs1 : w1.heap.size = w.heap.size + 4 := by omega
  have q1' : SpBox 32 (w.heap.size + 1) w1 ⟨L.toArray⟩ := by rw [hsA] at q1; exact q1
  have hB1 : Below w.heap.size w w1 := hbA.trans (q3.mono (by omega))
  have k0 := boxedC_below q3 d0
  have HS1 := hide hs1
  clear q1 q2 q3 q4 d0 hbA hsA h1 h2 h3
  refine wpIn_range_moves (by omega) (gf := 74) (lb := #[.pointer (some ⟨w.heap.size + 1 + 1, 0, none⟩), .pointer (some ⟨w.heap.size + 1, 0, none⟩), .pointer (some ⟨w.heap.size + 1 + 2, 0, none⟩)]) rfl (enters_of Tryd.func74 (by kernel_rfl) rfl)
    (split_moves 32 5 (by omega) (w.heap.size + 1) w.heap.size ⟨L.toArray⟩ tS w1 q1' (by omega)) KpS.t (KpS.b (by omega) (by omega)) (fun _ => rfl)
    (InvL true w) (InvL false w) (InvL.own true w _ (by omega)) (InvL.own false w _ (by omega)) (InvL.moved true w) ⟨k0, rfl, hB1, by omega⟩
    (fun x => { tmps := #[.string t, undef, .pointer (some ⟨w.heap.size, 0, none⟩), .string ⟨L.toArray⟩, .bool true, .bool true, .string x.1, .tuple #[.string ⟨(restF t.data.toList).toArray⟩, .bool true], .string t, .tuple #[.string ⟨(restF t.data.toList).toArray⟩, .bool true], .string ⟨(restF t.data.toList).toArray⟩, .bool true, .tuple #[.string ⟨L.toArray⟩, .bool true], .string ⟨(restF t.data.toList).toArray⟩, .tuple #[.string ⟨L.toArray⟩, .bool true], .string ⟨L.toArray⟩, .bool true, .bool true, .bool false, .bool false, .bool true, .bool false, .bool false, .bool false, .string ⟨L.toArray⟩, .bool false, .bool false, undef, undef, undef, undef, .string ⟨L.toArray⟩, .func (.func 74) #[] #[.pointer (some ⟨w.heap.size + 1 + 1, 0, none⟩), .pointer (some ⟨w.heap.size + 1, 0, none⟩), .pointer (some ⟨w.heap.size + 1 + 2, 0, none⟩)], .string x.1, undef, undef, undef], defers := [] }) ?assign ?body ?done ?stop
  case assign =>
    intro l x W K hK
    gi_wp2
    exact hK
  case body =>
    rintro l pre x W ⟨hv, hok, hB, hsz⟩ hlt
    have RS := hide (impl_plain x.1 W (Nat.le_trans x.2 (by decide)))
    have LS : Hid ((wordsC (pre ++ [x])).all plainW = plainW x.1.data.toList) := by
      show _ = _
      unfold wordsC at hok ⊢
      rw [List.map_append, List.all_append, hok]
      show (true && (plainW (ptOf x) && true)) = _
      rw [Bool.true_and, Bool.and_true]; rfl
    generalize plainW x.1.data.toList = v at *
    clear hok
    have f0 := hv.cell
    have g0 := hv.frozen
    gi_wp2
    refine ⟨trivial, (CallsIn.inRound l (callsIn_wide.2 (unhide RS))).mono ?_⟩
    rintro e w3 ⟨rfl, hw3⟩
    subst w3
    cases v with
    | true =>
      gi_wp2
      exact ⟨(KeepsOthers.refl _).from _, ⟨Below.refl _ _, fun k _ _ => rfl⟩, hv, unhide LS, hB, hsz⟩
    | false =>
      gi_wp2
      exact ⟨(KeepsOthers.setCell _ _ _).from _, hv.set (.bool false), unhide LS, hB.setCell (p := ⟨w.heap.size, 0, none⟩) (Nat.le_refl _) _, by simpa using hsz⟩
  case done =>
    rintro D ys W hD hS0 ⟨hv, hok, hB, hsz⟩ hK
    have hDs : w.heap.size + 4 ≤ D := by have := unhide HS1; omega
    have FV : Hid ((cutsL 32 L).all plainW = true) := by
      show _ = _
      rw [← hok, show wordsC ys = cutsL 32 L from hS0]
    clear hok hS0
    have c0 := hv.cell
    have z0 := hv.frozen
    gi_wp2
    have r0 := hv.set (.bool true)
    have hK6 : (W.setCell ⟨w.heap.size, 0, none⟩ (.bool true)).heap[D]? = some (.deferred (some [])) := (KeepsOthers.setCell _ _ _).same D _ hK rfl
    have hB6 : Below w.heap.size w (W.setCell ⟨w.heap.size, 0, none⟩ (.bool true)) := hB.setCell (p := ⟨w.heap.size, 0, none⟩) (Nat.le_refl _) _
    generalize W.setCell ⟨w.heap.size, 0, none⟩ (.bool true) = W6 at *
    refine ⟨by simp, .inl ⟨_, _, rfl, run_takeDeferred hK6, ?_⟩⟩
    have g1 := (r0.kept (grownBy_putObj' W6 D (.deferred none)) (by simp; omega)).cell
    refine ⟨_, by simp [results, Tryd.results31, go_sem, g1]; try rfl, ?_, ?_⟩
    · rw [unhide V, unhide FV]
    · exact hB6.trans (belowK_b (w := w) (Nat.le_refl _) W6 D _ _ (by omega) hK6 rfl rfl)
  case stop =>
    rintro D pre W hD hSp ⟨hR1, hok, hB, hsz⟩ hK
    have NO := hide (all_pre hSp hok)
    gi_wp2
    refine ⟨by simp, .inl ⟨_, _, rfl, run_takeDeferred hK, ?_⟩⟩
    have hDs : w.heap.size + 4 ≤ D := by have := unhide HS1; omega
    have g1 := (hR1.kept (grownBy_putObj' W D (.deferred none)) (by simp; omega)).cell
    refine ⟨_, by simp [results, Tryd.results31, go_sem, g1]; try rfl, ?_, ?_⟩
    · rw [unhide V, unhide NO]
    · exact hB.trans (belowK_b (w := w) (Nat.le_refl _) W D _ _ (by omega) hK rfl rfl)
theorem impl_isList_any (t : ByteArray) (w : World) (ht : t.size ≤ 1048576) :
    Calls Tryd.prog 31 #[.string t] w fun e w' => e = .returned (.bool (listW t.data.toList)) ∧ Below w.heap.size w w' := by
  cases h1 : openB t.data.toList with
  | false => exact impl_isList_out t w ht (by rw [h1]; rfl)
  | true =>
    cases h2 : shutB t.data.toList with
    | false => exact impl_isList_out t w ht (by rw [h1, h2]; rfl)
    | true =>
      by_cases h3 : innerF t.data.toList = []
      · exact impl_isList_none t w ht h1 h2 h3
      · exact impl_isList_in t w ht h1 h2 h3
end Go.Proofs.YtjaohlnejkgkaaaDoor
