/- The program's ReadFlags. -/
import Derived.Test.YtanapiaobpoebaaDoorSplitC
import Derived.Test.YtanapiaobpoebaaDoorFlagOneI
import Derived.Test.YtanapiaobpoebaaDoorFlagCutPlain
namespace Go.Proofs.YtanapiaobpoebaaDoor
open Go.RowKit Go.Shelf
open Plain
set_option linter.unusedVariables false

attribute [local go_sem] Oper.semAt_some

theorem keepsF_below {W W' : World} (h : Below W.heap.size W W') : KeepsOthers W W' :=
  ⟨h.size, fun k o hk _ => (h.block k (Array.getElem?_eq_some_iff.1 hk).1).trans hk⟩
theorem boxedF_below {W W' : World} {B : Nat} {t : TypeId} {v : Value} (h : Below W.heap.size W W') (b : Boxed W B t v) : Boxed W' B t v := (h.block B b.lt).trans b

theorem cutP_any (s : ByteArray) (w : World) : Calls Tryd.prog 19 #[.string s, .string ⟨#[40]⟩] w fun e w' => e = .returned (.tuple #[.string ⟨(restF s.data.toList).toArray⟩, .bool (openB s.data.toList)]) ∧ w' = w := Tryd.strings_CutPrefix s ⟨#[40]⟩ w
theorem cutS_any (s : ByteArray) (w : World) (hs : s.size ≤ 1048576) : Calls Tryd.prog 20 #[.string ⟨(restF s.data.toList).toArray⟩, .string ⟨#[41]⟩] w fun e w' => e = .returned (.tuple #[.string ⟨(innerF s.data.toList).toArray⟩, .bool (shutB s.data.toList)]) ∧ w' = w := by
  refine Tryd.strings_CutSuffix ⟨(restF s.data.toList).toArray⟩ ⟨#[41]⟩ w ?_
  show (restF s.data.toList).length ≤ _
  have : (restF s.data.toList).length ≤ s.data.toList.length := by
    unfold restF Lib.trimPrefix
    split
    · simp
    · exact Nat.le_refl _
  have h2 : s.data.toList.length = s.size := rfl
  omega
namespace Plain
theorem inner_len (l : List UInt8) : (innerF l).length ≤ l.length := by
  have h1 : (restF l).length ≤ l.length := by
    unfold restF Lib.trimPrefix
    split
    · simp
    · exact Nat.le_refl _
  unfold innerF Lib.trimSuffix
  split
  · simp; omega
  · exact h1
end Plain

set_option maxRecDepth 100000 in
set_option maxHeartbeats 2000000 in
theorem impl_ReadFlags_out (t : ByteArray) (w : World) (ht : t.size ≤ 1048576) (h : (openB t.data.toList && shutB t.data.toList) = false) :
    Calls Tryd.prog 7 #[.string t] w fun e w' => e = .returned (.tuple #[.int .i64 (readF t.data.toList).1, .bool (readF t.data.toList).2]) ∧ Below w.heap.size w w' := by
  have V := hide (read_out h)
  have Q1 := hide (cutP_any t)
  have Q2 := hide (fun W => cutS_any t W ht)
  generalize openB t.data.toList = ob at *
  generalize shutB t.data.toList = sb at *
  cases ob with
  | false =>
    clear h
    go_enter Tryd.func7, Tryd.ntmps7
    go_wp2_with (first | (go_at_call 19; refine (unhide Q1 _).mono ?_; rintro e w1 ⟨rfl, hw1⟩; subst w1) | (go_at_call 20; refine (unhide Q2 _).mono ?_; rintro e w1 ⟨rfl, hw1⟩; subst w1))
    refine bodyPost_ret (by simp [results, Tryd.results7, go_sem]; try rfl) rfl ?_
    exact ⟨by rw [unhide V], ((Below.refl _ _).alloc (Nat.le_refl _) _).alloc (by simp) _⟩
  | true =>
    have hsb : sb = false := by simpa using h
    subst hsb
    clear h
    go_enter Tryd.func7, Tryd.ntmps7
    go_wp2_with (first | (go_at_call 19; refine (unhide Q1 _).mono ?_; rintro e w1 ⟨rfl, hw1⟩; subst w1) | (go_at_call 20; refine (unhide Q2 _).mono ?_; rintro e w1 ⟨rfl, hw1⟩; subst w1))
    refine bodyPost_ret (by simp [results, Tryd.results7, go_sem]; try rfl) rfl ?_
    exact ⟨by rw [unhide V], ((Below.refl _ _).alloc (Nat.le_refl _) _).alloc (by simp) _⟩
set_option maxRecDepth 100000 in
set_option maxHeartbeats 2000000 in
theorem impl_ReadFlags_none (t : ByteArray) (w : World) (ht : t.size ≤ 1048576) (h1 : openB t.data.toList = true) (h2 : shutB t.data.toList = true) (h3 : innerF t.data.toList = []) :
    Calls Tryd.prog 7 #[.string t] w fun e w' => e = .returned (.tuple #[.int .i64 (readF t.data.toList).1, .bool (readF t.data.toList).2]) ∧ Below w.heap.size w w' := by
  have V := hide (read_in h1 h2)
  have Q1 := hide (cutP_any t)
  have Q2 := hide (fun W => cutS_any t W ht)
  rw [h1] at Q1
  rw [h2, h3] at Q2
  rw [h3] at V
  clear h1 h2 h3
  go_enter Tryd.func7, Tryd.ntmps7
  go_wp2_with (first | (go_at_call 19; refine (unhide Q1 _).mono ?_; rintro e w1 ⟨rfl, hw1⟩; subst w1) | (go_at_call 20; refine (unhide Q2 _).mono ?_; rintro e w1 ⟨rfl, hw1⟩; subst w1))
  refine bodyPost_ret (by simp [results, Tryd.results7, go_sem]; try rfl) rfl ?_
  exact ⟨by rw [unhide V]; rfl, ((Below.refl _ _).alloc (Nat.le_refl _) _).alloc (by simp) _⟩

/-- What the loop holds on to. -/
def wordsP (pre : List Pt) : List (List UInt8) := pre.map ptOf
def InvF (w : World) (pre : List Pt) (W : World) : Prop :=
  Boxed W (w.heap.size + 2) 39 (.int .i64 (numW (wordsP pre))) ∧ (Boxed W w.heap.size 3 (.int .i64 0) ∧ Boxed W (w.heap.size + 1) 4 (.bool false)) ∧ foldF (some 0) (lowW (wordsP pre)) = some (numW (wordsP pre)) ∧ Below w.heap.size w W ∧ w.heap.size + 6 ≤ W.heap.size
def InvG (w : World) (pre : List Pt) (W : World) : Prop :=
  (Boxed W w.heap.size 3 (.int .i64 0) ∧ Boxed W (w.heap.size + 1) 4 (.bool false)) ∧ foldF (some 0) (lowW (wordsP pre)) = none ∧ Below w.heap.size w W
theorem InvF.own (w : World) (B : Nat) (hB : w.heap.size ≤ B) : OwnFrom B (InvF w) :=
  OwnFrom.and (Own.from (boxed_own (w.heap.size + 2) 39 (fun (pre : List Pt) => .int .i64 (numW (wordsP pre)))) _)
    (OwnFrom.and (OwnFrom.and (Own.from (boxed_own w.heap.size 3 (fun _ => .int .i64 0)) _) (Own.from (boxed_own (w.heap.size + 1) 4 (fun _ => .bool false)) _))
      (OwnFrom.and (ownFrom_pure _ (fun (pre : List Pt) => foldF (some 0) (lowW (wordsP pre)) = some (numW (wordsP pre)))) (OwnFrom.and (ownFrom_below (Nat.le_refl _) hB) (fun _ _ _ _ hs hg _ => Nat.le_trans hs hg.size))))
theorem InvG.own (w : World) (B : Nat) (hB : w.heap.size ≤ B) : OwnFrom B (InvG w) :=
  OwnFrom.and (OwnFrom.and (Own.from (boxed_own w.heap.size 3 (fun _ => .int .i64 0)) _) (Own.from (boxed_own (w.heap.size + 1) 4 (fun _ => .bool false)) _))
    (OwnFrom.and (ownFrom_pure _ (fun (pre : List Pt) => foldF (some 0) (lowW (wordsP pre)) = none)) (ownFrom_below (Nat.le_refl _) hB))
theorem InvF.moved (w : World) (s : List Pt) (A : World) (v : Value) (h : InvF w s A) : InvF w s (A.setCell ⟨w.heap.size + 3, 0, none⟩ v) := by
  obtain ⟨h1, ⟨h2, h3⟩, h4, h5, h6⟩ := h
  exact ⟨h1.other (by omega) _, ⟨h2.other (by omega) _, h3.other (by omega) _⟩, h4, h5.setCell (p := ⟨w.heap.size + 3, 0, none⟩) (by show w.heap.size ≤ w.heap.size + 3; omega) v, by simpa using h6⟩
namespace Plain
theorem bit_pow (p : List UInt8) : bitV p = 0 ∨ ∃ k : Nat, k < 5 ∧ bitV p = 2 ^ k := by
  rcases bitV_is p with h | h | h | h | h | h
  · exact .inl h
  · exact .inr ⟨0, by decide, h⟩
  · exact .inr ⟨1, by decide, h⟩
  · exact .inr ⟨2, by decide, h⟩
  · exact .inr ⟨3, by decide, h⟩
  · exact .inr ⟨4, by decide, h⟩
theorem step_no0 {n : Int} {p : List UInt8} (h : bitV p = 0) : stepF n p = none := if_pos (.inl h)
theorem step_twice {n : Int} {p : List UInt8} (h : n / bitV p % 2 = 1) : stepF n p = none := if_pos (.inr h)
theorem step_on {n : Int} {p : List UInt8} (h0 : bitV p ≠ 0) (h : ¬ n / bitV p % 2 = 1) : stepF n p = some (n + bitV p) := if_neg (fun x => x.elim h0 h)
theorem add_is {a : Int} (h0 : 0 ≤ a) (h1 : a ≤ 31) {k : Nat} (hk : k < 5) (h : ¬ a / 2 ^ k % 2 = 1) : a + 2 ^ k - andTo a (2 ^ k) 5 = a + 2 ^ k := by
  obtain ⟨x, rfl⟩ := fin_of h0 h1
  exact addI x ⟨k, hk⟩ h
theorem pow_range {k : Nat} (hk : k < 5) : (0 : Int) ≤ 2 ^ k ∧ (2 ^ k : Int) ≤ 31 ∧ (2 ^ k : Int) ≠ 0 := by
  rcases (show k = 0 ∨ k = 1 ∨ k = 2 ∨ k = 3 ∨ k = 4 by omega) with rfl | rfl | rfl | rfl | rfl <;> decide
theorem num_of {ps : List (List UInt8)} {n : Int} (h : foldF (some 0) (lowW ps) = some n) : numW ps = n := by unfold numW; rw [h]; rfl
end Plain

set_option maxRecDepth 100000 in
set_option maxHeartbeats 2000000 in
theorem impl_ReadFlags_in (t : ByteArray) (w : World) (ht : t.size ≤ 1048576) (h1 : openB t.data.toList = true) (h2 : shutB t.data.toList = true) (h3 : innerF t.data.toList ≠ []) (hN : Named w) :
    Calls Tryd.prog 7 #[.string t] w fun e w' => e = .returned (.tuple #[.int .i64 (readF t.data.toList).1, .bool (readF t.data.toList).2]) ∧ Below w.heap.size w w' := by
  have V := hide (read_in h1 h2)
  have Q1 := hide (cutP_any t)
  have Q2 := hide (fun W => cutS_any t W ht)
  rw [h1] at Q1
  rw [h2] at Q2
  have IL : Hid ((innerF t.data.toList).length ≤ 1048576) := Nat.le_trans (inner_len _) ht
  generalize innerF t.data.toList = L at *
  have tE : L.isEmpty = false := by simpa using h3
  have tE2 : (⟨L.toArray⟩ : ByteArray).toList.isEmpty = false := by rw [ByteArray.toList_eq]; simpa using h3
  refine (callsIn_wide (n := 6)).1 ?_
  refine callsIn_of_wp_marks Tryd.func7 rfl trivial ?_ rfl
  simp only [Tryd.ntmps7, List.size_toArray, List.length_cons, List.length_nil, Nat.reduceAdd, Nat.reduceSub, Array.replicate_succ, Array.replicate_zero, List.push_toArray, List.append_toArray, List.nil_append, List.cons_append]
  gi_wp2_with (refine ⟨trivial, ?_⟩; gi_at_call 19; refine (callsIn_wide.2 (unhide Q1 _)).mono ?_; rintro e w1 ⟨rfl, hw1⟩; subst w1)
  gi_wp2_with (refine ⟨trivial, ?_⟩; gi_at_call 20; refine (callsIn_wide.2 (unhide Q2 _)).mono ?_; rintro e w1 ⟨rfl, hw1⟩; subst w1)
  gi_wp2_with (refine ⟨trivial, ?_⟩; gi_at_call 21; refine (SplitSeq_in 32 _ ⟨L.toArray⟩ _).mono ?_; rintro e w1 ⟨rfl, q1, q2, q3, q4⟩)
  have tS : (⟨L.toArray⟩ : ByteArray).size ≤ 1048576 := unhide IL
  have b0 := Boxed.new w 3 (.int .i64 0)
  have b1 := Boxed.new (w.alloc (.cells #[.int .i64 0] 3)) 4 (.bool false)
  have b2 := Boxed.new ((w.alloc (.cells #[.int .i64 0] 3)).alloc (.cells #[.bool false] 4)) 39 (.int .i64 0)
  rw [World.size_alloc] at b1
  rw [World.size_alloc, World.size_alloc] at b2
  obtain ⟨WA, hWA⟩ : ∃ WA, WA = ((w.alloc (.cells #[.int .i64 0] 3)).alloc (.cells #[.bool false] 4)).alloc (.cells #[.int .i64 0] 39) := ⟨_, rfl⟩
  have d0 : Boxed WA w.heap.size 3 (.int .i64 0) := by rw [hWA]; exact (b0.alloc _).alloc _
  have d1 : Boxed WA (w.heap.size + 1) 4 (.bool false) := by rw [hWA]; exact b1.alloc _
  have d2 : Boxed WA (w.heap.size + 2) 39 (.int .i64 0) := by rw [hWA]; exact b2
  have hbA : Below w.heap.size w WA := by rw [hWA]; exact (((Below.refl _ w).alloc (Nat.le_refl _) _).alloc (by simp) _).alloc (by simp; omega) _
  have hsA : WA.heap.size = w.heap.size + 3 := by rw [hWA]; simp
  rw [← hWA] at q1 q2 q3 q4
  clear b0 b1 b2 hWA
  have hs1 : w1.heap.size = w.heap.size + 6 := by omega
  have q1' : SpBox 32 (w.heap.size + 1 + 1 + 1) w1 ⟨L.toArray⟩ := by rw [hsA] at q1; exact q1
  have hB1 : Below w.heap.size w w1 := below2 hbA q3
  have k0 := boxedF_below q3 d0
  have k1 := boxedF_below q3 d1
  have k2 := boxedF_below q3 d2
  have HS1 := hide hs1
  have WO := hide (words_of h3)
  have HN := hide hN
  clear q1 q2 q3 q4 d0 d1 d2 hbA hsA h1 h2 h3 hN
  refine wpIn_range_moves (by omega) (gf := 48) (lb := #[.pointer (some ⟨w.heap.size + 1 + 1 + 1 + 1, 0, none⟩), .pointer (some ⟨w.heap.size + 1 + 1 + 1, 0, none⟩), .pointer (some ⟨w.heap.size + 1 + 1 + 1 + 2, 0, none⟩)]) rfl (enters_of Tryd.func48 (by kernel_rfl) rfl)
    (split_moves 32 5 (by omega) (w.heap.size + 1 + 1 + 1) w.heap.size ⟨L.toArray⟩ tS w1 q1' (by omega)) KpS.t (KpS.b (by omega) (by omega)) (fun _ => rfl)
    (InvF w) (InvG w) (InvF.own w _ (by omega)) (InvG.own w _ (by omega)) (InvF.moved w) ⟨k2, ⟨k0, k1⟩, rfl, hB1, by omega⟩
    (fun x => { tmps := #[.string t, undef, .pointer (some ⟨w.heap.size, 0, none⟩), .pointer (some ⟨w.heap.size + 1, 0, none⟩), .string ⟨(restF t.data.toList).toArray⟩, .bool true, .string ⟨L.toArray⟩, .bool true, .pointer (some ⟨w.heap.size + 1 + 1, 0, none⟩), .string x.1, undef, undef, .tuple #[.string ⟨(restF t.data.toList).toArray⟩, .bool true], .string t, .tuple #[.string ⟨(restF t.data.toList).toArray⟩, .bool true], .string ⟨(restF t.data.toList).toArray⟩, .bool true, .tuple #[.string ⟨L.toArray⟩, .bool true], .string ⟨(restF t.data.toList).toArray⟩, .tuple #[.string ⟨L.toArray⟩, .bool true], .string ⟨L.toArray⟩, .bool true, .bool true, .bool false, .bool false, .bool true, .bool false, .bool false, .string ⟨L.toArray⟩, .bool false, .string ⟨L.toArray⟩, .func (.func 48) #[] #[.pointer (some ⟨w.heap.size + 1 + 1 + 1 + 1, 0, none⟩), .pointer (some ⟨w.heap.size + 1 + 1 + 1, 0, none⟩), .pointer (some ⟨w.heap.size + 1 + 1 + 1 + 2, 0, none⟩)], .string x.1, undef, undef, undef, undef, undef, undef, undef, undef, undef, undef, undef, undef, undef, undef, undef, undef, undef], defers := [] }) ?assign ?body ?done ?stop
  case assign =>
    intro l x W K hK
    gi_wp2
    exact hK
  case body =>
    rintro l pre x W ⟨hv, ⟨hR1, hR2⟩, hok, hB, hsz⟩ hlt
    have RS := hide (small_any x.1 W x.2)
    have RR := hide (fun W2 (hb : Below W.heap.size W W2) => flagNamed_any (x.1.data.toList.map lowB) W2 (((unhide HN).below hB).below hb))
    have SN := hide (foldF_snoc (x.1.data.toList.map lowB) hok)
    have LS : Hid (lowW (wordsP (pre ++ [x])) = lowW (wordsP pre) ++ [x.1.data.toList.map lowB]) := by
      show lowW (wordsP (pre ++ [x])) = _
      unfold wordsP
      rw [List.map_append]
      exact lowW_snoc _ _
    have RG := fold_range (lowW (wordsP pre)) 0 (numW (wordsP pre)) (by decide) (by decide) hok
    generalize hnn : numW (wordsP pre) = n at *
    have BP := bit_pow (x.1.data.toList.map lowB)
    have S0 := hide (fun h => step_no0 (n := n) (p := x.1.data.toList.map lowB) h)
    have S1 := hide (fun h => step_twice (n := n) (p := x.1.data.toList.map lowB) h)
    have S2 := hide (fun h0 h => step_on (n := n) (p := x.1.data.toList.map lowB) h0 h)
    generalize bitV (x.1.data.toList.map lowB) = bit at *
    obtain ⟨n0, n1⟩ := RG
    clear hok
    gi_wp2
    refine ⟨trivial, (CallsIn.inRound l (callsIn_wide.2 (unhide RS))).mono ?_⟩
    rintro e w3 ⟨rfl, hb3⟩
    gi_wp2
    refine ⟨trivial, (CallsIn.inRound l (callsIn_wide.2 (unhide RR w3 hb3))).mono ?_⟩
    rintro e w2 ⟨rfl, hb4⟩
    have hb2 := below2 hb3 hb4
    clear hb3 hb4 RS
    have hB2 : Below w.heap.size w w2 := hB.trans (hb2.mono hB.size)
    have e0 := boxedF_below hb2 hR1
    have e1 := boxedF_below hb2 hR2
    have e2 := boxedF_below hb2 hv
    have KO2 := keepsF_below hb2
    have hsz2 : w.heap.size + 6 ≤ w2.heap.size := Nat.le_trans hsz hb2.size
    have KB := hide hb2
    clear hR1 hR2 hv hb2 RR
    have f0 := e0.cell
    have f1 := e1.cell
    have f2 : w2.cell? ⟨w.heap.size + 1 + 1, 0, none⟩ = some (.int .i64 n) := e2.cell
    have g0 := e0.frozen
    have g1 := e1.frozen
    have g2 : w2.frozen? ⟨w.heap.size + 1 + 1, 0, none⟩ = false := e2.frozen
    rcases BP with hbit | ⟨k, hk, hbit⟩
    · have OX : Hid (foldF (some 0) (lowW (wordsP (pre ++ [x]))) = none) := by
        show foldF (some 0) (lowW (wordsP (pre ++ [x]))) = none
        rw [unhide LS, unhide SN, unhide S0 hbit]
      subst hbit
      gi_wp2_with (refine ⟨trivial, ?_⟩)
      have n01 : w.heap.size ≠ w.heap.size + 1 := by omega
      exact ⟨((KO2.trans (KeepsOthers.setCell _ _ _)).trans (KeepsOthers.setCell _ _ _)).from _, ⟨(e0.set (.int .i64 0)).other n01 _, (e1.other n01.symm _).set (.bool false)⟩, unhide OX, (hB2.setCell (p := ⟨w.heap.size, 0, none⟩) (Nat.le_refl _) _).setCell (p := ⟨w.heap.size + 1, 0, none⟩) (by show w.heap.size ≤ w.heap.size + 1; omega) _⟩
    · obtain ⟨p0, p1, p2⟩ := pow_range hk
      have HA := hide (has_any n k w2 n0 n1 hk)
      have WI := with_any n (2 ^ k) w2 n0 n1 p0 p1
      have tb : (bit == 0) = false := by rw [hbit]; simpa using p2
      by_cases hh : n / 2 ^ k % 2 = 1
      · have OX : Hid (foldF (some 0) (lowW (wordsP (pre ++ [x]))) = none) := by
          show foldF (some 0) (lowW (wordsP (pre ++ [x]))) = none
          rw [unhide LS, unhide SN, unhide S1 (by rw [hbit]; exact hh)]
        rw [show hasV n (2 ^ k) = true from decide_eq_true hh, ← hbit] at HA
        clear hh hbit WI p0 p1 p2
        gi_wp2
        refine ⟨trivial, (CallsIn.inRound l (callsIn_wide.2 (unhide HA))).mono ?_⟩
        rintro e w3 ⟨rfl, hw3⟩
        subst w3
        gi_wp2
        have n01 : w.heap.size ≠ w.heap.size + 1 := by omega
        exact ⟨((KO2.trans (KeepsOthers.setCell _ _ _)).trans (KeepsOthers.setCell _ _ _)).from _, ⟨(e0.set (.int .i64 0)).other n01 _, (e1.other n01.symm _).set (.bool false)⟩, unhide OX, (hB2.setCell (p := ⟨w.heap.size, 0, none⟩) (Nat.le_refl _) _).setCell (p := ⟨w.heap.size + 1, 0, none⟩) (by show w.heap.size ≤ w.heap.size + 1; omega) _⟩
      · have OX : Hid (foldF (some 0) (lowW (wordsP (pre ++ [x]))) = some (n + bit)) := by
          show foldF (some 0) (lowW (wordsP (pre ++ [x]))) = _
          rw [unhide LS, unhide SN, unhide S2 (by rw [hbit]; exact p2) (by rw [hbit]; exact hh)]
        rw [show hasV n (2 ^ k) = false from decide_eq_false hh, ← hbit] at HA
        rw [add_is n0 n1 hk hh, ← hbit] at WI
        have HW := hide WI
        clear hh hbit WI p0 p1 p2
        gi_wp2
        refine ⟨trivial, (CallsIn.inRound l (callsIn_wide.2 (unhide HA))).mono ?_⟩
        rintro e w3 ⟨rfl, hw3⟩
        subst w3
        gi_wp2
        refine ⟨trivial, (CallsIn.inRound l (callsIn_wide.2 (unhide HW))).mono ?_⟩
        rintro e w3 ⟨rfl, hw3⟩
        subst w3
        generalize n + bit = m at *
        have NW := hide (num_of (unhide OX))
        gi_wp2
        have n2 : w.heap.size ≠ w.heap.size + 2 := by omega
        have n3 : w.heap.size + 1 ≠ w.heap.size + 2 := by omega
        have E2 := e2.set (.int .i64 m)
        refine ⟨(KO2.trans (KeepsOthers.setCell _ _ _)).from _, ⟨((unhide KB).mono hB.size).setCell (p := ⟨w.heap.size + 2, 0, none⟩) (by show w.heap.size ≤ w.heap.size + 2; omega) _, fun k h1 h2 => ?_⟩, ?_, ⟨e0.other n2 _, e1.other n3 _⟩, ?_, hB2.setCell (p := ⟨w.heap.size + 2, 0, none⟩) (by show w.heap.size ≤ w.heap.size + 2; omega) _, ?_⟩
        · exact (Below.heap_setCell w2 ⟨w.heap.size + 2, 0, none⟩ (.int .i64 m) k (fun e => by have : k = w.heap.size + 2 := e; omega)).trans ((unhide KB).block k (by omega))
        · rw [unhide NW]; exact E2
        · rw [unhide NW]; exact unhide OX
        · simpa using hsz2
  case done =>
    rintro D ys W hD hS0 ⟨hv, ⟨hR1, hR2⟩, hok, hB, hsz⟩ hK
    have hDs : w.heap.size + 6 ≤ D := by have := unhide HS1; omega
    have FV : Hid (foldF (some 0) (lowW (cutsL 32 L)) = some (numW (wordsP ys))) := by
      show foldF (some 0) (lowW (cutsL 32 L)) = _
      rw [← hok, show wordsP ys = cutsL 32 L from hS0]
    clear hok hS0
    generalize numW (wordsP ys) = n at *
    have c0 := hR1.cell
    have c1 := hR2.cell
    have c2 : W.cell? ⟨w.heap.size + 1 + 1, 0, none⟩ = some (.int .i64 n) := hv.cell
    have z0 := hR1.frozen
    have z1 := hR2.frozen
    gi_wp2
    have n01 : w.heap.size ≠ w.heap.size + 1 := by omega
    have r0 := (hR1.set (.int .i64 n)).other n01 (.bool true)
    have r1 := (hR2.other n01.symm (.int .i64 n)).set (.bool true)
    have hK6 : ((W.setCell ⟨w.heap.size, 0, none⟩ (.int .i64 n)).setCell ⟨w.heap.size + 1, 0, none⟩ (.bool true)).heap[D]? = some (.deferred (some [])) := ((KeepsOthers.setCell _ _ _).trans (KeepsOthers.setCell _ _ _)).same D _ hK rfl
    have hB6 : Below w.heap.size w ((W.setCell ⟨w.heap.size, 0, none⟩ (.int .i64 n)).setCell ⟨w.heap.size + 1, 0, none⟩ (.bool true)) := (hB.setCell (p := ⟨w.heap.size, 0, none⟩) (Nat.le_refl _) _).setCell (p := ⟨w.heap.size + 1, 0, none⟩) (by show w.heap.size ≤ w.heap.size + 1; omega) _
    generalize (W.setCell ⟨w.heap.size, 0, none⟩ (.int .i64 n)).setCell ⟨w.heap.size + 1, 0, none⟩ (.bool true) = W6 at *
    refine ⟨by simp, .inl ⟨_, _, rfl, run_takeDeferred hK6, ?_⟩⟩
    have g1 := (r0.kept (grownBy_putObj' W6 D (.deferred none)) (by simp; omega)).cell
    have g2 := (r1.kept (grownBy_putObj' W6 D (.deferred none)) (by simp; omega)).cell
    refine ⟨_, by simp [results, Tryd.results7, go_sem, g1, g2]; try rfl, ?_, ?_⟩
    · rw [unhide V, unhide WO, unhide FV]; rfl
    · exact hB6.trans (belowK_b (w := w) (Nat.le_refl _) W6 D _ _ (by omega) hK6 rfl rfl)
  case stop =>
    rintro D pre W hD hSp ⟨⟨hR1, hR2⟩, hok, hB⟩ hK
    have NO := hide (fold_pre hSp hok)
    gi_wp2
    refine ⟨by simp, .inl ⟨_, _, rfl, run_takeDeferred hK, ?_⟩⟩
    have hDs : w.heap.size + 6 ≤ D := by have := unhide HS1; omega
    have g1 := (hR1.kept (grownBy_putObj' W D (.deferred none)) (by simp; omega)).cell
    have g2 := (hR2.kept (grownBy_putObj' W D (.deferred none)) (by simp; omega)).cell
    refine ⟨_, by simp [results, Tryd.results7, go_sem, g1, g2]; try rfl, ?_, ?_⟩
    · rw [unhide V, unhide WO, unhide NO]; rfl
    · exact hB.trans (belowK_b (w := w) (Nat.le_refl _) W D _ _ (by omega) hK rfl rfl)
theorem impl_ReadFlags_any (t : ByteArray) (w : World) (ht : t.size ≤ 1048576) (hN : Named w) :
    Calls Tryd.prog 7 #[.string t] w fun e w' => e = .returned (.tuple #[.int .i64 (readF t.data.toList).1, .bool (readF t.data.toList).2]) ∧ Below w.heap.size w w' := by
  cases h1 : openB t.data.toList with
  | false => exact impl_ReadFlags_out t w ht (by rw [h1]; rfl)
  | true =>
    cases h2 : shutB t.data.toList with
    | false => exact impl_ReadFlags_out t w ht (by rw [h1, h2]; rfl)
    | true =>
      by_cases h3 : innerF t.data.toList = []
      · exact impl_ReadFlags_none t w ht h1 h2 h3
      · exact impl_ReadFlags_in t w ht h1 h2 h3 hN
end Go.Proofs.YtanapiaobpoebaaDoor
