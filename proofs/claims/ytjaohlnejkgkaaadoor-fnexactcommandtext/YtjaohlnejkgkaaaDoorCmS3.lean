/- Commands: the specification's CommandText. -/
import Derived.Test.YtjaohlnejkgkaaaDoorCmS2
namespace Go.Proofs.YtjaohlnejkgkaaaDoor
open Go.RowKit
open Plain
set_option linter.unusedVariables false
set_option linter.unusedSimpArgs false
attribute [local go_sem] cell_of frozen_of

/-- Words that can be read. -/
def SeeW (w : World) (a : Option Addr) (l : List (List UInt8)) : Prop := ∀ (k : Nat) (x : List UInt8), l[k]? = some x → ∃ g, a = some ⟨g, 0, none⟩ ∧ HasCell w g k (.string ⟨x.toArray⟩)
theorem SeeW.up {w W : World} {L : List Pc} {a : Option Addr} {l : List (List UInt8)} (h : SeeW w a l) [M : Mem w W L] : SeeW W a l := fun k f hf => by
  obtain ⟨g, e, c0⟩ := h k f hf
  exact ⟨g, e, inferInstance⟩
theorem seeW_own {B : Nat} {w : World} {a : Option Addr} {n c : Nat} {l : List (List UInt8)} (h : w.ownsRow B 9 1 (.slice a n c) l.length (Plain.strs l)) : SeeW w a l := by
  intro k f hf
  have hk : k < l.length := (List.getElem?_eq_some_iff.1 hf).1
  rcases h.2 with ⟨_, h0⟩ | ⟨g, cap, cur, he, _, _, _⟩
  · omega
  · cases he
    refine ⟨g, rfl, ⟨?_⟩⟩
    rw [h.cellAt k (by omega)]
    simp [Plain.strs, hf]
def cmdT (V : List UInt8 × Bool) : Value := .tuple #[.string ⟨V.1.toArray⟩, .bool V.2]
namespace Plain
theorem wordT_ge (l : List UInt8) : l.length ≤ (wordT l).length := by
  unfold wordT
  split
  · exact Nat.le_refl _
  · split
    · unfold quoteL
      have : ∀ r : List UInt8, r.length ≤ (r.flatMap quB).length := by
        intro r
        induction r with
        | nil => simp
        | cons b r ih => rw [List.flatMap_cons, List.length_append, List.length_cons]; have : 1 ≤ (quB b).length := by unfold quB; split <;> simp
                         omega
      have := this l
      simp only [List.length_cons, List.length_append]; omega
    · unfold litL; simp only [List.length_cons, List.length_append]; omega
theorem joinT_ge : ∀ (l : List (List UInt8)) (w : List UInt8), w ∈ l → w.length ≤ (joinT l).length := by
  intro l
  induction l with
  | nil => intro w h; cases h
  | cons a r ih =>
    intro w h
    have ha := wordT_ge a
    cases r with
    | nil => rcases List.mem_singleton.1 h with rfl; exact ha
    | cons b r =>
      simp only [joinT, List.length_append, List.length_cons]
      rcases List.mem_cons.1 h with rfl | h
      · omega
      · have := ih w h; omega
theorem cmdV_long {l : List (List UInt8)} {w : List UInt8} (h : w ∈ l) (hw : 300 < w.length) : cmdV l = ([], false) := by
  unfold cmdV
  have := joinT_ge l w h
  split
  · rw [if_neg (by omega)]
  · rfl
theorem cmdV_out {l : List (List UInt8)} (h : inI (l.length : Int) 1 12 = false) : cmdV l = ([], false) := by unfold cmdV; rw [h]; rfl
theorem cmdV_in {l : List (List UInt8)} (h : inI (l.length : Int) 1 12 = true) : cmdV l = if (joinT l).length + 2 ≤ 300 then (joinT l ++ [13, 10], true) else ([], false) := by unfold cmdV; rw [h]; rfl
end Plain
set_option maxHeartbeats 8000000 in
set_option maxRecDepth 100000 in
theorem spec_CommandText_any (l : List (List UInt8)) (a : Option Addr) (c : Nat) (w : World) (hn : l.length ≤ 1048576) (h : SeeW w a l) :
    Calls Tryd.prog 7 #[.slice a l.length c] w fun e w' => e = .returned (cmdT (cmdV l)) ∧ Below w.heap.size w w' := by
  have H := hide h
  have M := Mem.start w
  clear h
  have Q1 := hide (in_any (l.length : Int) 1 12 w)
  have V1 := hide (cmdV_out (l := l))
  have V2 := hide (cmdV_in (l := l))
  have V3 := hide (fun w h => cmdV_long (l := l) (w := w) h)
  obtain ⟨V, hV⟩ : ∃ V, cmdV l = V := ⟨_, rfl⟩
  rw [hV] at V1 V2 V3 ⊢
  clear hV
  go_enter Tryd.func7, Tryd.ntmps7
  go_wp2_with fail
  refine (unhide Q1).mono ?_
  rintro e w1 ⟨rfl, hw⟩
  subst w1
  cases h1 : inI (l.length : Int) 1 12 with
  | false =>
    have hx := unhide V1 h1
    subst hx
    go_wp2
    refine bodyPost_ret (by simp [results, Tryd.results7, go_sem]; try rfl) rfl ?_
    exact ⟨rfl, Below.refl _ _⟩
  | true =>
  have V2 := hide (unhide V2 h1)
  have HN : Hid (l.length ≤ 12) := by have := inI_iff.1 h1; show l.length ≤ 12; omega
  clear h1 V1 Q1
  go_wp2
  go_loopw [4, 5] (fun s i W => ∃ (k : Nat) (x : List UInt8), k ≤ l.length ∧ i = .int .i64 k ∧ s = .string ⟨x.toArray⟩ ∧ Hid (x = joinT (l.take k)) ∧ x.length ≤ k * 700 ∧ Mem w W []) (fun _ i _ => l.length - (intOf i).toNat)
  case atStart => exact ⟨0, [], Nat.zero_le _, rfl, rfl, rfl, by simp, M⟩
  case round =>
    obtain ⟨k, x, hk, rfl, rfl, HX, hxl, M⟩ := hrel
    by_cases hlt : k < l.length
    · have hx := List.getElem?_eq_getElem hlt
      obtain ⟨g, rfl, c0⟩ := unhide H k _ hx
      have hm : l[k] ∈ l := List.getElem_mem hlt
      have HS : Hid (joinT (l.take (k + 1)) = (if k = 0 then [] else x ++ [32]) ++ wordT l[k]) := by
        show _ = _
        rw [List.take_add_one, hx]
        by_cases h0 : k = 0
        · subst h0; rw [if_pos rfl]; simp [joinT]
        · rw [if_neg h0, Option.toList_some, joinT_snoc _ _ (by intro e; rcases List.take_eq_nil_iff.1 e with e | e; exact h0 e; rw [e] at hlt; cases hlt), unhide HX, List.append_assoc]; rfl
      have HV3 := hide (unhide V3 _ hm)
      generalize l[k] = y at *
      clear hx hm HX
      by_cases h3 : 300 < y.length
      · have d3 : decide ((300 : Int) < (y.length : Int)) = true := by rw [decide_eq_true_eq]; omega
        have hx := unhide HV3 h3
        subst hx
        go_wp2
        refine bodyPost_ret (by simp [results, Tryd.results7, go_sem]; try rfl) rfl ?_
        exact ⟨rfl, M.below⟩
      · have d3 : decide ((300 : Int) < (y.length : Int)) = false := by rw [decide_eq_false_iff_not]; omega
        have QW := hide (fun W => spec_word ⟨y.toArray⟩ W (by show y.length ≤ 4194304; omega))
        change Hid (∀ W, Calls _ _ _ W fun e w' => e = .returned (.string ⟨(wordT y).toArray⟩) ∧ Below W.heap.size W w') at QW
        have hwl : Hid ((wordT y).length ≤ 660) := by have := wordT_len (l := y) (by omega); show (wordT y).length ≤ 660; omega
        by_cases h0 : k = 0
        · subst h0
          rw [if_pos rfl, List.nil_append] at HS
          have hx0 : Hid (x.length ≤ 0) := hxl
          generalize wordT y = z at *
          have hz := unhide hwl
          have iz : ¬ 9223372036854775807 < x.length + z.length := by have := unhide hx0; omega
          go_wp2_with (refine (unhide QW _).mono ?_; rintro e w5 ⟨rfl, hb⟩)
          obtain rfl : x = [] := List.eq_nil_of_length_eq_zero (by have := unhide hx0; omega)
          refine ⟨⟨1, z, by omega, by go_num, by show Value.string (⟨[].toArray⟩ ++ ⟨z.toArray⟩) = _; rw [ByteArray.mk_append_mk [] z]; rfl, (unhide HS).symm, by omega, Mem.go hb⟩, by simp [intOf]; omega⟩
        · have d0 : decide ((0 : Int) < (k : Int)) = true := by rw [decide_eq_true_eq]; omega
          rw [if_neg h0] at HS
          generalize wordT y = z at *
          have hz := unhide hwl
          have hN := unhide HN
          have iz : ¬ 9223372036854775807 < x.length + 1 + z.length := by omega
          go_wp2_with (refine (unhide QW _).mono ?_; rintro e w5 ⟨rfl, hb⟩)
          refine ⟨⟨k + 1, x ++ [32] ++ z, by omega, by go_num, ?_, (unhide HS).symm, by simp; omega, Mem.go hb⟩, by simp [intOf]; omega⟩
          exact congrArg Value.string ((congrArg (· ++ _) (ByteArray.mk_append_mk x [32])).trans (ByteArray.mk_append_mk (x ++ [32]) z))
    · obtain rfl : k = l.length := by omega
      rw [List.take_length] at HX
      have hN := unhide HN
      have iz : ¬ 9223372036854775807 < x.length + 2 := by omega
      rw [← unhide HX] at V2
      by_cases h3 : x.length + 2 ≤ 300
      · have d3 : decide ((300 : Int) < (x.length : Int) + 2) = false := by rw [decide_eq_false_iff_not]; omega
        have hx := unhide V2
        rw [if_pos h3] at hx
        subst hx
        go_wp2
        refine bodyPost_ret (by simp [results, Tryd.results7, go_sem]; try rfl) rfl ?_
        exact ⟨by unfold cmdT; rw [← ByteArray.mk_append_mk x [13, 10]], M.below⟩
      · have d3 : decide ((300 : Int) < (x.length : Int) + 2) = true := by rw [decide_eq_true_eq]; omega
        have hx := unhide V2
        rw [if_neg h3] at hx
        subst hx
        go_wp2
        refine bodyPost_ret (by simp [results, Tryd.results7, go_sem]; try rfl) rfl ?_
        exact ⟨rfl, M.below⟩
end Go.Proofs.YtjaohlnejkgkaaaDoor
