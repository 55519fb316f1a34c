/- Commands: the program's CommandText. -/
import Derived.Test.YtjaohlnejkgkaaaDoorCmIW
import Derived.Test.YtjaohlnejkgkaaaDoorMemR
namespace Go.Proofs.YtjaohlnejkgkaaaDoor
open Go.RowKit Go.Shelf
open Plain
set_option linter.unusedVariables false
set_option linter.unusedSimpArgs false
attribute [local go_sem] cell_of frozen_of

theorem Tryd.infoStrC : (Tryd.prog.info? 9).map (fun i => (i.zero, i.size, i.bytes)) = some (some (.string ByteArray.empty), 1, 16) := by kernel_rfl
namespace Plain
/-- The texts of the first k words, then empty ones. -/
def laidS (l : List (List UInt8)) (k : Nat) : List (List UInt8) := (l.take k).map wordT ++ List.replicate (l.length - k) []
theorem laidS_zero (l : List (List UInt8)) : laidS l 0 = List.replicate l.length [] := by simp [laidS]
theorem laidS_all (l : List (List UInt8)) : laidS l l.length = l.map wordT := by simp [laidS]
theorem laidS_length (l : List (List UInt8)) (k : Nat) (h : k ≤ l.length) : (laidS l k).length = l.length := by simp [laidS]; omega
theorem laidS_set (l : List (List UInt8)) (k : Nat) (h : k < l.length) : (laidS l k).set k (wordT l[k]) = laidS l (k + 1) := by
  have hk : ((l.take k).map wordT).length = k := by simp; omega
  unfold laidS
  rw [List.set_append_right _ _ (by omega), hk, Nat.sub_self, show l.length - k = (l.length - (k + 1)) + 1 by omega, List.replicate_succ, List.set_cons_zero, List.take_add_one, List.getElem?_eq_getElem h, List.map_append]
  simp
theorem strs_set (l : List (List UInt8)) (k : Nat) (x : List UInt8) : (strs l).set k (.string ⟨x.toArray⟩) = strs (l.set k x) := by simp [strs, List.map_set]
theorem joinT_len : ∀ (l : List (List UInt8)), (∀ x ∈ l, x.length ≤ 1048576) → (joinT l).length ≤ l.length * 2097184 := by
  intro l
  induction l with
  | nil => intro _; simp [joinT]
  | cons a r ih =>
    intro h
    have ha := wordT_len (h a (by simp))
    have h1 := h a (by simp)
    cases r with
    | nil => show (wordT a).length ≤ _; simp; omega
    | cons b r =>
      have := ih (fun x hx => h x (by simp only [List.mem_cons] at hx ⊢; exact .inr hx))
      show (wordT a ++ (32 :: joinT (b :: r))).length ≤ _
      simp only [List.length_append, List.length_cons] at this ⊢
      omega
end Plain
/-- Texts of one's own, joined by blanks. -/
theorem joinC (xs : List (List UInt8)) (a : Option Addr) (n c B : Nat) (W : World) (hl : xs.length ≤ 12) (h : W.ownsRow B 9 1 (.slice a n c) n (strs xs)) (hn : n = xs.length) (hj : (Lib.join xs [32]).length ≤ 140737488355328) :
    Calls Tryd.prog 20 #[.slice a n c, .string ⟨#[32]⟩] W fun e w' => e = .returned (.string ⟨(Lib.join xs [32]).toArray⟩) ∧ Below W.heap.size W w' := by
  subst hn
  have hm : (xs.map (fun x => (⟨x.toArray⟩ : ByteArray))).map (·.data.toList) = xs := by
    rw [List.map_map]
    conv => rhs; rw [← List.map_id xs]
    exact List.map_congr_left fun x _ => rfl
  rcases h.2 with ⟨h1, h2⟩ | ⟨g, pc, cur, h1, hg, hh, hnc, hcp, hcs, htake⟩
  · have e : xs = [] := List.eq_nil_of_length_eq_zero h2
    subst e
    cases h1
    exact (Tryd.strings_Join_none none 0 _ W).mono fun e w' he => ⟨he.1, by rw [he.2]; exact Below.refl _ _⟩
  · cases h1
    have := Tryd.strings_Join g 0 c (xs.map (fun x => (⟨x.toArray⟩ : ByteArray))) ⟨#[32]⟩ W (fun j x hx => by
      have hj2 : j < xs.length := by have := (List.getElem?_eq_some_iff.1 hx).1; simpa using this
      have := h.cellAt j (by simpa using hj2)
      rw [Nat.zero_add, this]
      rw [List.getElem?_map] at hx
      unfold strs
      rw [List.getElem?_map]
      cases hq : xs[j]? with
      | none => rw [hq] at hx; cases hx
      | some y => rw [hq] at hx; cases hx; rfl) (by have := Array.getElem?_eq_some_iff.1 hh; exact this.1) (by simp; omega) (by simp; omega) (by rw [hm]; exact hj)
    rw [hm, List.length_map] at this
    exact this
set_option maxHeartbeats 8000000 in
set_option maxRecDepth 100000 in
theorem impl_CommandText_any (l : List (List UInt8)) (a : Option Addr) (c : Nat) (w : World) (hn : l.length ≤ 1048576) (hsz : ∀ x ∈ l, x.length ≤ 1048576) (h : SeeW w a l) (hm : HasMax w) (ht : Lib.TabIs Tryd.prog w "internal/strconv.uint64pow10" .u64 Lib.pow10Tab) :
    Calls Tryd.prog 9 #[.slice a l.length c] w fun e w' => e = .returned (cmdT (cmdV l)) ∧ Below w.heap.size w w' := by
  have H := hide h
  have HZ := hide hsz
  have HM := hide hm
  have HT := hide ht
  have M := Mem.start w
  obtain ⟨i0, hi, hz0, hz1, hz2⟩ := info_parts Tryd.infoStrC
  clear h hsz hm ht
  have Q1 := hide (impl_within_any (l.length : Int) 1 12 w)
  have V1 := hide (cmdV_out (l := l))
  have V2 := hide (cmdV_in (l := l))
  have HJ := hide (joinT_lib l)
  obtain ⟨V, hV⟩ : ∃ V, cmdV l = V := ⟨_, rfl⟩
  rw [hV] at V1 V2 ⊢
  clear hV
  go_enter Tryd.func9, Tryd.ntmps9
  go_wp2_with fail
  refine (unhide Q1).mono ?_
  rintro e w1 ⟨rfl, hw⟩
  subst w1
  cases h1 : inI (l.length : Int) 1 12 with
  | false =>
    have hx := unhide V1 h1
    subst hx
    go_wp2
    refine bodyPost_ret (by simp [results, Tryd.results9, go_sem]; try rfl) rfl ?_
    exact ⟨rfl, Below.refl _ _⟩
  | true =>
  have V2 := hide (unhide V2 h1)
  have HN : Hid (l.length ≤ 12) := by have := inI_iff.1 h1; show l.length ≤ 12; omega
  have hN := unhide HN
  clear h1 V1 Q1
  go_wp2_with (refine wpList_make_full _ rfl _ _ 22 rfl _ 9 i0 _ 1 Tryd.underlying22 hi hz0 hz1 .i64 .i64 _ _ l.length rfl rfl rfl rfl (by rw [hz2]; omega) (by unfold maxLen; omega) (Nat.le_refl _) ?_; intro wm hown hgm; have M := Mem.then (Mem.of_row hown (g_below hgm)))
  have hmade : (madeCells (Value.string ByteArray.empty).cells (l.length * 1)).toList = strs (laidS l 0) := by
    rw [Nat.mul_one]
    show (madeCells #[.string ByteArray.empty] l.length).toList = _
    rw [toList_madeCells_one, laidS_zero]
    unfold strs
    rw [List.map_replicate]; rfl
  rw [hmade] at M
  clear hmade hown hgm hi hz0 hz1 hz2
  try rw [show w.heap.size = w.heap.size from rfl] at M
  go_wp2
  go_loopw [17] (fun i W => ∃ k : Nat, k ≤ l.length ∧ i = .int .i64 k ∧ Mem w W [.row (some ⟨w.heap.size, 0, none⟩) l.length l.length 9 1 (strs (laidS l k))]) (fun i _ => l.length - (intOf i).toNat)
  case atStart => exact ⟨0, Nat.zero_le _, rfl, Mem.end⟩
  case round =>
    obtain ⟨k, hk, rfl, M⟩ := hrel
    by_cases hlt : k < l.length
    · have hx := List.getElem?_eq_getElem hlt
      obtain ⟨g, rfl, c0⟩ := unhide H k _ hx
      have hz := unhide HZ _ (List.getElem_mem hlt)
      have HS : Hid ((strs (laidS l k)).set k (.string ⟨(wordT l[k]).toArray⟩) = strs (laidS l (k + 1))) := by
        show _ = _
        rw [strs_set, laidS_set l k hlt]
      generalize l[k] = y at *
      obtain ⟨y0, el⟩ := Elt.some (xs := strs (laidS l k)) (j := k) (by rw [strs_length, laidS_length _ _ hk]; exact hlt)
      have QW := hide (fun W h1 h2 => impl_word ⟨y.toArray⟩ W hz h1 h2)
      change Hid (∀ W, _ → _ → Calls _ _ _ W fun e w' => e = .returned (.string ⟨(wordT y).toArray⟩) ∧ Below W.heap.size W w') at QW
      generalize wordT y = z at *
      have HM1 := hide ((unhide HM).below M.below)
      have HT1 := hide (tabC_below M.below (unhide HT))
      go_wp2_with (refine (unhide QW _ (unhide HM1) (unhide HT1)).mono ?_; rintro e w2 ⟨rfl, hb⟩; have M := Mem.go hb; clear hb)
      go_roundw
      case rel => exact ⟨k + 1, by omega, by go_num, by rw [← unhide HS]; exact Mem.end⟩
      case measure => simp [intOf]; omega
    · obtain rfl : k = l.length := by omega
      rw [laidS_all] at M
      have hjl := joinT_len l (unhide HZ)
      have JJ := hide (joinC (l.map wordT) _ _ _ _ _ (by simp; omega) (Mem.row (W := wr) w.heap.size) (by simp) (by rw [← unhide HJ]; omega))
      rw [← unhide HJ] at JJ
      generalize joinT l = x at *
      have iz : ¬ 9223372036854775807 < x.length + 2 := by omega
      have V2 := unhide V2
      by_cases h3 : x.length + 2 ≤ 300
      · rw [if_pos h3] at V2
        have d3 : decide ((300 : Int) < ((x.length : Int) + 2)) = false := by rw [decide_eq_false_iff_not]; omega
        subst V2
        go_wp2_with (refine (unhide JJ).mono ?_; rintro e w2 ⟨rfl, hb⟩; have M := Mem.go hb; clear hb)
        refine bodyPost_ret (by simp [results, Tryd.results9, go_sem]; try rfl) rfl ?_
        exact ⟨by unfold cmdT; rw [ByteArray.mk_append_mk x [13, 10]], M.below⟩
      · rw [if_neg h3] at V2
        have d3 : decide ((300 : Int) < ((x.length : Int) + 2)) = true := by rw [decide_eq_true_eq]; omega
        subst V2
        go_wp2_with (refine (unhide JJ).mono ?_; rintro e w2 ⟨rfl, hb⟩; have M := Mem.go hb; clear hb)
        refine bodyPost_ret (by simp [results, Tryd.results9, go_sem]; try rfl) rfl ?_
        exact ⟨rfl, M.below⟩
end Go.Proofs.YtjaohlnejkgkaaaDoor
