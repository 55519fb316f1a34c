/- The draws of the laws: some twelve places. -/
import Derived.Test.YtjaohlnejkgkaaaDoorDrawNew
import Derived.Test.YtjaohlnejkgkaaaDoorInts
namespace Go.Proofs.YtjaohlnejkgkaaaDoor
open Go.RowKit
open Plain
set_option linter.unusedVariables false

/-- Numbers as values. -/
def ivN (l : List Nat) : List Value := l.map fun (x : Nat) => Value.int .i64 (x : Int)
theorem ivN_append (l m : List Nat) : ivN (l ++ m) = ivN l ++ ivN m := List.map_append ..
theorem own_mono {w : World} {base base' : Nat} {e : TypeId} {size : Nat} {v : Value} {n : Nat} {xs : List Value} (h : w.ownsRow base e size v n xs) (hb : base' ≤ base) : w.ownsRow base' e size v n xs :=
  ⟨h.1, h.2.imp id fun ⟨g, cap, cur, h1, h2, h3⟩ => ⟨g, cap, cur, h1, Nat.le_trans hb h2, h3⟩⟩
theorem news_int {w : World} (v : Value) : ∀ j u, ([v] : List Value)[j]? = some u → (w.alloc (.cells #[v] 3)).cell? ((⟨w.heap.size, 0, none⟩ : Addr).add j) = some u := by
  intro j u hj
  match j, hj with
  | 0, hj => simp at hj; subst hj; simp [Addr.add]

set_option maxHeartbeats 1000000 in
set_option maxRecDepth 100000 in
theorem DrawPlaces_nat (B len cap : Nat) (a : Option Addr) (w : World) (ha : Arg B w a len) (hB : B ≤ w.heap.size) :
    Calls Tryd.prog 12 #[.slice a len cap] w fun e w' => ∃ (v : Value) (l : List Nat), l.length = 12 ∧ (∀ x ∈ l, x < 10000) ∧ e = .returned v ∧ w'.ownsRow w.heap.size 3 1 v 12 (ivN l) ∧ Below w.heap.size w w' := by
  obtain ⟨i0, hi, hz0, hz1, hz2⟩ := info_parts Tryd.infoInt
  have q1 := hide (l01New_any B len cap a w ha hB)
  have q2 := hide (fun W hW => l01Below_any B w.heap.size 10000 W hW (by omega) (by omega))
  have q3 := hide (fun W hW => l01Byte_any B w.heap.size W hW)
  clear ha
  go_enter Tryd.func12, Tryd.ntmps12
  go_wp2_with (first
    | (go_at_call 21; refine (unhide q1).mono ?_; rintro e w1 ⟨rfl, hc1, hg1⟩)
    | (go_at_call 22; refine (unhide q3 _ (by assumption)).mono ?_; rintro e w2 ⟨x, hx, rfl, hc2, hg2⟩))
  have hs2 := hc2.lt
  have hb2 : Below w.heap.size w w2 := ((Below.refl _ _).grown hg1 (Nat.le_refl _) (fun k hk => by cases hk)).grown hg2 hg1.size (fun k hk => by cases hk; exact Nat.le_refl _)
  clear hc1 hg1 hg2
  go_loopw [4, 5] (fun v i wr => ∃ (l : List Nat), l.length ≤ 12 ∧ (∀ x ∈ l, x < 10000) ∧ i = .int .i64 (l.length : Int) ∧ wr.ownsRow (w.heap.size + 1) 3 1 v l.length (ivN l) ∧ Cur B wr w.heap.size ∧ Below w.heap.size w wr)
    (fun _ i _ => 12 - (intOf i).toNat)
  case atStart => exact ⟨[], Nat.zero_le _, (fun x hx => by cases hx), rfl, World.ownsRow_lit w2 #[] 0 (show w.heap.size + 1 ≤ w2.heap.size from by omega) (Nat.zero_le _) rfl, hc2.kept (World.grownBy_alloc _ _ none) (fun k hk => by cases hk), hb2.alloc (by omega) _⟩
  case round =>
    obtain ⟨l, hk, hall, rfl, hown, hcr, hbr⟩ := hrel
    obtain ⟨L, hL⟩ : ∃ L, L = l.length := ⟨_, rfl⟩
    have hL' := hide hL
    have hA := hide hall
    rw [← hL] at hk hown ⊢
    clear hL hall hs2 hb2 hc2
    have hsr := hcr.lt
    by_cases hlt : L < 12
    · have hne := own_apart hown (show w.heap.size < w.heap.size + 1 from by omega)
      go_wp2_with (first
        | (go_at_call 23; refine (unhide q2 _ (by assumption)).mono ?_; rintro e w3 ⟨x, hx, rfl, hc3, hg3⟩; have hown3 := hown.kept hg3 hne; have hsz3 := hc3.lt; have hb3 := hbr.grown hg3 (Nat.le_of_lt hsr.2) (fun k hk => by cases hk; exact Nat.le_refl _))
        | (at_builtin; refine wpList_append_own _ rfl _ _ 31 rfl (w.heap.size + 1) 3 i0 (.int .i64 0) 1 8 Tryd.underlying31 hi hz0 hz1 hz2 rfl (by decide) _ _ _ rfl (hown3.alloc _) ⟨w3.heap.size, 0, none⟩ 1 1 [.int .i64 (x : Int)] rfl rfl (news_int _) ?c2 ?c3 ?c4 ?c5 ?_))
      case c2 => intro u hu; simp at hu; subst hu; rfl
      case c3 => unfold maxLen; omega
      case c4 => omega
      case c5 => simp; omega
      intro v' w4 hown' hgrow _
      have hb4 : Below w.heap.size w w4 := (hb3.alloc (Nat.le_of_lt hsz3.2) _).grown hgrow (by simp; omega) (fun k hk => by have := (hown3.lt k hk).1; omega)
      have hc4 : Cur B w4 w.heap.size := (hc3.kept (World.grownBy_alloc _ _ none) (fun k hk => by cases hk)).kept hgrow (fun k hk => by have := (hown3.lt k hk).1; omega)
      have ho4 : w4.ownsRow (w.heap.size + 1) 3 1 v' (l ++ [x]).length (ivN (l ++ [x])) := by
        rw [ivN_append, List.length_append, ← unhide hL']; exact hown'
      clear hown hown3 hown' hgrow hbr hb3 hcr hc3 hne
      go_wp2
      go_roundw
      case rel => exact ⟨l ++ [x], by simp [← unhide hL']; omega, (fun y hy => by rcases List.mem_append.1 hy with h | h; exact unhide hA y h; simp at h; omega), by simp [← unhide hL'], ho4, hc4, hb4⟩
      case measure => simp [intOf]; omega
    · obtain rfl : L = 12 := by omega
      go_wp2
      go_ret
      exact ⟨_, l, (unhide hL').symm, unhide hA, rfl, own_mono hown (by omega), hbr⟩
theorem ivN_is (l : List Nat) : ivN l = iv (l.map fun (x : Nat) => (x : Int)) := by simp [ivN, iv]
theorem DrawPlaces_int (B len cap : Nat) (a : Option Addr) (w : World) (ha : Arg B w a len) (hB : B ≤ w.heap.size) :
    Calls Tryd.prog 12 #[.slice a len cap] w fun e w' => ∃ (v : Value) (l : List Int), l.length = 12 ∧ (∀ x ∈ l, 0 ≤ x ∧ x < 10000) ∧ e = .returned v ∧ OwnI w.heap.size w' v l ∧ Below w.heap.size w w' := by
  refine (DrawPlaces_nat B len cap a w ha hB).mono ?_
  rintro e w1 ⟨v, l, hl, hall, rfl, hown, hb⟩
  refine ⟨v, l.map fun (x : Nat) => (x : Int), by simpa using hl, fun x hx => ?_, rfl, ?_, hb⟩
  · obtain ⟨y, hy, rfl⟩ := List.mem_map.1 hx
    have := hall y hy
    omega
  · unfold OwnI
    rw [List.length_map, hl, ← ivN_is]
    exact hown
end Go.Proofs.YtjaohlnejkgkaaaDoor
