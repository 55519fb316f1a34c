/- Commands: drawn words. Made by gen_cmdraw.py. -/
import Derived.Test.YtjaohlnejkgkaaaGreatDoorMemD
import Derived.Test.YtjaohlnejkgkaaaGreatDoorRcIA
namespace Go.Proofs.YtjaohlnejkgkaaaGreatDoor
open Go.RowKit
open Plain
set_option linter.unusedVariables false
set_option linter.unusedSimpArgs false
attribute [local go_sem] cell_of frozen_of

set_option maxHeartbeats 4000000 in
set_option maxRecDepth 100000 in
theorem mail_mem {w W : World} {c : Nat} {cs : List Value} {L R : List Pc} (ho : CurOk w cs) [M : Mem w W L] [hr : Rem L (.obj c 49 cs) R] :
    Calls Tryz.prog 42 #[.pointer (some ⟨c, 0, none⟩)] W fun e W' => ∃ (t : List UInt8) (cs' : List Value), t.length ≤ 200 ∧ e = .returned (.string ⟨t.toArray⟩) ∧ CurOk w cs' ∧ Mem w W' (.obj c 49 cs' :: R) := by
  have HO0 := hide ho
  have M := M.perm hr.out
  clear ho
  go_enter Tryz.func42, Tryz.ntmps42
  go_wp2_with fail
  refine (pick_mem [[32, 104, 101, 108, 108, 111], [32, 82, 101, 58, 32, 104, 101, 108, 108, 111], [32, 111, 116, 104, 101, 114], [32, 102, 119, 100, 58, 32, 82, 69, 58, 32, 32, 72, 101, 108, 108, 111, 32], [], [32, 110, 101, 119, 115]] (unhide HO0) rfl (by decide) (by decide) rfl).mono ?_
  rintro e w1 ⟨z1, cs1, hz, rfl, ho, M⟩
  have Z1 : z1.length ≤ 17 := (show ∀ z ∈ ([[32, 104, 101, 108, 108, 111], [32, 82, 101, 58, 32, 104, 101, 108, 108, 111], [32, 111, 116, 104, 101, 114], [32, 102, 119, 100, 58, 32, 82, 69, 58, 32, 32, 72, 101, 108, 108, 111, 32], [], [32, 110, 101, 119, 115]] : List (List UInt8)), z.length ≤ 17 by decide) z1 hz
  have HO1 := hide ho
  clear hz ho
  have il0 : ¬ 9223372036854775807 < 8 + z1.length := by omega
  have il1 : ¬ 9223372036854775807 < 8 + z1.length + 1 := by omega
  go_wp2_with fail
  obtain ⟨X, hX, lX⟩ : ∃ Q9 : List UInt8, (⟨#[83, 117, 98, 106, 101, 99, 116, 58]⟩ ++ ⟨z1.toArray⟩ ++ ⟨#[10]⟩ : ByteArray) = ⟨Q9.toArray⟩ ∧ Q9.length ≤ 60 := ⟨[83, 117, 98, 106, 101, 99, 116, 58] ++ z1 ++ [10], by apply ByteArray.ext; apply Array.ext'; simp, by simp; omega⟩
  rw [hX]
  clear hX
  clear il0 il1
  refine (once_mem 2 (unhide HO1) (by decide) (by decide)).mono ?_
  rintro e w2 ⟨x2, cs2, rfl, ho, M⟩
  have HO2 := hide ho
  clear ho
  cases x2 with
  | true =>
    have il0 : ¬ 9223372036854775807 < X.length + 6 := by omega
    go_wp2_with fail
    refine (pick_mem [[97, 110, 110], [98, 111, 98]] (unhide HO2) rfl (by decide) (by decide) rfl).mono ?_
    rintro e w3 ⟨z3, cs3, hz, rfl, ho, M⟩
    have Z3 : z3.length ≤ 3 := (show ∀ z ∈ ([[97, 110, 110], [98, 111, 98]] : List (List UInt8)), z.length ≤ 3 by decide) z3 hz
    have HO3 := hide ho
    clear hz ho
    have il1 : ¬ 9223372036854775807 < X.length + 6 + z3.length := by omega
    have il2 : ¬ 9223372036854775807 < X.length + 6 + z3.length + 1 := by omega
    go_wp2_with fail
    obtain ⟨X2, hX2, lX2⟩ : ∃ Q9 : List UInt8, (⟨X.toArray⟩ ++ ⟨#[70, 114, 111, 109, 58, 32]⟩ ++ ⟨z3.toArray⟩ ++ ⟨#[10]⟩ : ByteArray) = ⟨Q9.toArray⟩ ∧ Q9.length ≤ 80 := ⟨X ++ [70, 114, 111, 109, 58, 32] ++ z3 ++ [10], by apply ByteArray.ext; apply Array.ext'; simp, by simp; omega⟩
    rw [hX2]
    clear hX2
    clear il0 il1 il2
    refine (once_mem 6 (unhide HO3) (by decide) (by decide)).mono ?_
    rintro e w4 ⟨x4, cs4, rfl, ho, M⟩
    have HO4 := hide ho
    clear ho
    cases x4 with
    | true =>
      go_wp2
      go_ret
      exact ⟨X2, _, by omega, rfl, unhide HO4, Mem.fin⟩
    | false =>
      have il0 : ¬ 9223372036854775807 < X2.length + 1 := by omega
      go_wp2_with fail
      refine (pick_mem [[116, 101, 120, 116], [98, 111, 100, 121, 32, 111, 102, 32, 105, 116, 10], [], [97, 10, 10, 98]] (unhide HO4) rfl (by decide) (by decide) rfl).mono ?_
      rintro e w5 ⟨z5, cs5, hz, rfl, ho, M⟩
      have Z5 : z5.length ≤ 11 := (show ∀ z ∈ ([[116, 101, 120, 116], [98, 111, 100, 121, 32, 111, 102, 32, 105, 116, 10], [], [97, 10, 10, 98]] : List (List UInt8)), z.length ≤ 11 by decide) z5 hz
      have HO5 := hide ho
      clear hz ho
      have il1 : ¬ 9223372036854775807 < X2.length + 1 + z5.length := by omega
      go_wp2
      go_ret
      obtain ⟨Y, hY, lY⟩ : ∃ Q9 : List UInt8, (⟨X2.toArray⟩ ++ ⟨#[10]⟩ ++ ⟨z5.toArray⟩ : ByteArray) = ⟨Q9.toArray⟩ ∧ Q9.length ≤ 100 := ⟨X2 ++ [10] ++ z5, by apply ByteArray.ext; apply Array.ext'; simp, by simp; omega⟩
      rw [hY]
      clear hY
      exact ⟨Y, _, by omega, rfl, unhide HO5, Mem.fin⟩
  | false =>
    go_wp2_with fail
    refine (once_mem 6 (unhide HO2) (by decide) (by decide)).mono ?_
    rintro e w3 ⟨x3, cs3, rfl, ho, M⟩
    have HO3 := hide ho
    clear ho
    cases x3 with
    | true =>
      go_wp2
      go_ret
      exact ⟨X, _, by omega, rfl, unhide HO3, Mem.fin⟩
    | false =>
      have il0 : ¬ 9223372036854775807 < X.length + 1 := by omega
      go_wp2_with fail
      refine (pick_mem [[116, 101, 120, 116], [98, 111, 100, 121, 32, 111, 102, 32, 105, 116, 10], [], [97, 10, 10, 98]] (unhide HO3) rfl (by decide) (by decide) rfl).mono ?_
      rintro e w4 ⟨z4, cs4, hz, rfl, ho, M⟩
      have Z4 : z4.length ≤ 11 := (show ∀ z ∈ ([[116, 101, 120, 116], [98, 111, 100, 121, 32, 111, 102, 32, 105, 116, 10], [], [97, 10, 10, 98]] : List (List UInt8)), z.length ≤ 11 by decide) z4 hz
      have HO4 := hide ho
      clear hz ho
      have il1 : ¬ 9223372036854775807 < X.length + 1 + z4.length := by omega
      go_wp2
      go_ret
      obtain ⟨Y, hY, lY⟩ : ∃ Q9 : List UInt8, (⟨X.toArray⟩ ++ ⟨#[10]⟩ ++ ⟨z4.toArray⟩ : ByteArray) = ⟨Q9.toArray⟩ ∧ Q9.length ≤ 80 := ⟨X ++ [10] ++ z4, by apply ByteArray.ext; apply Array.ext'; simp, by simp; omega⟩
      rw [hY]
      clear hY
      exact ⟨Y, _, by omega, rfl, unhide HO4, Mem.fin⟩
/-- Drawn words. -/
def WordsM (N : Nat) (w : World) (c : Nat) (R : List Pc) (e : Ending) (W' : World) : Prop := ∃ (l : List (List UInt8)) (b cap : Nat) (cs' : List Value), 0 < l.length ∧ l.length ≤ N ∧ (∀ x ∈ l, x.length ≤ 300) ∧ e = .returned (.slice (some ⟨b, 0, none⟩) l.length cap) ∧ CurOk w cs' ∧ Mem w W' (.row (some ⟨b, 0, none⟩) l.length cap 9 1 (strs l) :: .obj c 49 cs' :: R)
theorem words_done {w W' : World} {L R : List Pc} {f : Pc → List Pc} {vs cs' : List Value} {c : Nat} (l : List (List UInt8)) (b n : Nat) (ho : CurOk w cs') (hn : n = l.length) (h0 : 0 < l.length) (h20 : l.length ≤ 20) (hx : ∀ x ∈ l, x.length ≤ 300) (hv : vs = strs l) [M : Mem w W' L] [h1 : Ob L b 9 vs f]
    [h2 : Pick (f (.row (some ⟨b, 0, none⟩) l.length l.length 9 1 (strs l))) (.row (some ⟨b, 0, none⟩) l.length l.length 9 1 (strs l) :: .obj c 49 cs' :: R)] : WordsM 20 w c R (.returned (.slice (some ⟨b, 0, none⟩) n n)) W' := by
  subst hn
  subst hv
  have := h1.inl
  have M2 := Mem.objRow (w := w) (W := W') (b := b) (t := 9) (vs := strs l) l.length 1 (by rw [strs_length, Nat.mul_one]) (by unfold maxLen; omega)
  exact ⟨l, b, l.length, cs', h0, h20, hx, rfl, ho, Mem.fin⟩
set_option maxHeartbeats 4000000 in
set_option maxRecDepth 100000 in
theorem more_mem {w W : World} {c : Nat} {cs : List Value} {L R : List Pc} (ho : CurOk w cs) [M : Mem w W L] [hr : Rem L (.obj c 49 cs) R] :
    Calls Tryz.prog 44 #[.pointer (some ⟨c, 0, none⟩)] W fun e W' => WordsM 20 w c R e W' := by
  have HO0 := hide ho
  have M := M.perm hr.out
  clear ho
  go_enter Tryz.func44, Tryz.ntmps44
  go_wp2_with fail
  refine (below_mem 7 (unhide HO0) (by decide) (by decide)).mono ?_
  rintro e w1 ⟨x1, cs1, hx1, rfl, ho, M⟩
  have HO1 := hide ho
  clear ho
  rcases (show x1 = 0 ∨ x1 = 1 ∨ x1 = 2 ∨ x1 = 3 ∨ x1 = 4 ∨ x1 = 5 ∨ x1 = 6 by omega) with rfl | rfl | rfl | rfl | rfl | rfl | rfl
  · go_wp2_with fail
    refine (pick_mem [[119, 111, 114, 107], [111, 108, 100], [97], [66]] (unhide HO1) rfl (by decide) (by decide) rfl).mono ?_
    rintro e w2 ⟨z2, cs2, hz, rfl, ho, M⟩
    have Z2 : z2.length ≤ 4 := (show ∀ z ∈ ([[119, 111, 114, 107], [111, 108, 100], [97], [66]] : List (List UInt8)), z.length ≤ 4 by decide) z2 hz
    have HO2 := hide ho
    clear hz ho
    go_wp2
    go_ret
    exact words_done [[109, 97, 107, 101], z2] _ _ (unhide HO2) rfl (show (0 : Nat) < 2 by decide) (show 2 ≤ 20 by decide) (fun x hx => by
      simp only [List.mem_cons, List.not_mem_nil, or_false] at hx
      rcases hx with rfl | rfl
      · decide
      · omega
      ) rfl
  · go_wp2_with fail
    refine (pick_mem [[119, 111, 114, 107], [111, 108, 100]] (unhide HO1) rfl (by decide) (by decide) rfl).mono ?_
    rintro e w2 ⟨z2, cs2, hz, rfl, ho, M⟩
    have Z2 : z2.length ≤ 4 := (show ∀ z ∈ ([[119, 111, 114, 107], [111, 108, 100]] : List (List UInt8)), z.length ≤ 4 by decide) z2 hz
    have HO2 := hide ho
    clear hz ho
    go_wp2
    go_ret
    exact words_done [[100, 114, 111, 112], z2] _ _ (unhide HO2) rfl (show (0 : Nat) < 2 by decide) (show 2 ≤ 20 by decide) (fun x hx => by
      simp only [List.mem_cons, List.not_mem_nil, or_false] at hx
      rcases hx with rfl | rfl
      · decide
      · omega
      ) rfl
  · go_wp2
    go_ret
    exact words_done [[99, 108, 111, 115, 101]] _ _ (unhide HO1) rfl (show (0 : Nat) < 1 by decide) (show 1 ≤ 20 by decide) (fun x hx => by
      simp only [List.mem_cons, List.not_mem_nil, or_false] at hx
      rcases hx with rfl
      · decide
      ) rfl
  · go_wp2_with fail
    refine (pick_mem [[50], [53], [57]] (unhide HO1) rfl (by decide) (by decide) rfl).mono ?_
    rintro e w2 ⟨z2, cs2, hz, rfl, ho, M⟩
    have Z2 : z2.length ≤ 1 := (show ∀ z ∈ ([[50], [53], [57]] : List (List UInt8)), z.length ≤ 1 by decide) z2 hz
    have HO2 := hide ho
    clear hz ho
    go_wp2
    go_ret
    exact words_done [[115, 116, 111, 114, 101], [49, 58, 42], [43], [40, 97, 110, 115, 119, 101, 114, 101, 100, 41], z2] _ _ (unhide HO2) rfl (show (0 : Nat) < 5 by decide) (show 5 ≤ 20 by decide) (fun x hx => by
      simp only [List.mem_cons, List.not_mem_nil, or_false] at hx
      rcases hx with rfl | rfl | rfl | rfl | rfl
      · decide
      · decide
      · decide
      · decide
      · omega
      ) rfl
  · go_wp2_with fail
    refine (pick_mem [[49, 58, 51], [50]] (unhide HO1) rfl (by decide) (by decide) rfl).mono ?_
    rintro e w2 ⟨z2, cs2, hz, rfl, ho, M⟩
    have Z2 : z2.length ≤ 3 := (show ∀ z ∈ ([[49, 58, 51], [50]] : List (List UInt8)), z.length ≤ 3 by decide) z2 hz
    have HO2 := hide ho
    clear hz ho
    go_wp2
    go_ret
    exact words_done [[101, 120, 112, 117, 110, 103, 101], z2] _ _ (unhide HO2) rfl (show (0 : Nat) < 2 by decide) (show 2 ≤ 20 by decide) (fun x hx => by
      simp only [List.mem_cons, List.not_mem_nil, or_false] at hx
      rcases hx with rfl | rfl
      · decide
      · omega
      ) rfl
  · go_wp2_with fail
    refine (pick_mem [[119, 104, 97, 116], [115, 101, 108, 101, 99, 116], [97, 100, 100], [115, 116, 111, 114, 101, 32, 49]] (unhide HO1) rfl (by decide) (by decide) rfl).mono ?_
    rintro e w2 ⟨z2, cs2, hz, rfl, ho, M⟩
    have Z2 : z2.length ≤ 7 := (show ∀ z ∈ ([[119, 104, 97, 116], [115, 101, 108, 101, 99, 116], [97, 100, 100], [115, 116, 111, 114, 101, 32, 49]] : List (List UInt8)), z.length ≤ 7 by decide) z2 hz
    have HO2 := hide ho
    clear hz ho
    go_wp2
    go_ret
    exact words_done [z2] _ _ (unhide HO2) rfl (show (0 : Nat) < 1 by decide) (show 1 ≤ 20 by decide) (fun x hx => by
      simp only [List.mem_cons, List.not_mem_nil, or_false] at hx
      rcases hx with rfl
      · omega
      ) rfl
  · go_wp2
    go_ret
    exact words_done [[110, 111, 111, 112]] _ _ (unhide HO1) rfl (show (0 : Nat) < 1 by decide) (show 1 ≤ 20 by decide) (fun x hx => by
      simp only [List.mem_cons, List.not_mem_nil, or_false] at hx
      rcases hx with rfl
      · decide
      ) rfl
set_option maxHeartbeats 4000000 in
set_option maxRecDepth 100000 in
theorem keys_mem {w W : World} {c : Nat} {cs : List Value} {L R : List Pc} (ho : CurOk w cs) [M : Mem w W L] [hr : Rem L (.obj c 49 cs) R] :
    Calls Tryz.prog 43 #[.pointer (some ⟨c, 0, none⟩)] W fun e W' => WordsM 6 w c R e W' := by
  have HO0 := hide ho
  have M := M.perm hr.out
  clear ho
  go_enter Tryz.func43, Tryz.ntmps43
  go_wp2
  go_loopw [3, 4] (fun s i V => ∃ (k : Nat) (l : List (List UInt8)) (ab : Option Addr) (cap : Nat) (cs' : List Value), k ≤ 3 ∧ k ≤ l.length ∧ l.length ≤ 2 * k ∧ Hid (∀ x ∈ l, x.length ≤ 300) ∧ i = .int .i64 (k : Int) ∧ s = .slice ab l.length cap ∧ Hid (CurOk w cs') ∧ Mem w V (.row ab l.length cap 9 1 (strs l) :: .obj c 49 cs' :: R)) (fun _ i _ => 3 - (intOf i).toNat)
  case atStart =>
    have M2 := Mem.asRow (W := W.alloc (.cells #[] 9)) (w := w) (b := W.heap.size) (t := 9) 1
    exact ⟨0, [], some ⟨W.heap.size, 0, none⟩, 0, cs, Nat.zero_le _, Nat.zero_le _, Nat.zero_le _, (show ∀ x ∈ ([] : List (List UInt8)), x.length ≤ 300 from fun x hx => by simp at hx), rfl, rfl, unhide HO0, show Mem w _ (.row (some ⟨W.heap.size, 0, none⟩) 0 0 9 1 [] :: .obj c 49 cs :: R) from Mem.fin (M := M2)⟩
  clear M HO0
  case round =>
    obtain ⟨k, l, ab, cap, cs0, hk, hkl, hlk, hlx, rfl, rfl, HO0, M⟩ := hrel
    have HLX := hide (unhide hlx)
    clear hlx
    go_wp2_with fail
    refine (below_mem 3 (unhide HO0) (by decide) (by decide)).mono ?_
    rintro e w1 ⟨x1, cs1, hx1, rfl, ho, M⟩
    have HO1 := hide ho
    clear ho
    by_cases hlt : k < 1 + x1
    · have dlt : decide ((k : Int) < 1 + (x1 : Int)) = true := decide_eq_true (by omega)
      go_wp2_with fail
      refine (below_mem 6 (unhide HO1) (by decide) (by decide)).mono ?_
      rintro e w2 ⟨x2, cs2, hx2, rfl, ho, M⟩
      have HO2 := hide ho
      clear ho
      rcases (show x2 = 0 ∨ x2 = 1 ∨ x2 = 2 ∨ x2 = 3 ∨ x2 = 4 ∨ x2 = 5 by omega) with rfl | rfl | rfl | rfl | rfl | rfl
      · go_wp2_with fail
        refine (pick_mem [[97, 108, 108], [115, 101, 101, 110], [117, 110, 115, 101, 101, 110], [100, 101, 108, 101, 116, 101, 100], [117, 110, 100, 101, 108, 101, 116, 101, 100], [102, 108, 97, 103, 103, 101, 100], [117, 110, 100, 114, 97, 102, 116]] (unhide HO2) rfl (by decide) (by decide) rfl).mono ?_
        rintro e w3 ⟨z3, cs3, hz, rfl, ho, M⟩
        have Z3 : z3.length ≤ 9 := (show ∀ z ∈ ([[97, 108, 108], [115, 101, 101, 110], [117, 110, 115, 101, 101, 110], [100, 101, 108, 101, 116, 101, 100], [117, 110, 100, 101, 108, 101, 116, 101, 100], [102, 108, 97, 103, 103, 101, 100], [117, 110, 100, 114, 97, 102, 116]] : List (List UInt8)), z.length ≤ 9 by decide) z3 hz
        have HO3 := hide ho
        clear hz ho
        have HE : Hid (strs l ++ [.string ⟨z3.toArray⟩] = strs (l ++ [z3])) := (strs_append l [z3]).symm
        have HN : Hid ((l ++ [z3]).length = l.length + 1) := by show _ = _; rw [List.length_append]; rfl
        have HX : Hid (∀ x ∈ l ++ [z3], x.length ≤ 300) := fun x hx => by
          rcases List.mem_append.1 hx with hx | hx
          · exact unhide HLX x hx
          · simp only [List.mem_cons, List.not_mem_nil, or_false] at hx
            rcases hx with rfl
            · omega
        go_wp2_with (refine mem_append_k rfl (.tmp 23) (.tmp 27) 25 (strs l) _ 1 [.string ⟨z3.toArray⟩] rfl rfl rfl (by simp [Value.oneCell']) (by rfl) (by omega) (by decide) (by decide) ?_; intro g2 cap2 w9 M; try dsimp only at M)
        rw [unhide HE] at M
        go_roundw
        case rel => exact ⟨k + 1, l ++ [z3], some ⟨g2, 0, none⟩, cap2, _, by omega, by rw [unhide HN]; omega, by rw [unhide HN]; omega, unhide HX, by go_num, by rw [unhide HN], unhide HO3, by rw [unhide HN]; exact Mem.fin⟩
        case measure => simp [intOf]; omega
      · go_wp2_with fail
        refine (pick_mem [[104, 101, 108, 108, 111], [72, 69, 76, 76, 79], [111], [110, 111, 110, 101]] (unhide HO2) rfl (by decide) (by decide) rfl).mono ?_
        rintro e w3 ⟨z3, cs3, hz, rfl, ho, M⟩
        have Z3 : z3.length ≤ 5 := (show ∀ z ∈ ([[104, 101, 108, 108, 111], [72, 69, 76, 76, 79], [111], [110, 111, 110, 101]] : List (List UInt8)), z.length ≤ 5 by decide) z3 hz
        have HO3 := hide ho
        clear hz ho
        have HE : Hid (strs l ++ [.string ⟨#[115, 117, 98, 106, 101, 99, 116]⟩, .string ⟨z3.toArray⟩] = strs (l ++ [[115, 117, 98, 106, 101, 99, 116], z3])) := (strs_append l [[115, 117, 98, 106, 101, 99, 116], z3]).symm
        have HN : Hid ((l ++ [[115, 117, 98, 106, 101, 99, 116], z3]).length = l.length + 2) := by show _ = _; rw [List.length_append]; rfl
        have HX : Hid (∀ x ∈ l ++ [[115, 117, 98, 106, 101, 99, 116], z3], x.length ≤ 300) := fun x hx => by
          rcases List.mem_append.1 hx with hx | hx
          · exact unhide HLX x hx
          · simp only [List.mem_cons, List.not_mem_nil, or_false] at hx
            rcases hx with rfl | rfl
            · decide
            · omega
        go_wp2_with (refine mem_append_k rfl (.tmp 31) (.tmp 35) 25 (strs l) _ 2 [.string ⟨#[115, 117, 98, 106, 101, 99, 116]⟩, .string ⟨z3.toArray⟩] rfl rfl rfl (by simp [Value.oneCell']) (by rfl) (by omega) (by decide) (by decide) ?_; intro g2 cap2 w9 M; try dsimp only at M)
        rw [unhide HE] at M
        go_roundw
        case rel => exact ⟨k + 1, l ++ [[115, 117, 98, 106, 101, 99, 116], z3], some ⟨g2, 0, none⟩, cap2, _, by omega, by rw [unhide HN]; omega, by rw [unhide HN]; omega, unhide HX, by go_num, by rw [unhide HN], unhide HO3, by rw [unhide HN]; exact Mem.fin⟩
        case measure => simp [intOf]; omega
      · go_wp2_with fail
        refine (pick_mem [[98, 111, 100, 121], [65, 110, 110], [120]] (unhide HO2) rfl (by decide) (by decide) rfl).mono ?_
        rintro e w3 ⟨z3, cs3, hz, rfl, ho, M⟩
        have Z3 : z3.length ≤ 4 := (show ∀ z ∈ ([[98, 111, 100, 121], [65, 110, 110], [120]] : List (List UInt8)), z.length ≤ 4 by decide) z3 hz
        have HO3 := hide ho
        clear hz ho
        have HE : Hid (strs l ++ [.string ⟨#[116, 101, 120, 116]⟩, .string ⟨z3.toArray⟩] = strs (l ++ [[116, 101, 120, 116], z3])) := (strs_append l [[116, 101, 120, 116], z3]).symm
        have HN : Hid ((l ++ [[116, 101, 120, 116], z3]).length = l.length + 2) := by show _ = _; rw [List.length_append]; rfl
        have HX : Hid (∀ x ∈ l ++ [[116, 101, 120, 116], z3], x.length ≤ 300) := fun x hx => by
          rcases List.mem_append.1 hx with hx | hx
          · exact unhide HLX x hx
          · simp only [List.mem_cons, List.not_mem_nil, or_false] at hx
            rcases hx with rfl | rfl
            · decide
            · omega
        go_wp2_with (refine mem_append_k rfl (.tmp 39) (.tmp 43) 25 (strs l) _ 2 [.string ⟨#[116, 101, 120, 116]⟩, .string ⟨z3.toArray⟩] rfl rfl rfl (by simp [Value.oneCell']) (by rfl) (by omega) (by decide) (by decide) ?_; intro g2 cap2 w9 M; try dsimp only at M)
        rw [unhide HE] at M
        go_roundw
        case rel => exact ⟨k + 1, l ++ [[116, 101, 120, 116], z3], some ⟨g2, 0, none⟩, cap2, _, by omega, by rw [unhide HN]; omega, by rw [unhide HN]; omega, unhide HX, by go_num, by rw [unhide HN], unhide HO3, by rw [unhide HN]; exact Mem.fin⟩
        case measure => simp [intOf]; omega
      · go_wp2_with fail
        refine (pick_mem [[49, 58, 51], [50], [42], [52, 58, 42]] (unhide HO2) rfl (by decide) (by decide) rfl).mono ?_
        rintro e w3 ⟨z3, cs3, hz, rfl, ho, M⟩
        have Z3 : z3.length ≤ 3 := (show ∀ z ∈ ([[49, 58, 51], [50], [42], [52, 58, 42]] : List (List UInt8)), z.length ≤ 3 by decide) z3 hz
        have HO3 := hide ho
        clear hz ho
        have HE : Hid (strs l ++ [.string ⟨#[117, 105, 100]⟩, .string ⟨z3.toArray⟩] = strs (l ++ [[117, 105, 100], z3])) := (strs_append l [[117, 105, 100], z3]).symm
        have HN : Hid ((l ++ [[117, 105, 100], z3]).length = l.length + 2) := by show _ = _; rw [List.length_append]; rfl
        have HX : Hid (∀ x ∈ l ++ [[117, 105, 100], z3], x.length ≤ 300) := fun x hx => by
          rcases List.mem_append.1 hx with hx | hx
          · exact unhide HLX x hx
          · simp only [List.mem_cons, List.not_mem_nil, or_false] at hx
            rcases hx with rfl | rfl
            · decide
            · omega
        go_wp2_with (refine mem_append_k rfl (.tmp 47) (.tmp 51) 25 (strs l) _ 2 [.string ⟨#[117, 105, 100]⟩, .string ⟨z3.toArray⟩] rfl rfl rfl (by simp [Value.oneCell']) (by rfl) (by omega) (by decide) (by decide) ?_; intro g2 cap2 w9 M; try dsimp only at M)
        rw [unhide HE] at M
        go_roundw
        case rel => exact ⟨k + 1, l ++ [[117, 105, 100], z3], some ⟨g2, 0, none⟩, cap2, _, by omega, by rw [unhide HN]; omega, by rw [unhide HN]; omega, unhide HX, by go_num, by rw [unhide HN], unhide HO3, by rw [unhide HN]; exact Mem.fin⟩
        case measure => simp [intOf]; omega
      · go_wp2_with fail
        refine (pick_mem [[48], [52], [57]] (unhide HO2) rfl (by decide) (by decide) rfl).mono ?_
        rintro e w3 ⟨z3, cs3, hz, rfl, ho, M⟩
        have Z3 : z3.length ≤ 1 := (show ∀ z ∈ ([[48], [52], [57]] : List (List UInt8)), z.length ≤ 1 by decide) z3 hz
        have HO3 := hide ho
        clear hz ho
        have HE : Hid (strs l ++ [.string ⟨#[109, 111, 100, 115, 101, 113]⟩, .string ⟨z3.toArray⟩] = strs (l ++ [[109, 111, 100, 115, 101, 113], z3])) := (strs_append l [[109, 111, 100, 115, 101, 113], z3]).symm
        have HN : Hid ((l ++ [[109, 111, 100, 115, 101, 113], z3]).length = l.length + 2) := by show _ = _; rw [List.length_append]; rfl
        have HX : Hid (∀ x ∈ l ++ [[109, 111, 100, 115, 101, 113], z3], x.length ≤ 300) := fun x hx => by
          rcases List.mem_append.1 hx with hx | hx
          · exact unhide HLX x hx
          · simp only [List.mem_cons, List.not_mem_nil, or_false] at hx
            rcases hx with rfl | rfl
            · decide
            · omega
        go_wp2_with (refine mem_append_k rfl (.tmp 55) (.tmp 59) 25 (strs l) _ 2 [.string ⟨#[109, 111, 100, 115, 101, 113]⟩, .string ⟨z3.toArray⟩] rfl rfl rfl (by simp [Value.oneCell']) (by rfl) (by omega) (by decide) (by decide) ?_; intro g2 cap2 w9 M; try dsimp only at M)
        rw [unhide HE] at M
        go_roundw
        case rel => exact ⟨k + 1, l ++ [[109, 111, 100, 115, 101, 113], z3], some ⟨g2, 0, none⟩, cap2, _, by omega, by rw [unhide HN]; omega, by rw [unhide HN]; omega, unhide HX, by go_num, by rw [unhide HN], unhide HO3, by rw [unhide HN]; exact Mem.fin⟩
        case measure => simp [intOf]; omega
      · go_wp2_with fail
        refine (pick_mem [[115, 101, 101, 110], [117, 110, 102, 108, 97, 103, 103, 101, 100]] (unhide HO2) rfl (by decide) (by decide) rfl).mono ?_
        rintro e w3 ⟨z3, cs3, hz, rfl, ho, M⟩
        have Z3 : z3.length ≤ 9 := (show ∀ z ∈ ([[115, 101, 101, 110], [117, 110, 102, 108, 97, 103, 103, 101, 100]] : List (List UInt8)), z.length ≤ 9 by decide) z3 hz
        have HO3 := hide ho
        clear hz ho
        have HE : Hid (strs l ++ [.string ⟨z3.toArray⟩] = strs (l ++ [z3])) := (strs_append l [z3]).symm
        have HN : Hid ((l ++ [z3]).length = l.length + 1) := by show _ = _; rw [List.length_append]; rfl
        have HX : Hid (∀ x ∈ l ++ [z3], x.length ≤ 300) := fun x hx => by
          rcases List.mem_append.1 hx with hx | hx
          · exact unhide HLX x hx
          · simp only [List.mem_cons, List.not_mem_nil, or_false] at hx
            rcases hx with rfl
            · omega
        go_wp2_with (refine mem_append_k rfl (.tmp 15) (.tmp 19) 25 (strs l) _ 1 [.string ⟨z3.toArray⟩] rfl rfl rfl (by simp [Value.oneCell']) (by rfl) (by omega) (by decide) (by decide) ?_; intro g2 cap2 w9 M; try dsimp only at M)
        rw [unhide HE] at M
        go_roundw
        case rel => exact ⟨k + 1, l ++ [z3], some ⟨g2, 0, none⟩, cap2, _, by omega, by rw [unhide HN]; omega, by rw [unhide HN]; omega, unhide HX, by go_num, by rw [unhide HN], unhide HO3, by rw [unhide HN]; exact Mem.fin⟩
        case measure => simp [intOf]; omega
    · have dlt : decide ((k : Int) < 1 + (x1 : Int)) = false := decide_eq_false (by omega)
      go_wp2
      go_ret
      have l0 : 0 < l.length := by omega
      obtain ⟨g0, rfl⟩ := M.addr (.row ab l.length cap 9 1 (strs l)) rfl l0
      exact ⟨l, g0, cap, _, l0, by omega, unhide HLX, rfl, unhide HO1, Mem.fin⟩
set_option maxHeartbeats 4000000 in
set_option maxRecDepth 100000 in
theorem words_mem {w W : World} {c : Nat} {cs : List Value} {L R : List Pc} (ho : CurOk w cs) [M : Mem w W L] [hr : Rem L (.obj c 49 cs) R] :
    Calls Tryz.prog 26 #[.pointer (some ⟨c, 0, none⟩)] W fun e W' => WordsM 20 w c R e W' := by
  have HO0 := hide ho
  have M := M.perm hr.out
  clear ho
  go_enter Tryz.func26, Tryz.ntmps26
  go_wp2_with fail
  refine (below_mem 10 (unhide HO0) (by decide) (by decide)).mono ?_
  rintro e w1 ⟨x1, cs1, hx1, rfl, ho, M⟩
  have HO1 := hide ho
  clear ho
  rcases (show x1 = 0 ∨ x1 = 1 ∨ x1 = 2 ∨ x1 = 3 ∨ x1 = 4 ∨ x1 = 5 ∨ x1 = 6 ∨ x1 = 7 ∨ x1 = 8 ∨ x1 = 9 by omega) with rfl | rfl | rfl | rfl | rfl | rfl | rfl | rfl | rfl | rfl
  · go_wp2_with fail
    refine (pick_mem [[105, 110, 98, 111, 120], [119, 111, 114, 107], [110, 111, 110, 101]] (unhide HO1) rfl (by decide) (by decide) rfl).mono ?_
    rintro e w2 ⟨z2, cs2, hz, rfl, ho, M⟩
    have Z2 : z2.length ≤ 5 := (show ∀ z ∈ ([[105, 110, 98, 111, 120], [119, 111, 114, 107], [110, 111, 110, 101]] : List (List UInt8)), z.length ≤ 5 by decide) z2 hz
    have HO2 := hide ho
    clear hz ho
    go_wp2
    go_ret
    exact words_done [[115, 101, 108, 101, 99, 116], z2] _ _ (unhide HO2) rfl (show (0 : Nat) < 2 by decide) (show 2 ≤ 20 by decide) (fun x hx => by
      simp only [List.mem_cons, List.not_mem_nil, or_false] at hx
      rcases hx with rfl | rfl
      · decide
      · omega
      ) rfl
  · go_wp2_with fail
    refine (pick_mem [[49], [50], [120]] (unhide HO1) rfl (by decide) (by decide) rfl).mono ?_
    rintro e w2 ⟨z2, cs2, hz, rfl, ho, M⟩
    have Z2 : z2.length ≤ 1 := (show ∀ z ∈ ([[49], [50], [120]] : List (List UInt8)), z.length ≤ 1 by decide) z2 hz
    have HO2 := hide ho
    clear hz ho
    go_wp2_with fail
    refine (pick_mem [[48], [51], [57]] (unhide HO2) rfl (by decide) (by decide) rfl).mono ?_
    rintro e w3 ⟨z3, cs3, hz, rfl, ho, M⟩
    have Z3 : z3.length ≤ 1 := (show ∀ z ∈ ([[48], [51], [57]] : List (List UInt8)), z.length ≤ 1 by decide) z3 hz
    have HO3 := hide ho
    clear hz ho
    go_wp2
    go_ret
    exact words_done [[115, 101, 108, 101, 99, 116], [105, 110, 98, 111, 120], z2, z3] _ _ (unhide HO3) rfl (show (0 : Nat) < 4 by decide) (show 4 ≤ 20 by decide) (fun x hx => by
      simp only [List.mem_cons, List.not_mem_nil, or_false] at hx
      rcases hx with rfl | rfl | rfl | rfl
      · decide
      · decide
      · omega
      · omega
      ) rfl
  · go_wp2_with fail
    refine (pick_mem [[105, 110, 98, 111, 120], [105, 110, 98, 111, 120], [119, 111, 114, 107]] (unhide HO1) rfl (by decide) (by decide) rfl).mono ?_
    rintro e w2 ⟨z2, cs2, hz, rfl, ho, M⟩
    have Z2 : z2.length ≤ 5 := (show ∀ z ∈ ([[105, 110, 98, 111, 120], [105, 110, 98, 111, 120], [119, 111, 114, 107]] : List (List UInt8)), z.length ≤ 5 by decide) z2 hz
    have HO2 := hide ho
    clear hz ho
    go_wp2_with fail
    refine (pick_mem [[40, 41], [40, 115, 101, 101, 110, 41], [40, 100, 101, 108, 101, 116, 101, 100, 41], [40, 115, 101, 101, 110, 32, 102, 108, 97, 103, 103, 101, 100, 41]] (unhide HO2) rfl (by decide) (by decide) rfl).mono ?_
    rintro e w3 ⟨z3, cs3, hz, rfl, ho, M⟩
    have Z3 : z3.length ≤ 14 := (show ∀ z ∈ ([[40, 41], [40, 115, 101, 101, 110, 41], [40, 100, 101, 108, 101, 116, 101, 100, 41], [40, 115, 101, 101, 110, 32, 102, 108, 97, 103, 103, 101, 100, 41]] : List (List UInt8)), z.length ≤ 14 by decide) z3 hz
    have HO3 := hide ho
    clear hz ho
    go_wp2_with fail
    refine (mail_mem (unhide HO3)).mono ?_
    rintro e w4 ⟨z4, cs4, Z4, rfl, ho, M⟩
    have HO4 := hide ho
    clear ho
    go_wp2
    go_ret
    exact words_done [[97, 100, 100], z2, z3, z4] _ _ (unhide HO4) rfl (show (0 : Nat) < 4 by decide) (show 4 ≤ 20 by decide) (fun x hx => by
      simp only [List.mem_cons, List.not_mem_nil, or_false] at hx
      rcases hx with rfl | rfl | rfl | rfl
      · decide
      · omega
      · omega
      · omega
      ) rfl
  · go_wp2_with fail
    refine (pick_mem [[105, 110, 98, 111, 120], [105, 110, 98, 111, 120], [119, 111, 114, 107]] (unhide HO1) rfl (by decide) (by decide) rfl).mono ?_
    rintro e w2 ⟨z2, cs2, hz, rfl, ho, M⟩
    have Z2 : z2.length ≤ 5 := (show ∀ z ∈ ([[105, 110, 98, 111, 120], [105, 110, 98, 111, 120], [119, 111, 114, 107]] : List (List UInt8)), z.length ≤ 5 by decide) z2 hz
    have HO2 := hide ho
    clear hz ho
    go_wp2_with fail
    refine (pick_mem [[40, 41], [40, 115, 101, 101, 110, 41], [40, 100, 101, 108, 101, 116, 101, 100, 41], [40, 115, 101, 101, 110, 32, 102, 108, 97, 103, 103, 101, 100, 41]] (unhide HO2) rfl (by decide) (by decide) rfl).mono ?_
    rintro e w3 ⟨z3, cs3, hz, rfl, ho, M⟩
    have Z3 : z3.length ≤ 14 := (show ∀ z ∈ ([[40, 41], [40, 115, 101, 101, 110, 41], [40, 100, 101, 108, 101, 116, 101, 100, 41], [40, 115, 101, 101, 110, 32, 102, 108, 97, 103, 103, 101, 100, 41]] : List (List UInt8)), z.length ≤ 14 by decide) z3 hz
    have HO3 := hide ho
    clear hz ho
    go_wp2_with fail
    refine (mail_mem (unhide HO3)).mono ?_
    rintro e w4 ⟨z4, cs4, Z4, rfl, ho, M⟩
    have HO4 := hide ho
    clear ho
    go_wp2
    go_ret
    exact words_done [[97, 100, 100], z2, z3, z4] _ _ (unhide HO4) rfl (show (0 : Nat) < 4 by decide) (show 4 ≤ 20 by decide) (fun x hx => by
      simp only [List.mem_cons, List.not_mem_nil, or_false] at hx
      rcases hx with rfl | rfl | rfl | rfl
      · decide
      · omega
      · omega
      · omega
      ) rfl
  · go_wp2_with fail
    refine (pick_mem [[49], [49, 58, 51], [50, 58, 42], [49, 44, 52], [51]] (unhide HO1) rfl (by decide) (by decide) rfl).mono ?_
    rintro e w2 ⟨z2, cs2, hz, rfl, ho, M⟩
    have Z2 : z2.length ≤ 3 := (show ∀ z ∈ ([[49], [49, 58, 51], [50, 58, 42], [49, 44, 52], [51]] : List (List UInt8)), z.length ≤ 3 by decide) z2 hz
    have HO2 := hide ho
    clear hz ho
    go_wp2_with fail
    refine (pick_mem [[43], [43], [45], [61]] (unhide HO2) rfl (by decide) (by decide) rfl).mono ?_
    rintro e w3 ⟨z3, cs3, hz, rfl, ho, M⟩
    have Z3 : z3.length ≤ 1 := (show ∀ z ∈ ([[43], [43], [45], [61]] : List (List UInt8)), z.length ≤ 1 by decide) z3 hz
    have HO3 := hide ho
    clear hz ho
    go_wp2_with fail
    refine (pick_mem [[40, 100, 101, 108, 101, 116, 101, 100, 41], [40, 115, 101, 101, 110, 41], [40, 102, 108, 97, 103, 103, 101, 100, 32, 100, 101, 108, 101, 116, 101, 100, 41]] (unhide HO3) rfl (by decide) (by decide) rfl).mono ?_
    rintro e w4 ⟨z4, cs4, hz, rfl, ho, M⟩
    have Z4 : z4.length ≤ 17 := (show ∀ z ∈ ([[40, 100, 101, 108, 101, 116, 101, 100, 41], [40, 115, 101, 101, 110, 41], [40, 102, 108, 97, 103, 103, 101, 100, 32, 100, 101, 108, 101, 116, 101, 100, 41]] : List (List UInt8)), z.length ≤ 17 by decide) z4 hz
    have HO4 := hide ho
    clear hz ho
    go_wp2
    go_ret
    exact words_done [[115, 116, 111, 114, 101], z2, z3, z4] _ _ (unhide HO4) rfl (show (0 : Nat) < 4 by decide) (show 4 ≤ 20 by decide) (fun x hx => by
      simp only [List.mem_cons, List.not_mem_nil, or_false] at hx
      rcases hx with rfl | rfl | rfl | rfl
      · decide
      · omega
      · omega
      · omega
      ) rfl
  · go_wp2_with fail
    refine (pick_mem [[49], [49, 58, 51], [50, 58, 42], [49, 44, 52], [51]] (unhide HO1) rfl (by decide) (by decide) rfl).mono ?_
    rintro e w2 ⟨z2, cs2, hz, rfl, ho, M⟩
    have Z2 : z2.length ≤ 3 := (show ∀ z ∈ ([[49], [49, 58, 51], [50, 58, 42], [49, 44, 52], [51]] : List (List UInt8)), z.length ≤ 3 by decide) z2 hz
    have HO2 := hide ho
    clear hz ho
    go_wp2_with fail
    refine (pick_mem [[43], [43], [45], [61]] (unhide HO2) rfl (by decide) (by decide) rfl).mono ?_
    rintro e w3 ⟨z3, cs3, hz, rfl, ho, M⟩
    have Z3 : z3.length ≤ 1 := (show ∀ z ∈ ([[43], [43], [45], [61]] : List (List UInt8)), z.length ≤ 1 by decide) z3 hz
    have HO3 := hide ho
    clear hz ho
    go_wp2_with fail
    refine (pick_mem [[40, 100, 101, 108, 101, 116, 101, 100, 41], [40, 115, 101, 101, 110, 41], [40, 102, 108, 97, 103, 103, 101, 100, 32, 100, 101, 108, 101, 116, 101, 100, 41]] (unhide HO3) rfl (by decide) (by decide) rfl).mono ?_
    rintro e w4 ⟨z4, cs4, hz, rfl, ho, M⟩
    have Z4 : z4.length ≤ 17 := (show ∀ z ∈ ([[40, 100, 101, 108, 101, 116, 101, 100, 41], [40, 115, 101, 101, 110, 41], [40, 102, 108, 97, 103, 103, 101, 100, 32, 100, 101, 108, 101, 116, 101, 100, 41]] : List (List UInt8)), z.length ≤ 17 by decide) z4 hz
    have HO4 := hide ho
    clear hz ho
    go_wp2
    go_ret
    exact words_done [[115, 116, 111, 114, 101], z2, z3, z4] _ _ (unhide HO4) rfl (show (0 : Nat) < 4 by decide) (show 4 ≤ 20 by decide) (fun x hx => by
      simp only [List.mem_cons, List.not_mem_nil, or_false] at hx
      rcases hx with rfl | rfl | rfl | rfl
      · decide
      · omega
      · omega
      · omega
      ) rfl
  · go_wp2
    go_ret
    exact words_done [[101, 120, 112, 117, 110, 103, 101]] _ _ (unhide HO1) rfl (show (0 : Nat) < 1 by decide) (show 1 ≤ 20 by decide) (fun x hx => by
      simp only [List.mem_cons, List.not_mem_nil, or_false] at hx
      rcases hx with rfl
      · decide
      ) rfl
  · go_wp2_with fail
    refine (keys_mem (unhide HO1)).mono ?_
    rintro e w2 ⟨l, g0, cap, cs2, l0, l20, hlx, rfl, ho, M⟩
    have HO2 := hide ho
    have HLX := hide hlx
    clear ho hlx
    have HS : Hid ([Value.string ⟨#[115, 101, 97, 114, 99, 104]⟩] ++ strs l = strs ([115, 101, 97, 114, 99, 104] :: l)) := rfl
    have M := Mem.objRow (w := w) (W := w2) (b := w1.heap.size) (t := 9) (vs := [.string ⟨#[115, 101, 97, 114, 99, 104]⟩]) 1 1 rfl (by decide)
    try dsimp only at M
    go_wp2_with (refine mem_append_rw rfl (.tmp 50) (.tmp 52) 25 [.string ⟨#[115, 101, 97, 114, 99, 104]⟩] g0 l.length (strs l) rfl rfl rfl (by intro u hu; unfold strs at hu; obtain ⟨x, _, rfl⟩ := List.mem_map.1 hu; simp [Value.oneCell']) (by rw [strs_length, Nat.mul_one]) (by omega) l0 (by decide) ?_; intro g2 cap2 w9 M; try dsimp only at M)
    go_ret
    have HC : Hid (1 + l.length = ([115, 101, 97, 114, 99, 104] :: l).length) := by show _ = _; rw [List.length_cons, Nat.add_comm]
    rw [unhide HS, unhide HC] at M
    refine ⟨[115, 101, 97, 114, 99, 104] :: l, g2, cap2, _, Nat.succ_pos _, by rw [← unhide HC]; omega, fun x hx => ?_, ?_, unhide HO2, Mem.fin⟩
    rotate_left
    · rw [← unhide HC]; rfl
    rcases List.mem_cons.1 hx with rfl | hx
    · decide
    · exact unhide HLX x hx
  · go_wp2_with fail
    refine (pick_mem [[99, 111, 112, 121], [109, 111, 118, 101]] (unhide HO1) rfl (by decide) (by decide) rfl).mono ?_
    rintro e w2 ⟨z2, cs2, hz, rfl, ho, M⟩
    have Z2 : z2.length ≤ 4 := (show ∀ z ∈ ([[99, 111, 112, 121], [109, 111, 118, 101]] : List (List UInt8)), z.length ≤ 4 by decide) z2 hz
    have HO2 := hide ho
    clear hz ho
    go_wp2_with fail
    refine (pick_mem [[49], [49, 58, 50], [51, 58, 42]] (unhide HO2) rfl (by decide) (by decide) rfl).mono ?_
    rintro e w3 ⟨z3, cs3, hz, rfl, ho, M⟩
    have Z3 : z3.length ≤ 3 := (show ∀ z ∈ ([[49], [49, 58, 50], [51, 58, 42]] : List (List UInt8)), z.length ≤ 3 by decide) z3 hz
    have HO3 := hide ho
    clear hz ho
    go_wp2_with fail
    refine (pick_mem [[119, 111, 114, 107], [105, 110, 98, 111, 120], [111, 108, 100]] (unhide HO3) rfl (by decide) (by decide) rfl).mono ?_
    rintro e w4 ⟨z4, cs4, hz, rfl, ho, M⟩
    have Z4 : z4.length ≤ 5 := (show ∀ z ∈ ([[119, 111, 114, 107], [105, 110, 98, 111, 120], [111, 108, 100]] : List (List UInt8)), z.length ≤ 5 by decide) z4 hz
    have HO4 := hide ho
    clear hz ho
    go_wp2
    go_ret
    exact words_done [z2, z3, z4] _ _ (unhide HO4) rfl (show (0 : Nat) < 3 by decide) (show 3 ≤ 20 by decide) (fun x hx => by
      simp only [List.mem_cons, List.not_mem_nil, or_false] at hx
      rcases hx with rfl | rfl | rfl
      · omega
      · omega
      · omega
      ) rfl
  · go_wp2_with fail
    refine (more_mem (unhide HO1)).mono ?_
    rintro e wm ⟨l, g0, cap, csm, l0, l20, hlx, rfl, ho, M⟩
    have HLX := hide hlx
    have HOm := hide ho
    clear hlx ho
    go_wp2
    go_ret
    exact ⟨l, g0, cap, csm, l0, l20, unhide HLX, rfl, unhide HOm, Mem.fin⟩
end Go.Proofs.YtjaohlnejkgkaaaGreatDoor
