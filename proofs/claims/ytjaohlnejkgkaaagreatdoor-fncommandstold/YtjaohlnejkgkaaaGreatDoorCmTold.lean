/- The walk of FnCommandsTold. -/
import Derived.Test.YtjaohlnejkgkaaaGreatDoorCmDrwA
import Derived.Test.YtjaohlnejkgkaaaGreatDoorRcZ
import Derived.Test.YtjaohlnejkgkaaaGreatDoorCmSame
namespace Go.Proofs.YtjaohlnejkgkaaaGreatDoor
open Go.RowKit
open Plain
set_option linter.unusedVariables false
set_option linter.unusedSimpArgs false
attribute [local go_sem] cell_of frozen_of

theorem seeW_own3 {w W : World} {L : List Pc} {f : Pc → List Pc} {a : Option Addr} {n c : Nat} (l : List (List UInt8)) (hn : n = l.length) [M : Mem w W L] [h : InL L (.row a n c 9 1 (strs l)) f] : SeeW W a l := by
  subst hn
  exact seeW_own (M.get (.row a l.length c 9 1 (strs l)))
theorem RdAns.out3 {w W : World} {V : List (List UInt8) × Int × Int} {e : Ending} (h : RdAns w V e W) : ∃ a c, e = .returned (.tuple #[.slice a V.1.length c, .int .i64 V.2.1, .int .i64 V.2.2]) ∧ Mem w W [.row a V.1.length c 9 1 (strs V.1)] := h
namespace Plain
theorem runC_fine : ∀ (l : List UInt8) (s : Cs), Fine s → Fine (runC s l) ∧ (runC s l).taken ≤ s.taken + l.length := by
  intro l
  induction l with
  | nil => intro s h; exact ⟨h, by simp [runC]⟩
  | cons c l ih =>
    intro s h
    obtain ⟨h1, h2⟩ := fine_step h c
    rw [runC_cons]
    split
    · exact ⟨h1, by rw [h2]; simp only [List.length_cons]; omega⟩
    · obtain ⟨h3, h4⟩ := ih _ h1
      exact ⟨h3, by rw [h2] at h4; simp only [List.length_cons]; omega⟩
theorem rdV_len (t : List UInt8) : (rdV t).1.length ≤ 1000 := by
  obtain ⟨h1, h2⟩ := runC_fine (t.take 300) csNil fine_nil
  have h3 := h1.words
  have h4 : (t.take 300).length ≤ 300 := List.length_take_le _ _
  have h5 : csNil.taken = 0 := rfl
  unfold rdV
  split
  · show (runC csNil (t.take 300)).words.length ≤ 1000; omega
  · split
    · simp
    · split <;> simp
end Plain
set_option maxHeartbeats 8000000 in
set_option maxRecDepth 100000 in
theorem FnCommandsTold_walk (len cap : Nat) (a : Option Addr) (w : World) (ha : Arg w.heap.size w a len)
    (BI : ∀ W : World, Calls Tryz.prog 4 #[.slice a len cap] W fun e w' => e = .returned (.bool false) ∧ w' = W)
    (CI : ∀ (l : List (List UInt8)) (b : Option Addr) (c : Nat) (W : World), l.length ≤ 1048576 → (∀ x ∈ l, x.length ≤ 1048576) → SeeW W b l → Below w.heap.size w W → Calls Tryz.prog 9 #[.slice b l.length c] W fun e w' => e = .returned (cmdT (cmdV l)) ∧ Below W.heap.size W w') :
    Calls Tryz.prog 3 #[.slice a len cap] w fun e w' => e = .returned (.bool true) ∧ Below w.heap.size w w' := by
  have QB := hide BI
  have HA := hide ha
  have CC := hide CI
  have M := Mem.start w
  clear ha BI CI
  go_enter Tryz.func3, Tryz.ntmps3
  go_wp2_with fail
  refine (unhide QB _).mono ?_
  rintro e w0 ⟨rfl, hw⟩
  subst w0
  go_wp2_with fail
  refine (DrawReadCommand_mem (unhide HA)).mono ?_
  rintro e w1 ⟨t, ht, hsame, rfl, M⟩
  have HS := hide hsame
  have RL := hide (rdV_len t)
  clear QB hsame
  go_wp2_with fail
  refine (impl_ReadCommand_any ⟨t.toArray⟩ _ (by show t.length ≤ _; omega)).mono ?_
  intro e w2 hr
  have hr : RdAns w1 (rdV t) e w2 := hr
  have HR := hide hr
  obtain ⟨⟨ws, n, no⟩, hV⟩ : ∃ V, rdV t = V := ⟨_, rfl⟩
  rw [hV] at HR HS RL
  obtain ⟨b1, d1, rfl, M2⟩ := (unhide HR).out3
  dsimp only at M2 RL ⊢
  have M := Mem.then M2
  clear hr M2 HR hV
  go_wp2_with fail
  refine (spec_ReadCommand_any ⟨t.toArray⟩ _ (by show t.length ≤ _; omega)).mono ?_
  intro e w3 hr
  have hr : SpAns w2 (spV t) e w3 := hr
  rw [unhide HS] at hr
  obtain ⟨b2, d2, rfl, M2⟩ := hr.out
  dsimp only at M2 ⊢
  have M := Mem.then M2
  clear hr M2 HS
  go_wp2_with fail
  refine (DrawCommandText_mem (unhide HA)).mono ?_
  rintro e w4 ⟨l, b3, c3, cc, ccs, l30, hlx, rfl, M⟩
  have HLX := hide hlx
  clear hlx
  go_wp2_with fail
  refine (unhide CC l b3 c3 _ ?h1 ?h2 ?h3 ?h4).mono ?h5
  case h1 => omega
  case h2 => exact fun x hx => Nat.le_trans (unhide HLX x hx) (by decide)
  case h3 => exact seeW_own3 (n := l.length) (c := c3) l rfl
  case h4 => exact Mem.here _
  rintro e w5 ⟨rfl, hb⟩
  have M := Mem.go hb
  clear hb CC
  have VB := hide (fun h => rdV_same (ws := l) h)
  have TL := hide (cmd_len l)
  obtain ⟨⟨T, ok⟩, hV⟩ : ∃ V, cmdV l = V := ⟨_, rfl⟩
  have HV := hide hV
  rw [hV] at VB TL ⊢
  unfold cmdT
  dsimp only at VB TL ⊢
  clear hV
  go_wp2_with fail
  refine (spec_CommandText_any l b3 c3 _ ?j1 ?j2).mono ?j3
  case j1 => omega
  case j2 => exact seeW_own3 (n := l.length) (c := c3) l rfl
  rintro e w6 ⟨rfl, hb⟩
  have M := Mem.go hb
  clear hb
  rw [unhide HV]
  unfold cmdT
  dsimp only
  go_wp2_with fail
  refine (impl_ReadCommand_any ⟨T.toArray⟩ _ (by have := unhide TL; show T.length ≤ _; omega)).mono ?_
  intro e w7 hr
  have hr : RdAns w6 (rdV T) e w7 := hr
  cases ok with
  | true =>
    rw [unhide VB rfl] at hr
    obtain ⟨b4, d4, rfl, M2⟩ := hr.out3
    dsimp only at M2 ⊢
    have M := Mem.then M2
    clear hr M2 HV
    go_wp2_with fail
    refine (sameTexts_same ws b1 b2 d1 d2 _ ?k1 ?k2 ?k3).mono ?k4
    case k1 => have : ws.length ≤ 1000 := RL; omega
    case k2 => exact seeW_own3 (n := ws.length) (c := d1) ws rfl
    case k3 => exact seeW_own3 (n := ws.length) (c := d2) ws rfl
    rintro e w8 ⟨rfl, hb⟩
    have M := Mem.go hb
    clear hb
    go_wp2_with fail
    refine (sameTexts_same l b4 b3 d4 c3 _ ?q1 ?q2 ?q3).mono ?q4
    case q1 => omega
    case q2 => exact seeW_own3 (n := l.length) (c := d4) l rfl
    case q3 => exact seeW_own3 (n := l.length) (c := c3) l rfl
    rintro e w9 ⟨rfl, hb⟩
    have M := Mem.go hb
    clear hb
    go_wp2
    go_ret
    exact ⟨rfl, M.below⟩
  | false =>
    obtain ⟨⟨xs, xn, xo⟩, hX⟩ : ∃ V, rdV T = V := ⟨_, rfl⟩
    rw [hX] at hr
    obtain ⟨b4, d4, rfl, M2⟩ := hr.out3
    dsimp only at M2 ⊢
    have M := Mem.then M2
    clear hr M2 HV hX
    go_wp2_with fail
    refine (sameTexts_same ws b1 b2 d1 d2 _ ?m1 ?m2 ?m3).mono ?m4
    case m1 => have : ws.length ≤ 1000 := RL; omega
    case m2 => exact seeW_own3 (n := ws.length) (c := d1) ws rfl
    case m3 => exact seeW_own3 (n := ws.length) (c := d2) ws rfl
    rintro e w8 ⟨rfl, hb⟩
    have M := Mem.go hb
    clear hb
    go_wp2
    go_ret
    exact ⟨rfl, M.below⟩
end Go.Proofs.YtjaohlnejkgkaaaGreatDoor
