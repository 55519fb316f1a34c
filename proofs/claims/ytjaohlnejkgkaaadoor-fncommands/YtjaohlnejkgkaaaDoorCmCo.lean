/- The walk of FnCommands. -/
import Derived.Test.YtjaohlnejkgkaaaDoorCmDraw
import Derived.Test.YtjaohlnejkgkaaaDoorRcZ
import Derived.Test.YtjaohlnejkgkaaaDoorCmSame
import Derived.Test.YtjaohlnejkgkaaaDoorDrawPlacesI
namespace Go.Proofs.YtjaohlnejkgkaaaDoor
open Go.RowKit
open Plain
set_option linter.unusedVariables false
set_option linter.unusedSimpArgs false
attribute [local go_sem] cell_of frozen_of

theorem seeW_own2 {w W : World} {L : List Pc} {f : Pc → List Pc} {a : Option Addr} {n c : Nat} (l : List (List UInt8)) (hn : n = l.length) [M : Mem w W L] [h : InL L (.row a n c 9 1 (strs l)) f] : SeeW W a l := by
  subst hn
  exact seeW_own (M.get (.row a l.length c 9 1 (strs l)))
theorem RdAns.out2 {w W : World} {V : List (List UInt8) × Int × Int} {e : Ending} (h : RdAns w V e W) : ∃ a c, e = .returned (.tuple #[.slice a V.1.length c, .int .i64 V.2.1, .int .i64 V.2.2]) ∧ Mem w W [.row a V.1.length c 9 1 (strs V.1)] := h
theorem cmdV_pos {l : List (List UInt8)} (h : (cmdV l).2 = true) : 0 < (cmdV l).1.length ∧ (cmdV l).1.length ≤ 300 := by
  obtain ⟨_, _, h3, h4⟩ := cmdV_yes h
  rw [h4]
  simp; omega
theorem cmdV_none {l : List (List UInt8)} (h : (cmdV l).2 = false) : cmdV l = ([], false) := by
  unfold cmdV at h ⊢
  split
  · rename_i h1
    rw [if_pos h1] at h
    split
    · rename_i h2; rw [if_pos h2] at h; cases h
    · rfl
  · rfl
set_option maxHeartbeats 8000000 in
set_option maxRecDepth 100000 in
theorem FnCommands_walk (len cap : Nat) (a : Option Addr) (w : World) (ha : Arg w.heap.size w a len)
    (BI : ∀ W : World, Calls Tryd.prog 11 #[.slice a len cap] W fun e w' => e = .returned (.bool false) ∧ w' = W)
    (CI : ∀ (l : List (List UInt8)) (b : Option Addr) (c : Nat) (W : World), l.length ≤ 1048576 → (∀ x ∈ l, x.length ≤ 1048576) → SeeW W b l → Below w.heap.size w W → Calls Tryd.prog 9 #[.slice b l.length c] W fun e w' => e = .returned (cmdT (cmdV l)) ∧ Below W.heap.size W w') :
    Calls Tryd.prog 5 #[.slice a len cap] w fun e w' => e = .returned (.bool true) ∧ Below w.heap.size w w' := by
  have QB := hide BI
  have HA := hide ha
  have D1 := hide (DrawWords_mem (cap := cap) ha)
  have CC := hide CI
  have M := Mem.start w
  clear ha BI CI
  go_enter Tryd.func5, Tryd.ntmps5
  go_wp2_with fail
  refine (unhide QB _).mono ?_
  rintro e w0 ⟨rfl, hw⟩
  subst w0
  go_wp2_with fail
  refine (unhide D1).mono ?_
  rintro e w1 ⟨l, g, c, l0, l20, hlx, rfl, M⟩
  have HLX := hide hlx
  clear QB D1 hlx
  have S1 : Hid (∀ (W : World) [Mem w W [.row (some ⟨g, 0, none⟩) l.length c 9 1 (strs l)]], SeeW W (some ⟨g, 0, none⟩) l) := fun W _ => seeW_own2 (n := l.length) (c := c) l rfl
  go_wp2_with fail
  refine (unhide CC l _ c _ ?h1 ?h2 ?h3 ?h4).mono ?h5
  case h1 => omega
  case h2 => exact fun x hx => Nat.le_trans (unhide HLX x hx) (by decide)
  case h3 => exact unhide S1 _
  case h4 => exact Mem.here _
  rintro e w2 ⟨rfl, hb⟩
  have M := Mem.go hb
  clear hb CC
  cases h2 : (cmdV l).2 with
  | false =>
    have HV := hide (cmdV_none h2)
    rw [unhide HV]
    unfold cmdT
    dsimp only
    clear h2
    go_wp2_with fail
    refine (impl_ReadCommand_any _ _ (by decide)).mono ?_
    intro e w3 hr
    obtain ⟨b1, d1, rfl, M2⟩ := hr.out2
    have M := Mem.then M2
    clear hr M2
    go_wp2_with fail
    refine (impl_ReadCommand_any _ _ (by decide)).mono ?_
    intro e w4 hr
    obtain ⟨b2, d2, rfl, M2⟩ := hr.out2
    have M := Mem.then M2
    clear hr M2
    go_wp2_with fail
    refine (spec_CommandText_any l _ c _ ?j1 ?j2).mono ?j3
    case j1 => omega
    case j2 => exact seeW_own2 (n := l.length) (c := c) l rfl
    rintro e w5 ⟨rfl, hb⟩
    have M := Mem.go hb
    clear hb
    rw [unhide HV]
    unfold cmdT
    dsimp only
    go_wp2
    go_ret
    exact ⟨rfl, M.below⟩
  | true =>
    have HV : Hid (cmdV l = ((cmdV l).1, true)) := Prod.ext rfl h2
    have VB := hide (rdV_same (ws := l) h2)
    have VR := hide (rdV_back (ws := l) h2 [109, 111, 114, 101, 32, 111, 102, 32, 105, 116])
    have VC := hide (fun k hk => rdV_cut (ws := l) h2 k hk)
    have HT := hide (cmdV_pos h2)
    rw [unhide HV]
    clear HV h2
    generalize (cmdV l).1 = T at *
    unfold cmdT
    dsimp only
    go_wp2_with fail
    refine (impl_ReadCommand_any ⟨T.toArray⟩ _ (by have := (unhide HT).2; show T.length ≤ _; omega)).mono ?_
    intro e w3 hr
    rw [show rdV (⟨T.toArray⟩ : ByteArray).data.toList = (l, (T.length : Int), 0) from unhide VB] at hr
    obtain ⟨b1, d1, rfl, M2⟩ := hr.out2
    have M := Mem.then M2
    clear hr M2
    try dsimp only at M ⊢
    have it : ¬ 9223372036854775807 < T.length + 10 := by have := (unhide HT).2; omega
    have eA : (⟨T.toArray⟩ : ByteArray) ++ ⟨#[109, 111, 114, 101, 32, 111, 102, 32, 105, 116]⟩ = ⟨(T ++ [109, 111, 114, 101, 32, 111, 102, 32, 105, 116]).toArray⟩ := ByteArray.mk_append_mk T [109, 111, 114, 101, 32, 111, 102, 32, 105, 116]
    have EA := hide eA
    clear eA
    go_wp2_with fail
    rw [unhide EA]
    refine (impl_ReadCommand_any _ _ (by have := (unhide HT).2; show (T ++ [109, 111, 114, 101, 32, 111, 102, 32, 105, 116]).length ≤ _; rw [List.length_append]; show T.length + 10 ≤ _; omega)).mono ?_
    intro e w4 hr
    have VR2 : rdV (⟨(T ++ [109, 111, 114, 101, 32, 111, 102, 32, 105, 116]).toArray⟩ : ByteArray).data.toList = (l, (T.length : Int), 0) := unhide VR
    rw [VR2] at hr
    clear VR2
    obtain ⟨b2, d2, rfl, M2⟩ := hr.out2
    have M := Mem.then M2
    clear hr M2 it EA
    try dsimp only at M ⊢
    have D2 := hide (DrawPlaces_nat w.heap.size len cap a w4 ((unhide HA).below (Mem.here w4)) (Mem.here (w := w) w4).size)
    go_wp2_with fail
    refine (unhide D2).mono ?_
    rintro e w5 ⟨v, q, hq, hall, rfl, hown, hb⟩
    obtain ⟨ap, cp, rfl⟩ := g_shape hown
    have M2 := Mem.of_row hown hb
    have M := Mem.then M2
    clear hown hb M2 D2
    try dsimp only at M ⊢
    obtain ⟨g2, rfl⟩ := M.addr (.row ap 12 cp 3 1 (ivN q)) rfl (by omega)
    have lt0 : 0 < q.length := by omega
    obtain ⟨p0, hp0⟩ : ∃ x, q[0]? = some x := ⟨_, List.getElem?_eq_getElem lt0⟩
    have e0 : Elt (ivN q) 0 (.int .i64 (p0 : Int)) := ⟨by unfold ivN; rw [List.getElem?_map, hp0]; rfl⟩
    have t0 : 0 < T.length := (unhide HT).1
    have t3 : T.length ≤ 300 := (unhide HT).2
    obtain ⟨k, hk⟩ : ∃ k, k = p0 % T.length := ⟨_, rfl⟩
    have em : (p0 : Int) % (T.length : Int) = (k : Int) := by rw [hk]; norm_cast
    have kT : k < T.length := by rw [hk]; exact Nat.mod_lt _ t0
    have VC := hide (unhide VC k kT)
    have n0 : ((T.length : Int) == 0) = false := beq_eq_false_iff_ne.2 (by omega)
    have i1 : (0 : Int) ≤ (k : Int) := by omega
    have i2 : (k : Int) ≤ (T.length : Int) := by omega
    clear hk hp0 lt0 hq hall
    go_wp2_with fail
    have eX : (⟨T.toArray⟩ : ByteArray).extract 0 k = ⟨(T.take k).toArray⟩ := by
      apply ByteArray.ext
      rw [ByteArray.data_extract]
      apply Array.ext'
      simp
    rw [eX]
    clear eX
    refine (impl_ReadCommand_any _ _ (by show (T.take k).length ≤ _; rw [List.length_take]; omega)).mono ?_
    intro e w6 hr
    have VC2 : rdV (⟨(T.take k).toArray⟩ : ByteArray).data.toList = ([], 0, 1) := unhide VC
    rw [VC2] at hr
    clear VC2
    obtain ⟨b3, d3, rfl, M2⟩ := hr.out2
    have M := Mem.then M2
    clear hr M2
    try dsimp only at M ⊢
    go_wp2_with fail
    refine (sameTexts_same l b1 _ d1 c _ ?k1 ?k2 ?k3).mono ?k4
    case k1 => omega
    case k2 => exact seeW_own2 (n := l.length) (c := d1) l rfl
    case k3 => exact seeW_own2 (n := l.length) (c := c) l rfl
    rintro e w7 ⟨rfl, hb⟩
    have M := Mem.go hb
    clear hb
    have n1 : ((T.length : Int) == (T.length : Int)) = true := beq_self_eq_true _
    go_wp2_with fail
    refine (sameTexts_same l b2 _ d2 c _ ?q1 ?q2 ?q3).mono ?q4
    case q1 => omega
    case q2 => exact seeW_own2 (n := l.length) (c := d2) l rfl
    case q3 => exact seeW_own2 (n := l.length) (c := c) l rfl
    rintro e w8 ⟨rfl, hb⟩
    have M := Mem.go hb
    clear hb
    go_wp2
    go_ret
    exact ⟨rfl, M.below⟩
end Go.Proofs.YtjaohlnejkgkaaaDoor
