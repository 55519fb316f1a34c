/- What a session's words tell to do: the specification's l16Here, at four words. Made by gen_efs.py. -/
import Derived.Test.YtocaljbimhjmgaaGreatDoorEfS
namespace Go.Proofs.YtocaljbimhjmgaaGreatDoor
open Go.RowKit
open Plain
set_option linter.unusedVariables false
set_option linter.unusedSimpArgs false
attribute [local go_sem] cell_of frozen_of
set_option maxHeartbeats 16000000 in
set_option maxRecDepth 100000 in
theorem here_4 (box : ByteArray) (xv xm : Int) (vu : Value) (n x1 x2 x3 : List UInt8) (hbx : box.size ≤ 1048576) (hf : fewW ([n, x1, x2, x3])) (hno : NoName n 3) : HereC box xv xm vu ([n, x1, x2, x3]) := by
  intro a c w h
  obtain ⟨g, rfl, c0⟩ := h 0 n rfl
  have c1 : HasCell w g 1 (.string ⟨x1.toArray⟩) := by
    obtain ⟨g2, e, q⟩ := h 1 x1 rfl
    cases e
    exact q
  have c2 : HasCell w g 2 (.string ⟨x2.toArray⟩) := by
    obtain ⟨g2, e, q⟩ := h 2 x2 rfl
    cases e
    exact q
  have c3 : HasCell w g 3 (.string ⟨x3.toArray⟩) := by
    obtain ⟨g2, e, q⟩ := h 3 x3 rfl
    cases e
    exact q
  have h1 : x1.length ≤ 1048576 := hf x1 (by simp)
  have h2 : x2.length ≤ 1048576 := hf x2 (by simp)
  have h3 : x3.length ≤ 1048576 := hf x3 (by simp)
  clear h hf
  have M := Mem.start w
  have had : ¬ n = adW := fun e => hno.2.2 e rfl
  clear hno
  by_cases hst : n = stW
  · subst hst
    go_enter Tryz.func19, Tryz.ntmps19
    go_wp2
    go_cut [7] from 8 (fun s7 wc => ∃ (bn : Nat) (aA : Option Addr) (cA : Nat), s7 = .pointer (some ⟨bn, 0, none⟩) ∧ Mem w wc [.obj bn 32 [.int .i64 0, .string box, .string ⟨#[]⟩, .slice aA 1 cA, .int .i64 0, .int .i64 0, .int .i64 0, .string ⟨#[]⟩], rowRg aA cA allR, .obj (w.heap.size + 1) 32 [.int .i64 0, .string ⟨#[]⟩, .string ⟨#[]⟩, .slice none 0 0, .int .i64 0, .int .i64 0, .int .i64 0, .string ⟨#[]⟩], .obj w.heap.size 37 [.bool true, .string box, .int .i64 xv, vu, .int .i64 xm]])
    case first =>
      refine mb 7 (fun M => ?_)
      refine tm 0 15 ?_; refine tm 1 16 ?_; refine tm 2 17 ?_
      refine tt 3 5 (fun K hK => ?_) (fun K hK => ?_)
      · go_simp
        refine (l16All_any _).mono ?_
        rintro e w6 ⟨aA, cA, rfl, MN⟩
        have M := Mem.then MN
        clear MN
        refine hK.out _ _ Mem.end ?_
        clear hK K
        try simp only [Act.put, p1, p2, p3]
        refine tm 4 19 ?_
        refine to_ 5 fun K hK => ?_
        go_simp
        refine hK.out _ _ Mem.end ?_
        clear hK K
        try simp only [Act.put, p1, p2, p3]
        refine to_ 6 fun K hK => ?_
        go_simp
        refine hK.out _ _ Mem.end ?_
        clear hK K
        try simp only [Act.put, p1, p2, p3]
        refine td ?_
        go_wp2
        go_meet
        case rel => exact ⟨_, aA, cA, rfl, Mem.fin⟩
      · go_simp
        refine hK.out _ _ Mem.end ?_
        clear hK K
        try simp only [Act.put, p1, p2, p3]
        refine tc 3 18 (l16All_any _) ?_
        rintro e w6 ⟨aA, cA, rfl, MN⟩
        have M := Mem.then MN
        clear MN
        refine tce ?_
        refine tm 4 19 ?_
        refine to_ 6 fun K hK => ?_
        go_simp
        refine hK.out _ _ Mem.end ?_
        clear hK K
        try simp only [Act.put, p1, p2, p3]
        refine td ?_
        go_wp2
        go_meet
        case rel => exact ⟨_, aA, cA, rfl, Mem.fin⟩
    case rest =>
      obtain ⟨bn, aA, cA, rfl, M⟩ := hcut
      go_wp2_with fail
      refine (sSet_mem x1 h1).mono ?_
      rintro e w7 ⟨aS, cS, rfl, M⟩
      try dsimp only at M
      go_wp2_with fail
      refine (l16How_any x2 _).mono ?_
      rintro e w8 ⟨rfl, rfl⟩
      go_wp2_with fail
      refine (sFlags_mem x3 h3).mono ?_
      rintro e w8 ⟨rfl, M⟩
      try dsimp only at M
      cases hb1 : setB x1 with
      | false =>
        cases hb2 : (readF x3).2 with
        | false =>
          go_wp2
          refine bodyPost_ret (by simp [results, Tryz.results19, go_sem]; try rfl) rfl ?_
          exact ⟨4, nb, setP x1, howP x2, (readF x3).1, -1, _, aS, cS, rfl, Mem.fin, small_h hbx (by decide) (readV_few _ _), .inl (by unfold rawE; simp [mkW, drW, adW, stW, exW, cpW, mvW, setB, hb1, hb2])⟩
        | true =>
          go_wp2
          refine bodyPost_ret (by simp [results, Tryz.results19, go_sem]; try rfl) rfl ?_
          exact ⟨4, nb, setP x1, howP x2, (readF x3).1, -1, _, aS, cS, rfl, Mem.fin, small_h hbx (by decide) (readV_few _ _), .inl (by unfold rawE; simp [mkW, drW, adW, stW, exW, cpW, mvW, setB, hb1, hb2])⟩
      | true =>
        cases hb2 : (readF x3).2 with
        | false =>
          go_wp2
          refine bodyPost_ret (by simp [results, Tryz.results19, go_sem]; try rfl) rfl ?_
          exact ⟨4, nb, setP x1, howP x2, (readF x3).1, -1, _, aS, cS, rfl, Mem.fin, small_h hbx (by decide) (readV_few _ _), .inl (by unfold rawE; simp [mkW, drW, adW, stW, exW, cpW, mvW, setB, hb1, hb2])⟩
        | true =>
          go_wp2
          refine bodyPost_ret (by simp [results, Tryz.results19, go_sem]; try rfl) rfl ?_
          exact ⟨4, nb, setP x1, howP x2, (readF x3).1, -1, _, aS, cS, rfl, Mem.fin, small_h hbx (by decide) (readV_few _ _), .inl (by unfold rawE; simp [mkW, drW, adW, stW, exW, cpW, mvW, setB, hb1, hb2])⟩
  have fst : (n == [115, 116, 111, 114, 101]) = false := by rw [beq_eq_false_iff_ne]; exact hst
  by_cases hex : n = exW
  · subst hex
    go_enter Tryz.func19, Tryz.ntmps19
    go_wp2
    go_cut [7] from 8 (fun s7 wc => ∃ (bn : Nat) (aA : Option Addr) (cA : Nat), s7 = .pointer (some ⟨bn, 0, none⟩) ∧ Mem w wc [.obj bn 32 [.int .i64 0, .string box, .string ⟨#[]⟩, .slice aA 1 cA, .int .i64 0, .int .i64 0, .int .i64 0, .string ⟨#[]⟩], rowRg aA cA allR, .obj (w.heap.size + 1) 32 [.int .i64 0, .string ⟨#[]⟩, .string ⟨#[]⟩, .slice none 0 0, .int .i64 0, .int .i64 0, .int .i64 0, .string ⟨#[]⟩], .obj w.heap.size 37 [.bool true, .string box, .int .i64 xv, vu, .int .i64 xm]])
    case first =>
      refine mb 7 (fun M => ?_)
      refine tm 0 15 ?_; refine tm 1 16 ?_; refine tm 2 17 ?_
      refine tt 3 5 (fun K hK => ?_) (fun K hK => ?_)
      · go_simp
        refine (l16All_any _).mono ?_
        rintro e w6 ⟨aA, cA, rfl, MN⟩
        have M := Mem.then MN
        clear MN
        refine hK.out _ _ Mem.end ?_
        clear hK K
        try simp only [Act.put, p1, p2, p3]
        refine tm 4 19 ?_
        refine to_ 5 fun K hK => ?_
        go_simp
        refine hK.out _ _ Mem.end ?_
        clear hK K
        try simp only [Act.put, p1, p2, p3]
        refine to_ 6 fun K hK => ?_
        go_simp
        refine hK.out _ _ Mem.end ?_
        clear hK K
        try simp only [Act.put, p1, p2, p3]
        refine td ?_
        go_wp2
        go_meet
        case rel => exact ⟨_, aA, cA, rfl, Mem.fin⟩
      · go_simp
        refine hK.out _ _ Mem.end ?_
        clear hK K
        try simp only [Act.put, p1, p2, p3]
        refine tc 3 18 (l16All_any _) ?_
        rintro e w6 ⟨aA, cA, rfl, MN⟩
        have M := Mem.then MN
        clear MN
        refine tce ?_
        refine tm 4 19 ?_
        refine to_ 6 fun K hK => ?_
        go_simp
        refine hK.out _ _ Mem.end ?_
        clear hK K
        try simp only [Act.put, p1, p2, p3]
        refine td ?_
        go_wp2
        go_meet
        case rel => exact ⟨_, aA, cA, rfl, Mem.fin⟩
    case rest =>
      obtain ⟨bn, aA, cA, rfl, M⟩ := hcut
      go_wp2_with fail
      refine (sSet_mem x1 h1).mono ?_
      rintro e w7 ⟨aS, cS, rfl, M⟩
      try dsimp only at M
      go_wp2
      refine bodyPost_ret (by simp [results, Tryz.results19, go_sem]; try rfl) rfl ?_
      exact ⟨0, nb, setP x1, 0, 0, 0, setB x1, aS, cS, rfl, Mem.fin, small_h hbx (by decide) (readV_few _ _), same_0 (by unfold rawE; simp [mkW, drW, adW, stW, exW, cpW, mvW])⟩
  have fex : (n == [101, 120, 112, 117, 110, 103, 101]) = false := by rw [beq_eq_false_iff_ne]; exact hex
  by_cases hcp : n = cpW
  · subst hcp
    go_enter Tryz.func19, Tryz.ntmps19
    go_wp2
    go_cut [7] from 8 (fun s7 wc => ∃ (bn : Nat) (aA : Option Addr) (cA : Nat), s7 = .pointer (some ⟨bn, 0, none⟩) ∧ Mem w wc [.obj bn 32 [.int .i64 0, .string box, .string ⟨#[]⟩, .slice aA 1 cA, .int .i64 0, .int .i64 0, .int .i64 0, .string ⟨#[]⟩], rowRg aA cA allR, .obj (w.heap.size + 1) 32 [.int .i64 0, .string ⟨#[]⟩, .string ⟨#[]⟩, .slice none 0 0, .int .i64 0, .int .i64 0, .int .i64 0, .string ⟨#[]⟩], .obj w.heap.size 37 [.bool true, .string box, .int .i64 xv, vu, .int .i64 xm]])
    case first =>
      refine mb 7 (fun M => ?_)
      refine tm 0 15 ?_; refine tm 1 16 ?_; refine tm 2 17 ?_
      refine tt 3 5 (fun K hK => ?_) (fun K hK => ?_)
      · go_simp
        refine (l16All_any _).mono ?_
        rintro e w6 ⟨aA, cA, rfl, MN⟩
        have M := Mem.then MN
        clear MN
        refine hK.out _ _ Mem.end ?_
        clear hK K
        try simp only [Act.put, p1, p2, p3]
        refine tm 4 19 ?_
        refine to_ 5 fun K hK => ?_
        go_simp
        refine hK.out _ _ Mem.end ?_
        clear hK K
        try simp only [Act.put, p1, p2, p3]
        refine to_ 6 fun K hK => ?_
        go_simp
        refine hK.out _ _ Mem.end ?_
        clear hK K
        try simp only [Act.put, p1, p2, p3]
        refine td ?_
        go_wp2
        go_meet
        case rel => exact ⟨_, aA, cA, rfl, Mem.fin⟩
      · go_simp
        refine hK.out _ _ Mem.end ?_
        clear hK K
        try simp only [Act.put, p1, p2, p3]
        refine tc 3 18 (l16All_any _) ?_
        rintro e w6 ⟨aA, cA, rfl, MN⟩
        have M := Mem.then MN
        clear MN
        refine tce ?_
        refine tm 4 19 ?_
        refine to_ 6 fun K hK => ?_
        go_simp
        refine hK.out _ _ Mem.end ?_
        clear hK K
        try simp only [Act.put, p1, p2, p3]
        refine td ?_
        go_wp2
        go_meet
        case rel => exact ⟨_, aA, cA, rfl, Mem.fin⟩
    case rest =>
      obtain ⟨bn, aA, cA, rfl, M⟩ := hcut
      go_wp2_with fail
      refine (sSet_mem x1 h1).mono ?_
      rintro e w7 ⟨aS, cS, rfl, M⟩
      try dsimp only at M
      go_wp2
      refine bodyPost_ret (by simp [results, Tryz.results19, go_sem]; try rfl) rfl ?_
      exact ⟨0, nb, setP x1, 0, 0, 0, setB x1, aS, cS, rfl, Mem.fin, small_h hbx (by decide) (readV_few _ _), same_0 (by unfold rawE; simp [mkW, drW, adW, stW, exW, cpW, mvW])⟩
  have fcp : (n == [99, 111, 112, 121]) = false := by rw [beq_eq_false_iff_ne]; exact hcp
  by_cases hmv : n = mvW
  · subst hmv
    go_enter Tryz.func19, Tryz.ntmps19
    go_wp2
    go_cut [7] from 8 (fun s7 wc => ∃ (bn : Nat) (aA : Option Addr) (cA : Nat), s7 = .pointer (some ⟨bn, 0, none⟩) ∧ Mem w wc [.obj bn 32 [.int .i64 0, .string box, .string ⟨#[]⟩, .slice aA 1 cA, .int .i64 0, .int .i64 0, .int .i64 0, .string ⟨#[]⟩], rowRg aA cA allR, .obj (w.heap.size + 1) 32 [.int .i64 0, .string ⟨#[]⟩, .string ⟨#[]⟩, .slice none 0 0, .int .i64 0, .int .i64 0, .int .i64 0, .string ⟨#[]⟩], .obj w.heap.size 37 [.bool true, .string box, .int .i64 xv, vu, .int .i64 xm]])
    case first =>
      refine mb 7 (fun M => ?_)
      refine tm 0 15 ?_; refine tm 1 16 ?_; refine tm 2 17 ?_
      refine tt 3 5 (fun K hK => ?_) (fun K hK => ?_)
      · go_simp
        refine (l16All_any _).mono ?_
        rintro e w6 ⟨aA, cA, rfl, MN⟩
        have M := Mem.then MN
        clear MN
        refine hK.out _ _ Mem.end ?_
        clear hK K
        try simp only [Act.put, p1, p2, p3]
        refine tm 4 19 ?_
        refine to_ 5 fun K hK => ?_
        go_simp
        refine hK.out _ _ Mem.end ?_
        clear hK K
        try simp only [Act.put, p1, p2, p3]
        refine to_ 6 fun K hK => ?_
        go_simp
        refine hK.out _ _ Mem.end ?_
        clear hK K
        try simp only [Act.put, p1, p2, p3]
        refine td ?_
        go_wp2
        go_meet
        case rel => exact ⟨_, aA, cA, rfl, Mem.fin⟩
      · go_simp
        refine hK.out _ _ Mem.end ?_
        clear hK K
        try simp only [Act.put, p1, p2, p3]
        refine tc 3 18 (l16All_any _) ?_
        rintro e w6 ⟨aA, cA, rfl, MN⟩
        have M := Mem.then MN
        clear MN
        refine tce ?_
        refine tm 4 19 ?_
        refine to_ 6 fun K hK => ?_
        go_simp
        refine hK.out _ _ Mem.end ?_
        clear hK K
        try simp only [Act.put, p1, p2, p3]
        refine td ?_
        go_wp2
        go_meet
        case rel => exact ⟨_, aA, cA, rfl, Mem.fin⟩
    case rest =>
      obtain ⟨bn, aA, cA, rfl, M⟩ := hcut
      go_wp2_with fail
      refine (sSet_mem x1 h1).mono ?_
      rintro e w7 ⟨aS, cS, rfl, M⟩
      try dsimp only at M
      go_wp2
      refine bodyPost_ret (by simp [results, Tryz.results19, go_sem]; try rfl) rfl ?_
      exact ⟨0, nb, setP x1, 0, 0, 0, setB x1, aS, cS, rfl, Mem.fin, small_h hbx (by decide) (readV_few _ _), same_0 (by unfold rawE; simp [mkW, drW, adW, stW, exW, cpW, mvW])⟩
  have fmv : (n == [109, 111, 118, 101]) = false := by rw [beq_eq_false_iff_ne]; exact hmv
  go_enter Tryz.func19, Tryz.ntmps19
  go_wp2
  go_cut [7] from 8 (fun s7 wc => ∃ (bn : Nat) (aA : Option Addr) (cA : Nat), s7 = .pointer (some ⟨bn, 0, none⟩) ∧ Mem w wc [.obj bn 32 [.int .i64 0, .string box, .string ⟨#[]⟩, .slice aA 1 cA, .int .i64 0, .int .i64 0, .int .i64 0, .string ⟨#[]⟩], rowRg aA cA allR, .obj (w.heap.size + 1) 32 [.int .i64 0, .string ⟨#[]⟩, .string ⟨#[]⟩, .slice none 0 0, .int .i64 0, .int .i64 0, .int .i64 0, .string ⟨#[]⟩], .obj w.heap.size 37 [.bool true, .string box, .int .i64 xv, vu, .int .i64 xm]])
  case first =>
    refine mb 7 (fun M => ?_)
    refine tm 0 15 ?_; refine tm 1 16 ?_; refine tm 2 17 ?_
    refine tt 3 5 (fun K hK => ?_) (fun K hK => ?_)
    · go_simp
      refine (l16All_any _).mono ?_
      rintro e w6 ⟨aA, cA, rfl, MN⟩
      have M := Mem.then MN
      clear MN
      refine hK.out _ _ Mem.end ?_
      clear hK K
      try simp only [Act.put, p1, p2, p3]
      refine tm 4 19 ?_
      refine to_ 5 fun K hK => ?_
      go_simp
      refine hK.out _ _ Mem.end ?_
      clear hK K
      try simp only [Act.put, p1, p2, p3]
      refine to_ 6 fun K hK => ?_
      go_simp
      refine hK.out _ _ Mem.end ?_
      clear hK K
      try simp only [Act.put, p1, p2, p3]
      refine td ?_
      go_wp2
      go_meet
      case rel => exact ⟨_, aA, cA, rfl, Mem.fin⟩
    · go_simp
      refine hK.out _ _ Mem.end ?_
      clear hK K
      try simp only [Act.put, p1, p2, p3]
      refine tc 3 18 (l16All_any _) ?_
      rintro e w6 ⟨aA, cA, rfl, MN⟩
      have M := Mem.then MN
      clear MN
      refine tce ?_
      refine tm 4 19 ?_
      refine to_ 6 fun K hK => ?_
      go_simp
      refine hK.out _ _ Mem.end ?_
      clear hK K
      try simp only [Act.put, p1, p2, p3]
      refine td ?_
      go_wp2
      go_meet
      case rel => exact ⟨_, aA, cA, rfl, Mem.fin⟩
  case rest =>
    obtain ⟨bn, aA, cA, rfl, M⟩ := hcut
    go_wp2_with fail
    refine (sSet_mem x1 h1).mono ?_
    rintro e w7 ⟨aS, cS, rfl, M⟩
    try dsimp only at M
    go_wp2
    refine bodyPost_ret (by simp [results, Tryz.results19, go_sem]; try rfl) rfl ?_
    exact ⟨0, nb, setP x1, 0, 0, 0, setB x1, aS, cS, rfl, Mem.fin, small_h hbx (by decide) (readV_few _ _), same_0 (by unfold rawE; simp [hst, hex, hcp, hmv, had])⟩
end Go.Proofs.YtocaljbimhjmgaaGreatDoor
