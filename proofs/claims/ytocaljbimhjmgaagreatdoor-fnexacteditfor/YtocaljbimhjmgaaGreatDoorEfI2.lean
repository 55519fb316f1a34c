/- What a session's words tell to do: the program's seven readings of words. Made by gen_efi2.py. -/
import Derived.Test.YtocaljbimhjmgaaGreatDoorEfI
import Derived.Test.YtocaljbimhjmgaaGreatDoorMmA
namespace Go.Proofs.YtocaljbimhjmgaaGreatDoor
open Go.RowKit
open Plain
set_option linter.unusedVariables false
set_option linter.unusedSimpArgs false
attribute [local go_sem] cell_of frozen_of
abbrev edZ : List Value := [.int .i64 0, .string ⟨#[]⟩, .string ⟨#[]⟩, .slice none 0 0, .int .i64 0, .int .i64 0, .int .i64 0, .string ⟨#[]⟩]
theorem Mem.row1 {w W : World} {L K : List Pc} {b : Nat} {f : Pc → List Pc} [M : Mem w W L] [h : InL L (.obj b 87 [.int .i64 1, .int .i64 9999]) f] [k : Pick (f (rowRg (some ⟨b, 0, none⟩) 1 allR)) K] : Mem w W K := by
  have hp := M.get (.obj b 87 [.int .i64 1, .int .i64 9999])
  have := M.turn (p := .obj b 87 [.int .i64 1, .int .i64 9999]) (q := rowRg (some ⟨b, 0, none⟩) 1 allR) (g_self W _) ⟨by simp [allR, rgs, rgl], .inr ⟨b, 1, #[.int .i64 1, .int .i64 9999], rfl, hp.1, hp.2, by simp [allR, rgs, rgl, maxLen]⟩⟩ (.inl rfl)
  exact Mem.fin
set_option maxHeartbeats 4000000 in
set_option maxRecDepth 100000 in
theorem makeBox_mem (box : ByteArray) (a : List UInt8) (g c : Nat) (w : World) (c1 : HasCell w g 1 (.string ⟨a.toArray⟩)) :
    Calls Tryz.prog 47 #[.agg #[.string box, .slice (some ⟨g, 1, none⟩) 1 c]] w fun e w' => e = .returned (.tuple #[edV ⟨1, ba a, nb, [], 0, 0, 0, nb⟩ (.slice none 0 0), .bool true]) ∧ Mem w w' [] := by
  have M := Mem.start w
  go_enter Tryz.func47, Tryz.ntmps47
  go_wp2
  refine bodyPost_ret (by simp [results, Tryz.results47, go_sem]; try rfl) rfl ?_
  exact ⟨rfl, Mem.end⟩
set_option maxHeartbeats 4000000 in
set_option maxRecDepth 100000 in
theorem dropBox_mem (box : ByteArray) (a : List UInt8) (g c : Nat) (w : World) (c1 : HasCell w g 1 (.string ⟨a.toArray⟩)) :
    Calls Tryz.prog 48 #[.agg #[.string box, .slice (some ⟨g, 1, none⟩) 1 c]] w fun e w' => e = .returned (.tuple #[edV ⟨2, ba a, nb, [], 0, 0, 0, nb⟩ (.slice none 0 0), .bool true]) ∧ Mem w w' [] := by
  have M := Mem.start w
  go_enter Tryz.func48, Tryz.ntmps48
  go_wp2
  refine bodyPost_ret (by simp [results, Tryz.results48, go_sem]; try rfl) rfl ?_
  exact ⟨rfl, Mem.end⟩
set_option maxHeartbeats 4000000 in
set_option maxRecDepth 100000 in
theorem addMail_mem (box : ByteArray) (a b d : List UInt8) (g c : Nat) (w : World) (c1 : HasCell w g 1 (.string ⟨a.toArray⟩)) (c2 : HasCell w g 2 (.string ⟨b.toArray⟩)) (c3 : HasCell w g 3 (.string ⟨d.toArray⟩)) (hb : b.length ≤ 1048576) (he : EEnv w) :
    Calls Tryz.prog 49 #[.agg #[.string box, .slice (some ⟨g, 1, none⟩) 3 c]] w fun e w' => e = .returned (.tuple #[edV ⟨3, ba a, nb, [], 0, (readF b).1, 0, ba d⟩ (.slice none 0 0), .bool (readF b).2]) ∧ Mem w w' [] := by
  have M := Mem.start w
  have EN : Hid (∀ W, Below w.heap.size w W → EEnv W) := fun W hb => he.below hb
  clear he
  go_enter Tryz.func49, Tryz.ntmps49
  go_wp2_with fail
  refine (iFlags_mem b hb (unhide EN _ (Mem.here _))).mono ?_
  rintro e w9 ⟨rfl, M⟩
  try dsimp only at M
  go_wp2
  refine mbr (.obj (w.heap.size + 1) 32 edZ) 13 (fun M => ?_)
  refine tm 0 14 ?_; refine tm 1 15 ?_; refine tm 2 16 ?_; refine tm 3 17 ?_; refine tm 4 18 ?_; refine tm 5 19 ?_; refine tm 6 20 ?_; refine tm 7 21 ?_; refine tm 8 22 ?_; refine tm 9 23 ?_; refine tm 10 24 ?_
  refine to_ 11 fun K hK => ?_
  go_simp
  refine hK.out _ _ Mem.end ?_
  clear hK K
  try simp only [Act.put, p1, p2, p3]
  refine tm 12 3 ?_
  refine td ?_
  go_wp2
  refine bodyPost_ret (by simp [results, Tryz.results49, go_sem]; try rfl) rfl ?_
  exact ⟨rfl, Mem.end⟩
set_option maxHeartbeats 4000000 in
set_option maxRecDepth 100000 in
theorem copyMails_mem (box : ByteArray) (a b : List UInt8) (g c : Nat) (w : World) (c1 : HasCell w g 1 (.string ⟨a.toArray⟩)) (c2 : HasCell w g 2 (.string ⟨b.toArray⟩)) (ha : a.length ≤ 1048576) (he : EEnv w) :
    Calls Tryz.prog 52 #[.agg #[.string box, .slice (some ⟨g, 1, none⟩) 2 c]] w fun e w' => ∃ a' c', e = .returned (.tuple #[edV ⟨6, box, ba b, setP a, 0, 0, 0, nb⟩ (.slice a' (setP a).length c'), .bool (setB a)]) ∧ Mem w w' [rowRg a' c' (setP a)] := by
  have M := Mem.start w
  have EN : Hid (∀ W, Below w.heap.size w W → EEnv W) := fun W hb => he.below hb
  clear he
  go_enter Tryz.func52, Tryz.ntmps52
  go_wp2_with fail
  refine (iSet_mem a ha (unhide EN _ (Mem.here _))).mono ?_
  rintro e w9 ⟨aS, cS, rfl, M⟩
  try dsimp only at M
  go_wp2
  refine mbr (.obj (w.heap.size + 1) 32 edZ) 11 (fun M => ?_)
  refine tm 0 14 ?_; refine tm 1 15 ?_; refine tm 2 16 ?_; refine tm 3 17 ?_; refine tm 4 18 ?_; refine tm 5 19 ?_; refine tm 6 20 ?_; refine tm 7 21 ?_; refine tm 8 22 ?_
  refine to_ 9 fun K hK => ?_
  go_simp
  refine hK.out _ _ Mem.end ?_
  clear hK K
  try simp only [Act.put, p1, p2, p3]
  refine tm 10 3 ?_
  refine td ?_
  go_wp2
  refine bodyPost_ret (by simp [results, Tryz.results52, go_sem]; try rfl) rfl ?_
  exact ⟨_, _, rfl, Mem.end⟩
set_option maxHeartbeats 4000000 in
set_option maxRecDepth 100000 in
theorem moveMails_mem (box : ByteArray) (a b : List UInt8) (g c : Nat) (w : World) (c1 : HasCell w g 1 (.string ⟨a.toArray⟩)) (c2 : HasCell w g 2 (.string ⟨b.toArray⟩)) (ha : a.length ≤ 1048576) (he : EEnv w) :
    Calls Tryz.prog 53 #[.agg #[.string box, .slice (some ⟨g, 1, none⟩) 2 c]] w fun e w' => ∃ a' c', e = .returned (.tuple #[edV ⟨7, box, ba b, setP a, 0, 0, 0, nb⟩ (.slice a' (setP a).length c'), .bool (setB a)]) ∧ Mem w w' [rowRg a' c' (setP a)] := by
  have M := Mem.start w
  have EN : Hid (∀ W, Below w.heap.size w W → EEnv W) := fun W hb => he.below hb
  clear he
  go_enter Tryz.func53, Tryz.ntmps53
  go_wp2_with fail
  refine (copyMails_mem box a b g c _ inferInstance inferInstance ha (unhide EN _ (Mem.here _))).mono ?_
  rintro e w9 ⟨aS, cS, rfl, MN⟩
  try dsimp only at M
  have M := Mem.then MN
  clear MN
  go_wp2
  refine bodyPost_ret (by simp [results, Tryz.results53, go_sem]; try rfl) rfl ?_
  exact ⟨_, _, rfl, Mem.end⟩
set_option maxHeartbeats 4000000 in
set_option maxRecDepth 100000 in
theorem expunge0_mem (box : ByteArray) (p : Option Addr) (c : Nat) (w : World) :
    Calls Tryz.prog 51 #[.agg #[.string box, .slice p 0 c]] w fun e w' => ∃ a' c', e = .returned (.tuple #[edV ⟨5, box, nb, allR, 0, 0, 0, nb⟩ (.slice a' 1 c'), .bool true]) ∧ Mem w w' [rowRg a' c' allR] := by
  have M := Mem.start w
  go_enter Tryz.func51, Tryz.ntmps51
  go_wp2
  refine bodyPost_ret (by simp [results, Tryz.results51, go_sem]; try rfl) rfl ?_
  exact ⟨some ⟨w.heap.size + 1 + 1, 0, none⟩, 1, rfl, Mem.row1 (b := w.heap.size + 1 + 1)⟩
set_option maxHeartbeats 4000000 in
set_option maxRecDepth 100000 in
theorem expunge1_mem (box : ByteArray) (a : List UInt8) (g c : Nat) (w : World) (c1 : HasCell w g 1 (.string ⟨a.toArray⟩)) (ha : a.length ≤ 1048576) (he : EEnv w) :
    Calls Tryz.prog 51 #[.agg #[.string box, .slice (some ⟨g, 1, none⟩) 1 c]] w fun e w' => ∃ a' c', e = .returned (.tuple #[edV ⟨5, box, nb, setP a, 0, 0, 0, nb⟩ (.slice a' (setP a).length c'), .bool (setB a)]) ∧ Mem w w' [rowRg a' c' (setP a)] := by
  have M := Mem.start w
  have EN : Hid (∀ W, Below w.heap.size w W → EEnv W) := fun W hb => he.below hb
  clear he
  go_enter Tryz.func51, Tryz.ntmps51
  go_wp2_with fail
  refine (iSet_mem a ha (unhide EN _ (Mem.here _))).mono ?_
  rintro e w9 ⟨aS, cS, rfl, M⟩
  try dsimp only at M
  go_wp2
  refine bodyPost_ret (by simp [results, Tryz.results51, go_sem]; try rfl) rfl ?_
  exact ⟨_, _, rfl, Mem.end⟩
set_option maxHeartbeats 4000000 in
set_option maxRecDepth 100000 in
theorem since3_mem (box : ByteArray) (g c : Nat) (w : World) :
    Calls Tryz.prog 68 #[.agg #[.string box, .slice (some ⟨g, 1, none⟩) 3 c], .int .i64 3] w fun e w' => e = .returned (.tuple #[.int .i64 (-1), .bool true]) ∧ Mem w w' [] := by
  have M := Mem.start w
  go_enter Tryz.func68, Tryz.ntmps68
  go_wp2
  refine bodyPost_ret (by simp [results, Tryz.results68, go_sem]; try rfl) rfl ?_
  exact ⟨rfl, Mem.end⟩
set_option maxHeartbeats 4000000 in
set_option maxRecDepth 100000 in
theorem since4_mem (box : ByteArray) (f : List UInt8) (g c : Nat) (w : World) (c4 : HasCell w g 4 (.string ⟨f.toArray⟩)) (hf : f.length ≤ 1048576) (he : EEnv w) :
    Calls Tryz.prog 68 #[.agg #[.string box, .slice (some ⟨g, 1, none⟩) 4 c], .int .i64 3] w fun e w' => e = .returned (.tuple #[.int .i64 (numP f).1, .bool (numP f).2]) ∧ Mem w w' [] := by
  have M := Mem.start w
  have EN : Hid (∀ W, Below w.heap.size w W → EEnv W) := fun W hb => he.below hb
  clear he
  go_enter Tryz.func68, Tryz.ntmps68
  go_wp2_with fail
  refine (iDec_mem f hf (unhide EN _ (Mem.here _))).mono ?_
  rintro e w9 ⟨rfl, M⟩
  try dsimp only at M
  go_wp2
  refine bodyPost_ret (by simp [results, Tryz.results68, go_sem]; try rfl) rfl ?_
  exact ⟨rfl, Mem.end⟩
set_option maxHeartbeats 4000000 in
set_option maxRecDepth 100000 in
theorem store3_mem (box : ByteArray) (a b d : List UInt8) (g c : Nat) (w : World) (c1 : HasCell w g 1 (.string ⟨a.toArray⟩)) (c2 : HasCell w g 2 (.string ⟨b.toArray⟩)) (c3 : HasCell w g 3 (.string ⟨d.toArray⟩)) (ha : a.length ≤ 1048576) (hd : d.length ≤ 1048576) (he : EEnv w) :
    Calls Tryz.prog 50 #[.agg #[.string box, .slice (some ⟨g, 1, none⟩) 3 c]] w fun e w' => ∃ a' c', e = .returned (.tuple #[edV ⟨4, box, nb, setP a, howP b, (readF d).1, -1, nb⟩ (.slice a' (setP a).length c'), .bool (setB a && (readF d).2)]) ∧ Mem w w' [rowRg a' c' (setP a)] := by
  have M := Mem.start w
  have EN : Hid (∀ W, Below w.heap.size w W → EEnv W) := fun W hb => he.below hb
  clear he
  have HN := hide (fun W => howNamed_any b W)
  obtain ⟨sb, hsb⟩ : ∃ q, q = setB a := ⟨_, rfl⟩
  obtain ⟨fb, hfb⟩ : ∃ q, q = (readF d).2 := ⟨_, rfl⟩
  rw [← hsb, ← hfb]
  have HSB := hide hsb
  have HFB := hide hfb
  clear hsb hfb
  go_enter Tryz.func50, Tryz.ntmps50
  go_wp2_with fail
  refine (iSet_mem a ha (unhide EN _ (Mem.here _))).mono ?_
  rintro e w9 ⟨aS, cS, rfl, M⟩
  try dsimp only at M
  rw [← unhide HSB]
  go_wp2_with fail
  refine (iFlags_mem d hd (unhide EN _ (Mem.here _))).mono ?_
  rintro e w9 ⟨rfl, M⟩
  try dsimp only at M
  rw [← unhide HFB]
  go_wp2_with fail
  refine (since3_mem box g c _).mono ?_
  rintro e w9 ⟨rfl, MN⟩
  try dsimp only at M
  have M := Mem.then MN
  clear MN
  go_wp2
  refine mb 12 (fun M => ?_)
  refine tm 0 32 ?_; refine tm 1 33 ?_; refine tm 2 34 ?_; refine tm 3 35 ?_; refine tm 4 36 ?_; refine tm 5 37 ?_; refine tm 6 38 ?_; refine tm 8 40 ?_; refine tm 9 41 ?_
  refine tt 7 11 (fun K hK => ?_) (fun K hK => ?_)
  · go_simp
    refine (unhide HN _).mono ?_
    rintro e w6 ⟨rfl, rfl⟩
    refine hK.out _ _ Mem.end ?_
    clear hK K
    try simp only [Act.put, p1, p2, p3]
    refine tm 10 42 ?_
    refine to_ 11 fun K hK => ?_
    go_simp
    refine hK.out _ _ Mem.end ?_
    clear hK K
    try simp only [Act.put, p1, p2, p3]
    refine tl 12 fun K hK => ?_
    go_simp
    refine hK.out _ _ ?_
    clear hK K
    try simp only [Act.put, p1, p2, p3]
    refine td ?_
    clear HSB HFB
    cases sb with
    | false =>
      go_wp2
      refine bodyPost_ret (by simp [results, Tryz.results50, go_sem]; try rfl) rfl ?_
      exact ⟨_, _, rfl, Mem.fin⟩
    | true =>
    cases fb with
    | false =>
      go_wp2
      refine bodyPost_ret (by simp [results, Tryz.results50, go_sem]; try rfl) rfl ?_
      exact ⟨_, _, rfl, Mem.fin⟩
    | true =>
      go_wp2
      refine bodyPost_ret (by simp [results, Tryz.results50, go_sem]; try rfl) rfl ?_
      exact ⟨_, _, rfl, Mem.fin⟩
  · go_simp
    refine hK.out _ _ Mem.end ?_
    clear hK K
    try simp only [Act.put, p1, p2, p3]
    refine tc 7 39 (unhide HN _) ?_
    rintro e w6 ⟨rfl, rfl⟩
    refine tce ?_
    refine tm 10 42 ?_
    refine tl 12 fun K hK => ?_
    go_simp
    refine hK.out _ _ ?_
    clear hK K
    try simp only [Act.put, p1, p2, p3]
    refine td ?_
    clear HSB HFB
    cases sb with
    | false =>
      go_wp2
      refine bodyPost_ret (by simp [results, Tryz.results50, go_sem]; try rfl) rfl ?_
      exact ⟨_, _, rfl, Mem.fin⟩
    | true =>
    cases fb with
    | false =>
      go_wp2
      refine bodyPost_ret (by simp [results, Tryz.results50, go_sem]; try rfl) rfl ?_
      exact ⟨_, _, rfl, Mem.fin⟩
    | true =>
      go_wp2
      refine bodyPost_ret (by simp [results, Tryz.results50, go_sem]; try rfl) rfl ?_
      exact ⟨_, _, rfl, Mem.fin⟩
set_option maxHeartbeats 4000000 in
set_option maxRecDepth 100000 in
theorem store4_mem (box : ByteArray) (a b d f : List UInt8) (g c : Nat) (w : World) (c1 : HasCell w g 1 (.string ⟨a.toArray⟩)) (c2 : HasCell w g 2 (.string ⟨b.toArray⟩)) (c3 : HasCell w g 3 (.string ⟨d.toArray⟩)) (c4 : HasCell w g 4 (.string ⟨f.toArray⟩)) (ha : a.length ≤ 1048576) (hd : d.length ≤ 1048576) (hf : f.length ≤ 1048576) (he : EEnv w) :
    Calls Tryz.prog 50 #[.agg #[.string box, .slice (some ⟨g, 1, none⟩) 4 c]] w fun e w' => ∃ a' c', e = .returned (.tuple #[edV ⟨4, box, nb, setP a, howP b, (readF d).1, (numP f).1, nb⟩ (.slice a' (setP a).length c'), .bool (setB a && (readF d).2 && (numP f).2)]) ∧ Mem w w' [rowRg a' c' (setP a)] := by
  have M := Mem.start w
  have EN : Hid (∀ W, Below w.heap.size w W → EEnv W) := fun W hb => he.below hb
  clear he
  have HN := hide (fun W => howNamed_any b W)
  obtain ⟨sb, hsb⟩ : ∃ q, q = setB a := ⟨_, rfl⟩
  obtain ⟨fb, hfb⟩ : ∃ q, q = (readF d).2 := ⟨_, rfl⟩
  obtain ⟨nb2, hnb⟩ : ∃ q, q = (numP f).2 := ⟨_, rfl⟩
  rw [← hsb, ← hfb, ← hnb]
  have HSB := hide hsb
  have HFB := hide hfb
  clear hsb hfb
  have HNB := hide hnb
  clear hnb
  go_enter Tryz.func50, Tryz.ntmps50
  go_wp2_with fail
  refine (iSet_mem a ha (unhide EN _ (Mem.here _))).mono ?_
  rintro e w9 ⟨aS, cS, rfl, M⟩
  try dsimp only at M
  rw [← unhide HSB]
  go_wp2_with fail
  refine (iFlags_mem d hd (unhide EN _ (Mem.here _))).mono ?_
  rintro e w9 ⟨rfl, M⟩
  try dsimp only at M
  rw [← unhide HFB]
  go_wp2_with fail
  refine (since4_mem box f g c _ inferInstance hf (unhide EN _ (Mem.here _))).mono ?_
  rintro e w9 ⟨rfl, MN⟩
  try dsimp only at M
  have M := Mem.then MN
  clear MN
  rw [← unhide HNB]
  go_wp2
  refine mb 12 (fun M => ?_)
  refine tm 0 32 ?_; refine tm 1 33 ?_; refine tm 2 34 ?_; refine tm 3 35 ?_; refine tm 4 36 ?_; refine tm 5 37 ?_; refine tm 6 38 ?_; refine tm 8 40 ?_; refine tm 9 41 ?_
  refine tt 7 11 (fun K hK => ?_) (fun K hK => ?_)
  · go_simp
    refine (unhide HN _).mono ?_
    rintro e w6 ⟨rfl, rfl⟩
    refine hK.out _ _ Mem.end ?_
    clear hK K
    try simp only [Act.put, p1, p2, p3]
    refine tm 10 42 ?_
    refine to_ 11 fun K hK => ?_
    go_simp
    refine hK.out _ _ Mem.end ?_
    clear hK K
    try simp only [Act.put, p1, p2, p3]
    refine tl 12 fun K hK => ?_
    go_simp
    refine hK.out _ _ ?_
    clear hK K
    try simp only [Act.put, p1, p2, p3]
    refine td ?_
    clear HSB HFB HNB
    cases sb with
    | false =>
      go_wp2
      refine bodyPost_ret (by simp [results, Tryz.results50, go_sem]; try rfl) rfl ?_
      exact ⟨_, _, rfl, Mem.fin⟩
    | true =>
    cases fb with
    | false =>
      go_wp2
      refine bodyPost_ret (by simp [results, Tryz.results50, go_sem]; try rfl) rfl ?_
      exact ⟨_, _, rfl, Mem.fin⟩
    | true =>
      go_wp2
      refine bodyPost_ret (by simp [results, Tryz.results50, go_sem]; try rfl) rfl ?_
      exact ⟨_, _, rfl, Mem.fin⟩
  · go_simp
    refine hK.out _ _ Mem.end ?_
    clear hK K
    try simp only [Act.put, p1, p2, p3]
    refine tc 7 39 (unhide HN _) ?_
    rintro e w6 ⟨rfl, rfl⟩
    refine tce ?_
    refine tm 10 42 ?_
    refine tl 12 fun K hK => ?_
    go_simp
    refine hK.out _ _ ?_
    clear hK K
    try simp only [Act.put, p1, p2, p3]
    refine td ?_
    clear HSB HFB HNB
    cases sb with
    | false =>
      go_wp2
      refine bodyPost_ret (by simp [results, Tryz.results50, go_sem]; try rfl) rfl ?_
      exact ⟨_, _, rfl, Mem.fin⟩
    | true =>
    cases fb with
    | false =>
      go_wp2
      refine bodyPost_ret (by simp [results, Tryz.results50, go_sem]; try rfl) rfl ?_
      exact ⟨_, _, rfl, Mem.fin⟩
    | true =>
      go_wp2
      refine bodyPost_ret (by simp [results, Tryz.results50, go_sem]; try rfl) rfl ?_
      exact ⟨_, _, rfl, Mem.fin⟩
end Go.Proofs.YtocaljbimhjmgaaGreatDoor
