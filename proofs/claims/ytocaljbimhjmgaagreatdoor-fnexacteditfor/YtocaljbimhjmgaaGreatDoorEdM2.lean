/- Edits: the specification's EditOk. Made by gen_edm.py. -/
import Derived.Test.YtocaljbimhjmgaaGreatDoorEdM1
import Derived.Test.YtocaljbimhjmgaaGreatDoorSetA
namespace Go.Proofs.YtocaljbimhjmgaaGreatDoor
open Go.RowKit
open Plain
set_option linter.unusedVariables false
set_option linter.unusedSimpArgs false
attribute [local go_sem] cell_of frozen_of

theorem setOkM (l : List Rg) (v : Value) (B : Nat) (w : World) (hs : l.length ≤ 1048576) (h : OwnR B w v l) : Calls Tryz.prog 43 #[v] w fun e w' => e = .returned (.bool (okS l)) ∧ Mem w w' [] :=
  (spec_SetOk_any l v w hs h.read).mono fun e w' ⟨h, q, hq⟩ => ⟨h, ⟨by rw [hq]; exact ⟨rfl, rfl, rfl, Nat.le_refl _, fun _ _ => rfl⟩, fun p hp => (by cases hp), List.Pairwise.nil⟩⟩
set_option maxHeartbeats 4000000 in
set_option maxRecDepth 100000 in
theorem okS1 (e : Ed) (a : Option Addr) (c B : Nat) (w : World) (hk : e.kind = 1) (hs : SmallEd 1048576 e) (hr : OwnR B w (.slice a e.set.length c) e.set) :
    Calls Tryz.prog 20 #[.agg #[.int .i64 e.kind, .string e.box, .string e.dst, .slice a e.set.length c, .int .i64 e.how, .int .i64 e.bits, .int .i64 e.since, .string e.text]] w fun x w' => x = .returned (.bool ((((nameOkL e.box.data.toList && ((((((([] == e.dst.toList) && decide (e.set.length = 0)) && decide ((0 : Int) = e.how)) && decide ((0 : Int) = e.bits)) && decide ((0 : Int) = e.since)) && ([] == e.text.toList)))) && okS e.set) && flOk e.bits))) ∧ Mem w w' [] := by
  obtain ⟨Z, hZ⟩ : ∃ Z, Z = ((((nameOkL e.box.data.toList && ((((((([] == e.dst.toList) && decide (e.set.length = 0)) && decide ((0 : Int) = e.how)) && decide ((0 : Int) = e.bits)) && decide ((0 : Int) = e.since)) && ([] == e.text.toList)))) && okS e.set) && flOk e.bits)) := ⟨_, rfl⟩
  rw [← hZ, hk]
  have SM := hide hs
  have RS := hide hr
  have HZ := hide hZ
  have M := Mem.start w
  clear hs hr hZ hk
  go_enter Tryz.func20, Tryz.ntmps20
  go_wp2_with fail
  refine (in_any 1 1 8 _).mono ?_
  rintro x w1 ⟨rfl, rfl⟩
  rw [show inI 1 1 8 = true from rfl]
  go_wp2_with fail
  refine (spec_BoxName_any e.box _ (unhide SM).box).mono ?_
  rintro x w2 ⟨rfl, rfl⟩
  obtain ⟨y0, hy0⟩ : ∃ y, y = (nameOkL e.box.data.toList) := ⟨_, rfl⟩
  rw [← hy0]
  have HY0 := hide hy0
  clear hy0
  cases y0 with
  | false =>
    go_wp2
    go_ret
    exact ⟨by rw [unhide HZ]; rw [← unhide HY0]; simp, Mem.end⟩
  | true =>
  go_wp2_with fail
  refine (uses1 e.box e.dst e.text e.set.length e.how e.bits e.since a c _ (unhide SM).set).mono ?_
  rintro x w3 ⟨rfl, M2⟩
  have M := Mem.then M2
  clear M2
  obtain ⟨y1, hy1⟩ : ∃ y, y = (((((((([] == e.dst.toList) && decide (e.set.length = 0)) && decide ((0 : Int) = e.how)) && decide ((0 : Int) = e.bits)) && decide ((0 : Int) = e.since)) && ([] == e.text.toList)))) := ⟨_, rfl⟩
  rw [← hy1]
  have HY1 := hide hy1
  clear hy1
  cases y1 with
  | false =>
    go_wp2
    go_ret
    exact ⟨by rw [unhide HZ]; rw [← unhide HY0]; rw [← unhide HY1]; simp, Mem.end⟩
  | true =>
  go_wp2_with fail
  refine (setOkM e.set _ _ _ (unhide SM).set ((unhide RS).up (Mem.here _))).mono ?_
  rintro x w4 ⟨rfl, M2⟩
  have M := Mem.then M2
  clear M2
  obtain ⟨y2, hy2⟩ : ∃ y, y = (okS e.set) := ⟨_, rfl⟩
  rw [← hy2]
  have HY2 := hide hy2
  clear hy2
  cases y2 with
  | false =>
    go_wp2
    go_ret
    exact ⟨by rw [unhide HZ]; rw [← unhide HY0]; rw [← unhide HY1]; rw [← unhide HY2]; simp, Mem.end⟩
  | true =>
  go_wp2_with fail
  refine (spec_FlagsOk_any e.bits _).mono ?_
  rintro x w5 ⟨rfl, rfl⟩
  obtain ⟨y3, hy3⟩ : ∃ y, y = (flOk e.bits) := ⟨_, rfl⟩
  rw [← hy3]
  have HY3 := hide hy3
  clear hy3
  cases y3 with
  | false =>
    go_wp2
    go_ret
    exact ⟨by rw [unhide HZ]; rw [← unhide HY0]; rw [← unhide HY1]; rw [← unhide HY2]; rw [← unhide HY3]; simp, Mem.end⟩
  | true =>
  go_wp2
  go_ret
  exact ⟨by rw [unhide HZ]; rw [← unhide HY0]; rw [← unhide HY1]; rw [← unhide HY2]; rw [← unhide HY3]; simp, Mem.end⟩
set_option maxHeartbeats 4000000 in
set_option maxRecDepth 100000 in
theorem okS2 (e : Ed) (a : Option Addr) (c B : Nat) (w : World) (hk : e.kind = 2) (hs : SmallEd 1048576 e) (hr : OwnR B w (.slice a e.set.length c) e.set) :
    Calls Tryz.prog 20 #[.agg #[.int .i64 e.kind, .string e.box, .string e.dst, .slice a e.set.length c, .int .i64 e.how, .int .i64 e.bits, .int .i64 e.since, .string e.text]] w fun x w' => x = .returned (.bool ((((nameOkL e.box.data.toList && ((((((([] == e.dst.toList) && decide (e.set.length = 0)) && decide ((0 : Int) = e.how)) && decide ((0 : Int) = e.bits)) && decide ((0 : Int) = e.since)) && ([] == e.text.toList)))) && okS e.set) && flOk e.bits))) ∧ Mem w w' [] := by
  obtain ⟨Z, hZ⟩ : ∃ Z, Z = ((((nameOkL e.box.data.toList && ((((((([] == e.dst.toList) && decide (e.set.length = 0)) && decide ((0 : Int) = e.how)) && decide ((0 : Int) = e.bits)) && decide ((0 : Int) = e.since)) && ([] == e.text.toList)))) && okS e.set) && flOk e.bits)) := ⟨_, rfl⟩
  rw [← hZ, hk]
  have SM := hide hs
  have RS := hide hr
  have HZ := hide hZ
  have M := Mem.start w
  clear hs hr hZ hk
  go_enter Tryz.func20, Tryz.ntmps20
  go_wp2_with fail
  refine (in_any 2 1 8 _).mono ?_
  rintro x w1 ⟨rfl, rfl⟩
  rw [show inI 2 1 8 = true from rfl]
  go_wp2_with fail
  refine (spec_BoxName_any e.box _ (unhide SM).box).mono ?_
  rintro x w2 ⟨rfl, rfl⟩
  obtain ⟨y0, hy0⟩ : ∃ y, y = (nameOkL e.box.data.toList) := ⟨_, rfl⟩
  rw [← hy0]
  have HY0 := hide hy0
  clear hy0
  cases y0 with
  | false =>
    go_wp2
    go_ret
    exact ⟨by rw [unhide HZ]; rw [← unhide HY0]; simp, Mem.end⟩
  | true =>
  go_wp2_with fail
  refine (uses2 e.box e.dst e.text e.set.length e.how e.bits e.since a c _ (unhide SM).set).mono ?_
  rintro x w3 ⟨rfl, M2⟩
  have M := Mem.then M2
  clear M2
  obtain ⟨y1, hy1⟩ : ∃ y, y = (((((((([] == e.dst.toList) && decide (e.set.length = 0)) && decide ((0 : Int) = e.how)) && decide ((0 : Int) = e.bits)) && decide ((0 : Int) = e.since)) && ([] == e.text.toList)))) := ⟨_, rfl⟩
  rw [← hy1]
  have HY1 := hide hy1
  clear hy1
  cases y1 with
  | false =>
    go_wp2
    go_ret
    exact ⟨by rw [unhide HZ]; rw [← unhide HY0]; rw [← unhide HY1]; simp, Mem.end⟩
  | true =>
  go_wp2_with fail
  refine (setOkM e.set _ _ _ (unhide SM).set ((unhide RS).up (Mem.here _))).mono ?_
  rintro x w4 ⟨rfl, M2⟩
  have M := Mem.then M2
  clear M2
  obtain ⟨y2, hy2⟩ : ∃ y, y = (okS e.set) := ⟨_, rfl⟩
  rw [← hy2]
  have HY2 := hide hy2
  clear hy2
  cases y2 with
  | false =>
    go_wp2
    go_ret
    exact ⟨by rw [unhide HZ]; rw [← unhide HY0]; rw [← unhide HY1]; rw [← unhide HY2]; simp, Mem.end⟩
  | true =>
  go_wp2_with fail
  refine (spec_FlagsOk_any e.bits _).mono ?_
  rintro x w5 ⟨rfl, rfl⟩
  obtain ⟨y3, hy3⟩ : ∃ y, y = (flOk e.bits) := ⟨_, rfl⟩
  rw [← hy3]
  have HY3 := hide hy3
  clear hy3
  cases y3 with
  | false =>
    go_wp2
    go_ret
    exact ⟨by rw [unhide HZ]; rw [← unhide HY0]; rw [← unhide HY1]; rw [← unhide HY2]; rw [← unhide HY3]; simp, Mem.end⟩
  | true =>
  go_wp2
  go_ret
  exact ⟨by rw [unhide HZ]; rw [← unhide HY0]; rw [← unhide HY1]; rw [← unhide HY2]; rw [← unhide HY3]; simp, Mem.end⟩
set_option maxHeartbeats 4000000 in
set_option maxRecDepth 100000 in
theorem okS3 (e : Ed) (a : Option Addr) (c B : Nat) (w : World) (hk : e.kind = 3) (hs : SmallEd 1048576 e) (hr : OwnR B w (.slice a e.set.length c) e.set) :
    Calls Tryz.prog 20 #[.agg #[.int .i64 e.kind, .string e.box, .string e.dst, .slice a e.set.length c, .int .i64 e.how, .int .i64 e.bits, .int .i64 e.since, .string e.text]] w fun x w' => x = .returned (.bool (((((nameOkL e.box.data.toList && ((((([] == e.dst.toList) && decide (e.set.length = 0)) && decide ((0 : Int) = e.how)) && decide ((0 : Int) = e.since)))) && okS e.set) && flOk e.bits) && mailOkL e.text.data.toList))) ∧ Mem w w' [] := by
  obtain ⟨Z, hZ⟩ : ∃ Z, Z = (((((nameOkL e.box.data.toList && ((((([] == e.dst.toList) && decide (e.set.length = 0)) && decide ((0 : Int) = e.how)) && decide ((0 : Int) = e.since)))) && okS e.set) && flOk e.bits) && mailOkL e.text.data.toList)) := ⟨_, rfl⟩
  rw [← hZ, hk]
  have SM := hide hs
  have RS := hide hr
  have HZ := hide hZ
  have M := Mem.start w
  clear hs hr hZ hk
  go_enter Tryz.func20, Tryz.ntmps20
  go_wp2_with fail
  refine (in_any 3 1 8 _).mono ?_
  rintro x w1 ⟨rfl, rfl⟩
  rw [show inI 3 1 8 = true from rfl]
  go_wp2_with fail
  refine (spec_BoxName_any e.box _ (unhide SM).box).mono ?_
  rintro x w2 ⟨rfl, rfl⟩
  obtain ⟨y0, hy0⟩ : ∃ y, y = (nameOkL e.box.data.toList) := ⟨_, rfl⟩
  rw [← hy0]
  have HY0 := hide hy0
  clear hy0
  cases y0 with
  | false =>
    go_wp2
    go_ret
    exact ⟨by rw [unhide HZ]; rw [← unhide HY0]; simp, Mem.end⟩
  | true =>
  go_wp2_with fail
  refine (uses3 e.box e.dst e.text e.set.length e.how e.bits e.since a c _ (unhide SM).set).mono ?_
  rintro x w3 ⟨rfl, M2⟩
  have M := Mem.then M2
  clear M2
  obtain ⟨y1, hy1⟩ : ∃ y, y = (((((([] == e.dst.toList) && decide (e.set.length = 0)) && decide ((0 : Int) = e.how)) && decide ((0 : Int) = e.since)))) := ⟨_, rfl⟩
  rw [← hy1]
  have HY1 := hide hy1
  clear hy1
  cases y1 with
  | false =>
    go_wp2
    go_ret
    exact ⟨by rw [unhide HZ]; rw [← unhide HY0]; rw [← unhide HY1]; simp, Mem.end⟩
  | true =>
  go_wp2_with fail
  refine (setOkM e.set _ _ _ (unhide SM).set ((unhide RS).up (Mem.here _))).mono ?_
  rintro x w4 ⟨rfl, M2⟩
  have M := Mem.then M2
  clear M2
  obtain ⟨y2, hy2⟩ : ∃ y, y = (okS e.set) := ⟨_, rfl⟩
  rw [← hy2]
  have HY2 := hide hy2
  clear hy2
  cases y2 with
  | false =>
    go_wp2
    go_ret
    exact ⟨by rw [unhide HZ]; rw [← unhide HY0]; rw [← unhide HY1]; rw [← unhide HY2]; simp, Mem.end⟩
  | true =>
  go_wp2_with fail
  refine (spec_FlagsOk_any e.bits _).mono ?_
  rintro x w5 ⟨rfl, rfl⟩
  obtain ⟨y3, hy3⟩ : ∃ y, y = (flOk e.bits) := ⟨_, rfl⟩
  rw [← hy3]
  have HY3 := hide hy3
  clear hy3
  cases y3 with
  | false =>
    go_wp2
    go_ret
    exact ⟨by rw [unhide HZ]; rw [← unhide HY0]; rw [← unhide HY1]; rw [← unhide HY2]; rw [← unhide HY3]; simp, Mem.end⟩
  | true =>
  go_wp2_with fail
  refine (spec_MailOk_any e.text _ (unhide SM).text).mono ?_
  rintro x w6 ⟨rfl, rfl⟩
  obtain ⟨y4, hy4⟩ : ∃ y, y = (mailOkL e.text.data.toList) := ⟨_, rfl⟩
  rw [← hy4]
  have HY4 := hide hy4
  clear hy4
  go_wp2
  go_ret
  exact ⟨by rw [unhide HZ]; rw [← unhide HY0]; rw [← unhide HY1]; rw [← unhide HY2]; rw [← unhide HY3]; rw [← unhide HY4]; simp, Mem.end⟩
set_option maxHeartbeats 4000000 in
set_option maxRecDepth 100000 in
theorem okS4 (e : Ed) (a : Option Addr) (c B : Nat) (w : World) (hk : e.kind = 4) (hs : SmallEd 1048576 e) (hr : OwnR B w (.slice a e.set.length c) e.set) :
    Calls Tryz.prog 20 #[.agg #[.int .i64 e.kind, .string e.box, .string e.dst, .slice a e.set.length c, .int .i64 e.how, .int .i64 e.bits, .int .i64 e.since, .string e.text]] w fun x w' => x = .returned (.bool ((((((nameOkL e.box.data.toList && ((([] == e.dst.toList) && ([] == e.text.toList)))) && okS e.set) && flOk e.bits) && inI e.how 1 3) && inI e.since (-1) 100000))) ∧ Mem w w' [] := by
  obtain ⟨Z, hZ⟩ : ∃ Z, Z = ((((((nameOkL e.box.data.toList && ((([] == e.dst.toList) && ([] == e.text.toList)))) && okS e.set) && flOk e.bits) && inI e.how 1 3) && inI e.since (-1) 100000)) := ⟨_, rfl⟩
  rw [← hZ, hk]
  have SM := hide hs
  have RS := hide hr
  have HZ := hide hZ
  have M := Mem.start w
  clear hs hr hZ hk
  go_enter Tryz.func20, Tryz.ntmps20
  go_wp2_with fail
  refine (in_any 4 1 8 _).mono ?_
  rintro x w1 ⟨rfl, rfl⟩
  rw [show inI 4 1 8 = true from rfl]
  go_wp2_with fail
  refine (spec_BoxName_any e.box _ (unhide SM).box).mono ?_
  rintro x w2 ⟨rfl, rfl⟩
  obtain ⟨y0, hy0⟩ : ∃ y, y = (nameOkL e.box.data.toList) := ⟨_, rfl⟩
  rw [← hy0]
  have HY0 := hide hy0
  clear hy0
  cases y0 with
  | false =>
    go_wp2
    go_ret
    exact ⟨by rw [unhide HZ]; rw [← unhide HY0]; simp, Mem.end⟩
  | true =>
  go_wp2_with fail
  refine (uses4 e.box e.dst e.text e.set.length e.how e.bits e.since a c _ (unhide SM).set).mono ?_
  rintro x w3 ⟨rfl, M2⟩
  have M := Mem.then M2
  clear M2
  obtain ⟨y1, hy1⟩ : ∃ y, y = (((([] == e.dst.toList) && ([] == e.text.toList)))) := ⟨_, rfl⟩
  rw [← hy1]
  have HY1 := hide hy1
  clear hy1
  cases y1 with
  | false =>
    go_wp2
    go_ret
    exact ⟨by rw [unhide HZ]; rw [← unhide HY0]; rw [← unhide HY1]; simp, Mem.end⟩
  | true =>
  go_wp2_with fail
  refine (setOkM e.set _ _ _ (unhide SM).set ((unhide RS).up (Mem.here _))).mono ?_
  rintro x w4 ⟨rfl, M2⟩
  have M := Mem.then M2
  clear M2
  obtain ⟨y2, hy2⟩ : ∃ y, y = (okS e.set) := ⟨_, rfl⟩
  rw [← hy2]
  have HY2 := hide hy2
  clear hy2
  cases y2 with
  | false =>
    go_wp2
    go_ret
    exact ⟨by rw [unhide HZ]; rw [← unhide HY0]; rw [← unhide HY1]; rw [← unhide HY2]; simp, Mem.end⟩
  | true =>
  go_wp2_with fail
  refine (spec_FlagsOk_any e.bits _).mono ?_
  rintro x w5 ⟨rfl, rfl⟩
  obtain ⟨y3, hy3⟩ : ∃ y, y = (flOk e.bits) := ⟨_, rfl⟩
  rw [← hy3]
  have HY3 := hide hy3
  clear hy3
  cases y3 with
  | false =>
    go_wp2
    go_ret
    exact ⟨by rw [unhide HZ]; rw [← unhide HY0]; rw [← unhide HY1]; rw [← unhide HY2]; rw [← unhide HY3]; simp, Mem.end⟩
  | true =>
  go_wp2_with fail
  refine (in_any e.how 1 3 _).mono ?_
  rintro x w6 ⟨rfl, rfl⟩
  obtain ⟨y4, hy4⟩ : ∃ y, y = (inI e.how 1 3) := ⟨_, rfl⟩
  rw [← hy4]
  have HY4 := hide hy4
  clear hy4
  cases y4 with
  | false =>
    go_wp2
    go_ret
    exact ⟨by rw [unhide HZ]; rw [← unhide HY0]; rw [← unhide HY1]; rw [← unhide HY2]; rw [← unhide HY3]; rw [← unhide HY4]; simp, Mem.end⟩
  | true =>
  go_wp2_with fail
  refine (in_any e.since (-1) 100000 _).mono ?_
  rintro x w7 ⟨rfl, rfl⟩
  obtain ⟨y5, hy5⟩ : ∃ y, y = (inI e.since (-1) 100000) := ⟨_, rfl⟩
  rw [← hy5]
  have HY5 := hide hy5
  clear hy5
  go_wp2
  go_ret
  exact ⟨by rw [unhide HZ]; rw [← unhide HY0]; rw [← unhide HY1]; rw [← unhide HY2]; rw [← unhide HY3]; rw [← unhide HY4]; rw [← unhide HY5]; simp, Mem.end⟩
set_option maxHeartbeats 4000000 in
set_option maxRecDepth 100000 in
theorem okS5 (e : Ed) (a : Option Addr) (c B : Nat) (w : World) (hk : e.kind = 5) (hs : SmallEd 1048576 e) (hr : OwnR B w (.slice a e.set.length c) e.set) :
    Calls Tryz.prog 20 #[.agg #[.int .i64 e.kind, .string e.box, .string e.dst, .slice a e.set.length c, .int .i64 e.how, .int .i64 e.bits, .int .i64 e.since, .string e.text]] w fun x w' => x = .returned (.bool ((((nameOkL e.box.data.toList && (((((([] == e.dst.toList) && decide ((0 : Int) = e.how)) && decide ((0 : Int) = e.bits)) && decide ((0 : Int) = e.since)) && ([] == e.text.toList)))) && okS e.set) && flOk e.bits))) ∧ Mem w w' [] := by
  obtain ⟨Z, hZ⟩ : ∃ Z, Z = ((((nameOkL e.box.data.toList && (((((([] == e.dst.toList) && decide ((0 : Int) = e.how)) && decide ((0 : Int) = e.bits)) && decide ((0 : Int) = e.since)) && ([] == e.text.toList)))) && okS e.set) && flOk e.bits)) := ⟨_, rfl⟩
  rw [← hZ, hk]
  have SM := hide hs
  have RS := hide hr
  have HZ := hide hZ
  have M := Mem.start w
  clear hs hr hZ hk
  go_enter Tryz.func20, Tryz.ntmps20
  go_wp2_with fail
  refine (in_any 5 1 8 _).mono ?_
  rintro x w1 ⟨rfl, rfl⟩
  rw [show inI 5 1 8 = true from rfl]
  go_wp2_with fail
  refine (spec_BoxName_any e.box _ (unhide SM).box).mono ?_
  rintro x w2 ⟨rfl, rfl⟩
  obtain ⟨y0, hy0⟩ : ∃ y, y = (nameOkL e.box.data.toList) := ⟨_, rfl⟩
  rw [← hy0]
  have HY0 := hide hy0
  clear hy0
  cases y0 with
  | false =>
    go_wp2
    go_ret
    exact ⟨by rw [unhide HZ]; rw [← unhide HY0]; simp, Mem.end⟩
  | true =>
  go_wp2_with fail
  refine (uses5 e.box e.dst e.text e.set.length e.how e.bits e.since a c _ (unhide SM).set).mono ?_
  rintro x w3 ⟨rfl, M2⟩
  have M := Mem.then M2
  clear M2
  obtain ⟨y1, hy1⟩ : ∃ y, y = ((((((([] == e.dst.toList) && decide ((0 : Int) = e.how)) && decide ((0 : Int) = e.bits)) && decide ((0 : Int) = e.since)) && ([] == e.text.toList)))) := ⟨_, rfl⟩
  rw [← hy1]
  have HY1 := hide hy1
  clear hy1
  cases y1 with
  | false =>
    go_wp2
    go_ret
    exact ⟨by rw [unhide HZ]; rw [← unhide HY0]; rw [← unhide HY1]; simp, Mem.end⟩
  | true =>
  go_wp2_with fail
  refine (setOkM e.set _ _ _ (unhide SM).set ((unhide RS).up (Mem.here _))).mono ?_
  rintro x w4 ⟨rfl, M2⟩
  have M := Mem.then M2
  clear M2
  obtain ⟨y2, hy2⟩ : ∃ y, y = (okS e.set) := ⟨_, rfl⟩
  rw [← hy2]
  have HY2 := hide hy2
  clear hy2
  cases y2 with
  | false =>
    go_wp2
    go_ret
    exact ⟨by rw [unhide HZ]; rw [← unhide HY0]; rw [← unhide HY1]; rw [← unhide HY2]; simp, Mem.end⟩
  | true =>
  go_wp2_with fail
  refine (spec_FlagsOk_any e.bits _).mono ?_
  rintro x w5 ⟨rfl, rfl⟩
  obtain ⟨y3, hy3⟩ : ∃ y, y = (flOk e.bits) := ⟨_, rfl⟩
  rw [← hy3]
  have HY3 := hide hy3
  clear hy3
  cases y3 with
  | false =>
    go_wp2
    go_ret
    exact ⟨by rw [unhide HZ]; rw [← unhide HY0]; rw [← unhide HY1]; rw [← unhide HY2]; rw [← unhide HY3]; simp, Mem.end⟩
  | true =>
  go_wp2
  go_ret
  exact ⟨by rw [unhide HZ]; rw [← unhide HY0]; rw [← unhide HY1]; rw [← unhide HY2]; rw [← unhide HY3]; simp, Mem.end⟩
set_option maxHeartbeats 4000000 in
set_option maxRecDepth 100000 in
theorem okS6 (e : Ed) (a : Option Addr) (c B : Nat) (w : World) (hk : e.kind = 6) (hs : SmallEd 1048576 e) (hr : OwnR B w (.slice a e.set.length c) e.set) :
    Calls Tryz.prog 20 #[.agg #[.int .i64 e.kind, .string e.box, .string e.dst, .slice a e.set.length c, .int .i64 e.how, .int .i64 e.bits, .int .i64 e.since, .string e.text]] w fun x w' => x = .returned (.bool (((((nameOkL e.box.data.toList && ((((decide ((0 : Int) = e.how) && decide ((0 : Int) = e.bits)) && decide ((0 : Int) = e.since)) && ([] == e.text.toList)))) && okS e.set) && flOk e.bits) && nameOkL e.dst.data.toList))) ∧ Mem w w' [] := by
  obtain ⟨Z, hZ⟩ : ∃ Z, Z = (((((nameOkL e.box.data.toList && ((((decide ((0 : Int) = e.how) && decide ((0 : Int) = e.bits)) && decide ((0 : Int) = e.since)) && ([] == e.text.toList)))) && okS e.set) && flOk e.bits) && nameOkL e.dst.data.toList)) := ⟨_, rfl⟩
  rw [← hZ, hk]
  have SM := hide hs
  have RS := hide hr
  have HZ := hide hZ
  have M := Mem.start w
  clear hs hr hZ hk
  go_enter Tryz.func20, Tryz.ntmps20
  go_wp2_with fail
  refine (in_any 6 1 8 _).mono ?_
  rintro x w1 ⟨rfl, rfl⟩
  rw [show inI 6 1 8 = true from rfl]
  go_wp2_with fail
  refine (spec_BoxName_any e.box _ (unhide SM).box).mono ?_
  rintro x w2 ⟨rfl, rfl⟩
  obtain ⟨y0, hy0⟩ : ∃ y, y = (nameOkL e.box.data.toList) := ⟨_, rfl⟩
  rw [← hy0]
  have HY0 := hide hy0
  clear hy0
  cases y0 with
  | false =>
    go_wp2
    go_ret
    exact ⟨by rw [unhide HZ]; rw [← unhide HY0]; simp, Mem.end⟩
  | true =>
  go_wp2_with fail
  refine (uses6 e.box e.dst e.text e.set.length e.how e.bits e.since a c _ (unhide SM).set).mono ?_
  rintro x w3 ⟨rfl, M2⟩
  have M := Mem.then M2
  clear M2
  obtain ⟨y1, hy1⟩ : ∃ y, y = (((((decide ((0 : Int) = e.how) && decide ((0 : Int) = e.bits)) && decide ((0 : Int) = e.since)) && ([] == e.text.toList)))) := ⟨_, rfl⟩
  rw [← hy1]
  have HY1 := hide hy1
  clear hy1
  cases y1 with
  | false =>
    go_wp2
    go_ret
    exact ⟨by rw [unhide HZ]; rw [← unhide HY0]; rw [← unhide HY1]; simp, Mem.end⟩
  | true =>
  go_wp2_with fail
  refine (setOkM e.set _ _ _ (unhide SM).set ((unhide RS).up (Mem.here _))).mono ?_
  rintro x w4 ⟨rfl, M2⟩
  have M := Mem.then M2
  clear M2
  obtain ⟨y2, hy2⟩ : ∃ y, y = (okS e.set) := ⟨_, rfl⟩
  rw [← hy2]
  have HY2 := hide hy2
  clear hy2
  cases y2 with
  | false =>
    go_wp2
    go_ret
    exact ⟨by rw [unhide HZ]; rw [← unhide HY0]; rw [← unhide HY1]; rw [← unhide HY2]; simp, Mem.end⟩
  | true =>
  go_wp2_with fail
  refine (spec_FlagsOk_any e.bits _).mono ?_
  rintro x w5 ⟨rfl, rfl⟩
  obtain ⟨y3, hy3⟩ : ∃ y, y = (flOk e.bits) := ⟨_, rfl⟩
  rw [← hy3]
  have HY3 := hide hy3
  clear hy3
  cases y3 with
  | false =>
    go_wp2
    go_ret
    exact ⟨by rw [unhide HZ]; rw [← unhide HY0]; rw [← unhide HY1]; rw [← unhide HY2]; rw [← unhide HY3]; simp, Mem.end⟩
  | true =>
  go_wp2_with fail
  refine (spec_BoxName_any e.dst _ (unhide SM).dst).mono ?_
  rintro x w6 ⟨rfl, rfl⟩
  obtain ⟨y4, hy4⟩ : ∃ y, y = (nameOkL e.dst.data.toList) := ⟨_, rfl⟩
  rw [← hy4]
  have HY4 := hide hy4
  clear hy4
  go_wp2
  go_ret
  exact ⟨by rw [unhide HZ]; rw [← unhide HY0]; rw [← unhide HY1]; rw [← unhide HY2]; rw [← unhide HY3]; rw [← unhide HY4]; simp, Mem.end⟩
set_option maxHeartbeats 4000000 in
set_option maxRecDepth 100000 in
theorem okS7 (e : Ed) (a : Option Addr) (c B : Nat) (w : World) (hk : e.kind = 7) (hs : SmallEd 1048576 e) (hr : OwnR B w (.slice a e.set.length c) e.set) :
    Calls Tryz.prog 20 #[.agg #[.int .i64 e.kind, .string e.box, .string e.dst, .slice a e.set.length c, .int .i64 e.how, .int .i64 e.bits, .int .i64 e.since, .string e.text]] w fun x w' => x = .returned (.bool (((((nameOkL e.box.data.toList && ((((decide ((0 : Int) = e.how) && decide ((0 : Int) = e.bits)) && decide ((0 : Int) = e.since)) && ([] == e.text.toList)))) && okS e.set) && flOk e.bits) && nameOkL e.dst.data.toList))) ∧ Mem w w' [] := by
  obtain ⟨Z, hZ⟩ : ∃ Z, Z = (((((nameOkL e.box.data.toList && ((((decide ((0 : Int) = e.how) && decide ((0 : Int) = e.bits)) && decide ((0 : Int) = e.since)) && ([] == e.text.toList)))) && okS e.set) && flOk e.bits) && nameOkL e.dst.data.toList)) := ⟨_, rfl⟩
  rw [← hZ, hk]
  have SM := hide hs
  have RS := hide hr
  have HZ := hide hZ
  have M := Mem.start w
  clear hs hr hZ hk
  go_enter Tryz.func20, Tryz.ntmps20
  go_wp2_with fail
  refine (in_any 7 1 8 _).mono ?_
  rintro x w1 ⟨rfl, rfl⟩
  rw [show inI 7 1 8 = true from rfl]
  go_wp2_with fail
  refine (spec_BoxName_any e.box _ (unhide SM).box).mono ?_
  rintro x w2 ⟨rfl, rfl⟩
  obtain ⟨y0, hy0⟩ : ∃ y, y = (nameOkL e.box.data.toList) := ⟨_, rfl⟩
  rw [← hy0]
  have HY0 := hide hy0
  clear hy0
  cases y0 with
  | false =>
    go_wp2
    go_ret
    exact ⟨by rw [unhide HZ]; rw [← unhide HY0]; simp, Mem.end⟩
  | true =>
  go_wp2_with fail
  refine (uses7 e.box e.dst e.text e.set.length e.how e.bits e.since a c _ (unhide SM).set).mono ?_
  rintro x w3 ⟨rfl, M2⟩
  have M := Mem.then M2
  clear M2
  obtain ⟨y1, hy1⟩ : ∃ y, y = (((((decide ((0 : Int) = e.how) && decide ((0 : Int) = e.bits)) && decide ((0 : Int) = e.since)) && ([] == e.text.toList)))) := ⟨_, rfl⟩
  rw [← hy1]
  have HY1 := hide hy1
  clear hy1
  cases y1 with
  | false =>
    go_wp2
    go_ret
    exact ⟨by rw [unhide HZ]; rw [← unhide HY0]; rw [← unhide HY1]; simp, Mem.end⟩
  | true =>
  go_wp2_with fail
  refine (setOkM e.set _ _ _ (unhide SM).set ((unhide RS).up (Mem.here _))).mono ?_
  rintro x w4 ⟨rfl, M2⟩
  have M := Mem.then M2
  clear M2
  obtain ⟨y2, hy2⟩ : ∃ y, y = (okS e.set) := ⟨_, rfl⟩
  rw [← hy2]
  have HY2 := hide hy2
  clear hy2
  cases y2 with
  | false =>
    go_wp2
    go_ret
    exact ⟨by rw [unhide HZ]; rw [← unhide HY0]; rw [← unhide HY1]; rw [← unhide HY2]; simp, Mem.end⟩
  | true =>
  go_wp2_with fail
  refine (spec_FlagsOk_any e.bits _).mono ?_
  rintro x w5 ⟨rfl, rfl⟩
  obtain ⟨y3, hy3⟩ : ∃ y, y = (flOk e.bits) := ⟨_, rfl⟩
  rw [← hy3]
  have HY3 := hide hy3
  clear hy3
  cases y3 with
  | false =>
    go_wp2
    go_ret
    exact ⟨by rw [unhide HZ]; rw [← unhide HY0]; rw [← unhide HY1]; rw [← unhide HY2]; rw [← unhide HY3]; simp, Mem.end⟩
  | true =>
  go_wp2_with fail
  refine (spec_BoxName_any e.dst _ (unhide SM).dst).mono ?_
  rintro x w6 ⟨rfl, rfl⟩
  obtain ⟨y4, hy4⟩ : ∃ y, y = (nameOkL e.dst.data.toList) := ⟨_, rfl⟩
  rw [← hy4]
  have HY4 := hide hy4
  clear hy4
  go_wp2
  go_ret
  exact ⟨by rw [unhide HZ]; rw [← unhide HY0]; rw [← unhide HY1]; rw [← unhide HY2]; rw [← unhide HY3]; rw [← unhide HY4]; simp, Mem.end⟩
set_option maxHeartbeats 4000000 in
set_option maxRecDepth 100000 in
theorem okS8 (e : Ed) (a : Option Addr) (c B : Nat) (w : World) (hk : e.kind = 8) (hs : SmallEd 1048576 e) (hr : OwnR B w (.slice a e.set.length c) e.set) :
    Calls Tryz.prog 20 #[.agg #[.int .i64 e.kind, .string e.box, .string e.dst, .slice a e.set.length c, .int .i64 e.how, .int .i64 e.bits, .int .i64 e.since, .string e.text]] w fun x w' => x = .returned (.bool (((((nameOkL e.box.data.toList && (((((([] == e.dst.toList) && decide (e.set.length = 0)) && decide ((0 : Int) = e.how)) && decide ((0 : Int) = e.bits)) && ([] == e.text.toList)))) && okS e.set) && flOk e.bits) && inI e.since 0 100000))) ∧ Mem w w' [] := by
  obtain ⟨Z, hZ⟩ : ∃ Z, Z = (((((nameOkL e.box.data.toList && (((((([] == e.dst.toList) && decide (e.set.length = 0)) && decide ((0 : Int) = e.how)) && decide ((0 : Int) = e.bits)) && ([] == e.text.toList)))) && okS e.set) && flOk e.bits) && inI e.since 0 100000)) := ⟨_, rfl⟩
  rw [← hZ, hk]
  have SM := hide hs
  have RS := hide hr
  have HZ := hide hZ
  have M := Mem.start w
  clear hs hr hZ hk
  go_enter Tryz.func20, Tryz.ntmps20
  go_wp2_with fail
  refine (in_any 8 1 8 _).mono ?_
  rintro x w1 ⟨rfl, rfl⟩
  rw [show inI 8 1 8 = true from rfl]
  go_wp2_with fail
  refine (spec_BoxName_any e.box _ (unhide SM).box).mono ?_
  rintro x w2 ⟨rfl, rfl⟩
  obtain ⟨y0, hy0⟩ : ∃ y, y = (nameOkL e.box.data.toList) := ⟨_, rfl⟩
  rw [← hy0]
  have HY0 := hide hy0
  clear hy0
  cases y0 with
  | false =>
    go_wp2
    go_ret
    exact ⟨by rw [unhide HZ]; rw [← unhide HY0]; simp, Mem.end⟩
  | true =>
  go_wp2_with fail
  refine (uses8 e.box e.dst e.text e.set.length e.how e.bits e.since a c _ (unhide SM).set).mono ?_
  rintro x w3 ⟨rfl, M2⟩
  have M := Mem.then M2
  clear M2
  obtain ⟨y1, hy1⟩ : ∃ y, y = ((((((([] == e.dst.toList) && decide (e.set.length = 0)) && decide ((0 : Int) = e.how)) && decide ((0 : Int) = e.bits)) && ([] == e.text.toList)))) := ⟨_, rfl⟩
  rw [← hy1]
  have HY1 := hide hy1
  clear hy1
  cases y1 with
  | false =>
    go_wp2
    go_ret
    exact ⟨by rw [unhide HZ]; rw [← unhide HY0]; rw [← unhide HY1]; simp, Mem.end⟩
  | true =>
  go_wp2_with fail
  refine (setOkM e.set _ _ _ (unhide SM).set ((unhide RS).up (Mem.here _))).mono ?_
  rintro x w4 ⟨rfl, M2⟩
  have M := Mem.then M2
  clear M2
  obtain ⟨y2, hy2⟩ : ∃ y, y = (okS e.set) := ⟨_, rfl⟩
  rw [← hy2]
  have HY2 := hide hy2
  clear hy2
  cases y2 with
  | false =>
    go_wp2
    go_ret
    exact ⟨by rw [unhide HZ]; rw [← unhide HY0]; rw [← unhide HY1]; rw [← unhide HY2]; simp, Mem.end⟩
  | true =>
  go_wp2_with fail
  refine (spec_FlagsOk_any e.bits _).mono ?_
  rintro x w5 ⟨rfl, rfl⟩
  obtain ⟨y3, hy3⟩ : ∃ y, y = (flOk e.bits) := ⟨_, rfl⟩
  rw [← hy3]
  have HY3 := hide hy3
  clear hy3
  cases y3 with
  | false =>
    go_wp2
    go_ret
    exact ⟨by rw [unhide HZ]; rw [← unhide HY0]; rw [← unhide HY1]; rw [← unhide HY2]; rw [← unhide HY3]; simp, Mem.end⟩
  | true =>
  go_wp2_with fail
  refine (in_any e.since 0 100000 _).mono ?_
  rintro x w6 ⟨rfl, rfl⟩
  obtain ⟨y4, hy4⟩ : ∃ y, y = (inI e.since 0 100000) := ⟨_, rfl⟩
  rw [← hy4]
  have HY4 := hide hy4
  clear hy4
  go_wp2
  go_ret
  exact ⟨by rw [unhide HZ]; rw [← unhide HY0]; rw [← unhide HY1]; rw [← unhide HY2]; rw [← unhide HY3]; rw [← unhide HY4]; simp, Mem.end⟩
set_option maxHeartbeats 4000000 in
set_option maxRecDepth 100000 in
theorem okS0 (e : Ed) (a : Option Addr) (c : Nat) (w : World) (hk : inI e.kind 1 8 = false) :
    Calls Tryz.prog 20 #[.agg #[.int .i64 e.kind, .string e.box, .string e.dst, .slice a e.set.length c, .int .i64 e.how, .int .i64 e.bits, .int .i64 e.since, .string e.text]] w fun x w' => x = .returned (.bool false) ∧ Mem w w' [] := by
  have M := Mem.start w
  go_enter Tryz.func20, Tryz.ntmps20
  go_wp2_with fail
  refine (in_any e.kind 1 8 _).mono ?_
  rintro x w1 ⟨rfl, rfl⟩
  rw [hk]
  go_wp2
  go_ret
  exact ⟨rfl, Mem.end⟩
theorem spec_EditOk_mem (e : Ed) (a : Option Addr) (c B : Nat) (w : World) (hs : SmallEd 1048576 e) (hr : OwnR B w (.slice a e.set.length c) e.set) :
    Calls Tryz.prog 20 #[.agg #[.int .i64 e.kind, .string e.box, .string e.dst, .slice a e.set.length c, .int .i64 e.how, .int .i64 e.bits, .int .i64 e.since, .string e.text]] w fun x w' => x = .returned (.bool (okE e)) ∧ Mem w w' [] := by
  cases hk : inI e.kind 1 8 with
  | false => rw [okE_no hk]; exact okS0 e a c w hk
  | true =>
    rcases kinds hk with h | h | h | h | h | h | h | h
    · rw [okE_1 h, ← both_1]; exact okS1 e a c B w h hs hr
    · rw [okE_2 h, ← both_2]; exact okS2 e a c B w h hs hr
    · rw [okE_3 h, ← both_3]; exact okS3 e a c B w h hs hr
    · rw [okE_4 h, ← both_4]; exact okS4 e a c B w h hs hr
    · rw [okE_5 h, ← both_5]; exact okS5 e a c B w h hs hr
    · rw [okE_6 h, ← both_6]; exact okS6 e a c B w h hs hr
    · rw [okE_7 h, ← both_7]; exact okS7 e a c B w h hs hr
    · rw [okE_8 h, ← both_8]; exact okS8 e a c B w h hs hr
end Go.Proofs.YtocaljbimhjmgaaGreatDoor
