/- Edits: the program's sameEdit and EditOk. Made by gen_edm2.py. -/
import Derived.Test.YtocaljbimhjmgaaGreatDoorEdB
namespace Go.Proofs.YtocaljbimhjmgaaGreatDoor
open Go.RowKit
open Plain
set_option linter.unusedVariables false
set_option linter.unusedSimpArgs false
attribute [local go_sem] cell_of frozen_of
theorem str_ne {a b : ByteArray} (h : ¬ a = b) : (a.toList == b.toList) = false := beq_eq_false_iff_ne.2 fun e => h (by rw [ByteArray.toList_eq, ByteArray.toList_eq] at e; obtain ⟨⟨x⟩⟩ := a; obtain ⟨⟨y⟩⟩ := b; cases (show x = y from e); rfl)
set_option maxHeartbeats 4000000 in
set_option maxRecDepth 100000 in
theorem sameEdit_any (k : Int) (box d1 d2 t1 t2 : ByteArray) (h1 b1 s1 h2 b2 s2 : Int) (a1 a2 : Option Addr) (l1 l2 c1 c2 : Nat) (E : Bool) (w : World)
    (HE : ∀ W, Below w.heap.size w W → Calls Tryz.prog 70 #[.slice a1 l1 c1, .slice a2 l2 c2] W fun x w' => x = .returned (.bool E) ∧ Below W.heap.size W w') :
    Calls Tryz.prog 57 #[.agg #[.int .i64 k, .string box, .string d1, .slice a1 l1 c1, .int .i64 h1, .int .i64 b1, .int .i64 s1, .string t1], .agg #[.int .i64 k, .string box, .string d2, .slice a2 l2 c2, .int .i64 h2, .int .i64 b2, .int .i64 s2, .string t2]] w fun x w' => x = .returned (.bool (decide (d1 = d2) && E && decide (h1 = h2) && decide (b1 = b2) && decide (s1 = s2) && decide (t1 = t2))) ∧ Mem w w' [] := by
  have HQ := hide HE
  have M := Mem.start w
  clear HE
  by_cases qd : d1 = d2
  rotate_left
  · have q3 := str_ne qd
    go_enter Tryz.func57, Tryz.ntmps57
    go_wp2
    go_ret
    exact ⟨by simp [qd], Mem.end⟩
  subst qd
  cases hE : E with
  | false =>
    go_enter Tryz.func57, Tryz.ntmps57
    go_wp2_with fail
    refine (unhide HQ _ (Mem.here _)).mono ?_
    rintro x w1 ⟨rfl, hb⟩
    have M := Mem.go hb
    clear hb
    rw [hE]
    go_wp2
    go_ret
    exact ⟨by simp, Mem.end⟩
  | true =>
  by_cases qh : h1 = h2
  rotate_left
  · go_enter Tryz.func57, Tryz.ntmps57
    go_wp2_with fail
    refine (unhide HQ _ (Mem.here _)).mono ?_
    rintro x w1 ⟨rfl, hb⟩
    have M := Mem.go hb
    clear hb
    rw [hE]
    go_wp2
    go_ret
    exact ⟨by simp [qh], Mem.end⟩
  subst qh
  by_cases qb : b1 = b2
  rotate_left
  · go_enter Tryz.func57, Tryz.ntmps57
    go_wp2_with fail
    refine (unhide HQ _ (Mem.here _)).mono ?_
    rintro x w1 ⟨rfl, hb⟩
    have M := Mem.go hb
    clear hb
    rw [hE]
    go_wp2
    go_ret
    exact ⟨by simp [qb], Mem.end⟩
  subst qb
  by_cases qs : s1 = s2
  rotate_left
  · go_enter Tryz.func57, Tryz.ntmps57
    go_wp2_with fail
    refine (unhide HQ _ (Mem.here _)).mono ?_
    rintro x w1 ⟨rfl, hb⟩
    have M := Mem.go hb
    clear hb
    rw [hE]
    go_wp2
    go_ret
    exact ⟨by simp [qs], Mem.end⟩
  subst qs
  by_cases qt : t1 = t2
  rotate_left
  · have q3 := str_ne qt
    go_enter Tryz.func57, Tryz.ntmps57
    go_wp2_with fail
    refine (unhide HQ _ (Mem.here _)).mono ?_
    rintro x w1 ⟨rfl, hb⟩
    have M := Mem.go hb
    clear hb
    rw [hE]
    go_wp2
    go_ret
    exact ⟨by simp [qt], Mem.end⟩
  subst qt
  go_enter Tryz.func57, Tryz.ntmps57
  go_wp2_with fail
  refine (unhide HQ _ (Mem.here _)).mono ?_
  rintro x w1 ⟨rfl, hb⟩
  have M := Mem.go hb
  clear hb
  rw [hE]
  go_wp2
  go_ret
  exact ⟨by simp, Mem.end⟩
namespace Plain
theorem str_nil (s : ByteArray) : decide ((⟨#[]⟩ : ByteArray) = s) = ([] == s.toList) := by
  obtain ⟨⟨x⟩⟩ := s
  rw [ByteArray.toList_mk]
  cases x with
  | nil => rfl
  | cons y l => rw [decide_eq_false (fun h => by cases h)]; rfl
end Plain
theorem ReadO.mem {w W : World} {L : List Pc} {v : Value} {l : List Rg} (h : ReadO w v l) [M : Mem w W L] : ReadO W v l := h.up M.below
set_option maxHeartbeats 4000000 in
set_option maxRecDepth 100000 in
theorem okI1 (e : Ed) (a : Option Addr) (c : Nat) (w : World) (hk : e.kind = 1) (hs : SmallEd 1048576 e) (hr : ReadO w (.slice a e.set.length c) e.set) :
    Calls Tryz.prog 25 #[.agg #[.int .i64 e.kind, .string e.box, .string e.dst, .slice a e.set.length c, .int .i64 e.how, .int .i64 e.bits, .int .i64 e.since, .string e.text]] w fun x w' => x = .returned (.bool (okE e)) ∧ Mem w w' [] := by
  obtain ⟨y0, h0⟩ : ∃ y, y = nameOkL e.box.data.toList := ⟨_, rfl⟩
  obtain ⟨y1, h1⟩ : ∃ y, y = (true) := ⟨_, rfl⟩
  obtain ⟨y2, h2⟩ : ∃ y, y = ((((((([] == e.dst.toList) && decide (e.set.length = 0)) && decide ((0 : Int) = e.how)) && decide ((0 : Int) = e.bits)) && decide ((0 : Int) = e.since)) && ([] == e.text.toList))) := ⟨_, rfl⟩
  have HZ : Hid (okE e = (y0 && y1 && y2)) := by
    show _ = _
    rw [okE_1 hk, h0, h1, h2]
    try simp
  generalize okE e = Z at *
  have H0 := hide h0
  have H1 := hide h1
  have H2 := hide h2
  have SM := hide hs
  have RS := hide hr
  have M := Mem.start w
  clear h0 h1 h2 hs hr
  rw [hk]
  clear hk
  go_enter Tryz.func25, Tryz.ntmps25
  go_wp2_with fail
  refine (deed1 e a c _).mono ?_
  rintro x w1 ⟨rfl, M2⟩
  have M := Mem.then M2
  clear M2
  go_wp2
  refine mb 18 (fun M => ?_)
  refine tm 0 6 ?_; refine tm 1 7 ?_; refine tm 2 8 ?_; refine tm 3 9 ?_; refine tm 4 10 ?_
  refine tc 5 11 (impl_BoxName_any e.box _ (unhide SM).box) ?_
  rintro x w2 ⟨rfl, hb⟩
  have M := Mem.go hb
  clear hb
  rw [← unhide H0]
  refine tce ?_
  cases y0 with
  | false =>
    refine tm 6 12 ?_; refine tm 7 13 ?_; refine ts 8 14 ?_; refine ts 9 15 ?_; refine tm 10 16 ?_; refine tm 11 17 ?_; refine ts 12 18 ?_; refine ts 13 19 ?_; refine ts 14 20 ?_; refine ts 15 21 ?_; refine tm 16 22 ?_; refine tm 17 2 ?_
    refine td ?_
    go_wp2
    go_ret
    exact ⟨by rw [unhide HZ]; rfl, Mem.end⟩
  | true =>
  refine tm 6 12 ?_; refine tm 7 13 ?_; refine tm 8 14 ?_
  refine tc 9 15 (right1 e a c _ (unhide SM) (unhide RS).mem) ?_
  rintro x w3 ⟨rfl, M2⟩
  have M := Mem.then M2
  clear M2
  obtain rfl : y1 = true := unhide H1
  refine tce ?_
  refine tm 10 16 ?_; refine tm 11 17 ?_; refine tm 12 18 ?_; refine tm 14 20 ?_
  refine tc 13 19 (edit1 e a c _) ?_
  rintro x w4 ⟨rfl, M2⟩
  have M := Mem.then M2
  clear M2
  refine tce ?_
  refine tc 15 21 (sameEdit_any 1 e.box _ _ _ _ _ _ _ _ _ _ _ _ _ _ _ _ _ _ (fun W hb => equal_nil a c e.set.length W (unhide SM).set)) ?_
  rintro x w5 ⟨rfl, M2⟩
  have M := Mem.then M2
  clear M2
  rw [show (decide ((⟨#[]⟩ : ByteArray) = e.dst) && decide (e.set.length = 0) && decide ((0 : Int) = e.how) && decide ((0 : Int) = e.bits) && decide ((0 : Int) = e.since) && decide ((⟨#[]⟩ : ByteArray) = e.text)) = y2 by rw [unhide H2]; simp [str_nil]]
  refine tce ?_
  refine tm 16 22 ?_; refine tm 17 2 ?_
  refine td ?_
  go_wp2
  go_ret
  exact ⟨by rw [unhide HZ]; simp, Mem.end⟩
set_option maxHeartbeats 4000000 in
set_option maxRecDepth 100000 in
theorem okI2 (e : Ed) (a : Option Addr) (c : Nat) (w : World) (hk : e.kind = 2) (hs : SmallEd 1048576 e) (hr : ReadO w (.slice a e.set.length c) e.set) :
    Calls Tryz.prog 25 #[.agg #[.int .i64 e.kind, .string e.box, .string e.dst, .slice a e.set.length c, .int .i64 e.how, .int .i64 e.bits, .int .i64 e.since, .string e.text]] w fun x w' => x = .returned (.bool (okE e)) ∧ Mem w w' [] := by
  obtain ⟨y0, h0⟩ : ∃ y, y = nameOkL e.box.data.toList := ⟨_, rfl⟩
  obtain ⟨y1, h1⟩ : ∃ y, y = (true) := ⟨_, rfl⟩
  obtain ⟨y2, h2⟩ : ∃ y, y = ((((((([] == e.dst.toList) && decide (e.set.length = 0)) && decide ((0 : Int) = e.how)) && decide ((0 : Int) = e.bits)) && decide ((0 : Int) = e.since)) && ([] == e.text.toList))) := ⟨_, rfl⟩
  have HZ : Hid (okE e = (y0 && y1 && y2)) := by
    show _ = _
    rw [okE_2 hk, h0, h1, h2]
    try simp
  generalize okE e = Z at *
  have H0 := hide h0
  have H1 := hide h1
  have H2 := hide h2
  have SM := hide hs
  have RS := hide hr
  have M := Mem.start w
  clear h0 h1 h2 hs hr
  rw [hk]
  clear hk
  go_enter Tryz.func25, Tryz.ntmps25
  go_wp2_with fail
  refine (deed2 e a c _).mono ?_
  rintro x w1 ⟨rfl, M2⟩
  have M := Mem.then M2
  clear M2
  go_wp2
  refine mb 18 (fun M => ?_)
  refine tm 0 6 ?_; refine tm 1 7 ?_; refine tm 2 8 ?_; refine tm 3 9 ?_; refine tm 4 10 ?_
  refine tc 5 11 (impl_BoxName_any e.box _ (unhide SM).box) ?_
  rintro x w2 ⟨rfl, hb⟩
  have M := Mem.go hb
  clear hb
  rw [← unhide H0]
  refine tce ?_
  cases y0 with
  | false =>
    refine tm 6 12 ?_; refine tm 7 13 ?_; refine ts 8 14 ?_; refine ts 9 15 ?_; refine tm 10 16 ?_; refine tm 11 17 ?_; refine ts 12 18 ?_; refine ts 13 19 ?_; refine ts 14 20 ?_; refine ts 15 21 ?_; refine tm 16 22 ?_; refine tm 17 2 ?_
    refine td ?_
    go_wp2
    go_ret
    exact ⟨by rw [unhide HZ]; rfl, Mem.end⟩
  | true =>
  refine tm 6 12 ?_; refine tm 7 13 ?_; refine tm 8 14 ?_
  refine tc 9 15 (right2 e a c _ (unhide SM) (unhide RS).mem) ?_
  rintro x w3 ⟨rfl, M2⟩
  have M := Mem.then M2
  clear M2
  obtain rfl : y1 = true := unhide H1
  refine tce ?_
  refine tm 10 16 ?_; refine tm 11 17 ?_; refine tm 12 18 ?_; refine tm 14 20 ?_
  refine tc 13 19 (edit2 e a c _) ?_
  rintro x w4 ⟨rfl, M2⟩
  have M := Mem.then M2
  clear M2
  refine tce ?_
  refine tc 15 21 (sameEdit_any 2 e.box _ _ _ _ _ _ _ _ _ _ _ _ _ _ _ _ _ _ (fun W hb => equal_nil a c e.set.length W (unhide SM).set)) ?_
  rintro x w5 ⟨rfl, M2⟩
  have M := Mem.then M2
  clear M2
  rw [show (decide ((⟨#[]⟩ : ByteArray) = e.dst) && decide (e.set.length = 0) && decide ((0 : Int) = e.how) && decide ((0 : Int) = e.bits) && decide ((0 : Int) = e.since) && decide ((⟨#[]⟩ : ByteArray) = e.text)) = y2 by rw [unhide H2]; simp [str_nil]]
  refine tce ?_
  refine tm 16 22 ?_; refine tm 17 2 ?_
  refine td ?_
  go_wp2
  go_ret
  exact ⟨by rw [unhide HZ]; simp, Mem.end⟩
set_option maxHeartbeats 4000000 in
set_option maxRecDepth 100000 in
theorem okI3 (e : Ed) (a : Option Addr) (c : Nat) (w : World) (hk : e.kind = 3) (hs : SmallEd 1048576 e) (hr : ReadO w (.slice a e.set.length c) e.set) :
    Calls Tryz.prog 25 #[.agg #[.int .i64 e.kind, .string e.box, .string e.dst, .slice a e.set.length c, .int .i64 e.how, .int .i64 e.bits, .int .i64 e.since, .string e.text]] w fun x w' => x = .returned (.bool (okE e)) ∧ Mem w w' [] := by
  obtain ⟨y0, h0⟩ : ∃ y, y = nameOkL e.box.data.toList := ⟨_, rfl⟩
  obtain ⟨y1, h1⟩ : ∃ y, y = ((flOk e.bits && mailOkL e.text.data.toList)) := ⟨_, rfl⟩
  obtain ⟨y2, h2⟩ : ∃ y, y = ((((([] == e.dst.toList) && decide (e.set.length = 0)) && decide ((0 : Int) = e.how)) && decide ((0 : Int) = e.since))) := ⟨_, rfl⟩
  have HZ : Hid (okE e = (y0 && y1 && y2)) := by
    show _ = _
    rw [okE_3 hk, h0, h1, h2]
    try simp
  generalize okE e = Z at *
  have H0 := hide h0
  have H1 := hide h1
  have H2 := hide h2
  have SM := hide hs
  have RS := hide hr
  have M := Mem.start w
  clear h0 h1 h2 hs hr
  rw [hk]
  clear hk
  go_enter Tryz.func25, Tryz.ntmps25
  go_wp2_with fail
  refine (deed3 e a c _).mono ?_
  rintro x w1 ⟨rfl, M2⟩
  have M := Mem.then M2
  clear M2
  go_wp2
  refine mb 18 (fun M => ?_)
  refine tm 0 6 ?_; refine tm 1 7 ?_; refine tm 2 8 ?_; refine tm 3 9 ?_; refine tm 4 10 ?_
  refine tc 5 11 (impl_BoxName_any e.box _ (unhide SM).box) ?_
  rintro x w2 ⟨rfl, hb⟩
  have M := Mem.go hb
  clear hb
  rw [← unhide H0]
  refine tce ?_
  cases y0 with
  | false =>
    refine tm 6 12 ?_; refine tm 7 13 ?_; refine ts 8 14 ?_; refine ts 9 15 ?_; refine tm 10 16 ?_; refine tm 11 17 ?_; refine ts 12 18 ?_; refine ts 13 19 ?_; refine ts 14 20 ?_; refine ts 15 21 ?_; refine tm 16 22 ?_; refine tm 17 2 ?_
    refine td ?_
    go_wp2
    go_ret
    exact ⟨by rw [unhide HZ]; rfl, Mem.end⟩
  | true =>
  refine tm 6 12 ?_; refine tm 7 13 ?_; refine tm 8 14 ?_
  refine tc 9 15 (right3 e a c _ (unhide SM) (unhide RS).mem) ?_
  rintro x w3 ⟨rfl, M2⟩
  have M := Mem.then M2
  clear M2
  rw [← unhide H1]
  refine tce ?_
  cases y1 with
  | false =>
    refine tm 10 16 ?_; refine tm 11 17 ?_; refine ts 12 18 ?_; refine ts 13 19 ?_; refine ts 14 20 ?_; refine ts 15 21 ?_; refine tm 16 22 ?_; refine tm 17 2 ?_
    refine td ?_
    go_wp2
    go_ret
    exact ⟨by rw [unhide HZ]; rfl, Mem.end⟩
  | true =>
  refine tm 10 16 ?_; refine tm 11 17 ?_; refine tm 12 18 ?_; refine tm 14 20 ?_
  refine tc 13 19 (edit3 e a c _) ?_
  rintro x w4 ⟨rfl, M2⟩
  have M := Mem.then M2
  clear M2
  refine tce ?_
  refine tc 15 21 (sameEdit_any 3 e.box _ _ _ _ _ _ _ _ _ _ _ _ _ _ _ _ _ _ (fun W hb => equal_nil a c e.set.length W (unhide SM).set)) ?_
  rintro x w5 ⟨rfl, M2⟩
  have M := Mem.then M2
  clear M2
  rw [show (decide ((⟨#[]⟩ : ByteArray) = e.dst) && decide (e.set.length = 0) && decide ((0 : Int) = e.how) && decide (e.bits = e.bits) && decide ((0 : Int) = e.since) && decide (e.text = e.text)) = y2 by rw [unhide H2]; simp [str_nil]]
  refine tce ?_
  refine tm 16 22 ?_; refine tm 17 2 ?_
  refine td ?_
  go_wp2
  go_ret
  exact ⟨by rw [unhide HZ]; simp, Mem.end⟩
set_option maxHeartbeats 4000000 in
set_option maxRecDepth 100000 in
theorem okI4 (e : Ed) (a : Option Addr) (c : Nat) (w : World) (hk : e.kind = 4) (hs : SmallEd 1048576 e) (hr : ReadO w (.slice a e.set.length c) e.set) :
    Calls Tryz.prog 25 #[.agg #[.int .i64 e.kind, .string e.box, .string e.dst, .slice a e.set.length c, .int .i64 e.how, .int .i64 e.bits, .int .i64 e.since, .string e.text]] w fun x w' => x = .returned (.bool (okE e)) ∧ Mem w w' [] := by
  obtain ⟨y0, h0⟩ : ∃ y, y = nameOkL e.box.data.toList := ⟨_, rfl⟩
  obtain ⟨y1, h1⟩ : ∃ y, y = ((((okS e.set && inI e.how 1 3) && flOk e.bits) && inI e.since (-1) 100000)) := ⟨_, rfl⟩
  obtain ⟨y2, h2⟩ : ∃ y, y = ((([] == e.dst.toList) && ([] == e.text.toList))) := ⟨_, rfl⟩
  have HZ : Hid (okE e = (y0 && y1 && y2)) := by
    show _ = _
    rw [okE_4 hk, h0, h1, h2]
    try simp
  generalize okE e = Z at *
  have H0 := hide h0
  have H1 := hide h1
  have H2 := hide h2
  have SM := hide hs
  have RS := hide hr
  have M := Mem.start w
  clear h0 h1 h2 hs hr
  rw [hk]
  clear hk
  go_enter Tryz.func25, Tryz.ntmps25
  go_wp2_with fail
  refine (deed4 e a c _).mono ?_
  rintro x w1 ⟨rfl, M2⟩
  have M := Mem.then M2
  clear M2
  go_wp2
  refine mb 18 (fun M => ?_)
  refine tm 0 6 ?_; refine tm 1 7 ?_; refine tm 2 8 ?_; refine tm 3 9 ?_; refine tm 4 10 ?_
  refine tc 5 11 (impl_BoxName_any e.box _ (unhide SM).box) ?_
  rintro x w2 ⟨rfl, hb⟩
  have M := Mem.go hb
  clear hb
  rw [← unhide H0]
  refine tce ?_
  cases y0 with
  | false =>
    refine tm 6 12 ?_; refine tm 7 13 ?_; refine ts 8 14 ?_; refine ts 9 15 ?_; refine tm 10 16 ?_; refine tm 11 17 ?_; refine ts 12 18 ?_; refine ts 13 19 ?_; refine ts 14 20 ?_; refine ts 15 21 ?_; refine tm 16 22 ?_; refine tm 17 2 ?_
    refine td ?_
    go_wp2
    go_ret
    exact ⟨by rw [unhide HZ]; rfl, Mem.end⟩
  | true =>
  refine tm 6 12 ?_; refine tm 7 13 ?_; refine tm 8 14 ?_
  refine tc 9 15 (right4 e a c _ (unhide SM) (unhide RS).mem) ?_
  rintro x w3 ⟨rfl, M2⟩
  have M := Mem.then M2
  clear M2
  rw [← unhide H1]
  refine tce ?_
  cases y1 with
  | false =>
    refine tm 10 16 ?_; refine tm 11 17 ?_; refine ts 12 18 ?_; refine ts 13 19 ?_; refine ts 14 20 ?_; refine ts 15 21 ?_; refine tm 16 22 ?_; refine tm 17 2 ?_
    refine td ?_
    go_wp2
    go_ret
    exact ⟨by rw [unhide HZ]; rfl, Mem.end⟩
  | true =>
  refine tm 10 16 ?_; refine tm 11 17 ?_; refine tm 12 18 ?_; refine tm 14 20 ?_
  refine tc 13 19 (edit4 e a c _) ?_
  rintro x w4 ⟨rfl, M2⟩
  have M := Mem.then M2
  clear M2
  refine tce ?_
  refine tc 15 21 (sameEdit_any 4 e.box _ _ _ _ _ _ _ _ _ _ _ _ _ _ _ _ _ _ (fun W hb => equal_self a c e.set W (unhide SM).set ((unhide RS).mem.up hb))) ?_
  rintro x w5 ⟨rfl, M2⟩
  have M := Mem.then M2
  clear M2
  rw [show (decide ((⟨#[]⟩ : ByteArray) = e.dst) && true && decide (e.how = e.how) && decide (e.bits = e.bits) && decide (e.since = e.since) && decide ((⟨#[]⟩ : ByteArray) = e.text)) = y2 by rw [unhide H2]; simp [str_nil]]
  refine tce ?_
  refine tm 16 22 ?_; refine tm 17 2 ?_
  refine td ?_
  go_wp2
  go_ret
  exact ⟨by rw [unhide HZ]; simp, Mem.end⟩
set_option maxHeartbeats 4000000 in
set_option maxRecDepth 100000 in
theorem okI5 (e : Ed) (a : Option Addr) (c : Nat) (w : World) (hk : e.kind = 5) (hs : SmallEd 1048576 e) (hr : ReadO w (.slice a e.set.length c) e.set) :
    Calls Tryz.prog 25 #[.agg #[.int .i64 e.kind, .string e.box, .string e.dst, .slice a e.set.length c, .int .i64 e.how, .int .i64 e.bits, .int .i64 e.since, .string e.text]] w fun x w' => x = .returned (.bool (okE e)) ∧ Mem w w' [] := by
  obtain ⟨y0, h0⟩ : ∃ y, y = nameOkL e.box.data.toList := ⟨_, rfl⟩
  obtain ⟨y1, h1⟩ : ∃ y, y = (okS e.set) := ⟨_, rfl⟩
  obtain ⟨y2, h2⟩ : ∃ y, y = (((((([] == e.dst.toList) && decide ((0 : Int) = e.how)) && decide ((0 : Int) = e.bits)) && decide ((0 : Int) = e.since)) && ([] == e.text.toList))) := ⟨_, rfl⟩
  have HZ : Hid (okE e = (y0 && y1 && y2)) := by
    show _ = _
    rw [okE_5 hk, h0, h1, h2]
    try simp
  generalize okE e = Z at *
  have H0 := hide h0
  have H1 := hide h1
  have H2 := hide h2
  have SM := hide hs
  have RS := hide hr
  have M := Mem.start w
  clear h0 h1 h2 hs hr
  rw [hk]
  clear hk
  go_enter Tryz.func25, Tryz.ntmps25
  go_wp2_with fail
  refine (deed5 e a c _).mono ?_
  rintro x w1 ⟨rfl, M2⟩
  have M := Mem.then M2
  clear M2
  go_wp2
  refine mb 18 (fun M => ?_)
  refine tm 0 6 ?_; refine tm 1 7 ?_; refine tm 2 8 ?_; refine tm 3 9 ?_; refine tm 4 10 ?_
  refine tc 5 11 (impl_BoxName_any e.box _ (unhide SM).box) ?_
  rintro x w2 ⟨rfl, hb⟩
  have M := Mem.go hb
  clear hb
  rw [← unhide H0]
  refine tce ?_
  cases y0 with
  | false =>
    refine tm 6 12 ?_; refine tm 7 13 ?_; refine ts 8 14 ?_; refine ts 9 15 ?_; refine tm 10 16 ?_; refine tm 11 17 ?_; refine ts 12 18 ?_; refine ts 13 19 ?_; refine ts 14 20 ?_; refine ts 15 21 ?_; refine tm 16 22 ?_; refine tm 17 2 ?_
    refine td ?_
    go_wp2
    go_ret
    exact ⟨by rw [unhide HZ]; rfl, Mem.end⟩
  | true =>
  refine tm 6 12 ?_; refine tm 7 13 ?_; refine tm 8 14 ?_
  refine tc 9 15 (right5 e a c _ (unhide SM) (unhide RS).mem) ?_
  rintro x w3 ⟨rfl, M2⟩
  have M := Mem.then M2
  clear M2
  rw [← unhide H1]
  refine tce ?_
  cases y1 with
  | false =>
    refine tm 10 16 ?_; refine tm 11 17 ?_; refine ts 12 18 ?_; refine ts 13 19 ?_; refine ts 14 20 ?_; refine ts 15 21 ?_; refine tm 16 22 ?_; refine tm 17 2 ?_
    refine td ?_
    go_wp2
    go_ret
    exact ⟨by rw [unhide HZ]; rfl, Mem.end⟩
  | true =>
  refine tm 10 16 ?_; refine tm 11 17 ?_; refine tm 12 18 ?_; refine tm 14 20 ?_
  refine tc 13 19 (edit5 e a c _) ?_
  rintro x w4 ⟨rfl, M2⟩
  have M := Mem.then M2
  clear M2
  refine tce ?_
  refine tc 15 21 (sameEdit_any 5 e.box _ _ _ _ _ _ _ _ _ _ _ _ _ _ _ _ _ _ (fun W hb => equal_self a c e.set W (unhide SM).set ((unhide RS).mem.up hb))) ?_
  rintro x w5 ⟨rfl, M2⟩
  have M := Mem.then M2
  clear M2
  rw [show (decide ((⟨#[]⟩ : ByteArray) = e.dst) && true && decide ((0 : Int) = e.how) && decide ((0 : Int) = e.bits) && decide ((0 : Int) = e.since) && decide ((⟨#[]⟩ : ByteArray) = e.text)) = y2 by rw [unhide H2]; simp [str_nil]]
  refine tce ?_
  refine tm 16 22 ?_; refine tm 17 2 ?_
  refine td ?_
  go_wp2
  go_ret
  exact ⟨by rw [unhide HZ]; simp, Mem.end⟩
set_option maxHeartbeats 4000000 in
set_option maxRecDepth 100000 in
theorem okI6 (e : Ed) (a : Option Addr) (c : Nat) (w : World) (hk : e.kind = 6) (hs : SmallEd 1048576 e) (hr : ReadO w (.slice a e.set.length c) e.set) :
    Calls Tryz.prog 25 #[.agg #[.int .i64 e.kind, .string e.box, .string e.dst, .slice a e.set.length c, .int .i64 e.how, .int .i64 e.bits, .int .i64 e.since, .string e.text]] w fun x w' => x = .returned (.bool (okE e)) ∧ Mem w w' [] := by
  obtain ⟨y0, h0⟩ : ∃ y, y = nameOkL e.box.data.toList := ⟨_, rfl⟩
  obtain ⟨y1, h1⟩ : ∃ y, y = ((okS e.set && nameOkL e.dst.data.toList)) := ⟨_, rfl⟩
  obtain ⟨y2, h2⟩ : ∃ y, y = ((((decide ((0 : Int) = e.how) && decide ((0 : Int) = e.bits)) && decide ((0 : Int) = e.since)) && ([] == e.text.toList))) := ⟨_, rfl⟩
  have HZ : Hid (okE e = (y0 && y1 && y2)) := by
    show _ = _
    rw [okE_6 hk, h0, h1, h2]
    try simp
  generalize okE e = Z at *
  have H0 := hide h0
  have H1 := hide h1
  have H2 := hide h2
  have SM := hide hs
  have RS := hide hr
  have M := Mem.start w
  clear h0 h1 h2 hs hr
  rw [hk]
  clear hk
  go_enter Tryz.func25, Tryz.ntmps25
  go_wp2_with fail
  refine (deed6 e a c _).mono ?_
  rintro x w1 ⟨rfl, M2⟩
  have M := Mem.then M2
  clear M2
  go_wp2
  refine mb 18 (fun M => ?_)
  refine tm 0 6 ?_; refine tm 1 7 ?_; refine tm 2 8 ?_; refine tm 3 9 ?_; refine tm 4 10 ?_
  refine tc 5 11 (impl_BoxName_any e.box _ (unhide SM).box) ?_
  rintro x w2 ⟨rfl, hb⟩
  have M := Mem.go hb
  clear hb
  rw [← unhide H0]
  refine tce ?_
  cases y0 with
  | false =>
    refine tm 6 12 ?_; refine tm 7 13 ?_; refine ts 8 14 ?_; refine ts 9 15 ?_; refine tm 10 16 ?_; refine tm 11 17 ?_; refine ts 12 18 ?_; refine ts 13 19 ?_; refine ts 14 20 ?_; refine ts 15 21 ?_; refine tm 16 22 ?_; refine tm 17 2 ?_
    refine td ?_
    go_wp2
    go_ret
    exact ⟨by rw [unhide HZ]; rfl, Mem.end⟩
  | true =>
  refine tm 6 12 ?_; refine tm 7 13 ?_; refine tm 8 14 ?_
  refine tc 9 15 (right6 e a c _ (unhide SM) (unhide RS).mem) ?_
  rintro x w3 ⟨rfl, M2⟩
  have M := Mem.then M2
  clear M2
  rw [← unhide H1]
  refine tce ?_
  cases y1 with
  | false =>
    refine tm 10 16 ?_; refine tm 11 17 ?_; refine ts 12 18 ?_; refine ts 13 19 ?_; refine ts 14 20 ?_; refine ts 15 21 ?_; refine tm 16 22 ?_; refine tm 17 2 ?_
    refine td ?_
    go_wp2
    go_ret
    exact ⟨by rw [unhide HZ]; rfl, Mem.end⟩
  | true =>
  refine tm 10 16 ?_; refine tm 11 17 ?_; refine tm 12 18 ?_; refine tm 14 20 ?_
  refine tc 13 19 (edit6 e a c _) ?_
  rintro x w4 ⟨rfl, M2⟩
  have M := Mem.then M2
  clear M2
  refine tce ?_
  refine tc 15 21 (sameEdit_any 6 e.box _ _ _ _ _ _ _ _ _ _ _ _ _ _ _ _ _ _ (fun W hb => equal_self a c e.set W (unhide SM).set ((unhide RS).mem.up hb))) ?_
  rintro x w5 ⟨rfl, M2⟩
  have M := Mem.then M2
  clear M2
  rw [show (decide (e.dst = e.dst) && true && decide ((0 : Int) = e.how) && decide ((0 : Int) = e.bits) && decide ((0 : Int) = e.since) && decide ((⟨#[]⟩ : ByteArray) = e.text)) = y2 by rw [unhide H2]; simp [str_nil]]
  refine tce ?_
  refine tm 16 22 ?_; refine tm 17 2 ?_
  refine td ?_
  go_wp2
  go_ret
  exact ⟨by rw [unhide HZ]; simp, Mem.end⟩
set_option maxHeartbeats 4000000 in
set_option maxRecDepth 100000 in
theorem okI7 (e : Ed) (a : Option Addr) (c : Nat) (w : World) (hk : e.kind = 7) (hs : SmallEd 1048576 e) (hr : ReadO w (.slice a e.set.length c) e.set) :
    Calls Tryz.prog 25 #[.agg #[.int .i64 e.kind, .string e.box, .string e.dst, .slice a e.set.length c, .int .i64 e.how, .int .i64 e.bits, .int .i64 e.since, .string e.text]] w fun x w' => x = .returned (.bool (okE e)) ∧ Mem w w' [] := by
  obtain ⟨y0, h0⟩ : ∃ y, y = nameOkL e.box.data.toList := ⟨_, rfl⟩
  obtain ⟨y1, h1⟩ : ∃ y, y = ((okS e.set && nameOkL e.dst.data.toList)) := ⟨_, rfl⟩
  obtain ⟨y2, h2⟩ : ∃ y, y = ((((decide ((0 : Int) = e.how) && decide ((0 : Int) = e.bits)) && decide ((0 : Int) = e.since)) && ([] == e.text.toList))) := ⟨_, rfl⟩
  have HZ : Hid (okE e = (y0 && y1 && y2)) := by
    show _ = _
    rw [okE_7 hk, h0, h1, h2]
    try simp
  generalize okE e = Z at *
  have H0 := hide h0
  have H1 := hide h1
  have H2 := hide h2
  have SM := hide hs
  have RS := hide hr
  have M := Mem.start w
  clear h0 h1 h2 hs hr
  rw [hk]
  clear hk
  go_enter Tryz.func25, Tryz.ntmps25
  go_wp2_with fail
  refine (deed7 e a c _).mono ?_
  rintro x w1 ⟨rfl, M2⟩
  have M := Mem.then M2
  clear M2
  go_wp2
  refine mb 18 (fun M => ?_)
  refine tm 0 6 ?_; refine tm 1 7 ?_; refine tm 2 8 ?_; refine tm 3 9 ?_; refine tm 4 10 ?_
  refine tc 5 11 (impl_BoxName_any e.box _ (unhide SM).box) ?_
  rintro x w2 ⟨rfl, hb⟩
  have M := Mem.go hb
  clear hb
  rw [← unhide H0]
  refine tce ?_
  cases y0 with
  | false =>
    refine tm 6 12 ?_; refine tm 7 13 ?_; refine ts 8 14 ?_; refine ts 9 15 ?_; refine tm 10 16 ?_; refine tm 11 17 ?_; refine ts 12 18 ?_; refine ts 13 19 ?_; refine ts 14 20 ?_; refine ts 15 21 ?_; refine tm 16 22 ?_; refine tm 17 2 ?_
    refine td ?_
    go_wp2
    go_ret
    exact ⟨by rw [unhide HZ]; rfl, Mem.end⟩
  | true =>
  refine tm 6 12 ?_; refine tm 7 13 ?_; refine tm 8 14 ?_
  refine tc 9 15 (right7 e a c _ (unhide SM) (unhide RS).mem) ?_
  rintro x w3 ⟨rfl, M2⟩
  have M := Mem.then M2
  clear M2
  rw [← unhide H1]
  refine tce ?_
  cases y1 with
  | false =>
    refine tm 10 16 ?_; refine tm 11 17 ?_; refine ts 12 18 ?_; refine ts 13 19 ?_; refine ts 14 20 ?_; refine ts 15 21 ?_; refine tm 16 22 ?_; refine tm 17 2 ?_
    refine td ?_
    go_wp2
    go_ret
    exact ⟨by rw [unhide HZ]; rfl, Mem.end⟩
  | true =>
  refine tm 10 16 ?_; refine tm 11 17 ?_; refine tm 12 18 ?_; refine tm 14 20 ?_
  refine tc 13 19 (edit7 e a c _) ?_
  rintro x w4 ⟨rfl, M2⟩
  have M := Mem.then M2
  clear M2
  refine tce ?_
  refine tc 15 21 (sameEdit_any 7 e.box _ _ _ _ _ _ _ _ _ _ _ _ _ _ _ _ _ _ (fun W hb => equal_self a c e.set W (unhide SM).set ((unhide RS).mem.up hb))) ?_
  rintro x w5 ⟨rfl, M2⟩
  have M := Mem.then M2
  clear M2
  rw [show (decide (e.dst = e.dst) && true && decide ((0 : Int) = e.how) && decide ((0 : Int) = e.bits) && decide ((0 : Int) = e.since) && decide ((⟨#[]⟩ : ByteArray) = e.text)) = y2 by rw [unhide H2]; simp [str_nil]]
  refine tce ?_
  refine tm 16 22 ?_; refine tm 17 2 ?_
  refine td ?_
  go_wp2
  go_ret
  exact ⟨by rw [unhide HZ]; simp, Mem.end⟩
set_option maxHeartbeats 4000000 in
set_option maxRecDepth 100000 in
theorem okI8 (e : Ed) (a : Option Addr) (c : Nat) (w : World) (hk : e.kind = 8) (hs : SmallEd 1048576 e) (hr : ReadO w (.slice a e.set.length c) e.set) :
    Calls Tryz.prog 25 #[.agg #[.int .i64 e.kind, .string e.box, .string e.dst, .slice a e.set.length c, .int .i64 e.how, .int .i64 e.bits, .int .i64 e.since, .string e.text]] w fun x w' => x = .returned (.bool (okE e)) ∧ Mem w w' [] := by
  obtain ⟨y0, h0⟩ : ∃ y, y = nameOkL e.box.data.toList := ⟨_, rfl⟩
  obtain ⟨y1, h1⟩ : ∃ y, y = (inI e.since 0 100000) := ⟨_, rfl⟩
  obtain ⟨y2, h2⟩ : ∃ y, y = (((((([] == e.dst.toList) && decide (e.set.length = 0)) && decide ((0 : Int) = e.how)) && decide ((0 : Int) = e.bits)) && ([] == e.text.toList))) := ⟨_, rfl⟩
  have HZ : Hid (okE e = (y0 && y1 && y2)) := by
    show _ = _
    rw [okE_8 hk, h0, h1, h2]
    try simp
  generalize okE e = Z at *
  have H0 := hide h0
  have H1 := hide h1
  have H2 := hide h2
  have SM := hide hs
  have RS := hide hr
  have M := Mem.start w
  clear h0 h1 h2 hs hr
  rw [hk]
  clear hk
  go_enter Tryz.func25, Tryz.ntmps25
  go_wp2_with fail
  refine (deed8 e a c _).mono ?_
  rintro x w1 ⟨rfl, M2⟩
  have M := Mem.then M2
  clear M2
  go_wp2
  refine mb 18 (fun M => ?_)
  refine tm 0 6 ?_; refine tm 1 7 ?_; refine tm 2 8 ?_; refine tm 3 9 ?_; refine tm 4 10 ?_
  refine tc 5 11 (impl_BoxName_any e.box _ (unhide SM).box) ?_
  rintro x w2 ⟨rfl, hb⟩
  have M := Mem.go hb
  clear hb
  rw [← unhide H0]
  refine tce ?_
  cases y0 with
  | false =>
    refine tm 6 12 ?_; refine tm 7 13 ?_; refine ts 8 14 ?_; refine ts 9 15 ?_; refine tm 10 16 ?_; refine tm 11 17 ?_; refine ts 12 18 ?_; refine ts 13 19 ?_; refine ts 14 20 ?_; refine ts 15 21 ?_; refine tm 16 22 ?_; refine tm 17 2 ?_
    refine td ?_
    go_wp2
    go_ret
    exact ⟨by rw [unhide HZ]; rfl, Mem.end⟩
  | true =>
  refine tm 6 12 ?_; refine tm 7 13 ?_; refine tm 8 14 ?_
  refine tc 9 15 (right8 e a c _ (unhide SM) (unhide RS).mem) ?_
  rintro x w3 ⟨rfl, M2⟩
  have M := Mem.then M2
  clear M2
  rw [← unhide H1]
  refine tce ?_
  cases y1 with
  | false =>
    refine tm 10 16 ?_; refine tm 11 17 ?_; refine ts 12 18 ?_; refine ts 13 19 ?_; refine ts 14 20 ?_; refine ts 15 21 ?_; refine tm 16 22 ?_; refine tm 17 2 ?_
    refine td ?_
    go_wp2
    go_ret
    exact ⟨by rw [unhide HZ]; rfl, Mem.end⟩
  | true =>
  refine tm 10 16 ?_; refine tm 11 17 ?_; refine tm 12 18 ?_; refine tm 14 20 ?_
  refine tc 13 19 (edit8 e a c _) ?_
  rintro x w4 ⟨rfl, M2⟩
  have M := Mem.then M2
  clear M2
  refine tce ?_
  refine tc 15 21 (sameEdit_any 8 e.box _ _ _ _ _ _ _ _ _ _ _ _ _ _ _ _ _ _ (fun W hb => equal_nil a c e.set.length W (unhide SM).set)) ?_
  rintro x w5 ⟨rfl, M2⟩
  have M := Mem.then M2
  clear M2
  rw [show (decide ((⟨#[]⟩ : ByteArray) = e.dst) && decide (e.set.length = 0) && decide ((0 : Int) = e.how) && decide ((0 : Int) = e.bits) && decide (e.since = e.since) && decide ((⟨#[]⟩ : ByteArray) = e.text)) = y2 by rw [unhide H2]; simp [str_nil]]
  refine tce ?_
  refine tm 16 22 ?_; refine tm 17 2 ?_
  refine td ?_
  go_wp2
  go_ret
  exact ⟨by rw [unhide HZ]; simp, Mem.end⟩
set_option maxHeartbeats 4000000 in
set_option maxRecDepth 100000 in
theorem okI0 (e : Ed) (a : Option Addr) (c : Nat) (w : World) (hk : inI e.kind 1 8 = false) :
    Calls Tryz.prog 25 #[.agg #[.int .i64 e.kind, .string e.box, .string e.dst, .slice a e.set.length c, .int .i64 e.how, .int .i64 e.bits, .int .i64 e.since, .string e.text]] w fun x w' => x = .returned (.bool false) ∧ Mem w w' [] := by
  have M := Mem.start w
  have hn : ∀ k : Int, 1 ≤ k → k ≤ 8 → (e.kind == k) = false := fun k h1 h2 => beq_eq_false_iff_ne.2 fun h => by rw [h] at hk; rw [inI_iff.2 ⟨h1, h2⟩] at hk; cases hk
  have n1 := hn 1 (by decide) (by decide)
  have n2 := hn 2 (by decide) (by decide)
  have n3 := hn 3 (by decide) (by decide)
  have n4 := hn 4 (by decide) (by decide)
  have n5 := hn 5 (by decide) (by decide)
  have n6 := hn 6 (by decide) (by decide)
  have n7 := hn 7 (by decide) (by decide)
  have n8 := hn 8 (by decide) (by decide)
  clear hn hk
  have D : ∀ W, Calls Tryz.prog 55 #[.agg #[.int .i64 e.kind, .string e.box, .string e.dst, .slice a e.set.length c, .int .i64 e.how, .int .i64 e.bits, .int .i64 e.since, .string e.text]] W fun x w' => x = .returned .nilIface ∧ Mem W w' [] := fun W => by
    clear M
    have M := Mem.start W
    go_enter Tryz.func55, Tryz.ntmps55
    go_wp2
    go_ret
    exact ⟨rfl, Mem.end⟩
  have D := hide D
  clear n1 n2 n3 n4 n5 n6 n7 n8
  go_enter Tryz.func25, Tryz.ntmps25
  go_wp2_with fail
  refine (unhide D _).mono ?_
  rintro x w1 ⟨rfl, M2⟩
  have M := Mem.then M2
  clear M2
  go_wp2
  refine mb 18 (fun M => ?_)
  refine tm 0 6 ?_; refine tm 1 7 ?_; refine tm 2 8 ?_; refine ts 3 9 ?_; refine ts 4 10 ?_; refine ts 5 11 ?_; refine tm 6 12 ?_; refine tm 7 13 ?_; refine ts 8 14 ?_; refine ts 9 15 ?_; refine tm 10 16 ?_; refine tm 11 17 ?_; refine ts 12 18 ?_; refine ts 13 19 ?_; refine ts 14 20 ?_; refine ts 15 21 ?_; refine tm 16 22 ?_; refine tm 17 2 ?_
  refine td ?_
  go_wp2
  go_ret
  exact ⟨rfl, Mem.end⟩
theorem impl_EditOk_mem (e : Ed) (a : Option Addr) (c : Nat) (w : World) (hs : SmallEd 1048576 e) (hr : ReadO w (.slice a e.set.length c) e.set) :
    Calls Tryz.prog 25 #[.agg #[.int .i64 e.kind, .string e.box, .string e.dst, .slice a e.set.length c, .int .i64 e.how, .int .i64 e.bits, .int .i64 e.since, .string e.text]] w fun x w' => x = .returned (.bool (okE e)) ∧ Mem w w' [] := by
  cases hk : inI e.kind 1 8 with
  | false => rw [okE_no hk]; exact okI0 e a c w hk
  | true =>
    rcases kinds hk with h | h | h | h | h | h | h | h
    · exact okI1 e a c w h hs hr
    · exact okI2 e a c w h hs hr
    · exact okI3 e a c w h hs hr
    · exact okI4 e a c w h hs hr
    · exact okI5 e a c w h hs hr
    · exact okI6 e a c w h hs hr
    · exact okI7 e a c w h hs hr
    · exact okI8 e a c w h hs hr
end Go.Proofs.YtocaljbimhjmgaaGreatDoor
