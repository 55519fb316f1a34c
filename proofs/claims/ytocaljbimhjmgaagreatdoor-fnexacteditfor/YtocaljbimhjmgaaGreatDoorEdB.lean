/- Several texts in one. -/
import Derived.Test.YtocaljbimhjmgaaGreatDoorEpA
import Derived.Test.YtocaljbimhjmgaaGreatDoorMmA
import Derived.Test.YtocaljbimhjmgaaGreatDoorIsA
import Derived.Test.YtocaljbimhjmgaaGreatDoorFlB
import Derived.Test.YtocaljbimhjmgaaGreatDoorRuA
import Derived.Test.YtocaljbimhjmgaaGreatDoorEdA
namespace Go.Proofs.YtocaljbimhjmgaaGreatDoor
open Go.RowKit
open Plain
set_option linter.unusedVariables false
set_option linter.unusedSimpArgs false
attribute [local go_sem] cell_of frozen_of

set_option maxHeartbeats 4000000 in
set_option maxRecDepth 100000 in
theorem deed1 (e : Ed) (a : Option Addr) (c : Nat) (w : World) :
    Calls Tryz.prog 55 #[.agg #[.int .i64 1, .string e.box, .string e.dst, .slice a e.set.length c, .int .i64 e.how, .int .i64 e.bits, .int .i64 e.since, .string e.text]] w fun x w' => x = .returned (.iface 97 (.agg #[.string e.box])) ∧ Mem w w' [] := by
  have M := Mem.start w
  go_enter Tryz.func55, Tryz.ntmps55
  go_wp2
  go_ret
  exact ⟨rfl, Mem.end⟩
set_option maxHeartbeats 4000000 in
set_option maxRecDepth 100000 in
theorem edit1 (e : Ed) (a : Option Addr) (c : Nat) (w : World) :
    Calls Tryz.prog 167 #[.agg #[.string e.box]] w fun x w' => x = .returned (.agg #[.int .i64 1, .string e.box, .string ⟨#[]⟩, .slice none 0 0, .int .i64 0, .int .i64 0, .int .i64 0, .string ⟨#[]⟩]) ∧ Mem w w' [] := by
  have M := Mem.start w
  go_enter Tryz.func167, Tryz.ntmps167
  go_wp2
  refine bodyPost_ret (by simp [results, Tryz.results167, go_sem]; try rfl) rfl ?_
  exact ⟨rfl, Mem.end⟩
set_option maxHeartbeats 4000000 in
set_option maxRecDepth 100000 in
theorem deed2 (e : Ed) (a : Option Addr) (c : Nat) (w : World) :
    Calls Tryz.prog 55 #[.agg #[.int .i64 2, .string e.box, .string e.dst, .slice a e.set.length c, .int .i64 e.how, .int .i64 e.bits, .int .i64 e.since, .string e.text]] w fun x w' => x = .returned (.iface 98 (.agg #[.string e.box])) ∧ Mem w w' [] := by
  have M := Mem.start w
  go_enter Tryz.func55, Tryz.ntmps55
  go_wp2
  go_ret
  exact ⟨rfl, Mem.end⟩
set_option maxHeartbeats 4000000 in
set_option maxRecDepth 100000 in
theorem edit2 (e : Ed) (a : Option Addr) (c : Nat) (w : World) :
    Calls Tryz.prog 169 #[.agg #[.string e.box]] w fun x w' => x = .returned (.agg #[.int .i64 2, .string e.box, .string ⟨#[]⟩, .slice none 0 0, .int .i64 0, .int .i64 0, .int .i64 0, .string ⟨#[]⟩]) ∧ Mem w w' [] := by
  have M := Mem.start w
  go_enter Tryz.func169, Tryz.ntmps169
  go_wp2
  refine bodyPost_ret (by simp [results, Tryz.results169, go_sem]; try rfl) rfl ?_
  exact ⟨rfl, Mem.end⟩
set_option maxHeartbeats 4000000 in
set_option maxRecDepth 100000 in
theorem deed3 (e : Ed) (a : Option Addr) (c : Nat) (w : World) :
    Calls Tryz.prog 55 #[.agg #[.int .i64 3, .string e.box, .string e.dst, .slice a e.set.length c, .int .i64 e.how, .int .i64 e.bits, .int .i64 e.since, .string e.text]] w fun x w' => x = .returned (.iface 100 (.agg #[.string e.box, .int .i64 e.bits, .string e.text])) ∧ Mem w w' [] := by
  have M := Mem.start w
  go_enter Tryz.func55, Tryz.ntmps55
  go_wp2
  go_ret
  exact ⟨rfl, Mem.end⟩
set_option maxHeartbeats 4000000 in
set_option maxRecDepth 100000 in
theorem edit3 (e : Ed) (a : Option Addr) (c : Nat) (w : World) :
    Calls Tryz.prog 171 #[.agg #[.string e.box, .int .i64 e.bits, .string e.text]] w fun x w' => x = .returned (.agg #[.int .i64 3, .string e.box, .string ⟨#[]⟩, .slice none 0 0, .int .i64 0, .int .i64 e.bits, .int .i64 0, .string e.text]) ∧ Mem w w' [] := by
  have M := Mem.start w
  go_enter Tryz.func171, Tryz.ntmps171
  go_wp2
  refine bodyPost_ret (by simp [results, Tryz.results171, go_sem]; try rfl) rfl ?_
  exact ⟨rfl, Mem.end⟩
set_option maxHeartbeats 4000000 in
set_option maxRecDepth 100000 in
theorem deed4 (e : Ed) (a : Option Addr) (c : Nat) (w : World) :
    Calls Tryz.prog 55 #[.agg #[.int .i64 4, .string e.box, .string e.dst, .slice a e.set.length c, .int .i64 e.how, .int .i64 e.bits, .int .i64 e.since, .string e.text]] w fun x w' => x = .returned (.iface 102 (.agg #[.string e.box, .slice a e.set.length c, .int .i64 e.how, .int .i64 e.bits, .int .i64 e.since])) ∧ Mem w w' [] := by
  have M := Mem.start w
  go_enter Tryz.func55, Tryz.ntmps55
  go_wp2
  go_ret
  exact ⟨rfl, Mem.end⟩
set_option maxHeartbeats 4000000 in
set_option maxRecDepth 100000 in
theorem edit4 (e : Ed) (a : Option Addr) (c : Nat) (w : World) :
    Calls Tryz.prog 175 #[.agg #[.string e.box, .slice a e.set.length c, .int .i64 e.how, .int .i64 e.bits, .int .i64 e.since]] w fun x w' => x = .returned (.agg #[.int .i64 4, .string e.box, .string ⟨#[]⟩, .slice a e.set.length c, .int .i64 e.how, .int .i64 e.bits, .int .i64 e.since, .string ⟨#[]⟩]) ∧ Mem w w' [] := by
  have M := Mem.start w
  go_enter Tryz.func175, Tryz.ntmps175
  go_wp2
  refine bodyPost_ret (by simp [results, Tryz.results175, go_sem]; try rfl) rfl ?_
  exact ⟨rfl, Mem.end⟩
set_option maxHeartbeats 4000000 in
set_option maxRecDepth 100000 in
theorem deed5 (e : Ed) (a : Option Addr) (c : Nat) (w : World) :
    Calls Tryz.prog 55 #[.agg #[.int .i64 5, .string e.box, .string e.dst, .slice a e.set.length c, .int .i64 e.how, .int .i64 e.bits, .int .i64 e.since, .string e.text]] w fun x w' => x = .returned (.iface 104 (.agg #[.string e.box, .slice a e.set.length c])) ∧ Mem w w' [] := by
  have M := Mem.start w
  go_enter Tryz.func55, Tryz.ntmps55
  go_wp2
  go_ret
  exact ⟨rfl, Mem.end⟩
set_option maxHeartbeats 4000000 in
set_option maxRecDepth 100000 in
theorem edit5 (e : Ed) (a : Option Addr) (c : Nat) (w : World) :
    Calls Tryz.prog 178 #[.agg #[.string e.box, .slice a e.set.length c]] w fun x w' => x = .returned (.agg #[.int .i64 5, .string e.box, .string ⟨#[]⟩, .slice a e.set.length c, .int .i64 0, .int .i64 0, .int .i64 0, .string ⟨#[]⟩]) ∧ Mem w w' [] := by
  have M := Mem.start w
  go_enter Tryz.func178, Tryz.ntmps178
  go_wp2
  refine bodyPost_ret (by simp [results, Tryz.results178, go_sem]; try rfl) rfl ?_
  exact ⟨rfl, Mem.end⟩
set_option maxHeartbeats 4000000 in
set_option maxRecDepth 100000 in
theorem deed6 (e : Ed) (a : Option Addr) (c : Nat) (w : World) :
    Calls Tryz.prog 55 #[.agg #[.int .i64 6, .string e.box, .string e.dst, .slice a e.set.length c, .int .i64 e.how, .int .i64 e.bits, .int .i64 e.since, .string e.text]] w fun x w' => x = .returned (.iface 106 (.agg #[.string e.box, .slice a e.set.length c, .string e.dst])) ∧ Mem w w' [] := by
  have M := Mem.start w
  go_enter Tryz.func55, Tryz.ntmps55
  go_wp2
  go_ret
  exact ⟨rfl, Mem.end⟩
set_option maxHeartbeats 4000000 in
set_option maxRecDepth 100000 in
theorem edit6 (e : Ed) (a : Option Addr) (c : Nat) (w : World) :
    Calls Tryz.prog 180 #[.agg #[.string e.box, .slice a e.set.length c, .string e.dst]] w fun x w' => x = .returned (.agg #[.int .i64 6, .string e.box, .string e.dst, .slice a e.set.length c, .int .i64 0, .int .i64 0, .int .i64 0, .string ⟨#[]⟩]) ∧ Mem w w' [] := by
  have M := Mem.start w
  go_enter Tryz.func180, Tryz.ntmps180
  go_wp2
  refine bodyPost_ret (by simp [results, Tryz.results180, go_sem]; try rfl) rfl ?_
  exact ⟨rfl, Mem.end⟩
set_option maxHeartbeats 4000000 in
set_option maxRecDepth 100000 in
theorem deed7 (e : Ed) (a : Option Addr) (c : Nat) (w : World) :
    Calls Tryz.prog 55 #[.agg #[.int .i64 7, .string e.box, .string e.dst, .slice a e.set.length c, .int .i64 e.how, .int .i64 e.bits, .int .i64 e.since, .string e.text]] w fun x w' => x = .returned (.iface 107 (.agg #[.string e.box, .slice a e.set.length c, .string e.dst])) ∧ Mem w w' [] := by
  have M := Mem.start w
  go_enter Tryz.func55, Tryz.ntmps55
  go_wp2
  go_ret
  exact ⟨rfl, Mem.end⟩
set_option maxHeartbeats 4000000 in
set_option maxRecDepth 100000 in
theorem edit7 (e : Ed) (a : Option Addr) (c : Nat) (w : World) :
    Calls Tryz.prog 182 #[.agg #[.string e.box, .slice a e.set.length c, .string e.dst]] w fun x w' => x = .returned (.agg #[.int .i64 7, .string e.box, .string e.dst, .slice a e.set.length c, .int .i64 0, .int .i64 0, .int .i64 0, .string ⟨#[]⟩]) ∧ Mem w w' [] := by
  have M := Mem.start w
  go_enter Tryz.func182, Tryz.ntmps182
  go_wp2
  refine bodyPost_ret (by simp [results, Tryz.results182, go_sem]; try rfl) rfl ?_
  exact ⟨rfl, Mem.end⟩
set_option maxHeartbeats 4000000 in
set_option maxRecDepth 100000 in
theorem deed8 (e : Ed) (a : Option Addr) (c : Nat) (w : World) :
    Calls Tryz.prog 55 #[.agg #[.int .i64 8, .string e.box, .string e.dst, .slice a e.set.length c, .int .i64 e.how, .int .i64 e.bits, .int .i64 e.since, .string e.text]] w fun x w' => x = .returned (.iface 109 (.agg #[.string e.box, .int .i64 e.since])) ∧ Mem w w' [] := by
  have M := Mem.start w
  go_enter Tryz.func55, Tryz.ntmps55
  go_wp2
  go_ret
  exact ⟨rfl, Mem.end⟩
set_option maxHeartbeats 4000000 in
set_option maxRecDepth 100000 in
theorem edit8 (e : Ed) (a : Option Addr) (c : Nat) (w : World) :
    Calls Tryz.prog 184 #[.agg #[.string e.box, .int .i64 e.since]] w fun x w' => x = .returned (.agg #[.int .i64 8, .string e.box, .string ⟨#[]⟩, .slice none 0 0, .int .i64 0, .int .i64 0, .int .i64 e.since, .string ⟨#[]⟩]) ∧ Mem w w' [] := by
  have M := Mem.start w
  go_enter Tryz.func184, Tryz.ntmps184
  go_wp2
  refine bodyPost_ret (by simp [results, Tryz.results184, go_sem]; try rfl) rfl ?_
  exact ⟨rfl, Mem.end⟩
theorem howM_any (how : Int) (w : World) : Calls Tryz.prog 177 #[.int .i64 how] w fun e w' => e = .returned (.bool (inI how 1 3)) ∧ w' = w := by
  by_cases h1 : how = 1
  · subst h1
    rw [show inI 1 1 3 = true from rfl]
    go_enter Tryz.func177, Tryz.ntmps177
    go_wp2
    go_ret
    exact ⟨rfl, rfl⟩
  · have d1 : (how == 1) = false := beq_eq_false_iff_ne.2 h1
    by_cases h2 : how = 2
    · subst h2
      rw [show inI 2 1 3 = true from rfl]
      go_enter Tryz.func177, Tryz.ntmps177
      go_wp2
      go_ret
      exact ⟨rfl, rfl⟩
    · have d2 : (how == 2) = false := beq_eq_false_iff_ne.2 h2
      by_cases h3 : how = 3
      · subst h3
        rw [show inI 3 1 3 = true from rfl]
        go_enter Tryz.func177, Tryz.ntmps177
        go_wp2
        go_ret
        exact ⟨rfl, rfl⟩
      · have d3 : (how == 3) = false := beq_eq_false_iff_ne.2 h3
        have e : inI how 1 3 = false := by
          cases hq : inI how 1 3 with
          | false => rfl
          | true => have := inI_iff.1 hq; omega
        rw [e]
        clear h1 h2 h3 e
        go_enter Tryz.func177, Tryz.ntmps177
        go_wp2
        go_ret
        exact ⟨rfl, rfl⟩
set_option maxHeartbeats 4000000 in
set_option maxRecDepth 100000 in
theorem right1 (e : Ed) (a : Option Addr) (c : Nat) (w : World) (hs : SmallEd 1048576 e) (hr : ReadO w (.slice a e.set.length c) e.set) :
    Calls Tryz.prog 168 #[.agg #[.string e.box]] w fun x w' => x = .returned (.bool (true)) ∧ Mem w w' [] := by
  have SM := hide hs
  have RS := hide hr
  have M := Mem.start w
  clear hs hr
  go_enter Tryz.func168, Tryz.ntmps168
  go_wp2
  go_ret
  exact ⟨rfl, Mem.end⟩
set_option maxHeartbeats 4000000 in
set_option maxRecDepth 100000 in
theorem right2 (e : Ed) (a : Option Addr) (c : Nat) (w : World) (hs : SmallEd 1048576 e) (hr : ReadO w (.slice a e.set.length c) e.set) :
    Calls Tryz.prog 170 #[.agg #[.string e.box]] w fun x w' => x = .returned (.bool (true)) ∧ Mem w w' [] := by
  have SM := hide hs
  have RS := hide hr
  have M := Mem.start w
  clear hs hr
  go_enter Tryz.func170, Tryz.ntmps170
  go_wp2
  go_ret
  exact ⟨rfl, Mem.end⟩
set_option maxHeartbeats 4000000 in
set_option maxRecDepth 100000 in
theorem right3 (e : Ed) (a : Option Addr) (c : Nat) (w : World) (hs : SmallEd 1048576 e) (hr : ReadO w (.slice a e.set.length c) e.set) :
    Calls Tryz.prog 172 #[.agg #[.string e.box, .int .i64 e.bits, .string e.text]] w fun x w' => x = .returned (.bool ((flOk e.bits && mailOkL e.text.data.toList))) ∧ Mem w w' [] := by
  have SM := hide hs
  have RS := hide hr
  have M := Mem.start w
  clear hs hr
  go_enter Tryz.func172, Tryz.ntmps172
  go_wp2_with fail
  refine (impl_FlagsOk_any e.bits _).mono ?_
  rintro x w1 ⟨rfl, rfl⟩
  cases h0 : flOk e.bits with
  | false =>
    go_wp2
    go_ret
    exact ⟨by simp [h0], Mem.end⟩
  | true =>
  go_wp2_with fail
  refine (impl_MailOk_any e.text _ (unhide SM).text).mono ?_
  rintro x w2 ⟨rfl, hb⟩
  have M := Mem.go hb
  clear hb
  go_wp2
  go_ret
  exact ⟨by simp [h0], Mem.end⟩
set_option maxHeartbeats 4000000 in
set_option maxRecDepth 100000 in
theorem right4 (e : Ed) (a : Option Addr) (c : Nat) (w : World) (hs : SmallEd 1048576 e) (hr : ReadO w (.slice a e.set.length c) e.set) :
    Calls Tryz.prog 176 #[.agg #[.string e.box, .slice a e.set.length c, .int .i64 e.how, .int .i64 e.bits, .int .i64 e.since]] w fun x w' => x = .returned (.bool ((((okS e.set && inI e.how 1 3) && flOk e.bits) && inI e.since (-1) 100000))) ∧ Mem w w' [] := by
  have SM := hide hs
  have RS := hide hr
  have M := Mem.start w
  clear hs hr
  go_enter Tryz.func176, Tryz.ntmps176
  go_wp2_with fail
  refine (impl_SetOk_any e.set _ _ (unhide SM).set ((unhide RS).up (Mem.here _))).mono ?_
  rintro x w1 ⟨rfl, hb⟩
  have M := Mem.go hb
  clear hb
  cases h0 : okS e.set with
  | false =>
    go_wp2
    go_ret
    exact ⟨by simp [h0], Mem.end⟩
  | true =>
  go_wp2_with fail
  refine (howM_any e.how _).mono ?_
  rintro x w2 ⟨rfl, rfl⟩
  cases h1 : inI e.how 1 3 with
  | false =>
    go_wp2
    go_ret
    exact ⟨by simp [h0, h1], Mem.end⟩
  | true =>
  go_wp2_with fail
  refine (impl_FlagsOk_any e.bits _).mono ?_
  rintro x w3 ⟨rfl, rfl⟩
  cases h2 : flOk e.bits with
  | false =>
    go_wp2
    go_ret
    exact ⟨by simp [h0, h1, h2], Mem.end⟩
  | true =>
  go_wp2_with fail
  refine (impl_within_any e.since (-1) 100000 _).mono ?_
  rintro x w4 ⟨rfl, rfl⟩
  go_wp2
  go_ret
  exact ⟨by simp [h0, h1, h2], Mem.end⟩
set_option maxHeartbeats 4000000 in
set_option maxRecDepth 100000 in
theorem right5 (e : Ed) (a : Option Addr) (c : Nat) (w : World) (hs : SmallEd 1048576 e) (hr : ReadO w (.slice a e.set.length c) e.set) :
    Calls Tryz.prog 179 #[.agg #[.string e.box, .slice a e.set.length c]] w fun x w' => x = .returned (.bool (okS e.set)) ∧ Mem w w' [] := by
  have SM := hide hs
  have RS := hide hr
  have M := Mem.start w
  clear hs hr
  go_enter Tryz.func179, Tryz.ntmps179
  go_wp2_with fail
  refine (impl_SetOk_any e.set _ _ (unhide SM).set ((unhide RS).up (Mem.here _))).mono ?_
  rintro x w1 ⟨rfl, hb⟩
  have M := Mem.go hb
  clear hb
  go_wp2
  go_ret
  exact ⟨rfl, Mem.end⟩
set_option maxHeartbeats 4000000 in
set_option maxRecDepth 100000 in
theorem right6 (e : Ed) (a : Option Addr) (c : Nat) (w : World) (hs : SmallEd 1048576 e) (hr : ReadO w (.slice a e.set.length c) e.set) :
    Calls Tryz.prog 181 #[.agg #[.string e.box, .slice a e.set.length c, .string e.dst]] w fun x w' => x = .returned (.bool ((okS e.set && nameOkL e.dst.data.toList))) ∧ Mem w w' [] := by
  have SM := hide hs
  have RS := hide hr
  have M := Mem.start w
  clear hs hr
  go_enter Tryz.func181, Tryz.ntmps181
  go_wp2_with fail
  refine (impl_SetOk_any e.set _ _ (unhide SM).set ((unhide RS).up (Mem.here _))).mono ?_
  rintro x w1 ⟨rfl, hb⟩
  have M := Mem.go hb
  clear hb
  cases h0 : okS e.set with
  | false =>
    go_wp2
    go_ret
    exact ⟨by simp [h0], Mem.end⟩
  | true =>
  go_wp2_with fail
  refine (impl_BoxName_any e.dst _ (unhide SM).dst).mono ?_
  rintro x w2 ⟨rfl, hb⟩
  have M := Mem.go hb
  clear hb
  go_wp2
  go_ret
  exact ⟨by simp [h0], Mem.end⟩
set_option maxHeartbeats 4000000 in
set_option maxRecDepth 100000 in
theorem right7 (e : Ed) (a : Option Addr) (c : Nat) (w : World) (hs : SmallEd 1048576 e) (hr : ReadO w (.slice a e.set.length c) e.set) :
    Calls Tryz.prog 183 #[.agg #[.string e.box, .slice a e.set.length c, .string e.dst]] w fun x w' => x = .returned (.bool ((okS e.set && nameOkL e.dst.data.toList))) ∧ Mem w w' [] := by
  have SM := hide hs
  have RS := hide hr
  have M := Mem.start w
  clear hs hr
  go_enter Tryz.func183, Tryz.ntmps183
  go_wp2_with fail
  refine (impl_SetOk_any e.set _ _ (unhide SM).set ((unhide RS).up (Mem.here _))).mono ?_
  rintro x w1 ⟨rfl, hb⟩
  have M := Mem.go hb
  clear hb
  cases h0 : okS e.set with
  | false =>
    go_wp2
    go_ret
    exact ⟨by simp [h0], Mem.end⟩
  | true =>
  go_wp2_with fail
  refine (impl_BoxName_any e.dst _ (unhide SM).dst).mono ?_
  rintro x w2 ⟨rfl, hb⟩
  have M := Mem.go hb
  clear hb
  go_wp2
  go_ret
  exact ⟨by simp [h0], Mem.end⟩
set_option maxHeartbeats 4000000 in
set_option maxRecDepth 100000 in
theorem right8 (e : Ed) (a : Option Addr) (c : Nat) (w : World) (hs : SmallEd 1048576 e) (hr : ReadO w (.slice a e.set.length c) e.set) :
    Calls Tryz.prog 185 #[.agg #[.string e.box, .int .i64 e.since]] w fun x w' => x = .returned (.bool (inI e.since 0 100000)) ∧ Mem w w' [] := by
  have SM := hide hs
  have RS := hide hr
  have M := Mem.start w
  clear hs hr
  go_enter Tryz.func185, Tryz.ntmps185
  go_wp2_with fail
  refine (impl_within_any e.since 0 100000 _).mono ?_
  rintro x w1 ⟨rfl, rfl⟩
  go_wp2
  go_ret
  exact ⟨rfl, Mem.end⟩
end Go.Proofs.YtocaljbimhjmgaaGreatDoor

namespace Go.Proofs.YtocaljbimhjmgaaGreatDoor
open Go.RowKit Go.ChangeShapes Go.WideShapes Go.ChangeAt Go.Deep
open Plain
set_option linter.unusedVariables false
set_option linter.unusedSimpArgs false

set_option maxHeartbeats 4000000 in
set_option maxRecDepth 100000 in
theorem equal_self (a : Option Addr) (c : Nat) (l : List Rg) (w : World) (hs : l.length ≤ 1048576) (h : ReadO w (.slice a l.length c) l) :
    Calls Tryz.prog 70 #[.slice a l.length c, .slice a l.length c] w fun x w' => x = .returned (.bool true) ∧ Below w.heap.size w w' := by
  obtain ⟨n, hn⟩ : ∃ n, n = l.length := ⟨_, rfl⟩
  have HO := hide h
  have HN := hide hn
  rw [← hn] at hs ⊢
  clear h hn
  go_enter Tryz.func70, Tryz.ntmps70
  go_wp2
  go_loopw [13] (fun i wr => ∃ k : Nat, k ≤ n ∧ i = .int .i64 k ∧ Below w.heap.size w wr) (fun i _ => n - (intOf i).toNat)
  case atStart => exact ⟨0, Nat.zero_le _, rfl, Below.refl _ _⟩
  case round =>
    obtain ⟨k, hk, rfl, hbel⟩ := hrel
    obtain ⟨wo, hwo⟩ : ∃ wo, wo = wr := ⟨_, rfl⟩
    subst hwo
    by_cases hlt : k < n
    · have hx : l[k]? = some l[k] := List.getElem?_eq_getElem (by rw [← unhide HN]; exact hlt)
      obtain ⟨a2, c2, e2, _, hc⟩ := (unhide HO).up hbel
      obtain ⟨g, o, e3, _, c0, c1⟩ := hc k _ hx
      have e4 := (Value.slice.inj e2).1
      rw [e3] at e4
      subst e4
      have BB := hide hbel
      have C0 := hide c0
      have C1 := hide c1
      generalize l[k] = y at *
      clear e2 e3 hc hx hbel c0 c1 HO
      have i1 : (0 : Int) ≤ (k : Int) := by omega
      have i2 : (k : Int) < (n : Int) := by omega
      go_wp2
      refine wp_region_held_drew (S := fun w' => w'.cell? ⟨g, o + k * 2, none⟩ = some (.int .i64 y.lo) ∧ w'.cell? ⟨g, o + k * 2 + 1, none⟩ = some (.int .i64 y.hi)) (by kernel_rfl) (⟨unhide C0, unhide C1⟩) (fun hHeld => ?_)
      have BB_ := hide ((unhide BB).drew)
      clear BB
      have BB := BB_
      clear BB_
      have sz1 : Hid (wo.heap.size ≤ wo.drew.heap.size) := Nat.le_refl _
      refine takeVal 0 (some 16) ?_ rfl (by kernel_rfl) (by kernel_rfl) (by kernel_rfl) rfl (fun _ _ _ h => h) (by rfl) (by assumption) ?_ ?_
      rotate_left
      · (intro w hSw; (try dsimp only at hSw); go_simp <;> with_reducible rfl)
      simp only [Act.put, List.setIfInBounds_toArray, List.set_cons_zero, List.set_cons_succ]
      refine takeVal 1 (some 17) ?_ rfl (by kernel_rfl) (by kernel_rfl) (by kernel_rfl) rfl (fun _ _ _ h => h) (by rfl) (by assumption) ?_ ?_
      rotate_left
      · (intro w hSw; (try dsimp only at hSw); go_simp <;> with_reducible rfl)
      simp only [Act.put, List.setIfInBounds_toArray, List.set_cons_zero, List.set_cons_succ]
      refine takeVal 2 (some 18) ?_ rfl (by kernel_rfl) (by kernel_rfl) (by kernel_rfl) rfl (fun _ _ _ h => h) (by rfl) (by assumption) ?_ ?_
      rotate_left
      · (intro w hSw; (try dsimp only at hSw); go_simp <;> with_reducible rfl)
      simp only [Act.put, List.setIfInBounds_toArray, List.set_cons_zero, List.set_cons_succ]
      refine takeVal 3 (some 19) ?_ rfl (by kernel_rfl) (by kernel_rfl) (by kernel_rfl) rfl (fun _ _ _ h => h) (by rfl) (by assumption) ?_ ?_
      rotate_left
      · (intro w hSw; (try dsimp only at hSw); go_simp <;> with_reducible rfl)
      simp only [Act.put, List.setIfInBounds_toArray, List.set_cons_zero, List.set_cons_succ]
      refine takeVal 4 (some 20) ?_ rfl (by kernel_rfl) (by kernel_rfl) (by kernel_rfl) rfl (fun _ _ _ h => h) (by rfl) (by assumption) ?_ ?_
      rotate_left
      · (intro w hSw; (try dsimp only at hSw); go_simp <;> with_reducible rfl)
      simp only [Act.put, List.setIfInBounds_toArray, List.set_cons_zero, List.set_cons_succ]
      refine takeVal 5 (some 21) ?_ rfl (by kernel_rfl) (by kernel_rfl) (by kernel_rfl) rfl (fun _ _ _ h => h) (by rfl) (by assumption) ?_ ?_
      rotate_left
      · (intro w hSw; (try dsimp only at hSw); go_simp <;> with_reducible rfl)
      simp only [Act.put, List.setIfInBounds_toArray, List.set_cons_zero, List.set_cons_succ]
      refine takeVal 6 (some 22) ?_ rfl (by kernel_rfl) (by kernel_rfl) (by kernel_rfl) rfl (fun _ _ _ h => h) (by rfl) (by assumption) ?_ ?_
      rotate_left
      · (intro w hSw; (try dsimp only at hSw); go_simp <;> with_reducible rfl)
      simp only [Act.put, List.setIfInBounds_toArray, List.set_cons_zero, List.set_cons_succ]
      refine takeVal 7 (some 23) ?_ rfl (by kernel_rfl) (by kernel_rfl) (by kernel_rfl) rfl (fun _ _ _ h => h) (by rfl) (by assumption) ?_ ?_
      rotate_left
      · (intro w hSw; (try dsimp only at hSw); go_simp <;> with_reducible rfl)
      simp only [Act.put, List.setIfInBounds_toArray, List.set_cons_zero, List.set_cons_succ]
      refine takeVal 8 (some 24) ?_ rfl (by kernel_rfl) (by kernel_rfl) (by kernel_rfl) rfl (fun _ _ _ h => h) (by rfl) (by assumption) ?_ ?_
      rotate_left
      · (intro w hSw; (try dsimp only at hSw); go_simp <;> with_reducible rfl)
      simp only [Act.put, List.setIfInBounds_toArray, List.set_cons_zero, List.set_cons_succ]
      refine wpAnyH_done (by kernel_rfl) ?_ _
      go_wp2
      go_roundw
      case rel => exact ⟨k + 1, by omega, by go_num, unhide BB⟩
      case measure => simp [intOf]; omega
    · obtain rfl : k = n := by omega
      go_wp2
      go_ret
      exact ⟨rfl, hbel⟩
set_option maxHeartbeats 4000000 in
set_option maxRecDepth 100000 in
theorem equal_nil (a : Option Addr) (c n : Nat) (w : World) (hs : n ≤ 1048576) :
    Calls Tryz.prog 70 #[.slice none 0 0, .slice a n c] w fun x w' => x = .returned (.bool (decide (n = 0))) ∧ Below w.heap.size w w' := by
  by_cases h : n = 0
  · subst h
    go_enter Tryz.func70, Tryz.ntmps70
    go_wp2
    go_loopw [13] (fun i wr => i = .int .i64 0 ∧ Below w.heap.size w wr) (fun i _ => 0)
    case atStart => exact ⟨rfl, Below.refl _ _⟩
    case round =>
      obtain ⟨rfl, hbel⟩ := hrel
      go_wp2
      go_ret
      exact ⟨rfl, hbel⟩
  · have h2 : ¬ ((0 : Int) = (n : Int)) := by omega
    rw [decide_eq_false h]
    go_enter Tryz.func70, Tryz.ntmps70
    go_wp2
    go_ret
    exact ⟨rfl, Below.refl _ _⟩
end Go.Proofs.YtocaljbimhjmgaaGreatDoor
