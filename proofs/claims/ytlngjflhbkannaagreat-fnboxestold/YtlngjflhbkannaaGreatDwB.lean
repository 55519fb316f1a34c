/- Several texts in one. -/
import Derived.Test.YtlngjflhbkannaaGreatPlainA
import Derived.Test.YtlngjflhbkannaaGreatDwA
import Derived.Test.YtlngjflhbkannaaGreatSetA
import Derived.Test.YtlngjflhbkannaaGreatFfA
import Derived.Test.YtlngjflhbkannaaGreatRowStore
import Derived.Test.YtlngjflhbkannaaGreatIntRow
import Derived.Deep.RegionHeld3
namespace Go.Proofs.YtlngjflhbkannaaGreat.Plain
open Go.RowKit
set_option linter.unusedVariables false

/-- The texts of drawn mails: a subject, who it is from, what is below. -/
def subjT : List (List UInt8) := [[83, 117, 98, 106, 101, 99, 116, 58, 32, 104, 101, 108, 108, 111, 10], [83, 117, 98, 106, 101, 99, 116, 58, 32, 82, 101, 58, 32, 104, 101, 108, 108, 111, 10], [83, 117, 98, 106, 101, 99, 116, 58, 32, 111, 116, 104, 101, 114, 10], [83, 117, 98, 106, 101, 99, 116, 58, 32, 102, 119, 100, 58, 32, 82, 69, 58, 32, 32, 72, 101, 108, 108, 111, 32, 10], [83, 117, 98, 106, 101, 99, 116, 58, 10], [83, 117, 98, 106, 101, 99, 116, 58, 32, 110, 101, 119, 115, 10]]
def fromT : List (List UInt8) := [[], [70, 114, 111, 109, 58, 32, 97, 110, 110, 10], [70, 114, 111, 109, 58, 32, 98, 111, 98, 10]]
def restT : List (List UInt8) := [[], [10, 116, 101, 120, 116], [10, 98, 111, 100, 121, 32, 111, 102, 32, 105, 116, 10], [10], [10, 97, 10, 10, 98]]
def mailT : List (List UInt8) := subjT.flatMap fun a => fromT.flatMap fun b => restT.map fun d => a ++ b ++ d
theorem mail_mem {a b d : List UInt8} (ha : a ∈ subjT) (hb : b ∈ fromT) (hd : d ∈ restT) : a ++ b ++ d ∈ mailT :=
 List.mem_flatMap.2 ⟨a, ha, List.mem_flatMap.2 ⟨b, hb, List.mem_map.2 ⟨d, hd, rfl⟩⟩⟩
def upSubj : List UInt8 := [83, 85, 66, 74, 69, 67, 84]
def loSubj : List UInt8 := [115, 117, 98, 106, 101, 99, 116]
def noHead : List UInt8 := [110, 111, 116, 104, 105, 110, 103]
theorem mail_facts : ∀ t ∈ mailT, (decide (1 ≤ t.length) && decide (t.length ≤ 100)) = true ∧ mailOkL t = true ∧ (headL t upSubj).2 = true ∧ headL t upSubj = headL t loSubj ∧ (headL t noHead).2 = false ∧ (bodyL t).length ≤ t.length ∧ t.drop (t.length - (bodyL t).length) = bodyL t := by decide +kernel
end Go.Proofs.YtlngjflhbkannaaGreat.Plain

namespace Go.Proofs.YtlngjflhbkannaaGreat
open Go.RowKit
open Plain
set_option linter.unusedVariables false
set_option linter.unusedSimpArgs false

/-- The cursor under way, told from where the walk began. -/
structure MC (B c : Nat) (w W : World) : Prop where
 cur : Cur B W c
 grown : w.grownBy W (some c)
theorem MC.call {B c : Nat} {w W W' : World} (h : MC B c w W) (hg : W.grownBy W' (some c)) (hc : Cur B W' c) : MC B c w W' := ⟨hc, g_join h.grown hg⟩
theorem app_list (x y : ByteArray) : (x ++ y).data.toList = x.data.toList ++ y.data.toList := by simp

set_option maxHeartbeats 2000000 in
set_option maxRecDepth 100000 in
theorem l07Mail_any (B c : Nat) (w : World) (hc : Cur B w c) :
  Calls Tryz.prog 124 #[.pointer (some ⟨c, 0, none⟩)] w fun e w' => ∃ t : ByteArray, t.data.toList ∈ mailT ∧ e = .returned (.string t) ∧ Cur B w' c ∧ w.grownBy w' (some c) := by
 have C0 : Hid (MC B c w w) := ⟨hc, g_self _ _⟩
 clear hc
 go_enter Tryz.func124, Tryz.ntmps124
 go_wp2_with fail
 refine (flag_str [⟨#[32, 104, 101, 108, 108, 111]⟩, ⟨#[32, 82, 101, 58, 32, 104, 101, 108, 108, 111]⟩, ⟨#[32, 111, 116, 104, 101, 114]⟩, ⟨#[32, 102, 119, 100, 58, 32, 82, 69, 58, 32, 32, 72, 101, 108, 108, 111, 32]⟩, ⟨#[]⟩, ⟨#[32, 110, 101, 119, 115]⟩] B c w (uh C0).cur (by decide) (by decide)).mono ?_
 rintro e w1 ⟨z, hz, rfl, hc, hg⟩
 have C1 := hide ((uh C0).call hg hc)
 have Z1 : z.size ≤ 20 ∧ ([83, 117, 98, 106, 101, 99, 116, 58] ++ z.data.toList ++ [10]) ∈ subjT := (show ∀ z ∈ ([⟨#[32, 104, 101, 108, 108, 111]⟩, ⟨#[32, 82, 101, 58, 32, 104, 101, 108, 108, 111]⟩, ⟨#[32, 111, 116, 104, 101, 114]⟩, ⟨#[32, 102, 119, 100, 58, 32, 82, 69, 58, 32, 32, 72, 101, 108, 108, 111, 32]⟩, ⟨#[]⟩, ⟨#[32, 110, 101, 119, 115]⟩] : List ByteArray), z.size ≤ 20 ∧ ([83, 117, 98, 106, 101, 99, 116, 58] ++ z.data.toList ++ [10]) ∈ subjT by decide) z hz
 obtain ⟨z1, Z2⟩ := Z1
 have Z3 := hide Z2; clear hc hg C0 hz Z2; go_wp2_with fail
 obtain ⟨X, hX⟩ : ∃ X : ByteArray, X = (⟨#[83, 117, 98, 106, 101, 99, 116, 58]⟩ ++ z ++ ⟨#[10]⟩ : ByteArray) := ⟨_, rfl⟩
 have X1 : Hid (X.data.toList ∈ subjT) := by show X.data.toList ∈ subjT; rw [hX, app_list, app_list]; exact uh Z3
 have x1 : X.size ≤ 40 := by rw [hX, ByteArray.size_append, ByteArray.size_append]; show 8 + z.size + 1 ≤ 40; omega
 rw [← hX]
 clear hX Z3 z1
 refine (l01Once_any B c 2 w1 (uh C1).cur (by omega) (by omega)).mono ?_
 rintro e w2 ⟨b2, rfl, hc, hg⟩
 have C2 := hide ((uh C1).call hg hc); clear hc hg C1
 cases b2 with
 | true =>
  go_wp2_with fail
  refine (flag_str [⟨#[97, 110, 110]⟩, ⟨#[98, 111, 98]⟩] B c w2 (uh C2).cur (by decide) (by decide)).mono ?_
  rintro e w3 ⟨f, hf, rfl, hc, hg⟩
  have C3 := hide ((uh C2).call hg hc)
  have F1 : f.size ≤ 20 ∧ ([70, 114, 111, 109, 58, 32] ++ f.data.toList ++ [10]) ∈ fromT := (show ∀ z ∈ ([⟨#[97, 110, 110]⟩, ⟨#[98, 111, 98]⟩] : List ByteArray), z.size ≤ 20 ∧ ([70, 114, 111, 109, 58, 32] ++ z.data.toList ++ [10]) ∈ fromT by decide) f hf
  obtain ⟨f1, F2⟩ := F1
  have F3 := hide F2; clear hc hg C2 hf F2; go_wp2_with fail
  obtain ⟨Y, hY⟩ : ∃ Y : ByteArray, Y = (X ++ ⟨#[70, 114, 111, 109, 58, 32]⟩ ++ f ++ ⟨#[10]⟩ : ByteArray) := ⟨_, rfl⟩
  have Y1 : Hid (∃ a ∈ subjT, ∃ b ∈ fromT, Y.data.toList = a ++ b) := ⟨_, uh X1, _, uh F3, by rw [hY, app_list, app_list, app_list]; simp⟩
  have y1 : Y.size ≤ 80 := by rw [hY, ByteArray.size_append, ByteArray.size_append, ByteArray.size_append]; show X.size + 6 + f.size + 1 ≤ 80; omega
  rw [← hY]
  clear hY F3 f1 X1 x1
  refine (l01Once_any B c 6 w3 (uh C3).cur (by omega) (by omega)).mono ?_
  rintro e w4 ⟨b4, rfl, hc, hg⟩
  have C4 := hide ((uh C3).call hg hc); clear hc hg C3
  cases b4 with
  | true =>
   go_wp2
   go_ret
   obtain ⟨a, ha, b, hb, hab⟩ := uh Y1
   exact ⟨_, by rw [hab, ← List.append_nil (a ++ b)]; exact mail_mem ha hb (by decide), rfl, (uh C4).cur, (uh C4).grown⟩
  | false =>
   go_wp2_with fail
   refine (flag_str [⟨#[116, 101, 120, 116]⟩, ⟨#[98, 111, 100, 121, 32, 111, 102, 32, 105, 116, 10]⟩, ⟨#[]⟩, ⟨#[97, 10, 10, 98]⟩] B c w4 (uh C4).cur (by decide) (by decide)).mono ?_
   rintro e w5 ⟨d, hd, rfl, hc, hg⟩
   have C5 := hide ((uh C4).call hg hc)
   have D1 : d.size ≤ 20 ∧ ([10] ++ d.data.toList) ∈ restT := (show ∀ z ∈ ([⟨#[116, 101, 120, 116]⟩, ⟨#[98, 111, 100, 121, 32, 111, 102, 32, 105, 116, 10]⟩, ⟨#[]⟩, ⟨#[97, 10, 10, 98]⟩] : List ByteArray), z.size ≤ 20 ∧ ([10] ++ z.data.toList) ∈ restT by decide) d hd
   obtain ⟨d1, D2⟩ := D1
   have D3 := hide D2; clear hc hg C4 hd D2
   go_wp2
   go_ret
   obtain ⟨a, ha, b, hb, hab⟩ := uh Y1
   exact ⟨_, by rw [app_list, app_list, hab, List.append_assoc]; exact mail_mem ha hb (uh D3), rfl, (uh C5).cur, (uh C5).grown⟩
 | false =>
  have Y1 : Hid (∃ a ∈ subjT, ∃ b ∈ fromT, X.data.toList = a ++ b) := ⟨_, uh X1, [], by decide, by simp⟩
  have y1 : X.size ≤ 80 := by omega
  clear X1 x1; go_wp2_with fail
  refine (l01Once_any B c 6 w2 (uh C2).cur (by omega) (by omega)).mono ?_
  rintro e w4 ⟨b4, rfl, hc, hg⟩
  have C4 := hide ((uh C2).call hg hc); clear hc hg C2
  obtain ⟨Y, hY⟩ : ∃ Y : ByteArray, Y = X := ⟨_, rfl⟩
  rw [← hY] at y1 Y1 ⊢
  clear hY
  cases b4 with
  | true =>
   go_wp2
   go_ret
   obtain ⟨a, ha, b, hb, hab⟩ := uh Y1
   exact ⟨_, by rw [hab, ← List.append_nil (a ++ b)]; exact mail_mem ha hb (by decide), rfl, (uh C4).cur, (uh C4).grown⟩
  | false =>
   go_wp2_with fail
   refine (flag_str [⟨#[116, 101, 120, 116]⟩, ⟨#[98, 111, 100, 121, 32, 111, 102, 32, 105, 116, 10]⟩, ⟨#[]⟩, ⟨#[97, 10, 10, 98]⟩] B c w4 (uh C4).cur (by decide) (by decide)).mono ?_
   rintro e w5 ⟨d, hd, rfl, hc, hg⟩
   have C5 := hide ((uh C4).call hg hc)
   have D1 : d.size ≤ 20 ∧ ([10] ++ d.data.toList) ∈ restT := (show ∀ z ∈ ([⟨#[116, 101, 120, 116]⟩, ⟨#[98, 111, 100, 121, 32, 111, 102, 32, 105, 116, 10]⟩, ⟨#[]⟩, ⟨#[97, 10, 10, 98]⟩] : List ByteArray), z.size ≤ 20 ∧ ([10] ++ z.data.toList) ∈ restT by decide) d hd
   obtain ⟨d1, D2⟩ := D1
   have D3 := hide D2; clear hc hg C4 hd D2
   go_wp2
   go_ret
   obtain ⟨a, ha, b, hb, hab⟩ := uh Y1
   exact ⟨_, by rw [app_list, app_list, hab, List.append_assoc]; exact mail_mem ha hb (uh D3), rfl, (uh C5).cur, (uh C5).grown⟩


set_option maxHeartbeats 2000000 in
set_option maxRecDepth 100000 in
theorem l07Any_any (B c : Nat) (w : World) (hc : Cur B w c) :
  Calls Tryz.prog 62 #[.pointer (some ⟨c, 0, none⟩)] w fun e w' => ∃ t : ByteArray, t.size ≤ 1000 ∧ e = .returned (.string t) ∧ Cur B w' c ∧ w.grownBy w' (some c) := by
 have C0 : Hid (MC B c w w) := ⟨hc, g_self _ _⟩
 clear hc
 go_enter Tryz.func62, Tryz.ntmps62
 go_wp2_with fail
 refine (l01Below_any B c 10 w (uh C0).cur (by omega) (by omega)).mono ?_
 rintro e w1 ⟨x, hx, rfl, hc, hg⟩
 have C1 := hide ((uh C0).call hg hc); clear hc hg C0
 by_cases h0 : x = 0
 ·subst h0
  go_wp2_with fail
  refine (flag_str [⟨#[]⟩, ⟨#[10]⟩, ⟨#[10, 10]⟩, ⟨#[115, 117, 98, 106, 101, 99, 116, 58, 32, 120]⟩, ⟨#[83, 85, 66, 74, 69, 67, 84, 58, 121, 10, 115, 117, 98, 106, 101, 99, 116, 58, 32, 122, 10]⟩, ⟨#[97, 0, 98]⟩, ⟨#[58, 10]⟩] B c w1 (uh C1).cur (by decide) (by decide)).mono ?_
  rintro e w2 ⟨z, hz, rfl, hc, hg⟩
  have C2 := hide ((uh C1).call hg hc)
  have z1 : z.size ≤ 1000 := (show ∀ z ∈ ([⟨#[]⟩, ⟨#[10]⟩, ⟨#[10, 10]⟩, ⟨#[115, 117, 98, 106, 101, 99, 116, 58, 32, 120]⟩, ⟨#[83, 85, 66, 74, 69, 67, 84, 58, 121, 10, 115, 117, 98, 106, 101, 99, 116, 58, 32, 122, 10]⟩, ⟨#[97, 0, 98]⟩, ⟨#[58, 10]⟩] : List ByteArray), z.size ≤ 1000 by decide) z hz
  clear hc hg C1 hz
  go_wp2
  go_ret
  exact ⟨z, z1, rfl, (uh C2).cur, (uh C2).grown⟩
 ·have t0 : ((x : Int) == 0) = false := by simp; omega
  by_cases h1 : x = 1
  ·subst h1
   clear t0 h0; go_wp2_with fail
   refine (l01Below_any B c 2 w1 (uh C1).cur (by omega) (by omega)).mono ?_
   rintro e w2 ⟨y, hy, rfl, hc, hg⟩
   have C2 := hide ((uh C1).call hg hc); clear hc hg C1
   have LQ := l01Long_any (200 + y) 97 w2 (by omega) (by omega)
   rw [show ((200 + y : Nat) : Int) = 200 + (y : Int) by omega] at LQ
   have LH := hide LQ; clear LQ; go_wp2_with fail
   refine (uh LH).mono ?_
   rintro e w3 ⟨l, hl, rfl, hb⟩
   have C3 : Hid (MC B c w w3) := (uh C2).call (g_grown hb _) ((uh C2).cur.kept (g_grown hb none) (fun k hk => by cases hk))
   have hl2 : (⟨l.toArray⟩ : ByteArray).size ≤ 1000 := by show l.toArray.size ≤ 1000; rw [List.size_toArray]; omega
   generalize (⟨l.toArray⟩ : ByteArray) = T at *
   clear hb C2 hl LH
   go_wp2
   go_ret
   exact ⟨T, hl2, rfl, (uh C3).cur, (uh C3).grown⟩
  ·have t1 : ((x : Int) == 1) = false := by simp; omega
   clear h0 h1; go_wp2_with fail
   refine (l07Mail_any B c w1 (uh C1).cur).mono ?_
   rintro e w2 ⟨t, ht, rfl, hc, hg⟩
   have C2 := hide ((uh C1).call hg hc)
   have l2 : t.size ≤ 1000 := by
    have := (mail_facts _ ht).1
    rw [Bool.and_eq_true, decide_eq_true_eq, decide_eq_true_eq] at this
    have h3 : t.data.toList.length = t.size := rfl
    omega
   clear hc hg C1 ht
   go_wp2
   go_ret
   exact ⟨t, l2, rfl, (uh C2).cur, (uh C2).grown⟩

end Go.Proofs.YtlngjflhbkannaaGreat

namespace Go.Proofs.YtlngjflhbkannaaGreat
open Go.RowKit
open Plain
set_option linter.unusedVariables false

theorem belowS_lit (B c n : Nat) (z : Int) (hz : z = (n : Int)) (w : World) (hc : Cur B w c) (h0 : 0 < n) (h1 : n ≤ 4294967296) :
  Calls Tryz.prog 80 #[.pointer (some ⟨c, 0, none⟩), .int .i64 z] w fun e w' => ∃ x : Nat, x < n ∧ e = .returned (.int .i64 (x : Int)) ∧ Cur B w' c ∧ w.grownBy w' (some c) := by
 subst hz; exact l01Below_any B c n w hc h0 h1

/-- A set under way, the cursor beside it. -/
structure SS (B c : Nat) (w W : World) (v : Value) (s : List Rg) : Prop where
 own : OwnR w.heap.size W v s
 cur : Cur B W c
 grown : w.grownBy W (some c)
theorem SS.call {B c : Nat} {w W W' : World} {v : Value} {s : List Rg} (h : SS B c w W v s) (hl : c < w.heap.size) (hg : W.grownBy W' (some c)) (hc : Cur B W' c) : SS B c w W' v s :=
 ⟨World.ownsRow.kept h.own hg (own_apart h.own hl), hc, g_join h.grown hg⟩
theorem SS.made {B c : Nat} {w W W' : World} {v v' : Value} {s s' : List Rg} (h : SS B c w W v s) (hb : Below W.heap.size W W') (ho : OwnR W.heap.size W' v' s') : SS B c w W' v' s' :=
 ⟨g_based ho h.grown.size, h.cur.kept (g_grown hb none) (fun k hk => by cases hk), g_then h.grown hb⟩
theorem SS.alloc {B c : Nat} {w W : World} {v : Value} {s : List Rg} (h : SS B c w W v s) (o : Obj) : SS B c w (W.alloc o) v s :=
 ⟨h.own.alloc o, h.cur.kept (World.grownBy_alloc _ _ none) (fun k hk => by cases hk), g_then h.grown ((Below.refl _ _).alloc (Nat.le_refl _) _)⟩

theorem put_some {s : List Rg} {lo hi : Int} (h : okS s = true) (h1 : 1 ≤ lo) (h2 : lo ≤ hi) (h3 : hi ≤ 9999) : 0 < (setOf (putB s lo hi true)).length := by
 obtain ⟨n, rfl⟩ := Int.eq_ofNat_of_zero_le (show 0 ≤ lo by omega)
 have e := put_has (hi := hi) (c := true) h h1 (n := n) (by omega)
 have : putB s (n : Int) hi true n = true := by unfold putB; rw [if_pos ⟨Int.le_refl _, h2⟩]
 rw [this] at e
 cases hx : setOf (putB s (n : Int) hi true) with
 | nil => rw [hx] at e; cases e
 | cons a b => exact Nat.succ_pos _
theorem own_someR {B : Nat} {W : World} {v : Value} {l : List Rg} (h : OwnR B W v l) (hl : 0 < l.length) : ∃ g cp, v = .slice (some ⟨g, 0, none⟩) l.length cp := by
 unfold OwnR at h
 rcases h.2 with ⟨_, h0⟩ | ⟨g, c, cur, rfl, _⟩
 ·omega
 ·exact ⟨g, c, rfl⟩

set_option maxHeartbeats 4000000 in
set_option maxRecDepth 100000 in
theorem l05Draw_any (B c : Nat) (w : World) (hc : Cur B w c) :
  Calls Tryz.prog 126 #[.pointer (some ⟨c, 0, none⟩)] w fun e w' => ∃ (v : Value) (s : List Rg), e = .returned v ∧ okS s = true ∧ s.length ≤ 5 ∧ SS B c w w' v s ∧ ∃ g cp, v = .slice (some ⟨g, 0, none⟩) s.length cp := by
 have hcl := hc.lt.2
 have S0 : Hid (SS B c w (w.alloc (.cells #[] 106)) (.slice (some ⟨w.heap.size, 0, none⟩) 0 0) []) :=
  ⟨World.ownsRow_lit w #[] 0 (Nat.le_refl _) (Nat.zero_le _) rfl, hc.kept (World.grownBy_alloc _ _ none) (fun k hk => by cases hk), World.grownBy_alloc _ _ _⟩
 have LIT := hide (fun (W : World) (n : Nat) (z : Int) (hz : z = (n : Int)) (hC : Cur B W c) (h0 : 0 < n) (h1 : n ≤ 4294967296) => belowS_lit B c n z hz W hC h0 h1)
 clear hc
 go_enter Tryz.func126, Tryz.ntmps126
 go_wp2
 go_loopw [3, 4] (fun v i wr => ∃ (k : Nat) (s : List Rg), k ≤ 4 ∧ i = .int .i64 k ∧ okS s = true ∧ s.length ≤ k ∧ SS B c w wr v s ∧ ∃ g cp, v = .slice (some ⟨g, 0, none⟩) s.length cp) (fun _ i _ => 5 - (intOf i).toNat)
 case atStart => exact ⟨0, [], Nat.zero_le _, rfl, rfl, Nat.zero_le _, uh S0, _, _, rfl⟩
 case round =>
  obtain ⟨k, s, hk, rfl, hok, hlen, hss, hsv⟩ := hrel
  have SV := hide hsv; clear hsv; have SSk := hide hss; have OK := hide hok; clear hss hok; go_wp2_with fail
  refine (uh LIT wr 5 5 rfl (uh SSk).cur (by omega) (by omega)).mono ?_
  rintro e w1 ⟨x, hx, rfl, hc1, hg1⟩
  have S1 := hide ((uh SSk).call hcl hg1 hc1); clear hc1 hg1 SSk
  by_cases hkx : k < x
  ·have dk : decide ((k : Int) < (x : Int)) = true := by rw [decide_eq_true_eq]; omega
   go_wp2_with fail
   refine (uh LIT w1 14 14 rfl (uh S1).cur (by omega) (by omega)).mono ?_
   rintro e w2 ⟨a, ha, rfl, hc2, hg2⟩
   have S2 := hide ((uh S1).call hcl hg2 hc2); clear hc2 hg2 S1; go_wp2_with fail
   refine (uh LIT w2 4 4 rfl (uh S2).cur (by omega) (by omega)).mono ?_
   rintro e w3 ⟨b, hb, rfl, hc3, hg3⟩
   have S3 := hide ((uh S2).call hcl hg3 hc3); clear hc3 hg3 S2
   obtain ⟨r1, r2, r3⟩ := put_room (c := true) (uh OK) (show s.length ≤ 39 by omega) (show (1 : Int) ≤ 1 + (a : Int) by omega) (show 1 + (a : Int) ≤ 1 + (a : Int) + (b : Int) by omega) (by omega)
   have q := spec_SetAdd_any s (1 + (a : Int)) (1 + (a : Int) + (b : Int)) _ w.heap.size w3 (by omega) (uh S3).own
   rw [r1] at q
   have Q := hide q; have R2 := hide r2
   have NE := hide (put_some (uh OK) (show (1 : Int) ≤ 1 + (a : Int) by omega) (show 1 + (a : Int) ≤ 1 + (a : Int) + (b : Int) by omega) (by omega))
   clear q r1 r2 SV; go_wp2_with fail
   refine (uh Q).mono ?_
   rintro e w4 ⟨v4, rfl, o4, hb4⟩
   have SV := hide (own_someR o4 (uh NE)); have S4 := hide ((uh S3).made hb4 o4); clear o4 hb4 S3 Q
   go_wp2
   go_roundw
   case rel => exact ⟨k + 1, _, by omega, by go_num, uh R2, by omega, uh S4, uh SV⟩
   case measure => simp [intOf]; omega
  ·have dk : decide ((k : Int) < (x : Int)) = false := by rw [decide_eq_false_iff_not]; omega
   go_wp2_with fail
   refine (l01Once_any B c 10 w1 (uh S1).cur (by omega) (by omega)).mono ?_
   rintro e w2 ⟨bb, rfl, hc2, hg2⟩
   have S2 := hide ((uh S1).call hcl hg2 hc2); clear hc2 hg2 S1
   cases bb with
   | false =>
    go_wp2
    go_ret
    exact ⟨_, s, rfl, uh OK, by omega, uh S2, uh SV⟩
   | true =>
    obtain ⟨r1, r2, r3⟩ := put_room (c := true) (uh OK) (show s.length ≤ 39 by omega) (show (1 : Int) ≤ 9998 by omega) (show (9998 : Int) ≤ 9999 by omega) (by omega)
    have q := spec_SetAdd_any s 9998 9999 _ w.heap.size w2 (by omega) (uh S2).own
    rw [r1] at q
    have Q := hide q; have R2 := hide r2
    have NE := hide (put_some (uh OK) (show (1 : Int) ≤ 9998 by omega) (show (9998 : Int) ≤ 9999 by omega) (by omega))
    clear q r1 r2 SV; go_wp2_with fail
    refine (uh Q).mono ?_
    rintro e w4 ⟨v4, rfl, o4, hb4⟩
    have SV := hide (own_someR o4 (uh NE)); have S4 := hide ((uh S2).made hb4 o4); clear o4 hb4 S2 Q
    go_wp2
    go_ret
    exact ⟨_, _, rfl, uh R2, by omega, uh S4, uh SV⟩

end Go.Proofs.YtlngjflhbkannaaGreat

namespace Go.Proofs.YtlngjflhbkannaaGreat
open Go.RowKit
set_option linter.unusedVariables false

theorem g_alloc {w W : World} {r : Option Nat} (h : w.grownBy W r) (o : Obj) : w.grownBy (W.alloc o) r := g_then h ((Below.refl _ _).alloc (Nat.le_refl _) o)
theorem g_drew {w W : World} {r : Option Nat} (h : w.grownBy W r) : w.grownBy W.drew r := ⟨h.os, h.tape, h.output, h.size, h.block⟩
theorem g_new {w W W2 : World} {r r2 : Option Nat} (h : w.grownBy W r) (hg : W.grownBy W2 r2) (hr : ∀ k, r2 = some k → w.heap.size ≤ k) : w.grownBy W2 r :=
 ⟨hg.os.trans h.os, hg.tape.trans h.tape, hg.output.trans h.output, Nat.le_trans h.size hg.size, fun k hk hne => (hg.block k (Nat.lt_of_lt_of_le hk h.size) (fun e => by have := hr k e.symm; omega)).trans (h.block k hk hne)⟩
theorem g_setnew {w W : World} {r : Option Nat} {g j : Nat} (h : w.grownBy W r) (hg : w.heap.size ≤ g) (u : Value) : w.grownBy (W.setCell ⟨g, j, none⟩ u) r :=
 g_new h (g_store (g_self W (some g)) u) (fun k hk => by cases hk; exact hg)
namespace Plain
def flRow (b : Bx) (s : List Rg) (how bits since : Int) (k : Nat) : List Ml := (b.mails.take k).map (newM b s how bits since) ++ b.mails.drop k
theorem flRow_len (b : Bx) (s : List Rg) (how bits since : Int) (k : Nat) : (flRow b s how bits since k).length = b.mails.length := by simp [flRow]; omega
theorem flRow_zero (b : Bx) (s : List Rg) (how bits since : Int) : flRow b s how bits since 0 = b.mails := by simp [flRow]
theorem flRow_all (b : Bx) (s : List Rg) (how bits since : Int) : flRow b s how bits since b.mails.length = b.mails.map (newM b s how bits since) := by simp [flRow]
theorem flRow_at {b : Bx} {s : List Rg} {how bits since : Int} {k : Nat} {m : Ml} (h : b.mails[k]? = some m) : (flRow b s how bits since k)[k]? = some m := by
 have hk := (List.getElem?_eq_some_iff.1 h).1
 unfold flRow
 rw [List.getElem?_append_right (by simp; omega), List.getElem?_drop]
 have : k + (k - (List.map (newM b s how bits since) (b.mails.take k)).length) = k := by simp; omega
 rw [this]; exact h
theorem flRow_next {b : Bx} {s : List Rg} {how bits since : Int} {k : Nat} {m : Ml} (h : b.mails[k]? = some m) : flRow b s how bits since (k + 1) = (flRow b s how bits since k).set k (newM b s how bits since m) := by
 have hk := (List.getElem?_eq_some_iff.1 h).1; have e := (List.getElem?_eq_some_iff.1 h).2
 unfold flRow
 rw [List.set_append_right _ _ (by simp; omega), List.take_add_one, h, List.drop_eq_getElem_cons hk, e]
 have : k - (List.map (newM b s how bits since) (b.mails.take k)).length = 0 := by simp; omega
 rw [this, List.set_cons_zero]
 simp
theorem set_same {α : Type} {l : List α} {k : Nat} {x : α} (h : l[k]? = some x) : l.set k x = l := by
 apply List.ext_getElem?
 intro i
 by_cases e : k = i
 ·subst e
  rw [List.getElem?_set_self (List.getElem?_eq_some_iff.1 h).1, h]
 ·rw [List.getElem?_set_ne e]
theorem flRow_same {b : Bx} {s : List Rg} {how bits since : Int} {k : Nat} {m : Ml} (h : b.mails[k]? = some m) (hn : isNew s how bits since m = false) : flRow b s how bits since (k + 1) = flRow b s how bits since k := by
 rw [flRow_next h, show newM b s how bits since m = m by unfold newM; rw [hn]; rfl, set_same (flRow_at h)]
def newTo (b : Bx) (s : List Rg) (how bits since : Int) (k : Nat) : List Int := newU s how bits since (b.mails.take k)
def lateTo (b : Bx) (s : List Rg) (since : Int) (k : Nat) : List Int := lateU s since (b.mails.take k)
theorem newTo_next {b : Bx} {s : List Rg} {how bits since : Int} {k : Nat} {m : Ml} (h : b.mails[k]? = some m) : newTo b s how bits since (k + 1) = if isNew s how bits since m = true then newTo b s how bits since k ++ [m.uid] else newTo b s how bits since k := by
 unfold newTo newU
 rw [List.take_add_one, h, List.filter_append, List.map_append]
 by_cases hn : isNew s how bits since m = true
 ·simp [hn]
 ·simp [hn]
theorem lateTo_next {b : Bx} {s : List Rg} {since : Int} {k : Nat} {m : Ml} (h : b.mails[k]? = some m) : lateTo b s since (k + 1) = if isLate s since m = true then lateTo b s since k ++ [m.uid] else lateTo b s since k := by
 unfold lateTo lateU
 rw [List.take_add_one, h, List.filter_append, List.map_append]
 by_cases hn : isLate s since m = true
 ·simp [hn]
 ·simp [hn]
theorem newTo_len (b : Bx) (s : List Rg) (how bits since : Int) (k : Nat) : (newTo b s how bits since k).length ≤ b.mails.length := by
 unfold newTo newU
 rw [List.length_map]
 exact Nat.le_trans (List.length_filter_le _ _) (by simp; omega)
theorem lateTo_len (b : Bx) (s : List Rg) (since : Int) (k : Nat) : (lateTo b s since k).length ≤ b.mails.length := by
 unfold lateTo lateU
 rw [List.length_map]
 exact Nat.le_trans (List.length_filter_le _ _) (by simp; omega)
theorem newTo_all (b : Bx) (s : List Rg) (how bits since : Int) : newTo b s how bits since b.mails.length = newU s how bits since b.mails := by unfold newTo; rw [List.take_length]
theorem lateTo_all (b : Bx) (s : List Rg) (since : Int) : lateTo b s since b.mails.length = lateU s since b.mails := by unfold lateTo; rw [List.take_length]
end Plain
end Go.Proofs.YtlngjflhbkannaaGreat

namespace Go.Proofs.YtlngjflhbkannaaGreat
open Go
set_option linter.unusedVariables false

section
variable {P : Program} {ops : Array Oper} {Q : Exit → Act → World → Prop} {S : World → Prop}

/-- Whatever order is picked from here on; S is kept by each operation whose number is below z. -/
def wpLat2 (P : Program) (ops : Array Oper) (Q : Exit → Act → World → Prop) (S : World → Prop) (z : Nat) : Nat → Array Bool → Act → World → Prop
 | 0, listed, a, w => Region.ready .any ops listed = [] ∧ Q .normal a w
 | fuel + 1, listed, a, w => (Region.ready .any ops listed = [] → Q .normal a w) ∧
   ∀ i ∈ Region.ready .any ops listed, wpOp P ops Q i (fun a' w' => (i < z → S w → S w') ∧ wpLat2 P ops Q S z fuel (listed.setIfInBounds i true) a' w') a w

theorem any_of_lat2 {z : Nat} : ∀ (fuel : Nat) (listed : Array Bool) (a : Act) (w : World), wpLat2 P ops Q S z fuel listed a w → wpAny P .any ops Q fuel listed a w
 | 0, _, _, _, h => h
 | fuel + 1, _, _, _, h => ⟨h.1, fun i hi => wpOp_mono (fun a' w' hh => any_of_lat2 fuel _ a' w' hh.2) (h.2 i hi)⟩

/-- Those from z on that have not come up wait for number i. -/
def lat2Ok (ops : Array Oper) (listed : Array Bool) (z i : Nat) : Bool :=
 (List.range ops.size).all fun j => decide (j < z) || j == i || listed.getD j true || match ops[j]? with
  | some oj => oj.after.any fun e => Region.binds .any e && e.on == i
  | none => true
theorem lat2Ok_spec {listed : Array Bool} {z i j : Nat} {oj : Oper} (h : lat2Ok ops listed z i = true) (hj : ops[j]? = some oj) (hz : z ≤ j) (hne : j ≠ i) (hun : listed.getD j true = false) :
  ∃ e ∈ oj.after, Region.binds .any e = true ∧ e.on = i := by
 unfold lat2Ok at h
 rw [List.all_eq_true] at h
 have h1 := h j (List.mem_range.2 (Array.getElem?_eq_some_iff.1 hj).1)
 have h2 : decide (j < z) = false := by simp; omega
 have h3 : (j == i) = false := by simp [hne]
 rw [h2, h3, hun, hj] at h1
 simp only [Bool.false_or] at h1
 obtain ⟨e, he, hb⟩ := Array.any_eq_true'.1 h1
 rw [Bool.and_eq_true, beq_iff_eq] at hb
 exact ⟨e, he, hb.1, hb.2⟩

theorem getD_self2 (listed : Array Bool) (k : Nat) : (listed.setIfInBounds k true).getD k true = true := by
 by_cases h : k < listed.size <;> simp [Array.getD, h]
theorem lat2Ok_more {listed : Array Bool} {z i k : Nat} (h : lat2Ok ops listed z i = true) : lat2Ok ops (listed.setIfInBounds k true) z i = true := by
 unfold lat2Ok at *
 rw [List.all_eq_true] at *
 intro j hj
 have h1 := h j hj
 by_cases e : k = j
 ·subst e
  have h2 := getD_self2 listed k
  simp only [h2, Bool.or_true, Bool.true_or]
 ·rw [getD_set_ne true e]
  exact h1

/-- A ready operation does not wait for one that has not come up. -/
theorem ready_waits2 {i j : Nat} {listed : Array Bool} (hi : i ∈ Region.ready .any ops listed) (hj : j ∈ Region.ready .any ops listed) : ∃ oj, ops[j]? = some oj ∧ ∀ e ∈ oj.after, Region.binds .any e = true → e.on ≠ i := by
 obtain ⟨_, oj, hoj, hall⟩ := mem_ready.1 hj
 refine ⟨oj, hoj, fun e he hb heq => ?_⟩
 have h1 := hall e he hb; have h0 := (mem_ready.1 hi).1
 rw [heq] at h1
 rcases Nat.lt_or_ge i listed.size with h' | h'
 ·simp [Array.getD, h'] at h0 h1
  rw [h0] at h1; cases h1
 ·simp [Array.getD] at h0
  obtain ⟨h2, _⟩ := h0
  omega

theorem lat2_first {z i : Nat} {oi : Oper} {v : Value} (hi : ops[i]? = some oi) (hsel : ∀ (j : Nat) (o : Oper) cs b, ops[j]? = some o → o.op ≠ .select cs b)
  (hQ : ∀ c a w, Q (.panic c) (a.put oi.dst v) w → Q (.panic c) a w) (fuel : Nat) :
  ∀ (listed : Array Bool) (a : Act) (w : World), Region.free .any ops listed i = true → lat2Ok ops listed z i = true → i ∈ Region.ready .any ops listed → YieldsIf P ops S oi v a → S w →
   wpLat2 P ops Q S z fuel (listed.setIfInBounds i true) (a.put oi.dst v) w → wpLat2 P ops Q S z (fuel + 1) listed a w := by
 induction fuel with
 | zero =>
  intro listed a w hf hl hr hy hS H
  refine ⟨fun h => (by rw [h] at hr; cases hr), fun j hj => ?_⟩
  by_cases hji : j = i
  ·subst hji
   exact hy.wpOp hi hS ⟨fun _ _ => hS, H⟩
  ·have := ready_mono hj hji
   rw [H.1] at this
   cases this
 | succ fuel ih =>
  intro listed a w hf hl hr hy hS H
  refine ⟨fun h => (by rw [h] at hr; cases hr), fun j hj => ?_⟩
  by_cases hji : j = i
  ·subst hji
   exact hy.wpOp hi hS ⟨fun _ _ => hS, H⟩
  ·obtain ⟨oj, hoj, hnot⟩ := ready_waits2 hr hj
   have hun := (mem_ready.1 hj).1
   have hjz : j < z := by
    rcases Nat.lt_or_ge j z with h | h
    ·exact h
    ·obtain ⟨e, he, hb, heq⟩ := lat2Ok_spec hl hoj h hji hun
     exact absurd heq (hnot e he hb)
   have hap := Region.free_spec hi hf j oj hoj hji hun hnot
   have h2 := wpOp_putIf hoj hap (fun cs b => hsel i oi cs b hi) (fun cs b => hsel j oj cs b hoj) hQ hy (H.2 j (ready_mono hj hji))
   have hf' : Region.free .any ops (listed.setIfInBounds j true) i = true := by
    unfold Region.free at hf ⊢
    rw [hi] at hf ⊢
    simp only [List.all_eq_true] at hf ⊢
    intro k hk
    have h1 := hf k hk
    by_cases e : j = k
    ·subst e
     have h2 := getD_self2 listed j
     simp only [h2, Bool.or_true, Bool.true_or]
    ·rw [getD_set_ne true e]
     exact h1
   refine wpOp_mono (fun a' w' h3 => ⟨h3.2.1, ?_⟩) h2
   refine ih _ a' w' hf' (lat2Ok_more hl) (ready_mono hr (Ne.symm hji)) h3.1 (h3.2.1 hjz hS) ?_
   rw [Array.setIfInBounds_comm _ _ hji]
   exact h3.2.2

theorem lat2_pure {z i : Nat} {oi : Oper} {v : Value} (hi : ops[i]? = some oi) (hsel : ∀ (j : Nat) (o : Oper) cs b, ops[j]? = some o → o.op ≠ .select cs b)
  (hQ : ∀ c a w, Q (.panic c) (a.put oi.dst v) w → Q (.panic c) a w) (fuel : Nat) :
  ∀ (listed : Array Bool) (a : Act) (w : World), Region.free .any ops listed i = true → i ∈ Region.ready .any ops listed → YieldsIf P ops (fun _ => True) oi v a →
   wpLat2 P ops Q S z fuel (listed.setIfInBounds i true) (a.put oi.dst v) w → wpLat2 P ops Q S z (fuel + 1) listed a w := by
 induction fuel with
 | zero =>
  intro listed a w hf hr hy H
  refine ⟨fun h => (by rw [h] at hr; cases hr), fun j hj => ?_⟩
  by_cases hji : j = i
  ·subst hji
   exact hy.wpOp hi trivial ⟨fun _ hS => hS, H⟩
  ·have := ready_mono hj hji
   rw [H.1] at this
   cases this
 | succ fuel ih =>
  intro listed a w hf hr hy H
  refine ⟨fun h => (by rw [h] at hr; cases hr), fun j hj => ?_⟩
  by_cases hji : j = i
  ·subst hji
   exact hy.wpOp hi trivial ⟨fun _ hS => hS, H⟩
  ·obtain ⟨oj, hoj, hnot⟩ := ready_waits2 hr hj
   have hun := (mem_ready.1 hj).1; have hap := Region.free_spec hi hf j oj hoj hji hun hnot
   have h2 := wpOp_putIf hoj hap (fun cs b => hsel i oi cs b hi) (fun cs b => hsel j oj cs b hoj) hQ hy (H.2 j (ready_mono hj hji))
   have hf' : Region.free .any ops (listed.setIfInBounds j true) i = true := by
    unfold Region.free at hf ⊢
    rw [hi] at hf ⊢
    simp only [List.all_eq_true] at hf ⊢
    intro k hk
    have h1 := hf k hk
    by_cases e : j = k
    ·subst e
     have h2 := getD_self2 listed j
     simp only [h2, Bool.or_true, Bool.true_or]
    ·rw [getD_set_ne true e]
     exact h1
   refine wpOp_mono (fun a' w' h3 => ⟨h3.2.1, ?_⟩) h2
   refine ih _ a' w' hf' (ready_mono hr (Ne.symm hji)) h3.1 ?_
   rw [Array.setIfInBounds_comm _ _ hji]
   exact h3.2.2

/-- The beginning. -/
theorem lat2Begin {id : Nat} {a : Act} {w : World} (z : Nat) (hm : P.follows .mixedOrders = true) (hS : S w.drew)
  (h : S w.drew → wpLat2 P ops Q S z ops.size (Array.replicate ops.size false) a w.drew) : (Code.region id ops true).wp P Q a w :=
 wp_region_any hm (any_of_lat2 _ _ _ _ (h hS))
/-- An operation that yields its value in every world that meets S is taken first. -/
theorem lat2Take (i : Nat) (d : Option Tmp) (v : Value) {z : Nat} {oi : Oper} {fuel : Nat} {listed : Array Bool} {a : Act} {w : World} (hi : ops[i]? = some oi)
  (hs : Region.noSelect ops = true) (hf : Region.free .any ops listed i = true) (hl : lat2Ok ops listed z i = true) (hr : (Region.ready .any ops listed).contains i = true) (hd : oi.dst = d)
  (hQ : ∀ c a w, Q (.panic c) (a.put d v) w → Q (.panic c) a w) (hw : Region.wanted oi (yielded ops a.tmps) = true) (hS : S w)
  (hy : ∀ w, S w → (execOp a.eval oi).run P w = .ok (.value v) w)
  (h : wpLat2 P ops Q S z fuel (listed.setIfInBounds i true) (a.put d v) w) : wpLat2 P ops Q S z (fuel + 1) listed a w := by
 subst hd
 exact lat2_first hi (Region.noSelect_spec hs) hQ fuel listed a w hf hl (by simpa using hr) (Or.inl ⟨hw, hy⟩) hS h
/-- An operation that yields its value in every world is taken first, whatever waits for it. -/
theorem lat2Pure (i : Nat) (d : Option Tmp) (v : Value) {z : Nat} {oi : Oper} {fuel : Nat} {listed : Array Bool} {a : Act} {w : World} (hi : ops[i]? = some oi)
  (hs : Region.noSelect ops = true) (hf : Region.free .any ops listed i = true) (hr : (Region.ready .any ops listed).contains i = true) (hd : oi.dst = d)
  (hQ : ∀ c a w, Q (.panic c) (a.put d v) w → Q (.panic c) a w) (hw : Region.wanted oi (yielded ops a.tmps) = true)
  (hy : ∀ w, True → (execOp a.eval oi).run P w = .ok (.value v) w)
  (h : wpLat2 P ops Q S z fuel (listed.setIfInBounds i true) (a.put d v) w) : wpLat2 P ops Q S z (fuel + 1) listed a w := by
 subst hd
 exact lat2_pure hi (Region.noSelect_spec hs) hQ fuel listed a w hf (by simpa using hr) (Or.inl ⟨hw, hy⟩) h
/-- The one operation that may come up comes up; behind it S is shown anew. -/
theorem lat2Step (i : Nat) {z : Nat} {o : Oper} {fuel : Nat} {listed : Array Bool} {a : Act} {w : World} (hr : Region.ready .any ops listed = [i]) (ho : ops[i]? = some o) (hw : Region.wanted o (yielded ops a.tmps) = true)
  (h : ∀ K : Act → World → Prop, Shut (∀ a w, S w → (S w → wpLat2 P ops Q S z fuel (listed.setIfInBounds i true) a w) → K a w) → Oper.wp P o a w K Q) : wpLat2 P ops Q S z (fuel + 1) listed a w := by
 refine ⟨fun h0 => (by rw [hr] at h0; cases h0), fun j hj => ?_⟩
 rw [hr] at hj
 obtain rfl : j = i := by simpa using hj
 exact wpOp_step ho (fun K' hK => by rw [if_pos hw]; exact h K' (fun a w hS hW => hK a w ⟨fun _ _ => hS, hW hS⟩))
/-- The one operation that may come up is a late one: S need not be shown. -/
theorem lat2Last (i : Nat) {z : Nat} {o : Oper} {fuel : Nat} {listed : Array Bool} {a : Act} {w : World} (hz : z ≤ i) (hr : Region.ready .any ops listed = [i]) (ho : ops[i]? = some o) (hw : Region.wanted o (yielded ops a.tmps) = true)
  (h : ∀ K : Act → World → Prop, Shut (∀ a w, wpLat2 P ops Q S z fuel (listed.setIfInBounds i true) a w → K a w) → Oper.wp P o a w K Q) : wpLat2 P ops Q S z (fuel + 1) listed a w := by
 refine ⟨fun h0 => (by rw [hr] at h0; cases h0), fun j hj => ?_⟩
 rw [hr] at hj
 obtain rfl : j = i := by simpa using hj
 exact wpOp_step ho (fun K' hK => by rw [if_pos hw]; exact h K' (fun a w hW => hK a w ⟨fun hlt _ => by omega, hW⟩))
theorem lat2Done {z : Nat} {listed : Array Bool} {a : Act} {w : World} (hr : Region.ready .any ops listed = []) (h : Q .normal a w) : ∀ fuel, wpLat2 P ops Q S z fuel listed a w
 | 0 => ⟨hr, h⟩
 | _ + 1 => ⟨fun _ => h, by rw [hr]; simp⟩
end
end Go.Proofs.YtlngjflhbkannaaGreat
