/- Several texts in one. -/
import Derived.Test.YtfemplekibpfoaaGreatPlainA
import Derived.Test.YtfemplekibpfoaaGreatDrawKit
import Derived.Test.YtfemplekibpfoaaGreatDrawPick
import Derived.Test.YtfemplekibpfoaaGreatSetA
import Derived.Deep.RegionHeld3
import Derived.Test.YtfemplekibpfoaaGreatBoxKeeps
import Derived.Test.YtfemplekibpfoaaGreatSetFlagsS
import Derived.Test.YtfemplekibpfoaaGreatExpungeS
import Derived.Test.YtfemplekibpfoaaGreatFlagRows
import Derived.Test.YtfemplekibpfoaaGreatRegA
import Derived.Test.YtfemplekibpfoaaGreatBoxA
import Derived.Test.YtfemplekibpfoaaGreatBoxNameS
import Derived.BigQuiet
/- What drawn mails and subjects are, plainly. -/
namespace Go.Proofs.YtfemplekibpfoaaGreat.Plain
open Go.RowKit
set_option linter.unusedVariables false

/-- The texts of drawn mails: a subject, who it is from, what is below. -/
def subjT : List (List UInt8) := [[83, 117, 98, 106, 101, 99, 116, 58, 32, 104, 101, 108, 108, 111, 10], [83, 117, 98, 106, 101, 99, 116, 58, 32, 82, 101, 58, 32, 104, 101, 108, 108, 111, 10], [83, 117, 98, 106, 101, 99, 116, 58, 32, 111, 116, 104, 101, 114, 10], [83, 117, 98, 106, 101, 99, 116, 58, 32, 102, 119, 100, 58, 32, 82, 69, 58, 32, 32, 72, 101, 108, 108, 111, 32, 10], [83, 117, 98, 106, 101, 99, 116, 58, 10], [83, 117, 98, 106, 101, 99, 116, 58, 32, 110, 101, 119, 115, 10]]
def fromT : List (List UInt8) := [[], [70, 114, 111, 109, 58, 32, 97, 110, 110, 10], [70, 114, 111, 109, 58, 32, 98, 111, 98, 10]]
def restT : List (List UInt8) := [[], [10, 116, 101, 120, 116], [10, 98, 111, 100, 121, 32, 111, 102, 32, 105, 116, 10], [10], [10, 97, 10, 10, 98]]
def mailT : List (List UInt8) := subjT.flatMap fun a => fromT.flatMap fun b => restT.map fun d => a ++ b ++ d
theorem mail_mem {a b d : List UInt8} (ha : a ∈ subjT) (hb : b ∈ fromT) (hd : d ∈ restT) : a ++ b ++ d ∈ mailT :=
  List.mem_flatMap.2 ⟨a, ha, List.mem_flatMap.2 ⟨b, hb, List.mem_map.2 ⟨d, hd, rfl⟩⟩⟩
def upSubj : List UInt8 := [83, 85, 66, 74, 69, 67, 84]
def loSubj : List UInt8 := [115, 117, 98, 106, 101, 99, 116]
def noHead : List UInt8 := [110, 111, 116, 104, 105, 110, 103]
theorem mail_facts : ∀ t ∈ mailT, (decide (1 ≤ t.length) && decide (t.length ≤ 100)) = true ∧ mailOkL t = true ∧ (headL t upSubj).2 = true ∧ headL t upSubj = headL t loSubj ∧ (headL t noHead).2 = false ∧ (bodyL t).length ≤ t.length ∧ t.drop (t.length - (bodyL t).length) = bodyL t := by decide +kernel
/-- The texts of drawn subjects: of what is left, and how often something is put ahead. -/
def baseT : List (List UInt8) := [[104, 101, 108, 108, 111], [97, 32, 98], [110, 101, 119, 115, 32, 111, 102, 32, 105, 116], []]
def aheadT : List (List UInt8) := [[82, 101, 58, 32], [102, 119, 100, 58], [32, 82, 69, 58, 32, 32]]
def putT : Nat → List UInt8 → List (List UInt8)
  | 0, s => [s]
  | k + 1, s => aheadT.flatMap fun a => (putT k s).map fun t => a ++ t
theorem put_mem {k : Nat} {s a t : List UInt8} (ha : a ∈ aheadT) (ht : t ∈ putT k s) : a ++ t ∈ putT (k + 1) s :=
  List.mem_flatMap.2 ⟨a, ha, List.mem_map.2 ⟨t, ht, rfl⟩⟩
theorem base_facts : ∀ k : Fin 4, ∀ s ∈ baseT, ∀ t ∈ putT k.val s, baseL t = s ∧ t.length ≤ 60 := by decide +kernel
theorem base_same : ∀ s ∈ baseT, baseL s = s ∧ s.length ≤ 20 := by decide +kernel
theorem base_hello : baseL [72, 101, 108, 108, 111] = [104, 101, 108, 108, 111] ∧ baseL [114, 101, 97, 108] = [114, 101, 97, 108] := by decide +kernel
theorem part_two (t : List UInt8) (k : Nat) (h : k ≤ t.length) : partL t 0 k ++ partL t k t.length = t := by
  rw [partL_in (by omega), partL_in (by omega)]
  simp only [Int.toNat_natCast, Int.toNat_zero, List.drop_zero]
  rw [List.take_of_length_le (l := t.drop k) (by simp), List.take_append_drop]
end Go.Proofs.YtfemplekibpfoaaGreat.Plain

/- The draws of chapter 7: mails, texts, names, subjects, parts. -/
namespace Go.Proofs.YtfemplekibpfoaaGreat
open Go.RowKit
open Plain
set_option linter.unusedVariables false
set_option linter.unusedSimpArgs false

/-- The cursor under way, told from where the walk began. -/
structure MC (B c : Nat) (w W : World) : Prop where
  cur : Cur B W c
  grown : w.grownBy W (some c)
theorem MC.call {B c : Nat} {w W W' : World} (h : MC B c w W) (hg : W.grownBy W' (some c)) (hc : Cur B W' c) : MC B c w W' := ⟨hc, g_join h.grown hg⟩
theorem app_list (x y : ByteArray) : (x ++ y).data.toList = x.data.toList ++ y.data.toList := by simp

set_option maxHeartbeats 2000000 in
set_option maxRecDepth 100000 in
theorem l07Mail_any (B c : Nat) (w : World) (hc : Cur B w c) :
    Calls Tryz.prog 103 #[.pointer (some ⟨c, 0, none⟩)] w fun e w' => ∃ t : ByteArray, t.data.toList ∈ mailT ∧ e = .returned (.string t) ∧ Cur B w' c ∧ w.grownBy w' (some c) := by
  have C0 : Hid (MC B c w w) := ⟨hc, g_self _ _⟩
  clear hc
  go_enter Tryz.func103, Tryz.ntmps103
  go_wp2_with fail
  refine (flag_str [⟨#[32, 104, 101, 108, 108, 111]⟩, ⟨#[32, 82, 101, 58, 32, 104, 101, 108, 108, 111]⟩, ⟨#[32, 111, 116, 104, 101, 114]⟩, ⟨#[32, 102, 119, 100, 58, 32, 82, 69, 58, 32, 32, 72, 101, 108, 108, 111, 32]⟩, ⟨#[]⟩, ⟨#[32, 110, 101, 119, 115]⟩] B c w (unhide C0).cur (by decide) (by decide)).mono ?_
  rintro e w1 ⟨z, hz, rfl, hc, hg⟩
  have C1 := hide ((unhide C0).call hg hc)
  have Z1 : z.size ≤ 20 ∧ ([83, 117, 98, 106, 101, 99, 116, 58] ++ z.data.toList ++ [10]) ∈ subjT := (show ∀ z ∈ ([⟨#[32, 104, 101, 108, 108, 111]⟩, ⟨#[32, 82, 101, 58, 32, 104, 101, 108, 108, 111]⟩, ⟨#[32, 111, 116, 104, 101, 114]⟩, ⟨#[32, 102, 119, 100, 58, 32, 82, 69, 58, 32, 32, 72, 101, 108, 108, 111, 32]⟩, ⟨#[]⟩, ⟨#[32, 110, 101, 119, 115]⟩] : List ByteArray), z.size ≤ 20 ∧ ([83, 117, 98, 106, 101, 99, 116, 58] ++ z.data.toList ++ [10]) ∈ subjT by decide) z hz
  obtain ⟨z1, Z2⟩ := Z1
  have Z3 := hide Z2; clear hc hg C0 hz Z2; go_wp2_with fail
  obtain ⟨X, hX⟩ : ∃ X : ByteArray, X = (⟨#[83, 117, 98, 106, 101, 99, 116, 58]⟩ ++ z ++ ⟨#[10]⟩ : ByteArray) := ⟨_, rfl⟩
  have X1 : Hid (X.data.toList ∈ subjT) := by show X.data.toList ∈ subjT; rw [hX, app_list, app_list]; exact unhide Z3
  have x1 : X.size ≤ 40 := by rw [hX, ByteArray.size_append, ByteArray.size_append]; show 8 + z.size + 1 ≤ 40; omega
  rw [← hX]
  clear hX Z3 z1
  refine (l01Once_any B c 2 w1 (unhide C1).cur (by omega) (by omega)).mono ?_
  rintro e w2 ⟨b2, rfl, hc, hg⟩
  have C2 := hide ((unhide C1).call hg hc); clear hc hg C1
  cases b2 with
  | true =>
    go_wp2_with fail
    refine (flag_str [⟨#[97, 110, 110]⟩, ⟨#[98, 111, 98]⟩] B c w2 (unhide C2).cur (by decide) (by decide)).mono ?_
    rintro e w3 ⟨f, hf, rfl, hc, hg⟩
    have C3 := hide ((unhide C2).call hg hc)
    have F1 : f.size ≤ 20 ∧ ([70, 114, 111, 109, 58, 32] ++ f.data.toList ++ [10]) ∈ fromT := (show ∀ z ∈ ([⟨#[97, 110, 110]⟩, ⟨#[98, 111, 98]⟩] : List ByteArray), z.size ≤ 20 ∧ ([70, 114, 111, 109, 58, 32] ++ z.data.toList ++ [10]) ∈ fromT by decide) f hf
    obtain ⟨f1, F2⟩ := F1
    have F3 := hide F2; clear hc hg C2 hf F2; go_wp2_with fail
    obtain ⟨Y, hY⟩ : ∃ Y : ByteArray, Y = (X ++ ⟨#[70, 114, 111, 109, 58, 32]⟩ ++ f ++ ⟨#[10]⟩ : ByteArray) := ⟨_, rfl⟩
    have Y1 : Hid (∃ a ∈ subjT, ∃ b ∈ fromT, Y.data.toList = a ++ b) := ⟨_, unhide X1, _, unhide F3, by rw [hY, app_list, app_list, app_list]; simp⟩
    have y1 : Y.size ≤ 80 := by rw [hY, ByteArray.size_append, ByteArray.size_append, ByteArray.size_append]; show X.size + 6 + f.size + 1 ≤ 80; omega
    rw [← hY]
    clear hY F3 f1 X1 x1
    refine (l01Once_any B c 6 w3 (unhide C3).cur (by omega) (by omega)).mono ?_
    rintro e w4 ⟨b4, rfl, hc, hg⟩
    have C4 := hide ((unhide C3).call hg hc); clear hc hg C3
    cases b4 with
    | true =>
      go_wp2
      go_ret
      obtain ⟨a, ha, b, hb, hab⟩ := unhide Y1
      exact ⟨_, by rw [hab, ← List.append_nil (a ++ b)]; exact mail_mem ha hb (by decide), rfl, (unhide C4).cur, (unhide C4).grown⟩
    | false =>
      go_wp2_with fail
      refine (flag_str [⟨#[116, 101, 120, 116]⟩, ⟨#[98, 111, 100, 121, 32, 111, 102, 32, 105, 116, 10]⟩, ⟨#[]⟩, ⟨#[97, 10, 10, 98]⟩] B c w4 (unhide C4).cur (by decide) (by decide)).mono ?_
      rintro e w5 ⟨d, hd, rfl, hc, hg⟩
      have C5 := hide ((unhide C4).call hg hc)
      have D1 : d.size ≤ 20 ∧ ([10] ++ d.data.toList) ∈ restT := (show ∀ z ∈ ([⟨#[116, 101, 120, 116]⟩, ⟨#[98, 111, 100, 121, 32, 111, 102, 32, 105, 116, 10]⟩, ⟨#[]⟩, ⟨#[97, 10, 10, 98]⟩] : List ByteArray), z.size ≤ 20 ∧ ([10] ++ z.data.toList) ∈ restT by decide) d hd
      obtain ⟨d1, D2⟩ := D1
      have D3 := hide D2; clear hc hg C4 hd D2
      go_wp2
      go_ret
      obtain ⟨a, ha, b, hb, hab⟩ := unhide Y1
      exact ⟨_, by rw [app_list, app_list, hab, List.append_assoc]; exact mail_mem ha hb (unhide D3), rfl, (unhide C5).cur, (unhide C5).grown⟩
  | false =>
    have Y1 : Hid (∃ a ∈ subjT, ∃ b ∈ fromT, X.data.toList = a ++ b) := ⟨_, unhide X1, [], by decide, by simp⟩
    have y1 : X.size ≤ 80 := by omega
    clear X1 x1; go_wp2_with fail
    refine (l01Once_any B c 6 w2 (unhide C2).cur (by omega) (by omega)).mono ?_
    rintro e w4 ⟨b4, rfl, hc, hg⟩
    have C4 := hide ((unhide C2).call hg hc); clear hc hg C2
    obtain ⟨Y, hY⟩ : ∃ Y : ByteArray, Y = X := ⟨_, rfl⟩
    rw [← hY] at y1 Y1 ⊢
    clear hY
    cases b4 with
    | true =>
      go_wp2
      go_ret
      obtain ⟨a, ha, b, hb, hab⟩ := unhide Y1
      exact ⟨_, by rw [hab, ← List.append_nil (a ++ b)]; exact mail_mem ha hb (by decide), rfl, (unhide C4).cur, (unhide C4).grown⟩
    | false =>
      go_wp2_with fail
      refine (flag_str [⟨#[116, 101, 120, 116]⟩, ⟨#[98, 111, 100, 121, 32, 111, 102, 32, 105, 116, 10]⟩, ⟨#[]⟩, ⟨#[97, 10, 10, 98]⟩] B c w4 (unhide C4).cur (by decide) (by decide)).mono ?_
      rintro e w5 ⟨d, hd, rfl, hc, hg⟩
      have C5 := hide ((unhide C4).call hg hc)
      have D1 : d.size ≤ 20 ∧ ([10] ++ d.data.toList) ∈ restT := (show ∀ z ∈ ([⟨#[116, 101, 120, 116]⟩, ⟨#[98, 111, 100, 121, 32, 111, 102, 32, 105, 116, 10]⟩, ⟨#[]⟩, ⟨#[97, 10, 10, 98]⟩] : List ByteArray), z.size ≤ 20 ∧ ([10] ++ z.data.toList) ∈ restT by decide) d hd
      obtain ⟨d1, D2⟩ := D1
      have D3 := hide D2; clear hc hg C4 hd D2
      go_wp2
      go_ret
      obtain ⟨a, ha, b, hb, hab⟩ := unhide Y1
      exact ⟨_, by rw [app_list, app_list, hab, List.append_assoc]; exact mail_mem ha hb (unhide D3), rfl, (unhide C5).cur, (unhide C5).grown⟩


set_option maxHeartbeats 2000000 in
set_option maxRecDepth 100000 in
theorem l07Any_any (B c : Nat) (w : World) (hc : Cur B w c) :
    Calls Tryz.prog 66 #[.pointer (some ⟨c, 0, none⟩)] w fun e w' => ∃ t : ByteArray, t.size ≤ 1000 ∧ e = .returned (.string t) ∧ Cur B w' c ∧ w.grownBy w' (some c) := by
  have C0 : Hid (MC B c w w) := ⟨hc, g_self _ _⟩
  clear hc
  go_enter Tryz.func66, Tryz.ntmps66
  go_wp2_with fail
  refine (l01Below_any B c 10 w (unhide C0).cur (by omega) (by omega)).mono ?_
  rintro e w1 ⟨x, hx, rfl, hc, hg⟩
  have C1 := hide ((unhide C0).call hg hc); clear hc hg C0
  by_cases h0 : x = 0
  · subst h0
    go_wp2_with fail
    refine (flag_str [⟨#[]⟩, ⟨#[10]⟩, ⟨#[10, 10]⟩, ⟨#[115, 117, 98, 106, 101, 99, 116, 58, 32, 120]⟩, ⟨#[83, 85, 66, 74, 69, 67, 84, 58, 121, 10, 115, 117, 98, 106, 101, 99, 116, 58, 32, 122, 10]⟩, ⟨#[97, 0, 98]⟩, ⟨#[58, 10]⟩] B c w1 (unhide C1).cur (by decide) (by decide)).mono ?_
    rintro e w2 ⟨z, hz, rfl, hc, hg⟩
    have C2 := hide ((unhide C1).call hg hc)
    have z1 : z.size ≤ 1000 := (show ∀ z ∈ ([⟨#[]⟩, ⟨#[10]⟩, ⟨#[10, 10]⟩, ⟨#[115, 117, 98, 106, 101, 99, 116, 58, 32, 120]⟩, ⟨#[83, 85, 66, 74, 69, 67, 84, 58, 121, 10, 115, 117, 98, 106, 101, 99, 116, 58, 32, 122, 10]⟩, ⟨#[97, 0, 98]⟩, ⟨#[58, 10]⟩] : List ByteArray), z.size ≤ 1000 by decide) z hz
    clear hc hg C1 hz
    go_wp2
    go_ret
    exact ⟨z, z1, rfl, (unhide C2).cur, (unhide C2).grown⟩
  · have t0 : ((x : Int) == 0) = false := by simp; omega
    by_cases h1 : x = 1
    · subst h1
      clear t0 h0; go_wp2_with fail
      refine (l01Below_any B c 2 w1 (unhide C1).cur (by omega) (by omega)).mono ?_
      rintro e w2 ⟨y, hy, rfl, hc, hg⟩
      have C2 := hide ((unhide C1).call hg hc); clear hc hg C1
      have LQ := l01Long_any (200 + y) 97 w2 (by omega) (by omega)
      rw [show ((200 + y : Nat) : Int) = 200 + (y : Int) by omega] at LQ
      have LH := hide LQ; clear LQ; go_wp2_with fail
      refine (unhide LH).mono ?_
      rintro e w3 ⟨l, hl, rfl, hb⟩
      have C3 : Hid (MC B c w w3) := (unhide C2).call (g_grown hb _) ((unhide C2).cur.kept (g_grown hb none) (fun k hk => by cases hk))
      have hl2 : (⟨l.toArray⟩ : ByteArray).size ≤ 1000 := by show l.toArray.size ≤ 1000; rw [List.size_toArray]; omega
      generalize (⟨l.toArray⟩ : ByteArray) = T at *
      clear hb C2 hl LH
      go_wp2
      go_ret
      exact ⟨T, hl2, rfl, (unhide C3).cur, (unhide C3).grown⟩
    · have t1 : ((x : Int) == 1) = false := by simp; omega
      clear h0 h1; go_wp2_with fail
      refine (l07Mail_any B c w1 (unhide C1).cur).mono ?_
      rintro e w2 ⟨t, ht, rfl, hc, hg⟩
      have C2 := hide ((unhide C1).call hg hc)
      have l2 : t.size ≤ 1000 := by
        have := (mail_facts _ ht).1
        rw [Bool.and_eq_true, decide_eq_true_eq, decide_eq_true_eq] at this
        have h3 : t.data.toList.length = t.size := rfl
        omega
      clear hc hg C1 ht
      go_wp2
      go_ret
      exact ⟨t, l2, rfl, (unhide C2).cur, (unhide C2).grown⟩

end Go.Proofs.YtfemplekibpfoaaGreat

/- The draws of the laws on sets: right sets. -/
namespace Go.Proofs.YtfemplekibpfoaaGreat
open Go.RowKit
open Plain
set_option linter.unusedVariables false

theorem belowS_lit (B c n : Nat) (z : Int) (hz : z = (n : Int)) (w : World) (hc : Cur B w c) (h0 : 0 < n) (h1 : n ≤ 4294967296) :
    Calls Tryz.prog 72 #[.pointer (some ⟨c, 0, none⟩), .int .i64 z] w fun e w' => ∃ x : Nat, x < n ∧ e = .returned (.int .i64 (x : Int)) ∧ Cur B w' c ∧ w.grownBy w' (some c) := by
  subst hz; exact l01Below_any B c n w hc h0 h1

/-- A set under way, the cursor beside it. -/
structure SS (B c : Nat) (w W : World) (v : Value) (s : List Rg) : Prop where
  own : OwnR w.heap.size W v s
  cur : Cur B W c
  grown : w.grownBy W (some c)
theorem SS.call {B c : Nat} {w W W' : World} {v : Value} {s : List Rg} (h : SS B c w W v s) (hl : c < w.heap.size) (hg : W.grownBy W' (some c)) (hc : Cur B W' c) : SS B c w W' v s :=
  ⟨World.ownsRow.kept h.own hg (own_apart h.own hl), hc, g_join h.grown hg⟩
theorem SS.made {B c : Nat} {w W W' : World} {v v' : Value} {s s' : List Rg} (h : SS B c w W v s) (hb : Below W.heap.size W W') (ho : OwnR W.heap.size W' v' s') : SS B c w W' v' s' :=
  ⟨g_based ho h.grown.size, h.cur.kept (g_grown hb none) (fun k hk => by cases hk), g_then h.grown hb⟩
theorem SS.alloc {B c : Nat} {w W : World} {v : Value} {s : List Rg} (h : SS B c w W v s) (o : Obj) : SS B c w (W.alloc o) v s :=
  ⟨h.own.alloc o, h.cur.kept (World.grownBy_alloc _ _ none) (fun k hk => by cases hk), g_then h.grown ((Below.refl _ _).alloc (Nat.le_refl _) _)⟩

theorem put_some {s : List Rg} {lo hi : Int} (h : okS s = true) (h1 : 1 ≤ lo) (h2 : lo ≤ hi) (h3 : hi ≤ 9999) : 0 < (setOf (putB s lo hi true)).length := by
  obtain ⟨n, rfl⟩ := Int.eq_ofNat_of_zero_le (show 0 ≤ lo by omega)
  have e := put_has (hi := hi) (c := true) h h1 (n := n) (by omega)
  have : putB s (n : Int) hi true n = true := by unfold putB; rw [if_pos ⟨Int.le_refl _, h2⟩]
  rw [this] at e
  cases hx : setOf (putB s (n : Int) hi true) with
  | nil => rw [hx] at e; cases e
  | cons a b => exact Nat.succ_pos _
theorem own_someR {B : Nat} {W : World} {v : Value} {l : List Rg} (h : OwnR B W v l) (hl : 0 < l.length) : ∃ g cp, v = .slice (some ⟨g, 0, none⟩) l.length cp := by
  unfold OwnR at h
  rcases h.2 with ⟨_, h0⟩ | ⟨g, c, cur, rfl, _⟩
  · omega
  · exact ⟨g, c, rfl⟩

set_option maxHeartbeats 4000000 in
set_option maxRecDepth 100000 in
theorem l05Draw_any (B c : Nat) (w : World) (hc : Cur B w c) :
    Calls Tryz.prog 96 #[.pointer (some ⟨c, 0, none⟩)] w fun e w' => ∃ (v : Value) (s : List Rg), e = .returned v ∧ okS s = true ∧ s.length ≤ 5 ∧ SS B c w w' v s ∧ ∃ g cp, v = .slice (some ⟨g, 0, none⟩) s.length cp := by
  have hcl := hc.lt.2
  have S0 : Hid (SS B c w (w.alloc (.cells #[] 86)) (.slice (some ⟨w.heap.size, 0, none⟩) 0 0) []) :=
    ⟨World.ownsRow_lit w #[] 0 (Nat.le_refl _) (Nat.zero_le _) rfl, hc.kept (World.grownBy_alloc _ _ none) (fun k hk => by cases hk), World.grownBy_alloc _ _ _⟩
  have LIT := hide (fun (W : World) (n : Nat) (z : Int) (hz : z = (n : Int)) (hC : Cur B W c) (h0 : 0 < n) (h1 : n ≤ 4294967296) => belowS_lit B c n z hz W hC h0 h1)
  clear hc
  go_enter Tryz.func96, Tryz.ntmps96
  go_wp2
  go_loopw [3, 4] (fun v i wr => ∃ (k : Nat) (s : List Rg), k ≤ 4 ∧ i = .int .i64 k ∧ okS s = true ∧ s.length ≤ k ∧ SS B c w wr v s ∧ ∃ g cp, v = .slice (some ⟨g, 0, none⟩) s.length cp) (fun _ i _ => 5 - (intOf i).toNat)
  case atStart => exact ⟨0, [], Nat.zero_le _, rfl, rfl, Nat.zero_le _, unhide S0, _, _, rfl⟩
  case round =>
    obtain ⟨k, s, hk, rfl, hok, hlen, hss, hsv⟩ := hrel
    have SV := hide hsv; clear hsv; have SSk := hide hss; have OK := hide hok; clear hss hok; go_wp2_with fail
    refine (unhide LIT wr 5 5 rfl (unhide SSk).cur (by omega) (by omega)).mono ?_
    rintro e w1 ⟨x, hx, rfl, hc1, hg1⟩
    have S1 := hide ((unhide SSk).call hcl hg1 hc1); clear hc1 hg1 SSk
    by_cases hkx : k < x
    · have dk : decide ((k : Int) < (x : Int)) = true := by rw [decide_eq_true_eq]; omega
      go_wp2_with fail
      refine (unhide LIT w1 14 14 rfl (unhide S1).cur (by omega) (by omega)).mono ?_
      rintro e w2 ⟨a, ha, rfl, hc2, hg2⟩
      have S2 := hide ((unhide S1).call hcl hg2 hc2); clear hc2 hg2 S1; go_wp2_with fail
      refine (unhide LIT w2 4 4 rfl (unhide S2).cur (by omega) (by omega)).mono ?_
      rintro e w3 ⟨b, hb, rfl, hc3, hg3⟩
      have S3 := hide ((unhide S2).call hcl hg3 hc3); clear hc3 hg3 S2
      obtain ⟨r1, r2, r3⟩ := put_room (c := true) (unhide OK) (show s.length ≤ 39 by omega) (show (1 : Int) ≤ 1 + (a : Int) by omega) (show 1 + (a : Int) ≤ 1 + (a : Int) + (b : Int) by omega) (by omega)
      have q := spec_SetAdd_any s (1 + (a : Int)) (1 + (a : Int) + (b : Int)) _ w.heap.size w3 (by omega) (unhide S3).own
      rw [r1] at q
      have Q := hide q; have R2 := hide r2
      have NE := hide (put_some (unhide OK) (show (1 : Int) ≤ 1 + (a : Int) by omega) (show 1 + (a : Int) ≤ 1 + (a : Int) + (b : Int) by omega) (by omega))
      clear q r1 r2 SV; go_wp2_with fail
      refine (unhide Q).mono ?_
      rintro e w4 ⟨v4, rfl, o4, hb4⟩
      have SV := hide (own_someR o4 (unhide NE)); have S4 := hide ((unhide S3).made hb4 o4); clear o4 hb4 S3 Q
      go_wp2
      go_roundw
      case rel => exact ⟨k + 1, _, by omega, by go_num, unhide R2, by omega, unhide S4, unhide SV⟩
      case measure => simp [intOf]; omega
    · have dk : decide ((k : Int) < (x : Int)) = false := by rw [decide_eq_false_iff_not]; omega
      go_wp2_with fail
      refine (l01Once_any B c 10 w1 (unhide S1).cur (by omega) (by omega)).mono ?_
      rintro e w2 ⟨bb, rfl, hc2, hg2⟩
      have S2 := hide ((unhide S1).call hcl hg2 hc2); clear hc2 hg2 S1
      cases bb with
      | false =>
        go_wp2
        go_ret
        exact ⟨_, s, rfl, unhide OK, by omega, unhide S2, unhide SV⟩
      | true =>
        obtain ⟨r1, r2, r3⟩ := put_room (c := true) (unhide OK) (show s.length ≤ 39 by omega) (show (1 : Int) ≤ 9998 by omega) (show (9998 : Int) ≤ 9999 by omega) (by omega)
        have q := spec_SetAdd_any s 9998 9999 _ w.heap.size w2 (by omega) (unhide S2).own
        rw [r1] at q
        have Q := hide q; have R2 := hide r2
        have NE := hide (put_some (unhide OK) (show (1 : Int) ≤ 9998 by omega) (show (9998 : Int) ≤ 9999 by omega) (by omega))
        clear q r1 r2 SV; go_wp2_with fail
        refine (unhide Q).mono ?_
        rintro e w4 ⟨v4, rfl, o4, hb4⟩
        have SV := hide (own_someR o4 (unhide NE)); have S4 := hide ((unhide S2).made hb4 o4); clear o4 hb4 S2 Q
        go_wp2
        go_ret
        exact ⟨_, _, rfl, unhide R2, by omega, unhide S4, unhide SV⟩

set_option maxHeartbeats 2000000 in
theorem DrawSets_any (B len cap : Nat) (a : Option Addr) (w : World) (ha : Arg B w a len) (hB : B ≤ w.heap.size) :
    Calls Tryz.prog 41 #[.slice a len cap] w fun e w' => ∃ (v u : Value) (s t : List Rg), e = .returned (.tuple #[v, u]) ∧ okS s = true ∧ s.length ≤ 5 ∧ okS t = true ∧ t.length ≤ 5 ∧ OwnR w.heap.size w' v s ∧ OwnR w.heap.size w' u t ∧ Below w.heap.size w w' := by
  have q1 := hide (l01New_any B len cap a w ha hB); clear ha
  go_enter Tryz.func41, Tryz.ntmps41
  go_wp2_with fail
  refine (unhide q1).mono ?_
  rintro e w1 ⟨rfl, hc1, hg1⟩
  have b1 : Below w.heap.size w w1 := g_below hg1
  have z1 := hc1.lt; clear q1 hg1; go_wp2_with fail
  refine (l05Draw_any B w.heap.size w1 hc1).mono ?_
  rintro e w2 ⟨v, s, rfl, hs1, hs2, hss, _⟩
  have H2 := hide hss; have g2 := hss.grown
  have z2 : w1.heap.size ≤ w2.heap.size := g2.size
  have b2 := hide (b1.grown g2 (by omega) (fun k hk => by cases hk; exact Nat.le_refl _))
  clear b1 g2 hc1 hss; go_wp2_with fail
  refine (l05Draw_any B w.heap.size w2 (unhide H2).cur).mono ?_
  rintro e w3 ⟨u, t, rfl, ht1, ht2, htt, _⟩
  have o1 := hide (World.ownsRow.kept (unhide H2).own htt.grown (own_apart (unhide H2).own (by omega)))
  have b3 := hide ((unhide b2).grown htt.grown (by omega) (fun k hk => by cases hk; exact Nat.le_refl _))
  have o2 := hide htt.own; clear htt H2 b2
  go_wp2
  go_ret2
  exact ⟨v, u, s, t, rfl, hs1, hs2, ht1, ht2, g_based (unhide o1) (by omega), g_based (unhide o2) (by omega), unhide b3⟩
end Go.Proofs.YtfemplekibpfoaaGreat

/- A drawing region whose last operations wait for all others: a condition on the world under which operations are taken first need not hold behind those last ones. Nothing of the program stands here. -/
namespace Go.Proofs.YtfemplekibpfoaaGreat
open Go
set_option linter.unusedVariables false

section
variable {P : Program} {ops : Array Oper} {Q : Exit → Act → World → Prop} {S : World → Prop}

/-- Whatever order is picked from here on; S is kept by each operation whose number is below z. -/
def wpLat2 (P : Program) (ops : Array Oper) (Q : Exit → Act → World → Prop) (S : World → Prop) (z : Nat) : Nat → Array Bool → Act → World → Prop
  | 0, listed, a, w => Region.ready .any ops listed = [] ∧ Q .normal a w
  | fuel + 1, listed, a, w => (Region.ready .any ops listed = [] → Q .normal a w) ∧
      ∀ i ∈ Region.ready .any ops listed, wpOp P ops Q i (fun a' w' => (i < z → S w → S w') ∧ wpLat2 P ops Q S z fuel (listed.setIfInBounds i true) a' w') a w

theorem any_of_lat2 {z : Nat} : ∀ (fuel : Nat) (listed : Array Bool) (a : Act) (w : World), wpLat2 P ops Q S z fuel listed a w → wpAny P .any ops Q fuel listed a w
  | 0, _, _, _, h => h
  | fuel + 1, _, _, _, h => ⟨h.1, fun i hi => wpOp_mono (fun a' w' hh => any_of_lat2 fuel _ a' w' hh.2) (h.2 i hi)⟩

/-- Those from z on that have not come up wait for number i. -/
def lat2Ok (ops : Array Oper) (listed : Array Bool) (z i : Nat) : Bool :=
  (List.range ops.size).all fun j => decide (j < z) || j == i || listed.getD j true || match ops[j]? with
    | some oj => oj.after.any fun e => Region.binds .any e && e.on == i
    | none => true
theorem lat2Ok_spec {listed : Array Bool} {z i j : Nat} {oj : Oper} (h : lat2Ok ops listed z i = true) (hj : ops[j]? = some oj) (hz : z ≤ j) (hne : j ≠ i) (hun : listed.getD j true = false) :
    ∃ e ∈ oj.after, Region.binds .any e = true ∧ e.on = i := by
  unfold lat2Ok at h
  rw [List.all_eq_true] at h
  have h1 := h j (List.mem_range.2 (Array.getElem?_eq_some_iff.1 hj).1)
  have h2 : decide (j < z) = false := by simp; omega
  have h3 : (j == i) = false := by simp [hne]
  rw [h2, h3, hun, hj] at h1
  simp only [Bool.false_or] at h1
  obtain ⟨e, he, hb⟩ := Array.any_eq_true'.1 h1
  rw [Bool.and_eq_true, beq_iff_eq] at hb
  exact ⟨e, he, hb.1, hb.2⟩

theorem getD_self2 (listed : Array Bool) (k : Nat) : (listed.setIfInBounds k true).getD k true = true := by
  by_cases h : k < listed.size <;> simp [Array.getD, h]
theorem lat2Ok_more {listed : Array Bool} {z i k : Nat} (h : lat2Ok ops listed z i = true) : lat2Ok ops (listed.setIfInBounds k true) z i = true := by
  unfold lat2Ok at *
  rw [List.all_eq_true] at *
  intro j hj
  have h1 := h j hj
  by_cases e : k = j
  · subst e
    have h2 := getD_self2 listed k
    simp only [h2, Bool.or_true, Bool.true_or]
  · rw [getD_set_ne true e]
    exact h1

/-- A ready operation does not wait for one that has not come up. -/
theorem ready_waits2 {i j : Nat} {listed : Array Bool} (hi : i ∈ Region.ready .any ops listed) (hj : j ∈ Region.ready .any ops listed) : ∃ oj, ops[j]? = some oj ∧ ∀ e ∈ oj.after, Region.binds .any e = true → e.on ≠ i := by
  obtain ⟨_, oj, hoj, hall⟩ := mem_ready.1 hj
  refine ⟨oj, hoj, fun e he hb heq => ?_⟩
  have h1 := hall e he hb; have h0 := (mem_ready.1 hi).1
  rw [heq] at h1
  rcases Nat.lt_or_ge i listed.size with h' | h'
  · simp [Array.getD, h'] at h0 h1
    rw [h0] at h1; cases h1
  · simp [Array.getD] at h0
    obtain ⟨h2, _⟩ := h0
    omega

theorem lat2_first {z i : Nat} {oi : Oper} {v : Value} (hi : ops[i]? = some oi) (hsel : ∀ (j : Nat) (o : Oper) cs b, ops[j]? = some o → o.op ≠ .select cs b)
    (hQ : ∀ c a w, Q (.panic c) (a.put oi.dst v) w → Q (.panic c) a w) (fuel : Nat) :
    ∀ (listed : Array Bool) (a : Act) (w : World), Region.free .any ops listed i = true → lat2Ok ops listed z i = true → i ∈ Region.ready .any ops listed → YieldsIf P ops S oi v a → S w →
      wpLat2 P ops Q S z fuel (listed.setIfInBounds i true) (a.put oi.dst v) w → wpLat2 P ops Q S z (fuel + 1) listed a w := by
  induction fuel with
  | zero =>
    intro listed a w hf hl hr hy hS H
    refine ⟨fun h => (by rw [h] at hr; cases hr), fun j hj => ?_⟩
    by_cases hji : j = i
    · subst hji
      exact hy.wpOp hi hS ⟨fun _ _ => hS, H⟩
    · have := ready_mono hj hji
      rw [H.1] at this
      cases this
  | succ fuel ih =>
    intro listed a w hf hl hr hy hS H
    refine ⟨fun h => (by rw [h] at hr; cases hr), fun j hj => ?_⟩
    by_cases hji : j = i
    · subst hji
      exact hy.wpOp hi hS ⟨fun _ _ => hS, H⟩
    · obtain ⟨oj, hoj, hnot⟩ := ready_waits2 hr hj
      have hun := (mem_ready.1 hj).1
      have hjz : j < z := by
        rcases Nat.lt_or_ge j z with h | h
        · exact h
        · obtain ⟨e, he, hb, heq⟩ := lat2Ok_spec hl hoj h hji hun
          exact absurd heq (hnot e he hb)
      have hap := Region.free_spec hi hf j oj hoj hji hun hnot
      have h2 := wpOp_putIf hoj hap (fun cs b => hsel i oi cs b hi) (fun cs b => hsel j oj cs b hoj) hQ hy (H.2 j (ready_mono hj hji))
      have hf' : Region.free .any ops (listed.setIfInBounds j true) i = true := by
        unfold Region.free at hf ⊢
        rw [hi] at hf ⊢
        simp only [List.all_eq_true] at hf ⊢
        intro k hk
        have h1 := hf k hk
        by_cases e : j = k
        · subst e
          have h2 := getD_self2 listed j
          simp only [h2, Bool.or_true, Bool.true_or]
        · rw [getD_set_ne true e]
          exact h1
      refine wpOp_mono (fun a' w' h3 => ⟨h3.2.1, ?_⟩) h2
      refine ih _ a' w' hf' (lat2Ok_more hl) (ready_mono hr (Ne.symm hji)) h3.1 (h3.2.1 hjz hS) ?_
      rw [Array.setIfInBounds_comm _ _ hji]
      exact h3.2.2

theorem lat2_pure {z i : Nat} {oi : Oper} {v : Value} (hi : ops[i]? = some oi) (hsel : ∀ (j : Nat) (o : Oper) cs b, ops[j]? = some o → o.op ≠ .select cs b)
    (hQ : ∀ c a w, Q (.panic c) (a.put oi.dst v) w → Q (.panic c) a w) (fuel : Nat) :
    ∀ (listed : Array Bool) (a : Act) (w : World), Region.free .any ops listed i = true → i ∈ Region.ready .any ops listed → YieldsIf P ops (fun _ => True) oi v a →
      wpLat2 P ops Q S z fuel (listed.setIfInBounds i true) (a.put oi.dst v) w → wpLat2 P ops Q S z (fuel + 1) listed a w := by
  induction fuel with
  | zero =>
    intro listed a w hf hr hy H
    refine ⟨fun h => (by rw [h] at hr; cases hr), fun j hj => ?_⟩
    by_cases hji : j = i
    · subst hji
      exact hy.wpOp hi trivial ⟨fun _ hS => hS, H⟩
    · have := ready_mono hj hji
      rw [H.1] at this
      cases this
  | succ fuel ih =>
    intro listed a w hf hr hy H
    refine ⟨fun h => (by rw [h] at hr; cases hr), fun j hj => ?_⟩
    by_cases hji : j = i
    · subst hji
      exact hy.wpOp hi trivial ⟨fun _ hS => hS, H⟩
    · obtain ⟨oj, hoj, hnot⟩ := ready_waits2 hr hj
      have hun := (mem_ready.1 hj).1; have hap := Region.free_spec hi hf j oj hoj hji hun hnot
      have h2 := wpOp_putIf hoj hap (fun cs b => hsel i oi cs b hi) (fun cs b => hsel j oj cs b hoj) hQ hy (H.2 j (ready_mono hj hji))
      have hf' : Region.free .any ops (listed.setIfInBounds j true) i = true := by
        unfold Region.free at hf ⊢
        rw [hi] at hf ⊢
        simp only [List.all_eq_true] at hf ⊢
        intro k hk
        have h1 := hf k hk
        by_cases e : j = k
        · subst e
          have h2 := getD_self2 listed j
          simp only [h2, Bool.or_true, Bool.true_or]
        · rw [getD_set_ne true e]
          exact h1
      refine wpOp_mono (fun a' w' h3 => ⟨h3.2.1, ?_⟩) h2
      refine ih _ a' w' hf' (ready_mono hr (Ne.symm hji)) h3.1 ?_
      rw [Array.setIfInBounds_comm _ _ hji]
      exact h3.2.2

/-- The beginning. -/
theorem lat2Begin {id : Nat} {a : Act} {w : World} (z : Nat) (hm : P.follows .mixedOrders = true) (hS : S w.drew)
    (h : S w.drew → wpLat2 P ops Q S z ops.size (Array.replicate ops.size false) a w.drew) : (Code.region id ops true).wp P Q a w :=
  wp_region_any hm (any_of_lat2 _ _ _ _ (h hS))
/-- An operation that yields its value in every world that meets S is taken first. -/
theorem lat2Take (i : Nat) (d : Option Tmp) (v : Value) {z : Nat} {oi : Oper} {fuel : Nat} {listed : Array Bool} {a : Act} {w : World} (hi : ops[i]? = some oi)
    (hs : Region.noSelect ops = true) (hf : Region.free .any ops listed i = true) (hl : lat2Ok ops listed z i = true) (hr : (Region.ready .any ops listed).contains i = true) (hd : oi.dst = d)
    (hQ : ∀ c a w, Q (.panic c) (a.put d v) w → Q (.panic c) a w) (hw : Region.wanted oi (yielded ops a.tmps) = true) (hS : S w)
    (hy : ∀ w, S w → (execOp a.eval oi).run P w = .ok (.value v) w)
    (h : wpLat2 P ops Q S z fuel (listed.setIfInBounds i true) (a.put d v) w) : wpLat2 P ops Q S z (fuel + 1) listed a w := by
  subst hd
  exact lat2_first hi (Region.noSelect_spec hs) hQ fuel listed a w hf hl (by simpa using hr) (Or.inl ⟨hw, hy⟩) hS h
/-- An operation that yields its value in every world is taken first, whatever waits for it. -/
theorem lat2Pure (i : Nat) (d : Option Tmp) (v : Value) {z : Nat} {oi : Oper} {fuel : Nat} {listed : Array Bool} {a : Act} {w : World} (hi : ops[i]? = some oi)
    (hs : Region.noSelect ops = true) (hf : Region.free .any ops listed i = true) (hr : (Region.ready .any ops listed).contains i = true) (hd : oi.dst = d)
    (hQ : ∀ c a w, Q (.panic c) (a.put d v) w → Q (.panic c) a w) (hw : Region.wanted oi (yielded ops a.tmps) = true)
    (hy : ∀ w, True → (execOp a.eval oi).run P w = .ok (.value v) w)
    (h : wpLat2 P ops Q S z fuel (listed.setIfInBounds i true) (a.put d v) w) : wpLat2 P ops Q S z (fuel + 1) listed a w := by
  subst hd
  exact lat2_pure hi (Region.noSelect_spec hs) hQ fuel listed a w hf (by simpa using hr) (Or.inl ⟨hw, hy⟩) h
/-- An operation whose guard says no is passed over. -/
theorem lat2Skip (i : Nat) (d : Option Tmp) {z : Nat} {oi : Oper} {fuel : Nat} {listed : Array Bool} {a : Act} {w : World} (hi : ops[i]? = some oi)
    (hs : Region.noSelect ops = true) (hf : Region.free .any ops listed i = true) (hl : lat2Ok ops listed z i = true) (hr : (Region.ready .any ops listed).contains i = true) (hd : oi.dst = d)
    (hQ : ∀ c a w, Q (.panic c) (a.put d undef) w → Q (.panic c) a w) (hw : Region.wanted oi (yielded ops a.tmps) = false) (hS : S w)
    (h : wpLat2 P ops Q S z fuel (listed.setIfInBounds i true) (a.put d undef) w) : wpLat2 P ops Q S z (fuel + 1) listed a w := by
  subst hd
  exact lat2_first hi (Region.noSelect_spec hs) hQ fuel listed a w hf hl (by simpa using hr) (Or.inr ⟨hw, rfl⟩) hS h
/-- The one operation that may come up comes up; behind it S is shown anew. -/
theorem lat2Step (i : Nat) {z : Nat} {o : Oper} {fuel : Nat} {listed : Array Bool} {a : Act} {w : World} (hr : Region.ready .any ops listed = [i]) (ho : ops[i]? = some o) (hw : Region.wanted o (yielded ops a.tmps) = true)
    (h : ∀ K : Act → World → Prop, Shut (∀ a w, S w → (S w → wpLat2 P ops Q S z fuel (listed.setIfInBounds i true) a w) → K a w) → Oper.wp P o a w K Q) : wpLat2 P ops Q S z (fuel + 1) listed a w := by
  refine ⟨fun h0 => (by rw [hr] at h0; cases h0), fun j hj => ?_⟩
  rw [hr] at hj
  obtain rfl : j = i := by simpa using hj
  exact wpOp_step ho (fun K' hK => by rw [if_pos hw]; exact h K' (fun a w hS hW => hK a w ⟨fun _ _ => hS, hW hS⟩))
/-- The one operation that may come up is a late one: S need not be shown. -/
theorem lat2Last (i : Nat) {z : Nat} {o : Oper} {fuel : Nat} {listed : Array Bool} {a : Act} {w : World} (hz : z ≤ i) (hr : Region.ready .any ops listed = [i]) (ho : ops[i]? = some o) (hw : Region.wanted o (yielded ops a.tmps) = true)
    (h : ∀ K : Act → World → Prop, Shut (∀ a w, wpLat2 P ops Q S z fuel (listed.setIfInBounds i true) a w → K a w) → Oper.wp P o a w K Q) : wpLat2 P ops Q S z (fuel + 1) listed a w := by
  refine ⟨fun h0 => (by rw [hr] at h0; cases h0), fun j hj => ?_⟩
  rw [hr] at hj
  obtain rfl : j = i := by simpa using hj
  exact wpOp_step ho (fun K' hK => by rw [if_pos hw]; exact h K' (fun a w hW => hK a w ⟨fun hlt _ => by omega, hW⟩))
theorem lat2Done {z : Nat} {listed : Array Bool} {a : Act} {w : World} (hr : Region.ready .any ops listed = []) (h : Q .normal a w) : ∀ fuel, wpLat2 P ops Q S z fuel listed a w
  | 0 => ⟨hr, h⟩
  | _ + 1 => ⟨fun _ => h, by rw [hr]; simp⟩
end
end Go.Proofs.YtfemplekibpfoaaGreat

/- The draws of chapter 8: a box that was made, written to, cleared. Made by gen_drawbox.py. -/
namespace Go.Proofs.YtfemplekibpfoaaGreat
open Go.RowKit
open Plain
set_option linter.unusedVariables false
set_option linter.unusedSimpArgs false

namespace Plain
def boxNames : List ByteArray := [⟨#[105, 110, 98, 111, 120]⟩, ⟨#[119, 111, 114, 107]⟩, ⟨#[111, 108, 100]⟩]
theorem new_right {z : ByteArray} {v : Int} (hz : z ∈ boxNames) (h1 : 1 ≤ v) (h2 : v ≤ 9999) : boxOk (newBox z v) = true := by
  refine boxOk_all ?_ (fun i hi => absurd hi (Nat.not_lt_zero _)) (fun i hi => absurd hi (Nat.not_lt_zero _))
  have hn : nameOkL z.data.toList = true := by
    simp only [boxNames, List.mem_cons, List.not_mem_nil, or_false] at hz
    rcases hz with rfl | rfl | rfl <;> decide
  unfold headOk newBox
  simp only [Bool.and_eq_true]
  exact ⟨hn, inI_iff.2 ⟨h1, h2⟩, by decide, by decide, decide_eq_true (Nat.zero_le _), decide_eq_true (Nat.zero_le _), by decide⟩
theorem new_yes {z : ByteArray} {v : Int} (hz : z ∈ boxNames) (h1 : 1 ≤ v) (h2 : v ≤ 9999) : newV z v = (newBox z v, true) := if_pos (new_right hz h1 h2)
theorem name_small {z : ByteArray} (hz : z ∈ boxNames) : z.size ≤ 1048576 := by
  simp only [boxNames, List.mem_cons, List.not_mem_nil, or_false] at hz
  rcases hz with rfl | rfl | rfl <;> decide
theorem mail_small {t : ByteArray} (h : t.data.toList ∈ mailT) : t.size ≤ 1048576 := by
  have := (mail_facts _ h).1
  simp only [Bool.and_eq_true, decide_eq_true_eq] at this
  rw [show t.size = t.data.toList.length from by show t.data.size = _; rw [Array.length_toList]]
  omega
theorem add_mod (b : Bx) (f : Int) (t : ByteArray) : (addV b f t).1.mod ≤ b.mod + 1 := by
  unfold addV
  split
  · exact Int.le_refl _
  · show b.mod ≤ b.mod + 1; omega
theorem flags_mod (b : Bx) (s : List Rg) (how bits since : Int) : (flagsV b s how bits since).1.mod ≤ b.mod + 1 := by
  unfold flagsV
  split
  · rw [fg_is]
    show (if (newU s how bits since b.mails).isEmpty = true then b.mod else b.mod + 1) ≤ b.mod + 1
    split <;> omega
  · show b.mod ≤ b.mod + 1; omega
theorem exp_mod (b : Bx) (s : List Rg) : (expV b s).1.mod ≤ b.mod + 1 := by
  unfold expV
  split
  · exact Int.le_refl _
  · show b.mod ≤ b.mod + 1; omega
theorem forget_mod (b : Bx) (u : Int) : (forgetV b u).mod ≤ b.mod + 1 := by
  unfold forgetV
  split
  · show b.mod ≤ b.mod + 1; omega
  · omega
end Plain
theorem below_g0 {w w' : World} (h : Below w.heap.size w w') : w.grownBy w' none := ⟨h.os, h.tape, h.output, h.size, fun k hk _ => h.block k hk⟩
set_option maxHeartbeats 16000000 in
set_option maxRecDepth 100000 in
theorem l08Box_any (B c : Nat) (w : World) (hc : Cur B w c) :
    Calls Tryz.prog 47 #[.pointer (some ⟨c, 0, none⟩)] w fun e w' => ∃ b m t, e = .returned (boxV b m t) ∧ (boxOk b = true ∧ b.mod ≤ 18) ∧ OwnBx w.heap.size w' m t b ∧ Cur B w' c ∧ w.grownBy w' (some c) := by
  have hcl := hc.lt.2; have CU := hide hc; have BB := hide (g_self w (some c))
  have LIT := hide (fun (W : World) (n : Nat) (z : Int) (hz : z = (n : Int)) (hC : Cur B W c) (h0 : 0 < n) (h1 : n ≤ 4294967296) => belowS_lit B c n z hz W hC h0 h1)
  clear hc
  obtain ⟨w1, hR⟩ : ∃ X, X = w.alloc (.cells ([.string ⟨#[]⟩, .int .i64 0, .int .i64 0, .int .i64 0, .slice none 0 0, .slice none 0 0, .int .i64 0] : List Value).toArray 27) := ⟨_, rfl⟩
  have Rx : HasObj w1 w.heap.size 27 [.string ⟨#[]⟩, .int .i64 0, .int .i64 0, .int .i64 0, .slice none 0 0, .slice none 0 0, .int .i64 0] := by rw [hR]; exact HasObj.new _ _ _
  have hbn : Below w.heap.size w w1 := by rw [hR]; exact (Below.refl _ _).alloc (Nat.le_refl _) _
  have loR : w.heap.size ≤ w.heap.size := (unhide BB).size
  have ER := hR.symm; clear hR
  replace CU := hide ((unhide CU).kept (below_g0 hbn) (fun k hk => by cases hk))
  have sz1 := hide (hbn.size); replace BB := hide (g_then (unhide BB) hbn); clear hbn; have R := hide Rx; clear Rx
  go_enter Tryz.func47, Tryz.ntmps47
  go_wp2_with fail; clear ER
  refine (flag_str boxNames B c _ (unhide CU) (by decide) (by decide)).mono ?_
  rintro e w2 ⟨z, hz, rfl, hc, hg⟩
  have hz := hide hz
  replace R := hide ((unhide R).kept hg (fun e => by have q1_ := Option.some.inj e; omega))
  have sz2 := hide (hg.size); replace BB := hide (g_join (unhide BB) hg); clear CU; have CU := hide hc; clear hg hc; go_wp2_with fail
  refine (unhide LIT _ 5 5 rfl (unhide CU) (by decide) (by decide)).mono ?_
  rintro e w3 ⟨x, hx, rfl, hc, hg⟩
  replace R := hide ((unhide R).kept hg (fun e => by have q1_ := Option.some.inj e; omega))
  have sz3 := hide (hg.size); replace BB := hide (g_join (unhide BB) hg); clear CU; have CU := hide hc; clear hg hc
  have n1 : IntKind.i64.wrap (1 + (x : Int)) = 1 + (x : Int) := by rw [IntKind.wrap_i64]; omega
  go_wp2_with fail
  refine (spec_BoxNew_any z (1 + (x : Int)) _ (name_small (unhide hz))).mono ?_
  rintro e w4 ⟨rfl, hb⟩
  replace CU := hide ((unhide CU).kept (below_g0 hb) (fun k hk => by cases hk))
  replace R := hide ((unhide R).ups hb); have sz4 := hide (hb.size); replace BB := hide (g_then (unhide BB) hb); clear hb
  rw [new_yes (unhide hz) (by omega) (by omega)]
  have OK0 : Hid (boxOk (newBox z (1 + (x : Int))) = true) := new_right (unhide hz) (by omega) (by omega)
  obtain ⟨b0, hb0⟩ : ∃ b0, b0 = newBox z (1 + (x : Int)) := ⟨_, rfl⟩
  have M0 : Hid (b0.mails = [] ∧ b0.tombs = [] ∧ b0.mod = 1) := by rw [hb0]; exact ⟨rfl, rfl, rfl⟩
  rw [← hb0] at OK0 ⊢
  clear hb0 n1 hx
  obtain ⟨w5, hQ⟩ : ∃ X, X = w4.alloc (.cells ([.string b0.name, .int .i64 b0.valid, .int .i64 b0.next, .int .i64 b0.mod, .slice none 0 0, .slice none 0 0, .int .i64 b0.hor] : List Value).toArray 27) := ⟨_, rfl⟩
  have Qx : HasObj w5 w4.heap.size 27 [.string b0.name, .int .i64 b0.valid, .int .i64 b0.next, .int .i64 b0.mod, .slice none 0 0, .slice none 0 0, .int .i64 b0.hor] := by rw [hQ]; exact HasObj.new _ _ _
  have hbn : Below w4.heap.size w4 w5 := by rw [hQ]; exact (Below.refl _ _).alloc (Nat.le_refl _) _
  have neRQ : w.heap.size ≠ w4.heap.size := Nat.ne_of_lt (unhide R).lt
  have loQ : w.heap.size ≤ w4.heap.size := (unhide BB).size
  have EQ := hQ.symm; clear hQ
  replace CU := hide ((unhide CU).kept (below_g0 hbn) (fun k hk => by cases hk))
  replace R := hide ((unhide R).ups hbn); have sz5 := hide (hbn.size); replace BB := hide (g_then (unhide BB) hbn); clear hbn; have Q := hide Qx; clear Qx
  go_wp2
  clear EQ
  obtain ⟨REL, HREL⟩ : ∃ REL : Value → World → Prop, Hid (REL = fun i wr => ∃ (k : Nat) (b : Bx) (m t : Value), k ≤ 17 ∧ i = .int .i64 k ∧ (boxOk b = true ∧ b.mod ≤ (k : Int) + 1) ∧ HasObj wr (w4.heap.size) 27 [.string b.name, .int .i64 b.valid, .int .i64 b.next, .int .i64 b.mod, m, t, .int .i64 b.hor] ∧ HasObj wr (w.heap.size) 27 [.string ⟨#[]⟩, .int .i64 0, .int .i64 0, .int .i64 0, .slice none 0 0, .slice none 0 0, .int .i64 0] ∧ OwnBx w.heap.size wr m t b ∧ Cur B wr c ∧ w.grownBy wr (some c)) := ⟨_, rfl⟩
  go_loopw [5] (fun i wr => REL i wr) (fun i _ => 18 - (intOf i).toNat)
  case atStart => rw [unhide HREL]; exact ⟨0, b0, _, _, by omega, rfl, ⟨unhide OK0, by rw [(unhide M0).2.2]; decide⟩, unhide Q, unhide R, ⟨by rw [(unhide M0).1]; exact World.ownsRow_nil _ _ _ _, by rw [(unhide M0).2.1]; exact World.ownsRow_nil _ _ _ _⟩, unhide CU, unhide BB⟩
  clear Q R CU BB OK0 M0
  case round =>
    rw [unhide HREL] at hrel
    obtain ⟨k, b, m, t, hk, rfl, ⟨hok, hmk⟩, oQ, oR, oB, cu, gr⟩ := hrel
    obtain ⟨wo, hwo⟩ : ∃ wo, wo = wr := ⟨_, rfl⟩
    subst hwo
    obtain ⟨am, cm, rfl⟩ := g_shape oB.1
    obtain ⟨at1, ct1, rfl⟩ := g_shape oB.2
    have FIT := hide (fit_ok hok); have OK := hide hok; have hmod := inI_iff.1 (head_parts (boxOk_iff.1 hok).1).2.2.2.1; have h30 := (head_parts (boxOk_iff.1 hok).1).2.2.2.2.1
    have nm : IntKind.i64.wrap (b.mod + 1) = b.mod + 1 := by rw [IntKind.wrap_i64]; omega
    have Q := hide oQ; have R := hide oR; have OB := hide oB; have CU := hide cu; have BB := hide gr
    have LBOB : Hid (w.heap.size ≤ w.heap.size) := Nat.le_refl _
    clear oQ oR oB cu gr hok; go_wp2_with fail
    refine (unhide LIT _ 16 16 rfl (unhide CU) (by decide) (by decide)).mono ?_
    rintro e wr1 ⟨x1, hx1, rfl, hc, hg⟩
    replace R := hide ((unhide R).kept hg (fun e => by have q1_ := Option.some.inj e; omega))
    replace Q := hide ((unhide Q).kept hg (fun e => by have q1_ := Option.some.inj e; omega))
    replace OB : Hid (OwnBx w.heap.size wr1 (.slice am b.mails.length cm) (.slice at1 b.tombs.length ct1) b) := ⟨g_aside (unhide OB).1 hg (fun z hz hz2 => by have q1_ := Option.some.inj hz; have q2_ := (World.ownsRow.lt (unhide OB).1 z hz2).1; have q3_ := unhide LBOB; omega), g_aside (unhide OB).2 hg (fun z hz hz2 => by have q1_ := Option.some.inj hz; have q2_ := (World.ownsRow.lt (unhide OB).2 z hz2).1; have q3_ := unhide LBOB; omega)⟩
    have sz101 := hide (hg.size); replace BB := hide (g_join (unhide BB) hg); clear CU; have CU := hide hc; clear hg hc
    have n2 : IntKind.i64.wrap (2 + (x1 : Int)) = 2 + (x1 : Int) := by rw [IntKind.wrap_i64]; omega
    by_cases hlt : (k : Int) < 2 + (x1 : Int)
    · have dl : decide ((k : Int) < 2 + (x1 : Int)) = true := decide_eq_true hlt
      go_wp2_with fail
      refine (unhide LIT _ 6 6 rfl (unhide CU) (by decide) (by decide)).mono ?_
      rintro e wy2 ⟨x2, hx2, rfl, hc, hg⟩
      replace R := hide ((unhide R).kept hg (fun e => by have q1_ := Option.some.inj e; omega))
      replace Q := hide ((unhide Q).kept hg (fun e => by have q1_ := Option.some.inj e; omega))
      replace OB : Hid (OwnBx w.heap.size wy2 (.slice am b.mails.length cm) (.slice at1 b.tombs.length ct1) b) := ⟨g_aside (unhide OB).1 hg (fun z hz hz2 => by have q1_ := Option.some.inj hz; have q2_ := (World.ownsRow.lt (unhide OB).1 z hz2).1; have q3_ := unhide LBOB; omega), g_aside (unhide OB).2 hg (fun z hz hz2 => by have q1_ := Option.some.inj hz; have q2_ := (World.ownsRow.lt (unhide OB).2 z hz2).1; have q3_ := unhide LBOB; omega)⟩
      have sz102 := hide (hg.size); replace BB := hide (g_join (unhide BB) hg); clear CU; have CU := hide hc; clear hg hc; clear dl n2
      have hx6 : x2 = 0 ∨ x2 = 1 ∨ x2 = 2 ∨ x2 = 3 ∨ x2 = 4 ∨ x2 = 5 := by omega
      rcases hx6 with rfl | rfl | rfl | rfl | rfl | rfl
      · simp only [show ((0 : Nat) : Int) = 0 from rfl]
        have Qc0_1 := (unhide Q).cell 0 rfl; have Qc1_1 := (unhide Q).cell 1 rfl; have Qc2_1 := (unhide Q).cell 2 rfl; have Qc3_1 := (unhide Q).cell 3 rfl; have Qc4_1 := (unhide Q).cell 4 rfl; have Qc5_1 := (unhide Q).cell 5 rfl; have Qc6_1 := (unhide Q).cell 6 rfl
        go_wp2
        refine lat2Begin (S := fun w' => w'.cell? ⟨w4.heap.size, 0, none⟩ = some (.string b.name) ∧ w'.cell? ⟨w4.heap.size, 1, none⟩ = some (.int .i64 b.valid) ∧ w'.cell? ⟨w4.heap.size, 2, none⟩ = some (.int .i64 b.next) ∧ w'.cell? ⟨w4.heap.size, 3, none⟩ = some (.int .i64 b.mod) ∧ w'.cell? ⟨w4.heap.size, 4, none⟩ = some (.slice am b.mails.length cm) ∧ w'.cell? ⟨w4.heap.size, 5, none⟩ = some (.slice at1 b.tombs.length ct1) ∧ w'.cell? ⟨w4.heap.size, 6, none⟩ = some (.int .i64 b.hor)) 9 (by kernel_rfl) (⟨(unhide Q).cell 0 rfl, (unhide Q).cell 1 rfl, (unhide Q).cell 2 rfl, (unhide Q).cell 3 rfl, (unhide Q).cell 4 rfl, (unhide Q).cell 5 rfl, (unhide Q).cell 6 rfl⟩) (fun hHeld => ?_)
        clear Qc0_1 Qc1_1 Qc2_1 Qc3_1 Qc4_1 Qc5_1 Qc6_1
        replace CU : Hid (Cur B wy2.drew c) := (unhide CU).kept (g_drew (g_self _ none)) (fun k hk => by cases hk)
        replace R := hide ((unhide R).drew); replace Q := hide ((unhide Q).drew); replace OB := hide ((unhide OB).drew); replace BB := hide (g_drew (unhide BB))
        have sz103 : Hid (wy2.heap.size ≤ wy2.drew.heap.size) := Nat.le_refl _
        refine lat2Take 0 (some 39) ?_ rfl (by kernel_rfl) (by kernel_rfl) (by kernel_rfl) (by kernel_rfl) rfl (fun _ _ _ h => h) (by rfl) (by assumption) ?_ ?_; rotate_left; (intro w hSw; (try dsimp only at hSw); go_simp <;> with_reducible rfl); simp only [Act.put, List.setIfInBounds_toArray, List.set_cons_zero, List.set_cons_succ]
        refine lat2Take 1 (some 40) ?_ rfl (by kernel_rfl) (by kernel_rfl) (by kernel_rfl) (by kernel_rfl) rfl (fun _ _ _ h => h) (by rfl) (by assumption) ?_ ?_; rotate_left; (intro w hSw; (try dsimp only at hSw); go_simp <;> with_reducible rfl); simp only [Act.put, List.setIfInBounds_toArray, List.set_cons_zero, List.set_cons_succ]
        refine lat2Take 3 (some 42) ?_ rfl (by kernel_rfl) (by kernel_rfl) (by kernel_rfl) (by kernel_rfl) rfl (fun _ _ _ h => h) (by rfl) (by assumption) ?_ ?_; rotate_left; (intro w hSw; (try dsimp only at hSw); go_simp <;> with_reducible rfl); simp only [Act.put, List.setIfInBounds_toArray, List.set_cons_zero, List.set_cons_succ]
        refine lat2Step 2 (by kernel_rfl) rfl (by rfl) (fun K hK => ?_)
        go_simp
        refine (unhide LIT _ 32 32 rfl (unhide CU) (by decide) (by decide)).mono ?_
        rintro e wy03 ⟨f, hf, rfl, hc, hg⟩
        replace R := hide ((unhide R).kept hg (fun e => by have q1_ := Option.some.inj e; omega))
        replace Q := hide ((unhide Q).kept hg (fun e => by have q1_ := Option.some.inj e; omega))
        replace OB : Hid (OwnBx w.heap.size wy03 (.slice am b.mails.length cm) (.slice at1 b.tombs.length ct1) b) := ⟨g_aside (unhide OB).1 hg (fun z hz hz2 => by have q1_ := Option.some.inj hz; have q2_ := (World.ownsRow.lt (unhide OB).1 z hz2).1; have q3_ := unhide LBOB; omega), g_aside (unhide OB).2 hg (fun z hz hz2 => by have q1_ := Option.some.inj hz; have q2_ := (World.ownsRow.lt (unhide OB).2 z hz2).1; have q3_ := unhide LBOB; omega)⟩
        have sz104 := hide (hg.size); replace BB := hide (g_join (unhide BB) hg); clear CU; have CU := hide hc; clear hg hc; go_wp2_with fail
        refine hK.out _ _ (⟨(unhide Q).cell 0 rfl, (unhide Q).cell 1 rfl, (unhide Q).cell 2 rfl, (unhide Q).cell 3 rfl, (unhide Q).cell 4 rfl, (unhide Q).cell 5 rfl, (unhide Q).cell 6 rfl⟩) (fun hHeld2 => ?_)
        clear hK K hHeld; have hHeld := hHeld2; clear hHeld2
        try simp only [Act.put, List.setIfInBounds_toArray, List.set_cons_zero, List.set_cons_succ]
        refine lat2Step 4 (by kernel_rfl) rfl (by rfl) (fun K hK => ?_)
        go_simp
        refine (l07Mail_any B c _ (unhide CU)).mono ?_
        rintro e wy04 ⟨tx, htx, rfl, hc, hg⟩
        have htx := hide htx
        replace R := hide ((unhide R).kept hg (fun e => by have q1_ := Option.some.inj e; omega))
        replace Q := hide ((unhide Q).kept hg (fun e => by have q1_ := Option.some.inj e; omega))
        replace OB : Hid (OwnBx w.heap.size wy04 (.slice am b.mails.length cm) (.slice at1 b.tombs.length ct1) b) := ⟨g_aside (unhide OB).1 hg (fun z hz hz2 => by have q1_ := Option.some.inj hz; have q2_ := (World.ownsRow.lt (unhide OB).1 z hz2).1; have q3_ := unhide LBOB; omega), g_aside (unhide OB).2 hg (fun z hz hz2 => by have q1_ := Option.some.inj hz; have q2_ := (World.ownsRow.lt (unhide OB).2 z hz2).1; have q3_ := unhide LBOB; omega)⟩
        have sz105 := hide (hg.size); replace BB := hide (g_join (unhide BB) hg); clear CU; have CU := hide hc; clear hg hc; go_wp2_with fail
        refine hK.out _ _ (⟨(unhide Q).cell 0 rfl, (unhide Q).cell 1 rfl, (unhide Q).cell 2 rfl, (unhide Q).cell 3 rfl, (unhide Q).cell 4 rfl, (unhide Q).cell 5 rfl, (unhide Q).cell 6 rfl⟩) (fun hHeld2 => ?_)
        clear hK K hHeld; have hHeld := hHeld2; clear hHeld2
        try simp only [Act.put, List.setIfInBounds_toArray, List.set_cons_zero, List.set_cons_succ]
        refine lat2Step 5 (by kernel_rfl) rfl (by rfl) (fun K hK => ?_)
        go_simp
        refine (spec_AddMail_any b _ _ _ (f : Int) tx _ (unhide FIT) (by omega) (mail_small (unhide htx)) (unhide OB)).mono ?_
        rintro e wy05 ⟨m5, t5, rfl, o5, hb⟩
        obtain ⟨bn, hbn⟩ : ∃ x, x = (addV b (f : Int) tx).1 := ⟨_, rfl⟩
        have OKN : Hid (boxOk bn = true) := by show _ = _; rw [hbn]; exact add_keeps (unhide OK)
        have MDN : Hid (bn.mod ≤ b.mod + 1) := by show _ ≤ _; rw [hbn]; exact add_mod _ _ _
        rw [← hbn] at o5 ⊢
        clear hbn
        obtain ⟨an, cn, rfl⟩ := g_shape o5.1
        obtain ⟨an2, cn2, rfl⟩ := g_shape o5.2
        have LBON : Hid (w.heap.size ≤ wy04.heap.size) := (unhide BB).size
        have ON := hide o5; clear o5 OB
        replace CU := hide ((unhide CU).kept (below_g0 hb) (fun k hk => by cases hk))
        replace R := hide ((unhide R).ups hb); replace Q := hide ((unhide Q).ups hb); have sz106 := hide (hb.size); replace BB := hide (g_then (unhide BB) hb); clear hb; go_wp2_with fail
        refine hK.out _ _ (⟨(unhide Q).cell 0 rfl, (unhide Q).cell 1 rfl, (unhide Q).cell 2 rfl, (unhide Q).cell 3 rfl, (unhide Q).cell 4 rfl, (unhide Q).cell 5 rfl, (unhide Q).cell 6 rfl⟩) (fun hHeld2 => ?_)
        clear hK K hHeld; have hHeld := hHeld2; clear hHeld2
        try simp only [Act.put, List.setIfInBounds_toArray, List.set_cons_zero, List.set_cons_succ]
        refine lat2Take 6 (some 38) ?_ rfl (by kernel_rfl) (by kernel_rfl) (by kernel_rfl) (by kernel_rfl) rfl (fun _ _ _ h => h) (by rfl) (by assumption) ?_ ?_; rotate_left; (intro w hSw; (try dsimp only at hSw); go_simp <;> with_reducible rfl); simp only [Act.put, List.setIfInBounds_toArray, List.set_cons_zero, List.set_cons_succ]
        refine lat2Pure 8 (some 46) ?_ rfl (by kernel_rfl) (by kernel_rfl) (by kernel_rfl) rfl (fun _ _ _ h => h) (by rfl) ?_ ?_; rotate_left; (intro w hSw; (try dsimp only at hSw); go_simp <;> with_reducible rfl); simp only [Act.put, List.setIfInBounds_toArray, List.set_cons_zero, List.set_cons_succ]
        refine lat2Take 7 (some 45) ?_ rfl (by kernel_rfl) (by kernel_rfl) (by kernel_rfl) (by kernel_rfl) rfl (fun _ _ _ h => h) (by rfl) (by assumption) ?_ ?_; rotate_left; (intro w hSw; (try dsimp only at hSw); go_simp <;> with_reducible rfl); simp only [Act.put, List.setIfInBounds_toArray, List.set_cons_zero, List.set_cons_succ]
        have Qf0 := (unhide Q).frozen 0; have Qf1 := (unhide Q).frozen 1; have Qf2 := (unhide Q).frozen 2; have Qf3 := (unhide Q).frozen 3; have Qf4 := (unhide Q).frozen 4; have Qf5 := (unhide Q).frozen 5; have Qf6 := (unhide Q).frozen 6; have Qe0 := (unhide Q).cell 0 rfl; have Qe1 := (unhide Q).cell 1 rfl; have Qe2 := (unhide Q).cell 2 rfl; have Qe3 := (unhide Q).cell 3 rfl; have Qe4 := (unhide Q).cell 4 rfl; have Qe5 := (unhide Q).cell 5 rfl; have Qe6 := (unhide Q).cell 6 rfl; have F_ := hide (fill7 (unhide Q) (.string bn.name) (.int .i64 bn.valid) (.int .i64 bn.next) (.int .i64 bn.mod) (.slice an bn.mails.length cn) (.slice an2 bn.tombs.length cn2) (.int .i64 bn.hor))
        refine lat2Last 9 (by decide) (by kernel_rfl) rfl (by rfl) (fun K hK => ?_)
        go_simp
        refine hK.out _ _ ?_
        clear hK K hHeld
        try simp only [Act.put, List.setIfInBounds_toArray, List.set_cons_zero, List.set_cons_succ]
        obtain ⟨wy06, hU⟩ : ∃ U, U = (((((((wy05.setCell ⟨w4.heap.size, 0, none⟩ (.string bn.name)).setCell ⟨w4.heap.size, 1, none⟩ (.int .i64 bn.valid)).setCell ⟨w4.heap.size, 2, none⟩ (.int .i64 bn.next)).setCell ⟨w4.heap.size, 3, none⟩ (.int .i64 bn.mod)).setCell ⟨w4.heap.size, 4, none⟩ (.slice an bn.mails.length cn)).setCell ⟨w4.heap.size, 5, none⟩ (.slice an2 bn.tombs.length cn2)).setCell ⟨w4.heap.size, 6, none⟩ (.int .i64 bn.hor)) := ⟨_, rfl⟩
        have GU : wy05.grownBy wy06 (some (w4.heap.size)) := by rw [hU]; exact g_store (g_store (g_store (g_store (g_store (g_store (g_store (g_self _ _) _) _) _) _) _) _) _
        have F := unhide F_
        rw [← hU] at F ⊢
        clear hU F_; clear Qf0 Qf1 Qf2 Qf3 Qf4 Qf5 Qf6 Qe0 Qe1 Qe2 Qe3 Qe4 Qe5 Qe6
        have CU_ := hide ((unhide CU).kept GU (fun k hk => by have q1_ := Option.some.inj hk; omega))
        have R_ := hide (F.other neRQ (unhide R)); have Q_ := hide (F.obj)
        have ON_ : Hid (OwnBx wy04.heap.size wy06 (.slice an bn.mails.length cn) (.slice an2 bn.tombs.length cn2) bn) := ⟨F.row (by decide) (unhide ON).1, F.row (by decide) (unhide ON).2⟩
        have BB_ : Hid (w.grownBy wy06 (some c)) := g_new (unhide BB) GU (fun k hk => by have q1_ := Option.some.inj hk; omega)
        replace R := R_; clear R_; replace Q := Q_; clear Q_; replace ON := ON_; clear ON_; replace BB := BB_; clear BB_; replace CU := CU_; clear CU_; clear F GU
        refine lat2Done (by kernel_rfl) ?_ _
        go_wp2
        go_roundw
        case rel => rw [unhide HREL]; exact ⟨k + 1, bn, _, _, by omega, by go_num, ⟨unhide OKN, by have h9 := unhide MDN; go_num⟩, unhide Q, unhide R, ⟨g_based (unhide ON).1 (unhide LBON), g_based (unhide ON).2 (unhide LBON)⟩, unhide CU, unhide BB⟩
        case measure => simp [intOf]; omega
      · simp only [show ((1 : Nat) : Int) = 1 from rfl]
        have Qc0_1 := (unhide Q).cell 0 rfl; have Qc1_1 := (unhide Q).cell 1 rfl; have Qc2_1 := (unhide Q).cell 2 rfl; have Qc3_1 := (unhide Q).cell 3 rfl; have Qc4_1 := (unhide Q).cell 4 rfl; have Qc5_1 := (unhide Q).cell 5 rfl; have Qc6_1 := (unhide Q).cell 6 rfl
        go_wp2
        refine lat2Begin (S := fun w' => w'.cell? ⟨w4.heap.size, 0, none⟩ = some (.string b.name) ∧ w'.cell? ⟨w4.heap.size, 1, none⟩ = some (.int .i64 b.valid) ∧ w'.cell? ⟨w4.heap.size, 2, none⟩ = some (.int .i64 b.next) ∧ w'.cell? ⟨w4.heap.size, 3, none⟩ = some (.int .i64 b.mod) ∧ w'.cell? ⟨w4.heap.size, 4, none⟩ = some (.slice am b.mails.length cm) ∧ w'.cell? ⟨w4.heap.size, 5, none⟩ = some (.slice at1 b.tombs.length ct1) ∧ w'.cell? ⟨w4.heap.size, 6, none⟩ = some (.int .i64 b.hor)) 9 (by kernel_rfl) (⟨(unhide Q).cell 0 rfl, (unhide Q).cell 1 rfl, (unhide Q).cell 2 rfl, (unhide Q).cell 3 rfl, (unhide Q).cell 4 rfl, (unhide Q).cell 5 rfl, (unhide Q).cell 6 rfl⟩) (fun hHeld => ?_)
        clear Qc0_1 Qc1_1 Qc2_1 Qc3_1 Qc4_1 Qc5_1 Qc6_1
        replace CU : Hid (Cur B wy2.drew c) := (unhide CU).kept (g_drew (g_self _ none)) (fun k hk => by cases hk)
        replace R := hide ((unhide R).drew); replace Q := hide ((unhide Q).drew); replace OB := hide ((unhide OB).drew); replace BB := hide (g_drew (unhide BB))
        have sz103 : Hid (wy2.heap.size ≤ wy2.drew.heap.size) := Nat.le_refl _
        refine lat2Take 0 (some 39) ?_ rfl (by kernel_rfl) (by kernel_rfl) (by kernel_rfl) (by kernel_rfl) rfl (fun _ _ _ h => h) (by rfl) (by assumption) ?_ ?_; rotate_left; (intro w hSw; (try dsimp only at hSw); go_simp <;> with_reducible rfl); simp only [Act.put, List.setIfInBounds_toArray, List.set_cons_zero, List.set_cons_succ]
        refine lat2Take 1 (some 40) ?_ rfl (by kernel_rfl) (by kernel_rfl) (by kernel_rfl) (by kernel_rfl) rfl (fun _ _ _ h => h) (by rfl) (by assumption) ?_ ?_; rotate_left; (intro w hSw; (try dsimp only at hSw); go_simp <;> with_reducible rfl); simp only [Act.put, List.setIfInBounds_toArray, List.set_cons_zero, List.set_cons_succ]
        refine lat2Take 3 (some 42) ?_ rfl (by kernel_rfl) (by kernel_rfl) (by kernel_rfl) (by kernel_rfl) rfl (fun _ _ _ h => h) (by rfl) (by assumption) ?_ ?_; rotate_left; (intro w hSw; (try dsimp only at hSw); go_simp <;> with_reducible rfl); simp only [Act.put, List.setIfInBounds_toArray, List.set_cons_zero, List.set_cons_succ]
        refine lat2Step 2 (by kernel_rfl) rfl (by rfl) (fun K hK => ?_)
        go_simp
        refine (unhide LIT _ 32 32 rfl (unhide CU) (by decide) (by decide)).mono ?_
        rintro e wy13 ⟨f, hf, rfl, hc, hg⟩
        replace R := hide ((unhide R).kept hg (fun e => by have q1_ := Option.some.inj e; omega))
        replace Q := hide ((unhide Q).kept hg (fun e => by have q1_ := Option.some.inj e; omega))
        replace OB : Hid (OwnBx w.heap.size wy13 (.slice am b.mails.length cm) (.slice at1 b.tombs.length ct1) b) := ⟨g_aside (unhide OB).1 hg (fun z hz hz2 => by have q1_ := Option.some.inj hz; have q2_ := (World.ownsRow.lt (unhide OB).1 z hz2).1; have q3_ := unhide LBOB; omega), g_aside (unhide OB).2 hg (fun z hz hz2 => by have q1_ := Option.some.inj hz; have q2_ := (World.ownsRow.lt (unhide OB).2 z hz2).1; have q3_ := unhide LBOB; omega)⟩
        have sz104 := hide (hg.size); replace BB := hide (g_join (unhide BB) hg); clear CU; have CU := hide hc; clear hg hc; go_wp2_with fail
        refine hK.out _ _ (⟨(unhide Q).cell 0 rfl, (unhide Q).cell 1 rfl, (unhide Q).cell 2 rfl, (unhide Q).cell 3 rfl, (unhide Q).cell 4 rfl, (unhide Q).cell 5 rfl, (unhide Q).cell 6 rfl⟩) (fun hHeld2 => ?_)
        clear hK K hHeld; have hHeld := hHeld2; clear hHeld2
        try simp only [Act.put, List.setIfInBounds_toArray, List.set_cons_zero, List.set_cons_succ]
        refine lat2Step 4 (by kernel_rfl) rfl (by rfl) (fun K hK => ?_)
        go_simp
        refine (l07Mail_any B c _ (unhide CU)).mono ?_
        rintro e wy14 ⟨tx, htx, rfl, hc, hg⟩
        have htx := hide htx
        replace R := hide ((unhide R).kept hg (fun e => by have q1_ := Option.some.inj e; omega))
        replace Q := hide ((unhide Q).kept hg (fun e => by have q1_ := Option.some.inj e; omega))
        replace OB : Hid (OwnBx w.heap.size wy14 (.slice am b.mails.length cm) (.slice at1 b.tombs.length ct1) b) := ⟨g_aside (unhide OB).1 hg (fun z hz hz2 => by have q1_ := Option.some.inj hz; have q2_ := (World.ownsRow.lt (unhide OB).1 z hz2).1; have q3_ := unhide LBOB; omega), g_aside (unhide OB).2 hg (fun z hz hz2 => by have q1_ := Option.some.inj hz; have q2_ := (World.ownsRow.lt (unhide OB).2 z hz2).1; have q3_ := unhide LBOB; omega)⟩
        have sz105 := hide (hg.size); replace BB := hide (g_join (unhide BB) hg); clear CU; have CU := hide hc; clear hg hc; go_wp2_with fail
        refine hK.out _ _ (⟨(unhide Q).cell 0 rfl, (unhide Q).cell 1 rfl, (unhide Q).cell 2 rfl, (unhide Q).cell 3 rfl, (unhide Q).cell 4 rfl, (unhide Q).cell 5 rfl, (unhide Q).cell 6 rfl⟩) (fun hHeld2 => ?_)
        clear hK K hHeld; have hHeld := hHeld2; clear hHeld2
        try simp only [Act.put, List.setIfInBounds_toArray, List.set_cons_zero, List.set_cons_succ]
        refine lat2Step 5 (by kernel_rfl) rfl (by rfl) (fun K hK => ?_)
        go_simp
        refine (spec_AddMail_any b _ _ _ (f : Int) tx _ (unhide FIT) (by omega) (mail_small (unhide htx)) (unhide OB)).mono ?_
        rintro e wy15 ⟨m5, t5, rfl, o5, hb⟩
        obtain ⟨bn, hbn⟩ : ∃ x, x = (addV b (f : Int) tx).1 := ⟨_, rfl⟩
        have OKN : Hid (boxOk bn = true) := by show _ = _; rw [hbn]; exact add_keeps (unhide OK)
        have MDN : Hid (bn.mod ≤ b.mod + 1) := by show _ ≤ _; rw [hbn]; exact add_mod _ _ _
        rw [← hbn] at o5 ⊢
        clear hbn
        obtain ⟨an, cn, rfl⟩ := g_shape o5.1
        obtain ⟨an2, cn2, rfl⟩ := g_shape o5.2
        have LBON : Hid (w.heap.size ≤ wy14.heap.size) := (unhide BB).size
        have ON := hide o5; clear o5 OB
        replace CU := hide ((unhide CU).kept (below_g0 hb) (fun k hk => by cases hk))
        replace R := hide ((unhide R).ups hb); replace Q := hide ((unhide Q).ups hb); have sz106 := hide (hb.size); replace BB := hide (g_then (unhide BB) hb); clear hb; go_wp2_with fail
        refine hK.out _ _ (⟨(unhide Q).cell 0 rfl, (unhide Q).cell 1 rfl, (unhide Q).cell 2 rfl, (unhide Q).cell 3 rfl, (unhide Q).cell 4 rfl, (unhide Q).cell 5 rfl, (unhide Q).cell 6 rfl⟩) (fun hHeld2 => ?_)
        clear hK K hHeld; have hHeld := hHeld2; clear hHeld2
        try simp only [Act.put, List.setIfInBounds_toArray, List.set_cons_zero, List.set_cons_succ]
        refine lat2Take 6 (some 38) ?_ rfl (by kernel_rfl) (by kernel_rfl) (by kernel_rfl) (by kernel_rfl) rfl (fun _ _ _ h => h) (by rfl) (by assumption) ?_ ?_; rotate_left; (intro w hSw; (try dsimp only at hSw); go_simp <;> with_reducible rfl); simp only [Act.put, List.setIfInBounds_toArray, List.set_cons_zero, List.set_cons_succ]
        refine lat2Pure 8 (some 46) ?_ rfl (by kernel_rfl) (by kernel_rfl) (by kernel_rfl) rfl (fun _ _ _ h => h) (by rfl) ?_ ?_; rotate_left; (intro w hSw; (try dsimp only at hSw); go_simp <;> with_reducible rfl); simp only [Act.put, List.setIfInBounds_toArray, List.set_cons_zero, List.set_cons_succ]
        refine lat2Take 7 (some 45) ?_ rfl (by kernel_rfl) (by kernel_rfl) (by kernel_rfl) (by kernel_rfl) rfl (fun _ _ _ h => h) (by rfl) (by assumption) ?_ ?_; rotate_left; (intro w hSw; (try dsimp only at hSw); go_simp <;> with_reducible rfl); simp only [Act.put, List.setIfInBounds_toArray, List.set_cons_zero, List.set_cons_succ]
        have Qf0 := (unhide Q).frozen 0; have Qf1 := (unhide Q).frozen 1; have Qf2 := (unhide Q).frozen 2; have Qf3 := (unhide Q).frozen 3; have Qf4 := (unhide Q).frozen 4; have Qf5 := (unhide Q).frozen 5; have Qf6 := (unhide Q).frozen 6; have Qe0 := (unhide Q).cell 0 rfl; have Qe1 := (unhide Q).cell 1 rfl; have Qe2 := (unhide Q).cell 2 rfl; have Qe3 := (unhide Q).cell 3 rfl; have Qe4 := (unhide Q).cell 4 rfl; have Qe5 := (unhide Q).cell 5 rfl; have Qe6 := (unhide Q).cell 6 rfl; have F_ := hide (fill7 (unhide Q) (.string bn.name) (.int .i64 bn.valid) (.int .i64 bn.next) (.int .i64 bn.mod) (.slice an bn.mails.length cn) (.slice an2 bn.tombs.length cn2) (.int .i64 bn.hor))
        refine lat2Last 9 (by decide) (by kernel_rfl) rfl (by rfl) (fun K hK => ?_)
        go_simp
        refine hK.out _ _ ?_
        clear hK K hHeld
        try simp only [Act.put, List.setIfInBounds_toArray, List.set_cons_zero, List.set_cons_succ]
        obtain ⟨wy16, hU⟩ : ∃ U, U = (((((((wy15.setCell ⟨w4.heap.size, 0, none⟩ (.string bn.name)).setCell ⟨w4.heap.size, 1, none⟩ (.int .i64 bn.valid)).setCell ⟨w4.heap.size, 2, none⟩ (.int .i64 bn.next)).setCell ⟨w4.heap.size, 3, none⟩ (.int .i64 bn.mod)).setCell ⟨w4.heap.size, 4, none⟩ (.slice an bn.mails.length cn)).setCell ⟨w4.heap.size, 5, none⟩ (.slice an2 bn.tombs.length cn2)).setCell ⟨w4.heap.size, 6, none⟩ (.int .i64 bn.hor)) := ⟨_, rfl⟩
        have GU : wy15.grownBy wy16 (some (w4.heap.size)) := by rw [hU]; exact g_store (g_store (g_store (g_store (g_store (g_store (g_store (g_self _ _) _) _) _) _) _) _) _
        have F := unhide F_
        rw [← hU] at F ⊢
        clear hU F_; clear Qf0 Qf1 Qf2 Qf3 Qf4 Qf5 Qf6 Qe0 Qe1 Qe2 Qe3 Qe4 Qe5 Qe6
        have CU_ := hide ((unhide CU).kept GU (fun k hk => by have q1_ := Option.some.inj hk; omega))
        have R_ := hide (F.other neRQ (unhide R)); have Q_ := hide (F.obj)
        have ON_ : Hid (OwnBx wy14.heap.size wy16 (.slice an bn.mails.length cn) (.slice an2 bn.tombs.length cn2) bn) := ⟨F.row (by decide) (unhide ON).1, F.row (by decide) (unhide ON).2⟩
        have BB_ : Hid (w.grownBy wy16 (some c)) := g_new (unhide BB) GU (fun k hk => by have q1_ := Option.some.inj hk; omega)
        replace R := R_; clear R_; replace Q := Q_; clear Q_; replace ON := ON_; clear ON_; replace BB := BB_; clear BB_; replace CU := CU_; clear CU_; clear F GU
        refine lat2Done (by kernel_rfl) ?_ _
        go_wp2
        go_roundw
        case rel => rw [unhide HREL]; exact ⟨k + 1, bn, _, _, by omega, by go_num, ⟨unhide OKN, by have h9 := unhide MDN; go_num⟩, unhide Q, unhide R, ⟨g_based (unhide ON).1 (unhide LBON), g_based (unhide ON).2 (unhide LBON)⟩, unhide CU, unhide BB⟩
        case measure => simp [intOf]; omega
      · simp only [show ((2 : Nat) : Int) = 2 from rfl]
        have Qc0_1 := (unhide Q).cell 0 rfl; have Qc1_1 := (unhide Q).cell 1 rfl; have Qc2_1 := (unhide Q).cell 2 rfl; have Qc3_1 := (unhide Q).cell 3 rfl; have Qc4_1 := (unhide Q).cell 4 rfl; have Qc5_1 := (unhide Q).cell 5 rfl; have Qc6_1 := (unhide Q).cell 6 rfl
        go_wp2
        refine lat2Begin (S := fun w' => w'.cell? ⟨w4.heap.size, 0, none⟩ = some (.string b.name) ∧ w'.cell? ⟨w4.heap.size, 1, none⟩ = some (.int .i64 b.valid) ∧ w'.cell? ⟨w4.heap.size, 2, none⟩ = some (.int .i64 b.next) ∧ w'.cell? ⟨w4.heap.size, 3, none⟩ = some (.int .i64 b.mod) ∧ w'.cell? ⟨w4.heap.size, 4, none⟩ = some (.slice am b.mails.length cm) ∧ w'.cell? ⟨w4.heap.size, 5, none⟩ = some (.slice at1 b.tombs.length ct1) ∧ w'.cell? ⟨w4.heap.size, 6, none⟩ = some (.int .i64 b.hor)) 9 (by kernel_rfl) (⟨(unhide Q).cell 0 rfl, (unhide Q).cell 1 rfl, (unhide Q).cell 2 rfl, (unhide Q).cell 3 rfl, (unhide Q).cell 4 rfl, (unhide Q).cell 5 rfl, (unhide Q).cell 6 rfl⟩) (fun hHeld => ?_)
        clear Qc0_1 Qc1_1 Qc2_1 Qc3_1 Qc4_1 Qc5_1 Qc6_1
        replace CU : Hid (Cur B wy2.drew c) := (unhide CU).kept (g_drew (g_self _ none)) (fun k hk => by cases hk)
        replace R := hide ((unhide R).drew); replace Q := hide ((unhide Q).drew); replace OB := hide ((unhide OB).drew); replace BB := hide (g_drew (unhide BB))
        have sz103 : Hid (wy2.heap.size ≤ wy2.drew.heap.size) := Nat.le_refl _
        refine lat2Take 0 (some 39) ?_ rfl (by kernel_rfl) (by kernel_rfl) (by kernel_rfl) (by kernel_rfl) rfl (fun _ _ _ h => h) (by rfl) (by assumption) ?_ ?_; rotate_left; (intro w hSw; (try dsimp only at hSw); go_simp <;> with_reducible rfl); simp only [Act.put, List.setIfInBounds_toArray, List.set_cons_zero, List.set_cons_succ]
        refine lat2Take 1 (some 40) ?_ rfl (by kernel_rfl) (by kernel_rfl) (by kernel_rfl) (by kernel_rfl) rfl (fun _ _ _ h => h) (by rfl) (by assumption) ?_ ?_; rotate_left; (intro w hSw; (try dsimp only at hSw); go_simp <;> with_reducible rfl); simp only [Act.put, List.setIfInBounds_toArray, List.set_cons_zero, List.set_cons_succ]
        refine lat2Take 3 (some 42) ?_ rfl (by kernel_rfl) (by kernel_rfl) (by kernel_rfl) (by kernel_rfl) rfl (fun _ _ _ h => h) (by rfl) (by assumption) ?_ ?_; rotate_left; (intro w hSw; (try dsimp only at hSw); go_simp <;> with_reducible rfl); simp only [Act.put, List.setIfInBounds_toArray, List.set_cons_zero, List.set_cons_succ]
        refine lat2Step 2 (by kernel_rfl) rfl (by rfl) (fun K hK => ?_)
        go_simp
        refine (unhide LIT _ 32 32 rfl (unhide CU) (by decide) (by decide)).mono ?_
        rintro e wy23 ⟨f, hf, rfl, hc, hg⟩
        replace R := hide ((unhide R).kept hg (fun e => by have q1_ := Option.some.inj e; omega))
        replace Q := hide ((unhide Q).kept hg (fun e => by have q1_ := Option.some.inj e; omega))
        replace OB : Hid (OwnBx w.heap.size wy23 (.slice am b.mails.length cm) (.slice at1 b.tombs.length ct1) b) := ⟨g_aside (unhide OB).1 hg (fun z hz hz2 => by have q1_ := Option.some.inj hz; have q2_ := (World.ownsRow.lt (unhide OB).1 z hz2).1; have q3_ := unhide LBOB; omega), g_aside (unhide OB).2 hg (fun z hz hz2 => by have q1_ := Option.some.inj hz; have q2_ := (World.ownsRow.lt (unhide OB).2 z hz2).1; have q3_ := unhide LBOB; omega)⟩
        have sz104 := hide (hg.size); replace BB := hide (g_join (unhide BB) hg); clear CU; have CU := hide hc; clear hg hc; go_wp2_with fail
        refine hK.out _ _ (⟨(unhide Q).cell 0 rfl, (unhide Q).cell 1 rfl, (unhide Q).cell 2 rfl, (unhide Q).cell 3 rfl, (unhide Q).cell 4 rfl, (unhide Q).cell 5 rfl, (unhide Q).cell 6 rfl⟩) (fun hHeld2 => ?_)
        clear hK K hHeld; have hHeld := hHeld2; clear hHeld2
        try simp only [Act.put, List.setIfInBounds_toArray, List.set_cons_zero, List.set_cons_succ]
        refine lat2Step 4 (by kernel_rfl) rfl (by rfl) (fun K hK => ?_)
        go_simp
        refine (l07Mail_any B c _ (unhide CU)).mono ?_
        rintro e wy24 ⟨tx, htx, rfl, hc, hg⟩
        have htx := hide htx
        replace R := hide ((unhide R).kept hg (fun e => by have q1_ := Option.some.inj e; omega))
        replace Q := hide ((unhide Q).kept hg (fun e => by have q1_ := Option.some.inj e; omega))
        replace OB : Hid (OwnBx w.heap.size wy24 (.slice am b.mails.length cm) (.slice at1 b.tombs.length ct1) b) := ⟨g_aside (unhide OB).1 hg (fun z hz hz2 => by have q1_ := Option.some.inj hz; have q2_ := (World.ownsRow.lt (unhide OB).1 z hz2).1; have q3_ := unhide LBOB; omega), g_aside (unhide OB).2 hg (fun z hz hz2 => by have q1_ := Option.some.inj hz; have q2_ := (World.ownsRow.lt (unhide OB).2 z hz2).1; have q3_ := unhide LBOB; omega)⟩
        have sz105 := hide (hg.size); replace BB := hide (g_join (unhide BB) hg); clear CU; have CU := hide hc; clear hg hc; go_wp2_with fail
        refine hK.out _ _ (⟨(unhide Q).cell 0 rfl, (unhide Q).cell 1 rfl, (unhide Q).cell 2 rfl, (unhide Q).cell 3 rfl, (unhide Q).cell 4 rfl, (unhide Q).cell 5 rfl, (unhide Q).cell 6 rfl⟩) (fun hHeld2 => ?_)
        clear hK K hHeld; have hHeld := hHeld2; clear hHeld2
        try simp only [Act.put, List.setIfInBounds_toArray, List.set_cons_zero, List.set_cons_succ]
        refine lat2Step 5 (by kernel_rfl) rfl (by rfl) (fun K hK => ?_)
        go_simp
        refine (spec_AddMail_any b _ _ _ (f : Int) tx _ (unhide FIT) (by omega) (mail_small (unhide htx)) (unhide OB)).mono ?_
        rintro e wy25 ⟨m5, t5, rfl, o5, hb⟩
        obtain ⟨bn, hbn⟩ : ∃ x, x = (addV b (f : Int) tx).1 := ⟨_, rfl⟩
        have OKN : Hid (boxOk bn = true) := by show _ = _; rw [hbn]; exact add_keeps (unhide OK)
        have MDN : Hid (bn.mod ≤ b.mod + 1) := by show _ ≤ _; rw [hbn]; exact add_mod _ _ _
        rw [← hbn] at o5 ⊢
        clear hbn
        obtain ⟨an, cn, rfl⟩ := g_shape o5.1
        obtain ⟨an2, cn2, rfl⟩ := g_shape o5.2
        have LBON : Hid (w.heap.size ≤ wy24.heap.size) := (unhide BB).size
        have ON := hide o5; clear o5 OB
        replace CU := hide ((unhide CU).kept (below_g0 hb) (fun k hk => by cases hk))
        replace R := hide ((unhide R).ups hb); replace Q := hide ((unhide Q).ups hb); have sz106 := hide (hb.size); replace BB := hide (g_then (unhide BB) hb); clear hb; go_wp2_with fail
        refine hK.out _ _ (⟨(unhide Q).cell 0 rfl, (unhide Q).cell 1 rfl, (unhide Q).cell 2 rfl, (unhide Q).cell 3 rfl, (unhide Q).cell 4 rfl, (unhide Q).cell 5 rfl, (unhide Q).cell 6 rfl⟩) (fun hHeld2 => ?_)
        clear hK K hHeld; have hHeld := hHeld2; clear hHeld2
        try simp only [Act.put, List.setIfInBounds_toArray, List.set_cons_zero, List.set_cons_succ]
        refine lat2Take 6 (some 38) ?_ rfl (by kernel_rfl) (by kernel_rfl) (by kernel_rfl) (by kernel_rfl) rfl (fun _ _ _ h => h) (by rfl) (by assumption) ?_ ?_; rotate_left; (intro w hSw; (try dsimp only at hSw); go_simp <;> with_reducible rfl); simp only [Act.put, List.setIfInBounds_toArray, List.set_cons_zero, List.set_cons_succ]
        refine lat2Pure 8 (some 46) ?_ rfl (by kernel_rfl) (by kernel_rfl) (by kernel_rfl) rfl (fun _ _ _ h => h) (by rfl) ?_ ?_; rotate_left; (intro w hSw; (try dsimp only at hSw); go_simp <;> with_reducible rfl); simp only [Act.put, List.setIfInBounds_toArray, List.set_cons_zero, List.set_cons_succ]
        refine lat2Take 7 (some 45) ?_ rfl (by kernel_rfl) (by kernel_rfl) (by kernel_rfl) (by kernel_rfl) rfl (fun _ _ _ h => h) (by rfl) (by assumption) ?_ ?_; rotate_left; (intro w hSw; (try dsimp only at hSw); go_simp <;> with_reducible rfl); simp only [Act.put, List.setIfInBounds_toArray, List.set_cons_zero, List.set_cons_succ]
        have Qf0 := (unhide Q).frozen 0; have Qf1 := (unhide Q).frozen 1; have Qf2 := (unhide Q).frozen 2; have Qf3 := (unhide Q).frozen 3; have Qf4 := (unhide Q).frozen 4; have Qf5 := (unhide Q).frozen 5; have Qf6 := (unhide Q).frozen 6; have Qe0 := (unhide Q).cell 0 rfl; have Qe1 := (unhide Q).cell 1 rfl; have Qe2 := (unhide Q).cell 2 rfl; have Qe3 := (unhide Q).cell 3 rfl; have Qe4 := (unhide Q).cell 4 rfl; have Qe5 := (unhide Q).cell 5 rfl; have Qe6 := (unhide Q).cell 6 rfl; have F_ := hide (fill7 (unhide Q) (.string bn.name) (.int .i64 bn.valid) (.int .i64 bn.next) (.int .i64 bn.mod) (.slice an bn.mails.length cn) (.slice an2 bn.tombs.length cn2) (.int .i64 bn.hor))
        refine lat2Last 9 (by decide) (by kernel_rfl) rfl (by rfl) (fun K hK => ?_)
        go_simp
        refine hK.out _ _ ?_
        clear hK K hHeld
        try simp only [Act.put, List.setIfInBounds_toArray, List.set_cons_zero, List.set_cons_succ]
        obtain ⟨wy26, hU⟩ : ∃ U, U = (((((((wy25.setCell ⟨w4.heap.size, 0, none⟩ (.string bn.name)).setCell ⟨w4.heap.size, 1, none⟩ (.int .i64 bn.valid)).setCell ⟨w4.heap.size, 2, none⟩ (.int .i64 bn.next)).setCell ⟨w4.heap.size, 3, none⟩ (.int .i64 bn.mod)).setCell ⟨w4.heap.size, 4, none⟩ (.slice an bn.mails.length cn)).setCell ⟨w4.heap.size, 5, none⟩ (.slice an2 bn.tombs.length cn2)).setCell ⟨w4.heap.size, 6, none⟩ (.int .i64 bn.hor)) := ⟨_, rfl⟩
        have GU : wy25.grownBy wy26 (some (w4.heap.size)) := by rw [hU]; exact g_store (g_store (g_store (g_store (g_store (g_store (g_store (g_self _ _) _) _) _) _) _) _) _
        have F := unhide F_
        rw [← hU] at F ⊢
        clear hU F_; clear Qf0 Qf1 Qf2 Qf3 Qf4 Qf5 Qf6 Qe0 Qe1 Qe2 Qe3 Qe4 Qe5 Qe6
        have CU_ := hide ((unhide CU).kept GU (fun k hk => by have q1_ := Option.some.inj hk; omega))
        have R_ := hide (F.other neRQ (unhide R)); have Q_ := hide (F.obj)
        have ON_ : Hid (OwnBx wy24.heap.size wy26 (.slice an bn.mails.length cn) (.slice an2 bn.tombs.length cn2) bn) := ⟨F.row (by decide) (unhide ON).1, F.row (by decide) (unhide ON).2⟩
        have BB_ : Hid (w.grownBy wy26 (some c)) := g_new (unhide BB) GU (fun k hk => by have q1_ := Option.some.inj hk; omega)
        replace R := R_; clear R_; replace Q := Q_; clear Q_; replace ON := ON_; clear ON_; replace BB := BB_; clear BB_; replace CU := CU_; clear CU_; clear F GU
        refine lat2Done (by kernel_rfl) ?_ _
        go_wp2
        go_roundw
        case rel => rw [unhide HREL]; exact ⟨k + 1, bn, _, _, by omega, by go_num, ⟨unhide OKN, by have h9 := unhide MDN; go_num⟩, unhide Q, unhide R, ⟨g_based (unhide ON).1 (unhide LBON), g_based (unhide ON).2 (unhide LBON)⟩, unhide CU, unhide BB⟩
        case measure => simp [intOf]; omega
      · simp only [show ((3 : Nat) : Int) = 3 from rfl]
        have Qc0_1 := (unhide Q).cell 0 rfl; have Qc1_1 := (unhide Q).cell 1 rfl; have Qc2_1 := (unhide Q).cell 2 rfl; have Qc3_1 := (unhide Q).cell 3 rfl; have Qc4_1 := (unhide Q).cell 4 rfl; have Qc5_1 := (unhide Q).cell 5 rfl; have Qc6_1 := (unhide Q).cell 6 rfl
        go_wp2
        refine lat2Begin (S := fun w' => w'.cell? ⟨w4.heap.size, 0, none⟩ = some (.string b.name) ∧ w'.cell? ⟨w4.heap.size, 1, none⟩ = some (.int .i64 b.valid) ∧ w'.cell? ⟨w4.heap.size, 2, none⟩ = some (.int .i64 b.next) ∧ w'.cell? ⟨w4.heap.size, 3, none⟩ = some (.int .i64 b.mod) ∧ w'.cell? ⟨w4.heap.size, 4, none⟩ = some (.slice am b.mails.length cm) ∧ w'.cell? ⟨w4.heap.size, 5, none⟩ = some (.slice at1 b.tombs.length ct1) ∧ w'.cell? ⟨w4.heap.size, 6, none⟩ = some (.int .i64 b.hor)) 13 (by kernel_rfl) (⟨(unhide Q).cell 0 rfl, (unhide Q).cell 1 rfl, (unhide Q).cell 2 rfl, (unhide Q).cell 3 rfl, (unhide Q).cell 4 rfl, (unhide Q).cell 5 rfl, (unhide Q).cell 6 rfl⟩) (fun hHeld => ?_)
        clear Qc0_1 Qc1_1 Qc2_1 Qc3_1 Qc4_1 Qc5_1 Qc6_1
        replace CU : Hid (Cur B wy2.drew c) := (unhide CU).kept (g_drew (g_self _ none)) (fun k hk => by cases hk)
        replace R := hide ((unhide R).drew); replace Q := hide ((unhide Q).drew); replace OB := hide ((unhide OB).drew); replace BB := hide (g_drew (unhide BB))
        have sz103 : Hid (wy2.heap.size ≤ wy2.drew.heap.size) := Nat.le_refl _
        refine lat2Take 0 (some 50) ?_ rfl (by kernel_rfl) (by kernel_rfl) (by kernel_rfl) (by kernel_rfl) rfl (fun _ _ _ h => h) (by rfl) (by assumption) ?_ ?_; rotate_left; (intro w hSw; (try dsimp only at hSw); go_simp <;> with_reducible rfl); simp only [Act.put, List.setIfInBounds_toArray, List.set_cons_zero, List.set_cons_succ]
        refine lat2Take 1 (some 51) ?_ rfl (by kernel_rfl) (by kernel_rfl) (by kernel_rfl) (by kernel_rfl) rfl (fun _ _ _ h => h) (by rfl) (by assumption) ?_ ?_; rotate_left; (intro w hSw; (try dsimp only at hSw); go_simp <;> with_reducible rfl); simp only [Act.put, List.setIfInBounds_toArray, List.set_cons_zero, List.set_cons_succ]
        refine lat2Take 3 (some 53) ?_ rfl (by kernel_rfl) (by kernel_rfl) (by kernel_rfl) (by kernel_rfl) rfl (fun _ _ _ h => h) (by rfl) (by assumption) ?_ ?_; rotate_left; (intro w hSw; (try dsimp only at hSw); go_simp <;> with_reducible rfl); simp only [Act.put, List.setIfInBounds_toArray, List.set_cons_zero, List.set_cons_succ]
        refine lat2Take 6 (some 56) ?_ rfl (by kernel_rfl) (by kernel_rfl) (by kernel_rfl) (by kernel_rfl) rfl (fun _ _ _ h => h) (by rfl) (by assumption) ?_ ?_; rotate_left; (intro w hSw; (try dsimp only at hSw); go_simp <;> with_reducible rfl); simp only [Act.put, List.setIfInBounds_toArray, List.set_cons_zero, List.set_cons_succ]
        refine lat2Step 2 (by kernel_rfl) rfl (by rfl) (fun K hK => ?_)
        go_simp
        refine (l05Draw_any B c _ (unhide CU)).mono ?_
        rintro e wy33 ⟨vS, sS, rfl, hokS, hlS, hSS, gS, cpS, rfl⟩
        have oS := hide hSS.own; have hc := hSS.cur; have hg := hSS.grown
        have LBRS : Hid (w.heap.size ≤ wy2.drew.heap.size) := (unhide BB).size
        have hokS := hide hokS; clear hSS
        replace R := hide ((unhide R).kept hg (fun e => by have q1_ := Option.some.inj e; omega))
        replace Q := hide ((unhide Q).kept hg (fun e => by have q1_ := Option.some.inj e; omega))
        replace OB : Hid (OwnBx w.heap.size wy33 (.slice am b.mails.length cm) (.slice at1 b.tombs.length ct1) b) := ⟨g_aside (unhide OB).1 hg (fun z hz hz2 => by have q1_ := Option.some.inj hz; have q2_ := (World.ownsRow.lt (unhide OB).1 z hz2).1; have q3_ := unhide LBOB; omega), g_aside (unhide OB).2 hg (fun z hz hz2 => by have q1_ := Option.some.inj hz; have q2_ := (World.ownsRow.lt (unhide OB).2 z hz2).1; have q3_ := unhide LBOB; omega)⟩
        have sz104 := hide (hg.size); replace BB := hide (g_join (unhide BB) hg); clear CU; have CU := hide hc; clear hg hc; have RS := oS; clear oS; go_wp2_with fail
        refine hK.out _ _ (⟨(unhide Q).cell 0 rfl, (unhide Q).cell 1 rfl, (unhide Q).cell 2 rfl, (unhide Q).cell 3 rfl, (unhide Q).cell 4 rfl, (unhide Q).cell 5 rfl, (unhide Q).cell 6 rfl⟩) (fun hHeld2 => ?_)
        clear hK K hHeld; have hHeld := hHeld2; clear hHeld2
        try simp only [Act.put, List.setIfInBounds_toArray, List.set_cons_zero, List.set_cons_succ]
        refine lat2Step 4 (by kernel_rfl) rfl (by rfl) (fun K hK => ?_)
        go_simp
        refine (unhide LIT _ 3 3 rfl (unhide CU) (by decide) (by decide)).mono ?_
        rintro e wy34 ⟨h, hh, rfl, hc, hg⟩
        replace R := hide ((unhide R).kept hg (fun e => by have q1_ := Option.some.inj e; omega))
        replace Q := hide ((unhide Q).kept hg (fun e => by have q1_ := Option.some.inj e; omega))
        replace OB : Hid (OwnBx w.heap.size wy34 (.slice am b.mails.length cm) (.slice at1 b.tombs.length ct1) b) := ⟨g_aside (unhide OB).1 hg (fun z hz hz2 => by have q1_ := Option.some.inj hz; have q2_ := (World.ownsRow.lt (unhide OB).1 z hz2).1; have q3_ := unhide LBOB; omega), g_aside (unhide OB).2 hg (fun z hz hz2 => by have q1_ := Option.some.inj hz; have q2_ := (World.ownsRow.lt (unhide OB).2 z hz2).1; have q3_ := unhide LBOB; omega)⟩
        replace RS : Hid (OwnR wy2.drew.heap.size wy34 (.slice (some ⟨gS, 0, none⟩) sS.length cpS) (sS)) := g_aside (unhide RS) hg (fun z hz hz2 => by have q1_ := Option.some.inj hz; have q2_ := (World.ownsRow.lt (unhide RS) z hz2).1; have q3_ := unhide LBRS; omega)
        have sz105 := hide (hg.size); replace BB := hide (g_join (unhide BB) hg); clear CU; have CU := hide hc; clear hg hc; go_wp2_with fail
        refine hK.out _ _ (⟨(unhide Q).cell 0 rfl, (unhide Q).cell 1 rfl, (unhide Q).cell 2 rfl, (unhide Q).cell 3 rfl, (unhide Q).cell 4 rfl, (unhide Q).cell 5 rfl, (unhide Q).cell 6 rfl⟩) (fun hHeld2 => ?_)
        clear hK K hHeld; have hHeld := hHeld2; clear hHeld2
        try simp only [Act.put, List.setIfInBounds_toArray, List.set_cons_zero, List.set_cons_succ]
        have n3 : IntKind.i64.wrap (1 + (h : Int)) = 1 + (h : Int) := by rw [IntKind.wrap_i64]; omega
        refine lat2Take 5 (some 55) ?_ rfl (by kernel_rfl) (by kernel_rfl) (by kernel_rfl) (by kernel_rfl) rfl (fun _ _ _ h => h) (by rfl) (by assumption) ?_ ?_; rotate_left; (intro w hSw; (try dsimp only at hSw); go_simp <;> with_reducible rfl); simp only [Act.put, List.setIfInBounds_toArray, List.set_cons_zero, List.set_cons_succ]
        refine lat2Step 7 (by kernel_rfl) rfl (by rfl) (fun K hK => ?_)
        go_simp
        refine (unhide LIT _ 32 32 rfl (unhide CU) (by decide) (by decide)).mono ?_
        rintro e wy35 ⟨f, hf, rfl, hc, hg⟩
        replace R := hide ((unhide R).kept hg (fun e => by have q1_ := Option.some.inj e; omega))
        replace Q := hide ((unhide Q).kept hg (fun e => by have q1_ := Option.some.inj e; omega))
        replace OB : Hid (OwnBx w.heap.size wy35 (.slice am b.mails.length cm) (.slice at1 b.tombs.length ct1) b) := ⟨g_aside (unhide OB).1 hg (fun z hz hz2 => by have q1_ := Option.some.inj hz; have q2_ := (World.ownsRow.lt (unhide OB).1 z hz2).1; have q3_ := unhide LBOB; omega), g_aside (unhide OB).2 hg (fun z hz hz2 => by have q1_ := Option.some.inj hz; have q2_ := (World.ownsRow.lt (unhide OB).2 z hz2).1; have q3_ := unhide LBOB; omega)⟩
        replace RS : Hid (OwnR wy2.drew.heap.size wy35 (.slice (some ⟨gS, 0, none⟩) sS.length cpS) (sS)) := g_aside (unhide RS) hg (fun z hz hz2 => by have q1_ := Option.some.inj hz; have q2_ := (World.ownsRow.lt (unhide RS) z hz2).1; have q3_ := unhide LBRS; omega)
        have sz106 := hide (hg.size); replace BB := hide (g_join (unhide BB) hg); clear CU; have CU := hide hc; clear hg hc; go_wp2_with fail
        refine hK.out _ _ (⟨(unhide Q).cell 0 rfl, (unhide Q).cell 1 rfl, (unhide Q).cell 2 rfl, (unhide Q).cell 3 rfl, (unhide Q).cell 4 rfl, (unhide Q).cell 5 rfl, (unhide Q).cell 6 rfl⟩) (fun hHeld2 => ?_)
        clear hK K hHeld; have hHeld := hHeld2; clear hHeld2
        try simp only [Act.put, List.setIfInBounds_toArray, List.set_cons_zero, List.set_cons_succ]
        refine lat2Step 8 (by kernel_rfl) rfl (by rfl) (fun K hK => ?_)
        go_simp
        refine (spec_SetFlags_any b _ _ _ sS _ (1 + (h : Int)) (f : Int) (-1) _ (unhide FIT) (by omega) (OwnR.read (unhide RS)) (unhide OB)).mono ?_
        rintro e wy36 ⟨m5, t5, vd5, vl5, rfl, o5, od5, ol5, hb⟩
        obtain ⟨bn, hbn⟩ : ∃ x, x = (flagsV b sS (1 + (h : Int)) (f : Int) (-1)).1 := ⟨_, rfl⟩
        have OKN : Hid (boxOk bn = true) := by show _ = _; rw [hbn]; exact flags_keeps (unhide OK)
        have MDN : Hid (bn.mod ≤ b.mod + 1) := by show _ ≤ _; rw [hbn]; exact flags_mod _ _ _ _ _
        rw [← hbn] at o5 ⊢
        clear hbn
        obtain ⟨an, cn, rfl⟩ := g_shape o5.1
        obtain ⟨an2, cn2, rfl⟩ := g_shape o5.2
        have LBON : Hid (w.heap.size ≤ wy35.heap.size) := (unhide BB).size
        have ON := hide o5; clear o5 OB
        replace CU := hide ((unhide CU).kept (below_g0 hb) (fun k hk => by cases hk))
        replace R := hide ((unhide R).ups hb); replace Q := hide ((unhide Q).ups hb); have sz107 := hide (hb.size); replace BB := hide (g_then (unhide BB) hb); clear hb; go_wp2_with fail
        refine hK.out _ _ (⟨(unhide Q).cell 0 rfl, (unhide Q).cell 1 rfl, (unhide Q).cell 2 rfl, (unhide Q).cell 3 rfl, (unhide Q).cell 4 rfl, (unhide Q).cell 5 rfl, (unhide Q).cell 6 rfl⟩) (fun hHeld2 => ?_)
        clear hK K hHeld; have hHeld := hHeld2; clear hHeld2
        try simp only [Act.put, List.setIfInBounds_toArray, List.set_cons_zero, List.set_cons_succ]
        refine lat2Take 9 (some 49) ?_ rfl (by kernel_rfl) (by kernel_rfl) (by kernel_rfl) (by kernel_rfl) rfl (fun _ _ _ h => h) (by rfl) (by assumption) ?_ ?_; rotate_left; (intro w hSw; (try dsimp only at hSw); go_simp <;> with_reducible rfl); simp only [Act.put, List.setIfInBounds_toArray, List.set_cons_zero, List.set_cons_succ]
        refine lat2Pure 11 (some 60) ?_ rfl (by kernel_rfl) (by kernel_rfl) (by kernel_rfl) rfl (fun _ _ _ h => h) (by rfl) ?_ ?_; rotate_left; (intro w hSw; (try dsimp only at hSw); go_simp <;> with_reducible rfl); simp only [Act.put, List.setIfInBounds_toArray, List.set_cons_zero, List.set_cons_succ]
        refine lat2Pure 12 (some 61) ?_ rfl (by kernel_rfl) (by kernel_rfl) (by kernel_rfl) rfl (fun _ _ _ h => h) (by rfl) ?_ ?_; rotate_left; (intro w hSw; (try dsimp only at hSw); go_simp <;> with_reducible rfl); simp only [Act.put, List.setIfInBounds_toArray, List.set_cons_zero, List.set_cons_succ]
        refine lat2Take 10 (some 59) ?_ rfl (by kernel_rfl) (by kernel_rfl) (by kernel_rfl) (by kernel_rfl) rfl (fun _ _ _ h => h) (by rfl) (by assumption) ?_ ?_; rotate_left; (intro w hSw; (try dsimp only at hSw); go_simp <;> with_reducible rfl); simp only [Act.put, List.setIfInBounds_toArray, List.set_cons_zero, List.set_cons_succ]
        have Qf0 := (unhide Q).frozen 0; have Qf1 := (unhide Q).frozen 1; have Qf2 := (unhide Q).frozen 2; have Qf3 := (unhide Q).frozen 3; have Qf4 := (unhide Q).frozen 4; have Qf5 := (unhide Q).frozen 5; have Qf6 := (unhide Q).frozen 6; have Qe0 := (unhide Q).cell 0 rfl; have Qe1 := (unhide Q).cell 1 rfl; have Qe2 := (unhide Q).cell 2 rfl; have Qe3 := (unhide Q).cell 3 rfl; have Qe4 := (unhide Q).cell 4 rfl; have Qe5 := (unhide Q).cell 5 rfl; have Qe6 := (unhide Q).cell 6 rfl; have F_ := hide (fill7 (unhide Q) (.string bn.name) (.int .i64 bn.valid) (.int .i64 bn.next) (.int .i64 bn.mod) (.slice an bn.mails.length cn) (.slice an2 bn.tombs.length cn2) (.int .i64 bn.hor))
        refine lat2Last 13 (by decide) (by kernel_rfl) rfl (by rfl) (fun K hK => ?_)
        go_simp
        refine hK.out _ _ ?_
        clear hK K hHeld
        try simp only [Act.put, List.setIfInBounds_toArray, List.set_cons_zero, List.set_cons_succ]
        obtain ⟨wy37, hU⟩ : ∃ U, U = (((((((wy36.setCell ⟨w4.heap.size, 0, none⟩ (.string bn.name)).setCell ⟨w4.heap.size, 1, none⟩ (.int .i64 bn.valid)).setCell ⟨w4.heap.size, 2, none⟩ (.int .i64 bn.next)).setCell ⟨w4.heap.size, 3, none⟩ (.int .i64 bn.mod)).setCell ⟨w4.heap.size, 4, none⟩ (.slice an bn.mails.length cn)).setCell ⟨w4.heap.size, 5, none⟩ (.slice an2 bn.tombs.length cn2)).setCell ⟨w4.heap.size, 6, none⟩ (.int .i64 bn.hor)) := ⟨_, rfl⟩
        have GU : wy36.grownBy wy37 (some (w4.heap.size)) := by rw [hU]; exact g_store (g_store (g_store (g_store (g_store (g_store (g_store (g_self _ _) _) _) _) _) _) _) _
        have F := unhide F_
        rw [← hU] at F ⊢
        clear hU F_; clear Qf0 Qf1 Qf2 Qf3 Qf4 Qf5 Qf6 Qe0 Qe1 Qe2 Qe3 Qe4 Qe5 Qe6
        have CU_ := hide ((unhide CU).kept GU (fun k hk => by have q1_ := Option.some.inj hk; omega))
        have R_ := hide (F.other neRQ (unhide R)); have Q_ := hide (F.obj)
        have ON_ : Hid (OwnBx wy35.heap.size wy37 (.slice an bn.mails.length cn) (.slice an2 bn.tombs.length cn2) bn) := ⟨F.row (by decide) (unhide ON).1, F.row (by decide) (unhide ON).2⟩
        have BB_ : Hid (w.grownBy wy37 (some c)) := g_new (unhide BB) GU (fun k hk => by have q1_ := Option.some.inj hk; omega)
        replace R := R_; clear R_; replace Q := Q_; clear Q_; replace ON := ON_; clear ON_; replace BB := BB_; clear BB_; replace CU := CU_; clear CU_; clear F GU
        refine lat2Done (by kernel_rfl) ?_ _
        go_wp2
        go_roundw
        case rel => rw [unhide HREL]; exact ⟨k + 1, bn, _, _, by omega, by go_num, ⟨unhide OKN, by have h9 := unhide MDN; go_num⟩, unhide Q, unhide R, ⟨g_based (unhide ON).1 (unhide LBON), g_based (unhide ON).2 (unhide LBON)⟩, unhide CU, unhide BB⟩
        case measure => simp [intOf]; omega
      · simp only [show ((4 : Nat) : Int) = 4 from rfl]
        have Qc0_1 := (unhide Q).cell 0 rfl; have Qc1_1 := (unhide Q).cell 1 rfl; have Qc2_1 := (unhide Q).cell 2 rfl; have Qc3_1 := (unhide Q).cell 3 rfl; have Qc4_1 := (unhide Q).cell 4 rfl; have Qc5_1 := (unhide Q).cell 5 rfl; have Qc6_1 := (unhide Q).cell 6 rfl
        go_wp2
        refine lat2Begin (S := fun w' => w'.cell? ⟨w4.heap.size, 0, none⟩ = some (.string b.name) ∧ w'.cell? ⟨w4.heap.size, 1, none⟩ = some (.int .i64 b.valid) ∧ w'.cell? ⟨w4.heap.size, 2, none⟩ = some (.int .i64 b.next) ∧ w'.cell? ⟨w4.heap.size, 3, none⟩ = some (.int .i64 b.mod) ∧ w'.cell? ⟨w4.heap.size, 4, none⟩ = some (.slice am b.mails.length cm) ∧ w'.cell? ⟨w4.heap.size, 5, none⟩ = some (.slice at1 b.tombs.length ct1) ∧ w'.cell? ⟨w4.heap.size, 6, none⟩ = some (.int .i64 b.hor)) 7 (by kernel_rfl) (⟨(unhide Q).cell 0 rfl, (unhide Q).cell 1 rfl, (unhide Q).cell 2 rfl, (unhide Q).cell 3 rfl, (unhide Q).cell 4 rfl, (unhide Q).cell 5 rfl, (unhide Q).cell 6 rfl⟩) (fun hHeld => ?_)
        clear Qc0_1 Qc1_1 Qc2_1 Qc3_1 Qc4_1 Qc5_1 Qc6_1
        replace CU : Hid (Cur B wy2.drew c) := (unhide CU).kept (g_drew (g_self _ none)) (fun k hk => by cases hk)
        replace R := hide ((unhide R).drew); replace Q := hide ((unhide Q).drew); replace OB := hide ((unhide OB).drew); replace BB := hide (g_drew (unhide BB))
        have sz103 : Hid (wy2.heap.size ≤ wy2.drew.heap.size) := Nat.le_refl _
        refine lat2Take 0 (some 65) ?_ rfl (by kernel_rfl) (by kernel_rfl) (by kernel_rfl) (by kernel_rfl) rfl (fun _ _ _ h => h) (by rfl) (by assumption) ?_ ?_; rotate_left; (intro w hSw; (try dsimp only at hSw); go_simp <;> with_reducible rfl); simp only [Act.put, List.setIfInBounds_toArray, List.set_cons_zero, List.set_cons_succ]
        refine lat2Take 1 (some 66) ?_ rfl (by kernel_rfl) (by kernel_rfl) (by kernel_rfl) (by kernel_rfl) rfl (fun _ _ _ h => h) (by rfl) (by assumption) ?_ ?_; rotate_left; (intro w hSw; (try dsimp only at hSw); go_simp <;> with_reducible rfl); simp only [Act.put, List.setIfInBounds_toArray, List.set_cons_zero, List.set_cons_succ]
        refine lat2Step 2 (by kernel_rfl) rfl (by rfl) (fun K hK => ?_)
        go_simp
        refine (l05Draw_any B c _ (unhide CU)).mono ?_
        rintro e wy43 ⟨vS, sS, rfl, hokS, hlS, hSS, gS, cpS, rfl⟩
        have oS := hide hSS.own; have hc := hSS.cur; have hg := hSS.grown
        have LBRS : Hid (w.heap.size ≤ wy2.drew.heap.size) := (unhide BB).size
        have hokS := hide hokS; clear hSS
        replace R := hide ((unhide R).kept hg (fun e => by have q1_ := Option.some.inj e; omega))
        replace Q := hide ((unhide Q).kept hg (fun e => by have q1_ := Option.some.inj e; omega))
        replace OB : Hid (OwnBx w.heap.size wy43 (.slice am b.mails.length cm) (.slice at1 b.tombs.length ct1) b) := ⟨g_aside (unhide OB).1 hg (fun z hz hz2 => by have q1_ := Option.some.inj hz; have q2_ := (World.ownsRow.lt (unhide OB).1 z hz2).1; have q3_ := unhide LBOB; omega), g_aside (unhide OB).2 hg (fun z hz hz2 => by have q1_ := Option.some.inj hz; have q2_ := (World.ownsRow.lt (unhide OB).2 z hz2).1; have q3_ := unhide LBOB; omega)⟩
        have sz104 := hide (hg.size); replace BB := hide (g_join (unhide BB) hg); clear CU; have CU := hide hc; clear hg hc; have RS := oS; clear oS; go_wp2_with fail
        refine hK.out _ _ (⟨(unhide Q).cell 0 rfl, (unhide Q).cell 1 rfl, (unhide Q).cell 2 rfl, (unhide Q).cell 3 rfl, (unhide Q).cell 4 rfl, (unhide Q).cell 5 rfl, (unhide Q).cell 6 rfl⟩) (fun hHeld2 => ?_)
        clear hK K hHeld; have hHeld := hHeld2; clear hHeld2
        try simp only [Act.put, List.setIfInBounds_toArray, List.set_cons_zero, List.set_cons_succ]
        refine lat2Step 3 (by kernel_rfl) rfl (by rfl) (fun K hK => ?_)
        go_simp
        refine (spec_Expunge_any b _ _ _ sS _ _ (unhide FIT) (by omega) (OwnR.read (unhide RS)) (unhide OB)).mono ?_
        rintro e wy44 ⟨m5, t5, vd5, rfl, o5, od5, hb⟩
        obtain ⟨bn, hbn⟩ : ∃ x, x = (expV b sS).1 := ⟨_, rfl⟩
        have OKN : Hid (boxOk bn = true) := by show _ = _; rw [hbn]; exact exp_keeps (unhide OK)
        have MDN : Hid (bn.mod ≤ b.mod + 1) := by show _ ≤ _; rw [hbn]; exact exp_mod _ _
        rw [← hbn] at o5 ⊢
        clear hbn
        obtain ⟨an, cn, rfl⟩ := g_shape o5.1
        obtain ⟨an2, cn2, rfl⟩ := g_shape o5.2
        have LBON : Hid (w.heap.size ≤ wy43.heap.size) := (unhide BB).size
        have ON := hide o5; clear o5 OB
        replace CU := hide ((unhide CU).kept (below_g0 hb) (fun k hk => by cases hk))
        replace R := hide ((unhide R).ups hb); replace Q := hide ((unhide Q).ups hb); have sz105 := hide (hb.size); replace BB := hide (g_then (unhide BB) hb); clear hb; go_wp2_with fail
        refine hK.out _ _ (⟨(unhide Q).cell 0 rfl, (unhide Q).cell 1 rfl, (unhide Q).cell 2 rfl, (unhide Q).cell 3 rfl, (unhide Q).cell 4 rfl, (unhide Q).cell 5 rfl, (unhide Q).cell 6 rfl⟩) (fun hHeld2 => ?_)
        clear hK K hHeld; have hHeld := hHeld2; clear hHeld2
        try simp only [Act.put, List.setIfInBounds_toArray, List.set_cons_zero, List.set_cons_succ]
        refine lat2Take 4 (some 64) ?_ rfl (by kernel_rfl) (by kernel_rfl) (by kernel_rfl) (by kernel_rfl) rfl (fun _ _ _ h => h) (by rfl) (by assumption) ?_ ?_; rotate_left; (intro w hSw; (try dsimp only at hSw); go_simp <;> with_reducible rfl); simp only [Act.put, List.setIfInBounds_toArray, List.set_cons_zero, List.set_cons_succ]
        refine lat2Pure 6 (some 70) ?_ rfl (by kernel_rfl) (by kernel_rfl) (by kernel_rfl) rfl (fun _ _ _ h => h) (by rfl) ?_ ?_; rotate_left; (intro w hSw; (try dsimp only at hSw); go_simp <;> with_reducible rfl); simp only [Act.put, List.setIfInBounds_toArray, List.set_cons_zero, List.set_cons_succ]
        refine lat2Take 5 (some 69) ?_ rfl (by kernel_rfl) (by kernel_rfl) (by kernel_rfl) (by kernel_rfl) rfl (fun _ _ _ h => h) (by rfl) (by assumption) ?_ ?_; rotate_left; (intro w hSw; (try dsimp only at hSw); go_simp <;> with_reducible rfl); simp only [Act.put, List.setIfInBounds_toArray, List.set_cons_zero, List.set_cons_succ]
        have Qf0 := (unhide Q).frozen 0; have Qf1 := (unhide Q).frozen 1; have Qf2 := (unhide Q).frozen 2; have Qf3 := (unhide Q).frozen 3; have Qf4 := (unhide Q).frozen 4; have Qf5 := (unhide Q).frozen 5; have Qf6 := (unhide Q).frozen 6; have Qe0 := (unhide Q).cell 0 rfl; have Qe1 := (unhide Q).cell 1 rfl; have Qe2 := (unhide Q).cell 2 rfl; have Qe3 := (unhide Q).cell 3 rfl; have Qe4 := (unhide Q).cell 4 rfl; have Qe5 := (unhide Q).cell 5 rfl; have Qe6 := (unhide Q).cell 6 rfl; have F_ := hide (fill7 (unhide Q) (.string bn.name) (.int .i64 bn.valid) (.int .i64 bn.next) (.int .i64 bn.mod) (.slice an bn.mails.length cn) (.slice an2 bn.tombs.length cn2) (.int .i64 bn.hor))
        refine lat2Last 7 (by decide) (by kernel_rfl) rfl (by rfl) (fun K hK => ?_)
        go_simp
        refine hK.out _ _ ?_
        clear hK K hHeld
        try simp only [Act.put, List.setIfInBounds_toArray, List.set_cons_zero, List.set_cons_succ]
        obtain ⟨wy45, hU⟩ : ∃ U, U = (((((((wy44.setCell ⟨w4.heap.size, 0, none⟩ (.string bn.name)).setCell ⟨w4.heap.size, 1, none⟩ (.int .i64 bn.valid)).setCell ⟨w4.heap.size, 2, none⟩ (.int .i64 bn.next)).setCell ⟨w4.heap.size, 3, none⟩ (.int .i64 bn.mod)).setCell ⟨w4.heap.size, 4, none⟩ (.slice an bn.mails.length cn)).setCell ⟨w4.heap.size, 5, none⟩ (.slice an2 bn.tombs.length cn2)).setCell ⟨w4.heap.size, 6, none⟩ (.int .i64 bn.hor)) := ⟨_, rfl⟩
        have GU : wy44.grownBy wy45 (some (w4.heap.size)) := by rw [hU]; exact g_store (g_store (g_store (g_store (g_store (g_store (g_store (g_self _ _) _) _) _) _) _) _) _
        have F := unhide F_
        rw [← hU] at F ⊢
        clear hU F_; clear Qf0 Qf1 Qf2 Qf3 Qf4 Qf5 Qf6 Qe0 Qe1 Qe2 Qe3 Qe4 Qe5 Qe6
        have CU_ := hide ((unhide CU).kept GU (fun k hk => by have q1_ := Option.some.inj hk; omega))
        have R_ := hide (F.other neRQ (unhide R)); have Q_ := hide (F.obj)
        have ON_ : Hid (OwnBx wy43.heap.size wy45 (.slice an bn.mails.length cn) (.slice an2 bn.tombs.length cn2) bn) := ⟨F.row (by decide) (unhide ON).1, F.row (by decide) (unhide ON).2⟩
        have BB_ : Hid (w.grownBy wy45 (some c)) := g_new (unhide BB) GU (fun k hk => by have q1_ := Option.some.inj hk; omega)
        replace R := R_; clear R_; replace Q := Q_; clear Q_; replace ON := ON_; clear ON_; replace BB := BB_; clear BB_; replace CU := CU_; clear CU_; clear F GU
        refine lat2Done (by kernel_rfl) ?_ _
        go_wp2
        go_roundw
        case rel => rw [unhide HREL]; exact ⟨k + 1, bn, _, _, by omega, by go_num, ⟨unhide OKN, by have h9 := unhide MDN; go_num⟩, unhide Q, unhide R, ⟨g_based (unhide ON).1 (unhide LBON), g_based (unhide ON).2 (unhide LBON)⟩, unhide CU, unhide BB⟩
        case measure => simp [intOf]; omega
      · simp only [show ((5 : Nat) : Int) = 5 from rfl]
        have Qc0_1 := (unhide Q).cell 0 rfl; have Qc1_1 := (unhide Q).cell 1 rfl; have Qc2_1 := (unhide Q).cell 2 rfl; have Qc3_1 := (unhide Q).cell 3 rfl; have Qc4_1 := (unhide Q).cell 4 rfl; have Qc5_1 := (unhide Q).cell 5 rfl; have Qc6_1 := (unhide Q).cell 6 rfl; go_wp2_with fail; clear Qc0_1 Qc1_1 Qc2_1 Qc3_1 Qc4_1 Qc5_1 Qc6_1
        refine (l01Once_any B c 3 _ (unhide CU) (by decide) (by decide)).mono ?_
        rintro e wy53 ⟨on, rfl, hc, hg⟩
        replace R := hide ((unhide R).kept hg (fun e => by have q1_ := Option.some.inj e; omega))
        replace Q := hide ((unhide Q).kept hg (fun e => by have q1_ := Option.some.inj e; omega))
        replace OB : Hid (OwnBx w.heap.size wy53 (.slice am b.mails.length cm) (.slice at1 b.tombs.length ct1) b) := ⟨g_aside (unhide OB).1 hg (fun z hz hz2 => by have q1_ := Option.some.inj hz; have q2_ := (World.ownsRow.lt (unhide OB).1 z hz2).1; have q3_ := unhide LBOB; omega), g_aside (unhide OB).2 hg (fun z hz hz2 => by have q1_ := Option.some.inj hz; have q2_ := (World.ownsRow.lt (unhide OB).2 z hz2).1; have q3_ := unhide LBOB; omega)⟩
        have sz103 := hide (hg.size); replace BB := hide (g_join (unhide BB) hg); clear CU; have CU := hide hc; clear hg hc
        cases on with
        | false =>
          go_wp2
          go_roundw
          case rel => rw [unhide HREL]; exact ⟨k + 1, b, _, _, by omega, by go_num, ⟨unhide OK, by go_num⟩, unhide Q, unhide R, unhide OB, unhide CU, unhide BB⟩
          case measure => simp [intOf]; omega
        | true =>
          have Qc0_2 := (unhide Q).cell 0 rfl; have Qc1_2 := (unhide Q).cell 1 rfl; have Qc2_2 := (unhide Q).cell 2 rfl; have Qc3_2 := (unhide Q).cell 3 rfl; have Qc4_2 := (unhide Q).cell 4 rfl; have Qc5_2 := (unhide Q).cell 5 rfl; have Qc6_2 := (unhide Q).cell 6 rfl
          go_wp2
          refine lat2Begin (S := fun w' => w'.cell? ⟨w4.heap.size, 0, none⟩ = some (.string b.name) ∧ w'.cell? ⟨w4.heap.size, 1, none⟩ = some (.int .i64 b.valid) ∧ w'.cell? ⟨w4.heap.size, 2, none⟩ = some (.int .i64 b.next) ∧ w'.cell? ⟨w4.heap.size, 3, none⟩ = some (.int .i64 b.mod) ∧ w'.cell? ⟨w4.heap.size, 4, none⟩ = some (.slice am b.mails.length cm) ∧ w'.cell? ⟨w4.heap.size, 5, none⟩ = some (.slice at1 b.tombs.length ct1) ∧ w'.cell? ⟨w4.heap.size, 6, none⟩ = some (.int .i64 b.hor)) 7 (by kernel_rfl) (⟨(unhide Q).cell 0 rfl, (unhide Q).cell 1 rfl, (unhide Q).cell 2 rfl, (unhide Q).cell 3 rfl, (unhide Q).cell 4 rfl, (unhide Q).cell 5 rfl, (unhide Q).cell 6 rfl⟩) (fun hHeld => ?_)
          clear Qc0_2 Qc1_2 Qc2_2 Qc3_2 Qc4_2 Qc5_2 Qc6_2
          replace CU : Hid (Cur B wy53.drew c) := (unhide CU).kept (g_drew (g_self _ none)) (fun k hk => by cases hk)
          replace R := hide ((unhide R).drew); replace Q := hide ((unhide Q).drew); replace OB := hide ((unhide OB).drew); replace BB := hide (g_drew (unhide BB))
          have sz104 : Hid (wy53.heap.size ≤ wy53.drew.heap.size) := Nat.le_refl _
          refine lat2Take 0 (some 27) ?_ rfl (by kernel_rfl) (by kernel_rfl) (by kernel_rfl) (by kernel_rfl) rfl (fun _ _ _ h => h) (by rfl) (by assumption) ?_ ?_; rotate_left; (intro w hSw; (try dsimp only at hSw); go_simp <;> with_reducible rfl); simp only [Act.put, List.setIfInBounds_toArray, List.set_cons_zero, List.set_cons_succ]
          refine lat2Take 1 (some 28) ?_ rfl (by kernel_rfl) (by kernel_rfl) (by kernel_rfl) (by kernel_rfl) rfl (fun _ _ _ h => h) (by rfl) (by assumption) ?_ ?_; rotate_left; (intro w hSw; (try dsimp only at hSw); go_simp <;> with_reducible rfl); simp only [Act.put, List.setIfInBounds_toArray, List.set_cons_zero, List.set_cons_succ]
          refine lat2Take 2 (some 29) ?_ rfl (by kernel_rfl) (by kernel_rfl) (by kernel_rfl) (by kernel_rfl) rfl (fun _ _ _ h => h) (by rfl) (by assumption) ?_ ?_; rotate_left; (intro w hSw; (try dsimp only at hSw); go_simp <;> with_reducible rfl); simp only [Act.put, List.setIfInBounds_toArray, List.set_cons_zero, List.set_cons_succ]
          refine lat2Take 3 (some 30) ?_ rfl (by kernel_rfl) (by kernel_rfl) (by kernel_rfl) (by kernel_rfl) rfl (fun _ _ _ h => h) (by rfl) (by assumption) ?_ ?_; rotate_left; (intro w hSw; (try dsimp only at hSw); go_simp <;> with_reducible rfl); simp only [Act.put, List.setIfInBounds_toArray, List.set_cons_zero, List.set_cons_succ]
          refine lat2Take 4 (some 31) ?_ rfl (by kernel_rfl) (by kernel_rfl) (by kernel_rfl) (by kernel_rfl) rfl (fun _ _ _ h => h) (by rfl) (by assumption) ?_ ?_; rotate_left; (intro w hSw; (try dsimp only at hSw); go_simp <;> with_reducible rfl); simp only [Act.put, List.setIfInBounds_toArray, List.set_cons_zero, List.set_cons_succ]
          refine lat2Step 5 (by kernel_rfl) rfl (by rfl) (fun K hK => ?_)
          go_simp
          refine (unhide LIT _ (b.mod + 1).toNat (b.mod + 1) (by omega) (unhide CU) (by omega) (by omega)).mono ?_
          rintro e wy64 ⟨f, hf, rfl, hc, hg⟩
          replace R := hide ((unhide R).kept hg (fun e => by have q1_ := Option.some.inj e; omega))
          replace Q := hide ((unhide Q).kept hg (fun e => by have q1_ := Option.some.inj e; omega))
          replace OB : Hid (OwnBx w.heap.size wy64 (.slice am b.mails.length cm) (.slice at1 b.tombs.length ct1) b) := ⟨g_aside (unhide OB).1 hg (fun z hz hz2 => by have q1_ := Option.some.inj hz; have q2_ := (World.ownsRow.lt (unhide OB).1 z hz2).1; have q3_ := unhide LBOB; omega), g_aside (unhide OB).2 hg (fun z hz hz2 => by have q1_ := Option.some.inj hz; have q2_ := (World.ownsRow.lt (unhide OB).2 z hz2).1; have q3_ := unhide LBOB; omega)⟩
          have sz105 := hide (hg.size); replace BB := hide (g_join (unhide BB) hg); clear CU; have CU := hide hc; clear hg hc; go_wp2_with fail
          refine hK.out _ _ (⟨(unhide Q).cell 0 rfl, (unhide Q).cell 1 rfl, (unhide Q).cell 2 rfl, (unhide Q).cell 3 rfl, (unhide Q).cell 4 rfl, (unhide Q).cell 5 rfl, (unhide Q).cell 6 rfl⟩) (fun hHeld2 => ?_)
          clear hK K hHeld; have hHeld := hHeld2; clear hHeld2
          try simp only [Act.put, List.setIfInBounds_toArray, List.set_cons_zero, List.set_cons_succ]
          refine lat2Step 6 (by kernel_rfl) rfl (by rfl) (fun K hK => ?_)
          go_simp
          refine (spec_ForgetTombs_any b _ _ _ (f : Int) _ (unhide FIT) (unhide OB)).mono ?_
          rintro e wy65 ⟨m5, t5, rfl, o5, hb⟩
          obtain ⟨bn, hbn⟩ : ∃ x, x = (forgetV b (f : Int)) := ⟨_, rfl⟩
          have OKN : Hid (boxOk bn = true) := by show _ = _; rw [hbn]; exact forget_keeps (unhide OK)
          have MDN : Hid (bn.mod ≤ b.mod + 1) := by show _ ≤ _; rw [hbn]; exact forget_mod _ _
          rw [← hbn] at o5 ⊢
          clear hbn
          obtain ⟨an, cn, rfl⟩ := g_shape o5.1
          obtain ⟨an2, cn2, rfl⟩ := g_shape o5.2
          have LBON : Hid (w.heap.size ≤ wy64.heap.size) := (unhide BB).size
          have ON := hide o5; clear o5 OB
          replace CU := hide ((unhide CU).kept (below_g0 hb) (fun k hk => by cases hk))
          replace R := hide ((unhide R).ups hb); replace Q := hide ((unhide Q).ups hb); have sz106 := hide (hb.size); replace BB := hide (g_then (unhide BB) hb); clear hb; go_wp2_with fail
          refine hK.out _ _ (⟨(unhide Q).cell 0 rfl, (unhide Q).cell 1 rfl, (unhide Q).cell 2 rfl, (unhide Q).cell 3 rfl, (unhide Q).cell 4 rfl, (unhide Q).cell 5 rfl, (unhide Q).cell 6 rfl⟩) (fun hHeld2 => ?_)
          clear hK K hHeld; have hHeld := hHeld2; clear hHeld2
          try simp only [Act.put, List.setIfInBounds_toArray, List.set_cons_zero, List.set_cons_succ]
          have Qf0 := (unhide Q).frozen 0; have Qf1 := (unhide Q).frozen 1; have Qf2 := (unhide Q).frozen 2; have Qf3 := (unhide Q).frozen 3; have Qf4 := (unhide Q).frozen 4; have Qf5 := (unhide Q).frozen 5; have Qf6 := (unhide Q).frozen 6; have Qe0 := (unhide Q).cell 0 rfl; have Qe1 := (unhide Q).cell 1 rfl; have Qe2 := (unhide Q).cell 2 rfl; have Qe3 := (unhide Q).cell 3 rfl; have Qe4 := (unhide Q).cell 4 rfl; have Qe5 := (unhide Q).cell 5 rfl; have Qe6 := (unhide Q).cell 6 rfl; have F_ := hide (fill7 (unhide Q) (.string bn.name) (.int .i64 bn.valid) (.int .i64 bn.next) (.int .i64 bn.mod) (.slice an bn.mails.length cn) (.slice an2 bn.tombs.length cn2) (.int .i64 bn.hor))
          refine lat2Last 7 (by decide) (by kernel_rfl) rfl (by rfl) (fun K hK => ?_)
          go_simp
          refine hK.out _ _ ?_
          clear hK K hHeld
          try simp only [Act.put, List.setIfInBounds_toArray, List.set_cons_zero, List.set_cons_succ]
          obtain ⟨wy66, hU⟩ : ∃ U, U = (((((((wy65.setCell ⟨w4.heap.size, 0, none⟩ (.string bn.name)).setCell ⟨w4.heap.size, 1, none⟩ (.int .i64 bn.valid)).setCell ⟨w4.heap.size, 2, none⟩ (.int .i64 bn.next)).setCell ⟨w4.heap.size, 3, none⟩ (.int .i64 bn.mod)).setCell ⟨w4.heap.size, 4, none⟩ (.slice an bn.mails.length cn)).setCell ⟨w4.heap.size, 5, none⟩ (.slice an2 bn.tombs.length cn2)).setCell ⟨w4.heap.size, 6, none⟩ (.int .i64 bn.hor)) := ⟨_, rfl⟩
          have GU : wy65.grownBy wy66 (some (w4.heap.size)) := by rw [hU]; exact g_store (g_store (g_store (g_store (g_store (g_store (g_store (g_self _ _) _) _) _) _) _) _) _
          have F := unhide F_
          rw [← hU] at F ⊢
          clear hU F_; clear Qf0 Qf1 Qf2 Qf3 Qf4 Qf5 Qf6 Qe0 Qe1 Qe2 Qe3 Qe4 Qe5 Qe6
          have CU_ := hide ((unhide CU).kept GU (fun k hk => by have q1_ := Option.some.inj hk; omega))
          have R_ := hide (F.other neRQ (unhide R)); have Q_ := hide (F.obj)
          have ON_ : Hid (OwnBx wy64.heap.size wy66 (.slice an bn.mails.length cn) (.slice an2 bn.tombs.length cn2) bn) := ⟨F.row (by decide) (unhide ON).1, F.row (by decide) (unhide ON).2⟩
          have BB_ : Hid (w.grownBy wy66 (some c)) := g_new (unhide BB) GU (fun k hk => by have q1_ := Option.some.inj hk; omega)
          replace R := R_; clear R_; replace Q := Q_; clear Q_; replace ON := ON_; clear ON_; replace BB := BB_; clear BB_; replace CU := CU_; clear CU_; clear F GU
          refine lat2Done (by kernel_rfl) ?_ _
          go_wp2
          go_roundw
          case rel => rw [unhide HREL]; exact ⟨k + 1, bn, _, _, by omega, by go_num, ⟨unhide OKN, by have h9 := unhide MDN; go_num⟩, unhide Q, unhide R, ⟨g_based (unhide ON).1 (unhide LBON), g_based (unhide ON).2 (unhide LBON)⟩, unhide CU, unhide BB⟩
          case measure => simp [intOf]; omega
    · have dl : decide ((k : Int) < 2 + (x1 : Int)) = false := decide_eq_false hlt
      have Qc0_1 := (unhide Q).cell 0 rfl; have Qc1_1 := (unhide Q).cell 1 rfl; have Qc2_1 := (unhide Q).cell 2 rfl; have Qc3_1 := (unhide Q).cell 3 rfl; have Qc4_1 := (unhide Q).cell 4 rfl; have Qc5_1 := (unhide Q).cell 5 rfl; have Qc6_1 := (unhide Q).cell 6 rfl; have Rf0 := (unhide R).frozen 0; have Rf1 := (unhide R).frozen 1; have Rf2 := (unhide R).frozen 2; have Rf3 := (unhide R).frozen 3; have Rf4 := (unhide R).frozen 4; have Rf5 := (unhide R).frozen 5; have Rf6 := (unhide R).frozen 6; have Re0 := (unhide R).cell 0 rfl; have Re1 := (unhide R).cell 1 rfl; have Re2 := (unhide R).cell 2 rfl; have Re3 := (unhide R).cell 3 rfl; have Re4 := (unhide R).cell 4 rfl; have Re5 := (unhide R).cell 5 rfl; have Re6 := (unhide R).cell 6 rfl; have F := hide (fill7 (unhide R) (.string b.name) (.int .i64 b.valid) (.int .i64 b.next) (.int .i64 b.mod) (.slice am b.mails.length cm) (.slice at1 b.tombs.length ct1) (.int .i64 b.hor))
      obtain ⟨U, hU⟩ : ∃ U, U = (((((((wr1.setCell ⟨w.heap.size, 0, none⟩ (.string b.name)).setCell ⟨w.heap.size, 1, none⟩ (.int .i64 b.valid)).setCell ⟨w.heap.size, 2, none⟩ (.int .i64 b.next)).setCell ⟨w.heap.size, 3, none⟩ (.int .i64 b.mod)).setCell ⟨w.heap.size, 4, none⟩ (.slice am b.mails.length cm)).setCell ⟨w.heap.size, 5, none⟩ (.slice at1 b.tombs.length ct1)).setCell ⟨w.heap.size, 6, none⟩ (.int .i64 b.hor)) := ⟨_, rfl⟩
      have F9 := unhide F
      rw [← hU] at F9
      have GU : wr1.grownBy U (some (w.heap.size)) := by rw [hU]; exact g_store (g_store (g_store (g_store (g_store (g_store (g_store (g_self _ _) _) _) _) _) _) _) _
      have GU := hide GU; have EU := hU.symm; clear F hU; have v0 := F9.obj.cell 0 rfl; have v1 := F9.obj.cell 1 rfl; have v2 := F9.obj.cell 2 rfl; have v3 := F9.obj.cell 3 rfl; have v4 := F9.obj.cell 4 rfl; have v5 := F9.obj.cell 5 rfl; have v6 := F9.obj.cell 6 rfl; have F := hide F9; clear F9
      go_wp2_with (refine bodyPost_ret (by simp [results, Tryz.results47, go_sem, v0, v1, v2, v3, v4, v5, v6]; try rfl) rfl ?_)
      clear EU; have F := unhide F
      exact ⟨b, _, _, rfl, ⟨unhide OK, by omega⟩, ⟨F.row (by decide) (unhide OB).1, F.row (by decide) (unhide OB).2⟩, (unhide CU).kept (unhide GU) (fun k hk => by have q1_ := Option.some.inj hk; omega), g_new (unhide BB) (unhide GU) (fun k hk => by have q1_ := Option.some.inj hk; omega)⟩
end Go.Proofs.YtfemplekibpfoaaGreat

/- The draw of a box out of bytes. Made by gen_fnforgets.py. -/
namespace Go.Proofs.YtfemplekibpfoaaGreat
open Go.RowKit
open Plain
set_option linter.unusedVariables false
set_option linter.unusedSimpArgs false

set_option maxHeartbeats 4000000 in
set_option maxRecDepth 100000 in
theorem DrawBoxM_any (B len cap : Nat) (a : Option Addr) (w : World) (ha : Arg B w a len) (hB : B ≤ w.heap.size) :
    Calls Tryz.prog 9 #[.slice a len cap] w fun e w' => ∃ b m t, e = .returned (boxV b m t) ∧ (boxOk b = true ∧ b.mod ≤ 18) ∧ OwnBx w.heap.size w' m t b ∧ Below w.heap.size w w' := by
  have HA := hide (fun (W : World) (hb : Below B w W) => ha.below hb)
  clear ha; have BB := hide (Below.refl w.heap.size w)
  obtain ⟨w1, hR⟩ : ∃ X, X = w.alloc (.cells ([.string ⟨#[]⟩, .int .i64 0, .int .i64 0, .int .i64 0, .slice none 0 0, .slice none 0 0, .int .i64 0] : List Value).toArray 27) := ⟨_, rfl⟩
  have Rx : HasObj w1 w.heap.size 27 [.string ⟨#[]⟩, .int .i64 0, .int .i64 0, .int .i64 0, .slice none 0 0, .slice none 0 0, .int .i64 0] := by rw [hR]; exact HasObj.new _ _ _
  have hbn : Below w.heap.size w w1 := by rw [hR]; exact (Below.refl _ _).alloc (Nat.le_refl _) _
  have loR : w.heap.size ≤ w.heap.size := (unhide BB).size
  have ER := hR.symm; clear hR; have sz1 := hide (hbn.size); replace BB := hide (below_y (unhide BB) hbn); clear hbn; have R := hide Rx; clear Rx; have q1 := hide (l01New_any B len cap a w1 (unhide HA w1 ((unhide BB).mono hB)) (Nat.le_trans hB (unhide BB).size)); have nR := (unhide R).lt
  go_enter Tryz.func9, Tryz.ntmps9
  go_wp2_with fail; clear ER
  refine (unhide q1).mono ?_
  rintro e w2 ⟨rfl, hc1, hg1⟩
  have hb := g_below hg1; have CU := hide hc1; clear q1 hg1 hc1; replace R := hide ((unhide R).ups hb); have sz2 := hide (hb.size); replace BB := hide (below_y (unhide BB) hb); clear hb; go_wp2_with fail
  refine (l08Box_any B w1.heap.size w2 (unhide CU)).mono ?_
  rintro e w3 ⟨b, m, t, rfl, hok, own, hc2, hg2⟩
  have OK := hide hok
  have LB : Hid (w.heap.size ≤ w2.heap.size) := (unhide BB).size
  obtain ⟨am, cm, rfl⟩ := g_shape own.1
  obtain ⟨at1, ct1, rfl⟩ := g_shape own.2
  have OB := hide own; clear hok own hc2 CU
  have R_ := hide ((unhide R).kept hg2 (fun e => by have q1_ := Option.some.inj e; omega))
  have BB_ : Hid (Below w.heap.size w w3) := (unhide BB).grown hg2 (unhide BB).size (fun k hk => by have q1_ := Option.some.inj hk; omega)
  clear R BB hg2; have R := R_; have BB := BB_; clear R_ BB_; have Rf0 := (unhide R).frozen 0; have Rf1 := (unhide R).frozen 1; have Rf2 := (unhide R).frozen 2; have Rf3 := (unhide R).frozen 3; have Rf4 := (unhide R).frozen 4; have Rf5 := (unhide R).frozen 5; have Rf6 := (unhide R).frozen 6; have Re0 := (unhide R).cell 0 rfl; have Re1 := (unhide R).cell 1 rfl; have Re2 := (unhide R).cell 2 rfl; have Re3 := (unhide R).cell 3 rfl; have Re4 := (unhide R).cell 4 rfl; have Re5 := (unhide R).cell 5 rfl; have Re6 := (unhide R).cell 6 rfl; have F := hide (fill7 (unhide R) (.string b.name) (.int .i64 b.valid) (.int .i64 b.next) (.int .i64 b.mod) (.slice am b.mails.length cm) (.slice at1 b.tombs.length ct1) (.int .i64 b.hor))
  obtain ⟨U, hU⟩ : ∃ U, U = (((((((w3.setCell ⟨w.heap.size, 0, none⟩ (.string b.name)).setCell ⟨w.heap.size, 1, none⟩ (.int .i64 b.valid)).setCell ⟨w.heap.size, 2, none⟩ (.int .i64 b.next)).setCell ⟨w.heap.size, 3, none⟩ (.int .i64 b.mod)).setCell ⟨w.heap.size, 4, none⟩ (.slice am b.mails.length cm)).setCell ⟨w.heap.size, 5, none⟩ (.slice at1 b.tombs.length ct1)).setCell ⟨w.heap.size, 6, none⟩ (.int .i64 b.hor)) := ⟨_, rfl⟩
  have F9 := unhide F
  rw [← hU] at F9
  have EU := hU.symm; clear F hU; have v0 := F9.obj.cell 0 rfl; have v1 := F9.obj.cell 1 rfl; have v2 := F9.obj.cell 2 rfl; have v3 := F9.obj.cell 3 rfl; have v4 := F9.obj.cell 4 rfl; have v5 := F9.obj.cell 5 rfl; have v6 := F9.obj.cell 6 rfl; have F := hide F9; clear F9
  go_wp2_with (refine bodyPost_ret (by simp [results, Tryz.results9, go_sem, v0, v1, v2, v3, v4, v5, v6]; try rfl) rfl ?_)
  clear EU; have F := unhide F
  exact ⟨b, _, _, rfl, unhide OK, ⟨g_based (F.row (by decide) (unhide OB).1) (unhide LB), g_based (F.row (by decide) (unhide OB).2) (unhide LB)⟩, F.below loR (unhide BB)⟩
theorem DrawBox_any (B len cap : Nat) (a : Option Addr) (w : World) (ha : Arg B w a len) (hB : B ≤ w.heap.size) :
    Calls Tryz.prog 9 #[.slice a len cap] w fun e w' => ∃ b m t, e = .returned (boxV b m t) ∧ boxOk b = true ∧ OwnBx w.heap.size w' m t b ∧ Below w.heap.size w w' :=
  (DrawBoxM_any B len cap a w ha hB).mono fun e w' ⟨b, m, t, h1, h2, h3, h4⟩ => ⟨b, m, t, h1, h2.1, h3, h4⟩
end Go.Proofs.YtfemplekibpfoaaGreat

/- Rows of mails that are read; laws.sameMails of equal rows. -/
namespace Go.Proofs.YtfemplekibpfoaaGreat
open Go.RowKit
open Plain
set_option linter.unusedVariables false
set_option linter.unusedSimpArgs false

/-- A row of mails that is read, a beginning of a row too. -/
def ReadM (w : World) (v : Value) (l : List Ml) : Prop := ∃ a c, v = .slice a l.length c ∧ ∀ (k : Nat) (f : Ml), l[k]? = some f →
  ∃ g, a = some ⟨g, 0, none⟩ ∧ g < w.heap.size ∧ w.cell? ⟨g, k * 4, none⟩ = some (.int .i64 f.uid) ∧ w.cell? ⟨g, k * 4 + 1, none⟩ = some (.int .i64 f.flags) ∧ w.cell? ⟨g, k * 4 + 2, none⟩ = some (.int .i64 f.mod) ∧ w.cell? ⟨g, k * 4 + 3, none⟩ = some (.string f.text)
theorem OwnMl.read {B : Nat} {w : World} {v : Value} {l : List Ml} (h : OwnMl B w v l) : ReadM w v l := by
  obtain ⟨a, c, hv⟩ := g_shape h
  refine ⟨a, c, hv, fun k f hx => ?_⟩
  obtain ⟨g, c', e, hg, c0, c1, c2, c3⟩ := ml_read h (Below.refl _ _) hx
  rw [hv] at e
  exact ⟨g, (Value.slice.inj e).1, hg, c0, c1, c2, c3⟩
theorem below_dM (W : World) (q : Nat) : Below W.heap.size W (W.drewN q) := ⟨rfl, rfl, rfl, Nat.le_refl _, fun _ _ => rfl⟩

end Go.Proofs.YtfemplekibpfoaaGreat

/- Boxes that are the same: the specification's l19SameBox and SameStore, laws.sameBox, of equal boxes. Made by gen_samebox.py. -/
namespace Go.Proofs.YtfemplekibpfoaaGreat
open Go.RowKit
open Plain
set_option linter.unusedVariables false
set_option linter.unusedSimpArgs false

theorem belowS {w W W' : World} (h : Below w.heap.size w W) (hb : Below W.heap.size W W') : Below w.heap.size w W' := h.trans (hb.mono h.size)
set_option maxHeartbeats 8000000 in
set_option maxRecDepth 100000 in
theorem l19SameBox_same (b : Bx) (m1 t1 m2 t2 : Value) (B1 B2 : Nat) (w : World) (hl1 : b.mails.length ≤ 1048576) (hl2 : b.tombs.length ≤ 1048576) (h1 : OwnBx B1 w m1 t1 b) (h2 : OwnBx B2 w m2 t2 b) :
    Calls Tryz.prog 93 #[boxV b m1 t1, boxV b m2 t2] w fun e w' => e = .returned (.bool true) ∧ Below w.heap.size w w' := by
  have M1 := hide (fun (W : World) hb k f hx => ml_read (W := W) h1.1 hb (k := k) (f := f) hx)
  have M2 := hide (fun (W : World) hb k f hx => ml_read (W := W) h2.1 hb (k := k) (f := f) hx)
  have T1 := hide (fun (W : World) hb k f hx => tb_read (W := W) h1.2 hb (k := k) (f := f) hx)
  have T2 := hide (fun (W : World) hb k f hx => tb_read (W := W) h2.2 hb (k := k) (f := f) hx)
  obtain ⟨am, cm, rfl⟩ := g_shape h1.1
  obtain ⟨at1, ct1, rfl⟩ := g_shape h1.2
  obtain ⟨an, cn, rfl⟩ := g_shape h2.1
  obtain ⟨at2, ct2, rfl⟩ := g_shape h2.2
  clear h1 h2; have BB := hide (Below.refl w.heap.size w)
  obtain ⟨w1, hA⟩ : ∃ X, X = w.alloc (.cells ([.string b.name, .int .i64 b.valid, .int .i64 b.next, .int .i64 b.mod, .slice am b.mails.length cm, .slice at1 b.tombs.length ct1, .int .i64 b.hor] : List Value).toArray 27) := ⟨_, rfl⟩
  have Ax : HasObj w1 w.heap.size 27 [.string b.name, .int .i64 b.valid, .int .i64 b.next, .int .i64 b.mod, .slice am b.mails.length cm, .slice at1 b.tombs.length ct1, .int .i64 b.hor] := by rw [hA]; exact HasObj.new _ _ _
  have hbn : Below w.heap.size w w1 := by rw [hA]; exact (Below.refl _ _).alloc (Nat.le_refl _) _
  have loA : w.heap.size ≤ w.heap.size := (unhide BB).size
  have EA := hA.symm; clear hA; have sz1 := hide (hbn.size); replace BB := hide (below_y (unhide BB) hbn); clear hbn; have A := hide Ax; clear Ax
  obtain ⟨w2, hC⟩ : ∃ X, X = w1.alloc (.cells ([.string b.name, .int .i64 b.valid, .int .i64 b.next, .int .i64 b.mod, .slice an b.mails.length cn, .slice at2 b.tombs.length ct2, .int .i64 b.hor] : List Value).toArray 27) := ⟨_, rfl⟩
  have Cx : HasObj w2 w1.heap.size 27 [.string b.name, .int .i64 b.valid, .int .i64 b.next, .int .i64 b.mod, .slice an b.mails.length cn, .slice at2 b.tombs.length ct2, .int .i64 b.hor] := by rw [hC]; exact HasObj.new _ _ _
  have hbn : Below w1.heap.size w1 w2 := by rw [hC]; exact (Below.refl _ _).alloc (Nat.le_refl _) _
  have neAC : w.heap.size ≠ w1.heap.size := Nat.ne_of_lt (unhide A).lt
  have loC : w.heap.size ≤ w1.heap.size := (unhide BB).size
  have EC := hC.symm; clear hC; replace A := hide ((unhide A).ups hbn); have sz2 := hide (hbn.size); replace BB := hide (below_y (unhide BB) hbn); clear hbn; have C := hide Cx; clear Cx; have Ac0_1 := (unhide A).cell 0 rfl; have Ac1_1 := (unhide A).cell 1 rfl; have Ac2_1 := (unhide A).cell 2 rfl; have Ac3_1 := (unhide A).cell 3 rfl; have Ac4_1 := (unhide A).cell 4 rfl; have Ac5_1 := (unhide A).cell 5 rfl; have Ac6_1 := (unhide A).cell 6 rfl; have Cc0_2 := (unhide C).cell 0 rfl; have Cc1_2 := (unhide C).cell 1 rfl; have Cc2_2 := (unhide C).cell 2 rfl; have Cc3_2 := (unhide C).cell 3 rfl; have Cc4_2 := (unhide C).cell 4 rfl; have Cc5_2 := (unhide C).cell 5 rfl; have Cc6_2 := (unhide C).cell 6 rfl
  go_enter Tryz.func93, Tryz.ntmps93
  go_wp2
  clear Ac0_1 Ac1_1 Ac2_1 Ac3_1 Ac4_1 Ac5_1 Ac6_1 Cc0_2 Cc1_2 Cc2_2 Cc3_2 Cc4_2 Cc5_2 Cc6_2 EA EC
  go_loopw [5] (fun i wr => ∃ k : Nat, k ≤ b.mails.length ∧ i = .int .i64 k ∧ HasObj wr w.heap.size 27 [.string b.name, .int .i64 b.valid, .int .i64 b.next, .int .i64 b.mod, .slice am b.mails.length cm, .slice at1 b.tombs.length ct1, .int .i64 b.hor] ∧ HasObj wr w1.heap.size 27 [.string b.name, .int .i64 b.valid, .int .i64 b.next, .int .i64 b.mod, .slice an b.mails.length cn, .slice at2 b.tombs.length ct2, .int .i64 b.hor] ∧ Below w.heap.size w wr) (fun i _ => b.mails.length - (intOf i).toNat)
  case atStart => exact ⟨0, Nat.zero_le _, rfl, unhide A, unhide C, unhide BB⟩
  clear A C BB
  case round =>
    obtain ⟨k, hk, rfl, oA, oC, hbel⟩ := hrel
    obtain ⟨wo5, hwo⟩ : ∃ wo, wo = wr := ⟨_, rfl⟩
    subst hwo
    by_cases hlt : k < b.mails.length
    · have hgk : b.mails[k]? = some b.mails[k] := List.getElem?_eq_getElem hlt
      obtain ⟨g1, q1, e1, _, c0, c1, c2, c3⟩ := unhide M1 wo5 hbel k _ hgk
      obtain ⟨g2, q2, e2, _, d0, d1, d2, d3⟩ := unhide M2 wo5 hbel k _ hgk
      have e3 := (Value.slice.inj e1).1; have e4 := (Value.slice.inj e2).1; clear e1 e2
      subst e3 e4
      generalize b.mails[k] = x at *
      obtain ⟨x0, x1, x2, x3⟩ := x
      simp only at c0 c1 c2 c3 d0 d1 d2 d3
      clear hgk
      have i1 : (0 : Int) ≤ (k : Int) := by omega
      have i2 : (k : Int) < (b.mails.length : Int) := by omega
      have ca := oA.cell 4 rfl; have cc := oC.cell 4 rfl; have A := hide oA; have C := hide oC; have BB := hide hbel; clear oA oC hbel
      go_wp2
      go_quiet (fail)
      obtain ⟨wq, hwq⟩ : ∃ X, X = wo5.drewN nq := ⟨_, rfl⟩
      rw [← hwq]
      have hb : Below wo5.heap.size wo5 wq := by rw [hwq]; exact below_dM _ _
      have A_ := hide ((unhide A).ups hb); have C_ := hide ((unhide C).ups hb); have BB_ := hide (belowS (unhide BB) hb); clear hwq hb A C BB ca cc c0 c1 c2 c3 d0 d1 d2 d3
      go_wp2
      go_roundw
      case rel => exact ⟨k + 1, by omega, by go_num, unhide A_, unhide C_, unhide BB_⟩
      case measure => simp [intOf]; omega
    · obtain rfl : k = b.mails.length := by omega
      have ca := oA.cell 4 rfl; have cc := oC.cell 4 rfl; have cb := oA.cell 5 rfl; have A := hide oA; have C := hide oC; have BB := hide hbel; clear oA oC hbel hlt hk
      go_wp2
      clear ca cc cb
      go_loopw [6] (fun i wr => ∃ k : Nat, k ≤ b.tombs.length ∧ i = .int .i64 k ∧ HasObj wr w.heap.size 27 [.string b.name, .int .i64 b.valid, .int .i64 b.next, .int .i64 b.mod, .slice am b.mails.length cm, .slice at1 b.tombs.length ct1, .int .i64 b.hor] ∧ HasObj wr w1.heap.size 27 [.string b.name, .int .i64 b.valid, .int .i64 b.next, .int .i64 b.mod, .slice an b.mails.length cn, .slice at2 b.tombs.length ct2, .int .i64 b.hor] ∧ Below w.heap.size w wr) (fun i _ => b.tombs.length - (intOf i).toNat)
      case atStart => exact ⟨0, Nat.zero_le _, rfl, unhide A, unhide C, unhide BB⟩
      clear A C BB
      case round =>
        obtain ⟨k, hk, rfl, oA, oC, hbel⟩ := hrel
        obtain ⟨wo6, hwo⟩ : ∃ wo, wo = wr := ⟨_, rfl⟩
        subst hwo
        by_cases hlt : k < b.tombs.length
        · have hgk : b.tombs[k]? = some b.tombs[k] := List.getElem?_eq_getElem hlt
          obtain ⟨g1, q1, e1, _, c0, c1⟩ := unhide T1 wo6 hbel k _ hgk
          obtain ⟨g2, q2, e2, _, d0, d1⟩ := unhide T2 wo6 hbel k _ hgk
          have e3 := (Value.slice.inj e1).1; have e4 := (Value.slice.inj e2).1; clear e1 e2
          subst e3 e4
          generalize b.tombs[k] = x at *
          obtain ⟨x0, x1⟩ := x
          simp only at c0 c1 d0 d1
          clear hgk
          have i1 : (0 : Int) ≤ (k : Int) := by omega
          have i2 : (k : Int) < (b.tombs.length : Int) := by omega
          have ca := oA.cell 5 rfl; have cc := oC.cell 5 rfl; have A := hide oA; have C := hide oC; have BB := hide hbel; clear oA oC hbel
          go_wp2
          go_quiet (fail)
          obtain ⟨wq, hwq⟩ : ∃ X, X = wo6.drewN nq := ⟨_, rfl⟩
          rw [← hwq]
          have hb : Below wo6.heap.size wo6 wq := by rw [hwq]; exact below_dM _ _
          have A_ := hide ((unhide A).ups hb); have C_ := hide ((unhide C).ups hb); have BB_ := hide (belowS (unhide BB) hb); clear hwq hb A C BB ca cc c0 c1 d0 d1
          go_wp2
          go_roundw
          case rel => exact ⟨k + 1, by omega, by go_num, unhide A_, unhide C_, unhide BB_⟩
          case measure => simp [intOf]; omega
        · obtain rfl : k = b.tombs.length := by omega
          have ca := oA.cell 5 rfl; have cc := oC.cell 5 rfl; have A := hide oA; have C := hide oC; have BB := hide hbel; clear oA oC hbel hlt hk
          go_wp2
          go_ret
          exact ⟨rfl, unhide BB⟩
set_option maxHeartbeats 8000000 in
set_option maxRecDepth 100000 in
theorem SameStore_one (b : Bx) (m1 t1 m2 t2 : Value) (B1 B2 g1 g2 : Nat) (w : World) (hl1 : b.mails.length ≤ 1048576) (hl2 : b.tombs.length ≤ 1048576) (h1 : OwnBx B1 w m1 t1 b) (h2 : OwnBx B2 w m2 t2 b) (k1 : HasObj w g1 27 (boxL b m1 t1)) (k2 : HasObj w g2 27 (boxL b m2 t2)) :
    Calls Tryz.prog 38 #[.agg #[.slice (some ⟨g1, 0, none⟩) 1 1, .int .i64 0], .agg #[.slice (some ⟨g2, 0, none⟩) 1 1, .int .i64 0]] w fun e w' => e = .returned (.bool true) ∧ Below w.heap.size w w' := by
  obtain ⟨am, cm, rfl⟩ := g_shape h1.1
  obtain ⟨at1, ct1, rfl⟩ := g_shape h1.2
  obtain ⟨an, cn, rfl⟩ := g_shape h2.1
  obtain ⟨at2, ct2, rfl⟩ := g_shape h2.2
  have O1 := hide h1; have O2 := hide h2; have K1 := hide k1; have K2 := hide k2; clear h1 h2 k1 k2; have BB := hide (Below.refl w.heap.size w)
  obtain ⟨ws1, hA⟩ : ∃ X, X = w.alloc (.cells ([.slice (some ⟨g1, 0, none⟩) 1 1, .int .i64 0] : List Value).toArray 62) := ⟨_, rfl⟩
  have Ax : HasObj ws1 w.heap.size 62 [.slice (some ⟨g1, 0, none⟩) 1 1, .int .i64 0] := by rw [hA]; exact HasObj.new _ _ _
  have hbn : Below w.heap.size w ws1 := by rw [hA]; exact (Below.refl _ _).alloc (Nat.le_refl _) _
  have neK1A : g1 ≠ w.heap.size := Nat.ne_of_lt (unhide K1).lt
  have neK2A : g2 ≠ w.heap.size := Nat.ne_of_lt (unhide K2).lt
  have loA : w.heap.size ≤ w.heap.size := (unhide BB).size
  have EA := hA.symm; clear hA; replace K1 := hide ((unhide K1).ups hbn); replace K2 := hide ((unhide K2).ups hbn); replace O1 := hide ((unhide O1).up hbn); replace O2 := hide ((unhide O2).up hbn); have sz1 := hide (hbn.size); replace BB := hide (below_y (unhide BB) hbn); clear hbn; have A := hide Ax; clear Ax
  obtain ⟨ws2, hC⟩ : ∃ X, X = ws1.alloc (.cells ([.slice (some ⟨g2, 0, none⟩) 1 1, .int .i64 0] : List Value).toArray 62) := ⟨_, rfl⟩
  have Cx : HasObj ws2 ws1.heap.size 62 [.slice (some ⟨g2, 0, none⟩) 1 1, .int .i64 0] := by rw [hC]; exact HasObj.new _ _ _
  have hbn : Below ws1.heap.size ws1 ws2 := by rw [hC]; exact (Below.refl _ _).alloc (Nat.le_refl _) _
  have neK1C : g1 ≠ ws1.heap.size := Nat.ne_of_lt (unhide K1).lt
  have neK2C : g2 ≠ ws1.heap.size := Nat.ne_of_lt (unhide K2).lt
  have neAC : w.heap.size ≠ ws1.heap.size := Nat.ne_of_lt (unhide A).lt
  have loC : w.heap.size ≤ ws1.heap.size := (unhide BB).size
  have EC := hC.symm; clear hC; replace K1 := hide ((unhide K1).ups hbn); replace K2 := hide ((unhide K2).ups hbn); replace A := hide ((unhide A).ups hbn); replace O1 := hide ((unhide O1).up hbn); replace O2 := hide ((unhide O2).up hbn); have sz2 := hide (hbn.size); replace BB := hide (below_y (unhide BB) hbn); clear hbn; have C := hide Cx; clear Cx; have Ac0_1 := (unhide A).cell 0 rfl; have Ac1_1 := (unhide A).cell 1 rfl; have Cc0_2 := (unhide C).cell 0 rfl; have Cc1_2 := (unhide C).cell 1 rfl
  go_enter Tryz.func38, Tryz.ntmps38
  go_wp2
  clear Ac0_1 Ac1_1 Cc0_2 Cc1_2 EA EC
  go_loopw [5] (fun i wr => ∃ k : Nat, k ≤ 1 ∧ i = .int .i64 k ∧ HasObj wr w.heap.size 62 [.slice (some ⟨g1, 0, none⟩) 1 1, .int .i64 0] ∧ HasObj wr ws1.heap.size 62 [.slice (some ⟨g2, 0, none⟩) 1 1, .int .i64 0] ∧ HasObj wr g1 27 [.string b.name, .int .i64 b.valid, .int .i64 b.next, .int .i64 b.mod, .slice am b.mails.length cm, .slice at1 b.tombs.length ct1, .int .i64 b.hor] ∧ HasObj wr g2 27 [.string b.name, .int .i64 b.valid, .int .i64 b.next, .int .i64 b.mod, .slice an b.mails.length cn, .slice at2 b.tombs.length ct2, .int .i64 b.hor] ∧ OwnBx B1 wr (.slice am b.mails.length cm) (.slice at1 b.tombs.length ct1) b ∧ OwnBx B2 wr (.slice an b.mails.length cn) (.slice at2 b.tombs.length ct2) b ∧ Below w.heap.size w wr) (fun i _ => 1 - (intOf i).toNat)
  case atStart => exact ⟨0, by omega, rfl, unhide A, unhide C, unhide K1, unhide K2, unhide O1, unhide O2, unhide BB⟩
  clear A C K1 K2 O1 O2 BB
  case round =>
    obtain ⟨k, hk, rfl, oA, oC, oK1, oK2, oO1, oO2, hbel⟩ := hrel
    obtain ⟨wo, hwo⟩ : ∃ wo, wo = wr := ⟨_, rfl⟩
    subst hwo
    have A := hide oA; have C := hide oC; have K1 := hide oK1; have K2 := hide oK2; have O1 := hide oO1; have O2 := hide oO2; have BB := hide hbel; clear oA oC oK1 oK2 oO1 oO2 hbel
    have hk2 : k = 0 ∨ k = 1 := by omega
    rcases hk2 with rfl | rfl
    · simp only [show ((0 : Nat) : Int) = 0 from rfl]
      have Ac0_3 := (unhide A).cell 0 rfl; have Ac1_3 := (unhide A).cell 1 rfl; have Cc0_4 := (unhide C).cell 0 rfl; have Cc1_4 := (unhide C).cell 1 rfl; have K1c0_5 := (unhide K1).cell 0 rfl; have K1c1_5 := (unhide K1).cell 1 rfl; have K1c2_5 := (unhide K1).cell 2 rfl; have K1c3_5 := (unhide K1).cell 3 rfl; have K1c4_5 := (unhide K1).cell 4 rfl; have K1c5_5 := (unhide K1).cell 5 rfl; have K1c6_5 := (unhide K1).cell 6 rfl; have K2c0_6 := (unhide K2).cell 0 rfl; have K2c1_6 := (unhide K2).cell 1 rfl; have K2c2_6 := (unhide K2).cell 2 rfl; have K2c3_6 := (unhide K2).cell 3 rfl; have K2c4_6 := (unhide K2).cell 4 rfl; have K2c5_6 := (unhide K2).cell 5 rfl; have K2c6_6 := (unhide K2).cell 6 rfl
      go_wp2
      refine wp_region_held_drew (S := fun w' => w'.cell? ⟨w.heap.size, 0, none⟩ = some (.slice (some ⟨g1, 0, none⟩) 1 1) ∧ w'.cell? ⟨ws1.heap.size, 0, none⟩ = some (.slice (some ⟨g2, 0, none⟩) 1 1) ∧ w'.cell? ⟨g1, 0, none⟩ = some (.string b.name) ∧ w'.cell? ⟨g1, 1, none⟩ = some (.int .i64 b.valid) ∧ w'.cell? ⟨g1, 2, none⟩ = some (.int .i64 b.next) ∧ w'.cell? ⟨g1, 3, none⟩ = some (.int .i64 b.mod) ∧ w'.cell? ⟨g1, 4, none⟩ = some (.slice am b.mails.length cm) ∧ w'.cell? ⟨g1, 5, none⟩ = some (.slice at1 b.tombs.length ct1) ∧ w'.cell? ⟨g1, 6, none⟩ = some (.int .i64 b.hor) ∧ w'.cell? ⟨g2, 0, none⟩ = some (.string b.name) ∧ w'.cell? ⟨g2, 1, none⟩ = some (.int .i64 b.valid) ∧ w'.cell? ⟨g2, 2, none⟩ = some (.int .i64 b.next) ∧ w'.cell? ⟨g2, 3, none⟩ = some (.int .i64 b.mod) ∧ w'.cell? ⟨g2, 4, none⟩ = some (.slice an b.mails.length cn) ∧ w'.cell? ⟨g2, 5, none⟩ = some (.slice at2 b.tombs.length ct2) ∧ w'.cell? ⟨g2, 6, none⟩ = some (.int .i64 b.hor)) (by kernel_rfl) (⟨(unhide A).cell 0 rfl, (unhide C).cell 0 rfl, (unhide K1).cell 0 rfl, (unhide K1).cell 1 rfl, (unhide K1).cell 2 rfl, (unhide K1).cell 3 rfl, (unhide K1).cell 4 rfl, (unhide K1).cell 5 rfl, (unhide K1).cell 6 rfl, (unhide K2).cell 0 rfl, (unhide K2).cell 1 rfl, (unhide K2).cell 2 rfl, (unhide K2).cell 3 rfl, (unhide K2).cell 4 rfl, (unhide K2).cell 5 rfl, (unhide K2).cell 6 rfl⟩) (fun hHeld => ?_)
      clear Ac0_3 Ac1_3 Cc0_4 Cc1_4 K1c0_5 K1c1_5 K1c2_5 K1c3_5 K1c4_5 K1c5_5 K1c6_5 K2c0_6 K2c1_6 K2c2_6 K2c3_6 K2c4_6 K2c5_6 K2c6_6; replace K1 := hide ((unhide K1).drew); replace K2 := hide ((unhide K2).drew); replace A := hide ((unhide A).drew); replace C := hide ((unhide C).drew); replace O1 := hide ((unhide O1).drew); replace O2 := hide ((unhide O2).drew); replace BB := hide ((unhide BB).drew)
      have sz51 : Hid (wo.heap.size ≤ wo.drew.heap.size) := Nat.le_refl _
      refine takeVal 0 (some 27) ?_ rfl (by kernel_rfl) (by kernel_rfl) (by kernel_rfl) rfl (fun _ _ _ h => h) (by rfl) (by assumption) ?_ ?_; rotate_left; (intro w hSw; (try dsimp only at hSw); go_simp <;> with_reducible rfl); simp only [Act.put, List.setIfInBounds_toArray, List.set_cons_zero, List.set_cons_succ]
      refine takeVal 1 (some 28) ?_ rfl (by kernel_rfl) (by kernel_rfl) (by kernel_rfl) rfl (fun _ _ _ h => h) (by rfl) (by assumption) ?_ ?_; rotate_left; (intro w hSw; (try dsimp only at hSw); go_simp <;> with_reducible rfl); simp only [Act.put, List.setIfInBounds_toArray, List.set_cons_zero, List.set_cons_succ]
      refine takeVal 2 (some 29) ?_ rfl (by kernel_rfl) (by kernel_rfl) (by kernel_rfl) rfl (fun _ _ _ h => h) (by rfl) (by assumption) ?_ ?_; rotate_left; (intro w hSw; (try dsimp only at hSw); go_simp <;> with_reducible rfl); simp only [Act.put, List.setIfInBounds_toArray, List.set_cons_zero, List.set_cons_succ]
      refine takeVal 3 (some 30) ?_ rfl (by kernel_rfl) (by kernel_rfl) (by kernel_rfl) rfl (fun _ _ _ h => h) (by rfl) (by assumption) ?_ ?_; rotate_left; (intro w hSw; (try dsimp only at hSw); go_simp <;> with_reducible rfl); simp only [Act.put, List.setIfInBounds_toArray, List.set_cons_zero, List.set_cons_succ]
      refine takeVal 4 (some 31) ?_ rfl (by kernel_rfl) (by kernel_rfl) (by kernel_rfl) rfl (fun _ _ _ h => h) (by rfl) (by assumption) ?_ ?_; rotate_left; (intro w hSw; (try dsimp only at hSw); go_simp <;> with_reducible rfl); simp only [Act.put, List.setIfInBounds_toArray, List.set_cons_zero, List.set_cons_succ]
      refine takeVal 5 (some 32) ?_ rfl (by kernel_rfl) (by kernel_rfl) (by kernel_rfl) rfl (fun _ _ _ h => h) (by rfl) (by assumption) ?_ ?_; rotate_left; (intro w hSw; (try dsimp only at hSw); go_simp <;> with_reducible rfl); simp only [Act.put, List.setIfInBounds_toArray, List.set_cons_zero, List.set_cons_succ]
      refine takeVal 6 (some 33) ?_ rfl (by kernel_rfl) (by kernel_rfl) (by kernel_rfl) rfl (fun _ _ _ h => h) (by rfl) (by assumption) ?_ ?_; rotate_left; (intro w hSw; (try dsimp only at hSw); go_simp <;> with_reducible rfl); simp only [Act.put, List.setIfInBounds_toArray, List.set_cons_zero, List.set_cons_succ]
      refine takeVal 7 (some 34) ?_ rfl (by kernel_rfl) (by kernel_rfl) (by kernel_rfl) rfl (fun _ _ _ h => h) (by rfl) (by assumption) ?_ ?_; rotate_left; (intro w hSw; (try dsimp only at hSw); go_simp <;> with_reducible rfl); simp only [Act.put, List.setIfInBounds_toArray, List.set_cons_zero, List.set_cons_succ]
      refine takeVal 8 (some 35) ?_ rfl (by kernel_rfl) (by kernel_rfl) (by kernel_rfl) rfl (fun _ _ _ h => h) (by rfl) (by assumption) ?_ ?_; rotate_left; (intro w hSw; (try dsimp only at hSw); go_simp <;> with_reducible rfl); simp only [Act.put, List.setIfInBounds_toArray, List.set_cons_zero, List.set_cons_succ]
      refine takeVal 9 (some 36) ?_ rfl (by kernel_rfl) (by kernel_rfl) (by kernel_rfl) rfl (fun _ _ _ h => h) (by rfl) (by assumption) ?_ ?_; rotate_left; (intro w hSw; (try dsimp only at hSw); go_simp <;> with_reducible rfl); simp only [Act.put, List.setIfInBounds_toArray, List.set_cons_zero, List.set_cons_succ]
      refine wpAnyH_ready (rs := [10]) (by kernel_rfl) (by simp) ?_
      refine AllReadyH.cons rfl (fun K hK => ?_) AllReadyH.nil
      go_simp
      refine (l19SameBox_same b _ _ _ _ _ _ _ hl1 hl2 (unhide O1) (unhide O2)).mono ?_
      rintro e wt1 ⟨rfl, hb⟩
      replace K1 := hide ((unhide K1).ups hb); replace K2 := hide ((unhide K2).ups hb); replace A := hide ((unhide A).ups hb); replace C := hide ((unhide C).ups hb); replace O1 := hide ((unhide O1).up hb); replace O2 := hide ((unhide O2).up hb); have sz52 := hide (hb.size); replace BB := hide (below_y (unhide BB) hb); clear hb; go_wp2_with fail
      refine hK.out _ _ (⟨(unhide A).cell 0 rfl, (unhide C).cell 0 rfl, (unhide K1).cell 0 rfl, (unhide K1).cell 1 rfl, (unhide K1).cell 2 rfl, (unhide K1).cell 3 rfl, (unhide K1).cell 4 rfl, (unhide K1).cell 5 rfl, (unhide K1).cell 6 rfl, (unhide K2).cell 0 rfl, (unhide K2).cell 1 rfl, (unhide K2).cell 2 rfl, (unhide K2).cell 3 rfl, (unhide K2).cell 4 rfl, (unhide K2).cell 5 rfl, (unhide K2).cell 6 rfl⟩) (fun hHeld2 => ?_)
      clear hK K hHeld; have hHeld := hHeld2; clear hHeld2
      try simp only [Act.put, List.setIfInBounds_toArray, List.set_cons_zero, List.set_cons_succ]
      refine takeVal 11 (some 38) ?_ rfl (by kernel_rfl) (by kernel_rfl) (by kernel_rfl) rfl (fun _ _ _ h => h) (by rfl) (by assumption) ?_ ?_; rotate_left; (intro w hSw; (try dsimp only at hSw); go_simp <;> with_reducible rfl); simp only [Act.put, List.setIfInBounds_toArray, List.set_cons_zero, List.set_cons_succ]
      refine wpAnyH_done (by kernel_rfl) ?_ _
      go_wp2
      go_roundw
      case rel => exact ⟨1, by omega, by go_num, unhide A, unhide C, unhide K1, unhide K2, unhide O1, unhide O2, unhide BB⟩
      case measure => simp [intOf]
    · simp only [show ((1 : Nat) : Int) = 1 from rfl]
      have Ac0_3 := (unhide A).cell 0 rfl; have Ac1_3 := (unhide A).cell 1 rfl; have Cc0_4 := (unhide C).cell 0 rfl; have Cc1_4 := (unhide C).cell 1 rfl
      go_wp2
      go_ret
      exact ⟨rfl, unhide BB⟩
set_option maxHeartbeats 8000000 in
set_option maxRecDepth 100000 in
theorem sameBox_same (b : Bx) (m1 t1 m2 t2 : Value) (B1 B2 : Nat) (w : World) (hl1 : b.mails.length ≤ 1048576) (hl2 : b.tombs.length ≤ 1048576) (h1 : OwnBx B1 w m1 t1 b) (h2 : OwnBx B2 w m2 t2 b) :
    Calls Tryz.prog 13 #[boxV b m1 t1, boxV b m2 t2] w fun e w' => e = .returned (.bool true) ∧ Below w.heap.size w w' := by
  obtain ⟨am, cm, rfl⟩ := g_shape h1.1
  obtain ⟨at1, ct1, rfl⟩ := g_shape h1.2
  obtain ⟨an, cn, rfl⟩ := g_shape h2.1
  obtain ⟨at2, ct2, rfl⟩ := g_shape h2.2
  have O1 := hide h1; have O2 := hide h2; clear h1 h2; have BB := hide (Below.refl w.heap.size w)
  obtain ⟨wu1, hP⟩ : ∃ X, X = w.alloc (.cells ([.string b.name, .int .i64 b.valid, .int .i64 b.next, .int .i64 b.mod, .slice am b.mails.length cm, .slice at1 b.tombs.length ct1, .int .i64 b.hor] : List Value).toArray 27) := ⟨_, rfl⟩
  have Px : HasObj wu1 w.heap.size 27 [.string b.name, .int .i64 b.valid, .int .i64 b.next, .int .i64 b.mod, .slice am b.mails.length cm, .slice at1 b.tombs.length ct1, .int .i64 b.hor] := by rw [hP]; exact HasObj.new _ _ _
  have hbn : Below w.heap.size w wu1 := by rw [hP]; exact (Below.refl _ _).alloc (Nat.le_refl _) _
  have loP : w.heap.size ≤ w.heap.size := (unhide BB).size
  have EP := hP.symm; clear hP; replace O1 := hide ((unhide O1).up hbn); replace O2 := hide ((unhide O2).up hbn); have sz1 := hide (hbn.size); replace BB := hide (below_y (unhide BB) hbn); clear hbn; have P := hide Px; clear Px
  obtain ⟨wu2, hQ⟩ : ∃ X, X = wu1.alloc (.cells ([.string b.name, .int .i64 b.valid, .int .i64 b.next, .int .i64 b.mod, .slice an b.mails.length cn, .slice at2 b.tombs.length ct2, .int .i64 b.hor] : List Value).toArray 27) := ⟨_, rfl⟩
  have Qx : HasObj wu2 wu1.heap.size 27 [.string b.name, .int .i64 b.valid, .int .i64 b.next, .int .i64 b.mod, .slice an b.mails.length cn, .slice at2 b.tombs.length ct2, .int .i64 b.hor] := by rw [hQ]; exact HasObj.new _ _ _
  have hbn : Below wu1.heap.size wu1 wu2 := by rw [hQ]; exact (Below.refl _ _).alloc (Nat.le_refl _) _
  have nePQ : w.heap.size ≠ wu1.heap.size := Nat.ne_of_lt (unhide P).lt
  have loQ : w.heap.size ≤ wu1.heap.size := (unhide BB).size
  have EQ := hQ.symm; clear hQ; replace P := hide ((unhide P).ups hbn); replace O1 := hide ((unhide O1).up hbn); replace O2 := hide ((unhide O2).up hbn); have sz2 := hide (hbn.size); replace BB := hide (below_y (unhide BB) hbn); clear hbn; have Q := hide Qx; clear Qx; have Pc0_1 := (unhide P).cell 0 rfl; have Pc1_1 := (unhide P).cell 1 rfl; have Pc2_1 := (unhide P).cell 2 rfl; have Pc3_1 := (unhide P).cell 3 rfl; have Pc4_1 := (unhide P).cell 4 rfl; have Pc5_1 := (unhide P).cell 5 rfl; have Pc6_1 := (unhide P).cell 6 rfl; have Qc0_2 := (unhide Q).cell 0 rfl; have Qc1_2 := (unhide Q).cell 1 rfl; have Qc2_2 := (unhide Q).cell 2 rfl; have Qc3_2 := (unhide Q).cell 3 rfl; have Qc4_2 := (unhide Q).cell 4 rfl; have Qc5_2 := (unhide Q).cell 5 rfl; have Qc6_2 := (unhide Q).cell 6 rfl
  obtain ⟨wu3, hK1⟩ : ∃ X, X = wu2.alloc (.cells ([.string b.name, .int .i64 b.valid, .int .i64 b.next, .int .i64 b.mod, .slice am b.mails.length cm, .slice at1 b.tombs.length ct1, .int .i64 b.hor] : List Value).toArray 27) := ⟨_, rfl⟩
  have K1x : HasObj wu3 wu2.heap.size 27 [.string b.name, .int .i64 b.valid, .int .i64 b.next, .int .i64 b.mod, .slice am b.mails.length cm, .slice at1 b.tombs.length ct1, .int .i64 b.hor] := by rw [hK1]; exact HasObj.new _ _ _
  have hbn : Below wu2.heap.size wu2 wu3 := by rw [hK1]; exact (Below.refl _ _).alloc (Nat.le_refl _) _
  have nePK1 : w.heap.size ≠ wu2.heap.size := Nat.ne_of_lt (unhide P).lt
  have neQK1 : wu1.heap.size ≠ wu2.heap.size := Nat.ne_of_lt (unhide Q).lt
  have loK1 : w.heap.size ≤ wu2.heap.size := (unhide BB).size
  have EK1 := hK1.symm; clear hK1; replace P := hide ((unhide P).ups hbn); replace Q := hide ((unhide Q).ups hbn); replace O1 := hide ((unhide O1).up hbn); replace O2 := hide ((unhide O2).up hbn); have sz3 := hide (hbn.size); replace BB := hide (below_y (unhide BB) hbn); clear hbn; have K1 := hide K1x; clear K1x; have Qc0_3 := (unhide Q).cell 0 rfl; have Qc1_3 := (unhide Q).cell 1 rfl; have Qc2_3 := (unhide Q).cell 2 rfl; have Qc3_3 := (unhide Q).cell 3 rfl; have Qc4_3 := (unhide Q).cell 4 rfl; have Qc5_3 := (unhide Q).cell 5 rfl; have Qc6_3 := (unhide Q).cell 6 rfl
  obtain ⟨wu4, hK2⟩ : ∃ X, X = wu3.alloc (.cells ([.string b.name, .int .i64 b.valid, .int .i64 b.next, .int .i64 b.mod, .slice an b.mails.length cn, .slice at2 b.tombs.length ct2, .int .i64 b.hor] : List Value).toArray 27) := ⟨_, rfl⟩
  have K2x : HasObj wu4 wu3.heap.size 27 [.string b.name, .int .i64 b.valid, .int .i64 b.next, .int .i64 b.mod, .slice an b.mails.length cn, .slice at2 b.tombs.length ct2, .int .i64 b.hor] := by rw [hK2]; exact HasObj.new _ _ _
  have hbn : Below wu3.heap.size wu3 wu4 := by rw [hK2]; exact (Below.refl _ _).alloc (Nat.le_refl _) _
  have nePK2 : w.heap.size ≠ wu3.heap.size := Nat.ne_of_lt (unhide P).lt
  have neQK2 : wu1.heap.size ≠ wu3.heap.size := Nat.ne_of_lt (unhide Q).lt
  have neK1K2 : wu2.heap.size ≠ wu3.heap.size := Nat.ne_of_lt (unhide K1).lt
  have loK2 : w.heap.size ≤ wu3.heap.size := (unhide BB).size
  have EK2 := hK2.symm; clear hK2; replace P := hide ((unhide P).ups hbn); replace Q := hide ((unhide Q).ups hbn); replace K1 := hide ((unhide K1).ups hbn); replace O1 := hide ((unhide O1).up hbn); replace O2 := hide ((unhide O2).up hbn); have sz4 := hide (hbn.size); replace BB := hide (below_y (unhide BB) hbn); clear hbn; have K2 := hide K2x; clear K2x
  go_enter Tryz.func13, Tryz.ntmps13
  go_wp2_with fail; clear Pc0_1 Pc1_1 Pc2_1 Pc3_1 Pc4_1 Pc5_1 Pc6_1 Qc0_2 Qc1_2 Qc2_2 Qc3_2 Qc4_2 Qc5_2 Qc6_2 Qc0_3 Qc1_3 Qc2_3 Qc3_3 Qc4_3 Qc5_3 Qc6_3 EP EQ EK1 EK2
  refine (SameStore_one b _ _ _ _ _ _ _ _ _ hl1 hl2 (unhide O1) (unhide O2) (unhide K1) (unhide K2)).mono ?_
  rintro e wu5 ⟨rfl, hb⟩
  replace P := hide ((unhide P).ups hb); replace Q := hide ((unhide Q).ups hb); replace K1 := hide ((unhide K1).ups hb); replace K2 := hide ((unhide K2).ups hb); replace O1 := hide ((unhide O1).up hb); replace O2 := hide ((unhide O2).up hb); have sz5 := hide (hb.size); replace BB := hide (below_y (unhide BB) hb); clear hb
  go_wp2
  go_ret
  exact ⟨rfl, unhide BB⟩
end Go.Proofs.YtfemplekibpfoaaGreat

/- laws.sameSet of two rows that are the same. -/
namespace Go.Proofs.YtfemplekibpfoaaGreat
open Go.RowKit
open Plain
set_option linter.unusedVariables false

theorem bigS_any (len cap : Nat) (a : Option Addr) (w : World) (hl : len ≤ 9223372036854775807) :
    Calls Tryz.prog 8 #[.slice a len cap] w fun e w' => e = .returned (.bool (decide ((1048576 : Int) < len))) ∧ w' = w := by
  go_enter Tryz.func8, Tryz.ntmps8
  go_wp2
  go_ret
  exact ⟨rfl, rfl⟩

/-- Sets that stay. -/
def RowsR (w W : World) (l : List (Value × List Rg)) : Prop := (∀ p ∈ l, OwnR w.heap.size W p.1 p.2) ∧ Below w.heap.size w W
theorem RowsR.up {w W W' : World} {l : List (Value × List Rg)} (h : RowsR w W l) (hb : Below W.heap.size W W') : RowsR w W' l :=
  ⟨fun p hp => (h.1 p hp).up hb, h.2.trans (hb.mono h.2.size)⟩
theorem RowsR.more {w W W' : World} {l : List (Value × List Rg)} (h : RowsR w W l) (hb : Below W.heap.size W W') {v : Value} {s : List Rg} (ho : OwnR W.heap.size W' v s) : RowsR w W' ((v, s) :: l) :=
  ⟨fun p hp => by
    rcases List.mem_cons.1 hp with e | hp
    · subst e; exact g_based ho h.2.size
    · exact (h.1 p hp).up hb, h.2.trans (hb.mono h.2.size)⟩
theorem RowsR.get {w W : World} {l : List (Value × List Rg)} (h : RowsR w W l) (v : Value) (s : List Rg) (hm : (v, s) ∈ l) : OwnR w.heap.size W v s := h.1 _ hm

set_option maxHeartbeats 1000000 in
set_option maxRecDepth 100000 in
theorem sameSet_same (l : List Rg) (v1 v2 : Value) (w : World) (hs : l.length ≤ 1048576) (h1 : ReadR w v1 l) (h2 : ReadR w v2 l) :
    Calls Tryz.prog 14 #[v1, v2] w fun e w' => e = .returned (.bool true) ∧ ∃ q, w' = w.drewN q := by
  obtain ⟨a1, c1, rfl, r1⟩ := h1
  obtain ⟨a2, c2, rfl, r2⟩ := h2
  obtain ⟨n, hn⟩ : ∃ n, n = l.length := ⟨_, rfl⟩
  rw [← hn] at hs ⊢
  have R1 := hide r1; have R2 := hide r2; have HN := hide hn; clear r1 r2 hn
  go_enter Tryz.func14, Tryz.ntmps14
  go_wp2
  go_loopw [5] (fun i wr => ∃ k q : Nat, k ≤ n ∧ i = .int .i64 k ∧ wr = w.drewN q) (fun i _ => n - (intOf i).toNat)
  case atStart => exact ⟨0, 0, Nat.zero_le _, rfl, rfl⟩
  case round =>
    obtain ⟨k, q, hk, rfl, rfl⟩ := hrel
    by_cases hlt : k < n
    · have hkl : k < l.length := by rw [← unhide HN]; exact hlt
      obtain ⟨g1, rfl, b1, e1, e2⟩ := unhide R1 k l[k] (List.getElem?_eq_getElem hkl)
      obtain ⟨g2, rfl, b2, d1, d2⟩ := unhide R2 k l[k] (List.getElem?_eq_getElem hkl)
      generalize l[k] = x at *
      obtain ⟨xl, xh⟩ := x
      simp only at e1 e2 d1 d2
      go_wp2
      go_quiet (fail)
      go_wp2
      go_roundw
      case rel => exact ⟨k + 1, _, by omega, by go_num, rfl⟩
      case measure => simp [intOf]; omega
    · go_wp2
      go_ret
      exact ⟨rfl, q, rfl⟩
end Go.Proofs.YtfemplekibpfoaaGreat
