/- The draws of chapter 7: mails, texts, names, subjects, parts. -/
import Derived.Test.YtmedhmgihfenhaaDrawKit
import Derived.Test.YtmedhmgihfenhaaMailFacts
namespace Go.Proofs.Ytmedhmgihfenhaa
open Go.RowKit
open Plain
set_option linter.unusedVariables false
set_option linter.unusedSimpArgs false

/-- The cursor under way, told from where the walk began. -/
structure MC (B c : Nat) (w W : World) : Prop where
  cur : Cur B W c
  grown : w.grownBy W (some c)
theorem MC.call {B c : Nat} {w W W' : World} (h : MC B c w W) (hg : W.grownBy W' (some c)) (hc : Cur B W' c) : MC B c w W' := ⟨hc, g_join h.grown hg⟩
theorem app_list (x y : ByteArray) : (x ++ y).data.toList = x.data.toList ++ y.data.toList := by simp

set_option maxHeartbeats 2000000 in
set_option maxRecDepth 100000 in
theorem l07Mail_any (B c : Nat) (w : World) (hc : Cur B w c) :
    Calls Try.prog 28 #[.pointer (some ⟨c, 0, none⟩)] w fun e w' => ∃ t : ByteArray, t.data.toList ∈ mailT ∧ e = .returned (.string t) ∧ Cur B w' c ∧ w.grownBy w' (some c) := by
  have C0 : Hid (MC B c w w) := ⟨hc, g_self _ _⟩
  clear hc
  go_enter Try.func28, Try.ntmps28
  go_wp2_with fail
  refine (flag_str [⟨#[32, 104, 101, 108, 108, 111]⟩, ⟨#[32, 82, 101, 58, 32, 104, 101, 108, 108, 111]⟩, ⟨#[32, 111, 116, 104, 101, 114]⟩, ⟨#[32, 102, 119, 100, 58, 32, 82, 69, 58, 32, 32, 72, 101, 108, 108, 111, 32]⟩, ⟨#[]⟩, ⟨#[32, 110, 101, 119, 115]⟩] B c w (unhide C0).cur (by decide) (by decide)).mono ?_
  rintro e w1 ⟨z, hz, rfl, hc, hg⟩
  have C1 := hide ((unhide C0).call hg hc)
  have Z1 : z.size ≤ 20 ∧ ([83, 117, 98, 106, 101, 99, 116, 58] ++ z.data.toList ++ [10]) ∈ subjT := (show ∀ z ∈ ([⟨#[32, 104, 101, 108, 108, 111]⟩, ⟨#[32, 82, 101, 58, 32, 104, 101, 108, 108, 111]⟩, ⟨#[32, 111, 116, 104, 101, 114]⟩, ⟨#[32, 102, 119, 100, 58, 32, 82, 69, 58, 32, 32, 72, 101, 108, 108, 111, 32]⟩, ⟨#[]⟩, ⟨#[32, 110, 101, 119, 115]⟩] : List ByteArray), z.size ≤ 20 ∧ ([83, 117, 98, 106, 101, 99, 116, 58] ++ z.data.toList ++ [10]) ∈ subjT by decide) z hz
  obtain ⟨z1, Z2⟩ := Z1
  have Z3 := hide Z2
  clear hc hg C0 hz Z2
  go_wp2_with fail
  obtain ⟨X, hX⟩ : ∃ X : ByteArray, X = (⟨#[83, 117, 98, 106, 101, 99, 116, 58]⟩ ++ z ++ ⟨#[10]⟩ : ByteArray) := ⟨_, rfl⟩
  have X1 : Hid (X.data.toList ∈ subjT) := by show X.data.toList ∈ subjT; rw [hX, app_list, app_list]; exact unhide Z3
  have x1 : X.size ≤ 40 := by rw [hX, ByteArray.size_append, ByteArray.size_append]; show 8 + z.size + 1 ≤ 40; omega
  rw [← hX]
  clear hX Z3 z1
  refine (l01Once_any B c 2 w1 (unhide C1).cur (by omega) (by omega)).mono ?_
  rintro e w2 ⟨b2, rfl, hc, hg⟩
  have C2 := hide ((unhide C1).call hg hc)
  clear hc hg C1
  cases b2 with
  | true =>
    go_wp2_with fail
    refine (flag_str [⟨#[97, 110, 110]⟩, ⟨#[98, 111, 98]⟩] B c w2 (unhide C2).cur (by decide) (by decide)).mono ?_
    rintro e w3 ⟨f, hf, rfl, hc, hg⟩
    have C3 := hide ((unhide C2).call hg hc)
    have F1 : f.size ≤ 20 ∧ ([70, 114, 111, 109, 58, 32] ++ f.data.toList ++ [10]) ∈ fromT := (show ∀ z ∈ ([⟨#[97, 110, 110]⟩, ⟨#[98, 111, 98]⟩] : List ByteArray), z.size ≤ 20 ∧ ([70, 114, 111, 109, 58, 32] ++ z.data.toList ++ [10]) ∈ fromT by decide) f hf
    obtain ⟨f1, F2⟩ := F1
    have F3 := hide F2
    clear hc hg C2 hf F2
    go_wp2_with fail
    obtain ⟨Y, hY⟩ : ∃ Y : ByteArray, Y = (X ++ ⟨#[70, 114, 111, 109, 58, 32]⟩ ++ f ++ ⟨#[10]⟩ : ByteArray) := ⟨_, rfl⟩
    have Y1 : Hid (∃ a ∈ subjT, ∃ b ∈ fromT, Y.data.toList = a ++ b) := ⟨_, unhide X1, _, unhide F3, by rw [hY, app_list, app_list, app_list]; simp⟩
    have y1 : Y.size ≤ 80 := by rw [hY, ByteArray.size_append, ByteArray.size_append, ByteArray.size_append]; show X.size + 6 + f.size + 1 ≤ 80; omega
    rw [← hY]
    clear hY F3 f1 X1 x1
    refine (l01Once_any B c 6 w3 (unhide C3).cur (by omega) (by omega)).mono ?_
    rintro e w4 ⟨b4, rfl, hc, hg⟩
    have C4 := hide ((unhide C3).call hg hc)
    clear hc hg C3
    cases b4 with
    | true =>
      go_wp2
      go_ret
      obtain ⟨a, ha, b, hb, hab⟩ := unhide Y1
      exact ⟨_, by rw [hab, ← List.append_nil (a ++ b)]; exact mail_mem ha hb (by decide), rfl, (unhide C4).cur, (unhide C4).grown⟩
    | false =>
      go_wp2_with fail
      refine (flag_str [⟨#[116, 101, 120, 116]⟩, ⟨#[98, 111, 100, 121, 32, 111, 102, 32, 105, 116, 10]⟩, ⟨#[]⟩, ⟨#[97, 10, 10, 98]⟩] B c w4 (unhide C4).cur (by decide) (by decide)).mono ?_
      rintro e w5 ⟨d, hd, rfl, hc, hg⟩
      have C5 := hide ((unhide C4).call hg hc)
      have D1 : d.size ≤ 20 ∧ ([10] ++ d.data.toList) ∈ restT := (show ∀ z ∈ ([⟨#[116, 101, 120, 116]⟩, ⟨#[98, 111, 100, 121, 32, 111, 102, 32, 105, 116, 10]⟩, ⟨#[]⟩, ⟨#[97, 10, 10, 98]⟩] : List ByteArray), z.size ≤ 20 ∧ ([10] ++ z.data.toList) ∈ restT by decide) d hd
      obtain ⟨d1, D2⟩ := D1
      have D3 := hide D2
      clear hc hg C4 hd D2
      go_wp2
      go_ret
      obtain ⟨a, ha, b, hb, hab⟩ := unhide Y1
      exact ⟨_, by rw [app_list, app_list, hab, List.append_assoc]; exact mail_mem ha hb (unhide D3), rfl, (unhide C5).cur, (unhide C5).grown⟩
  | false =>
    have Y1 : Hid (∃ a ∈ subjT, ∃ b ∈ fromT, X.data.toList = a ++ b) := ⟨_, unhide X1, [], by decide, by simp⟩
    have y1 : X.size ≤ 80 := by omega
    clear X1 x1
    go_wp2_with fail
    refine (l01Once_any B c 6 w2 (unhide C2).cur (by omega) (by omega)).mono ?_
    rintro e w4 ⟨b4, rfl, hc, hg⟩
    have C4 := hide ((unhide C2).call hg hc)
    clear hc hg C2
    obtain ⟨Y, hY⟩ : ∃ Y : ByteArray, Y = X := ⟨_, rfl⟩
    rw [← hY] at y1 Y1 ⊢
    clear hY
    cases b4 with
    | true =>
      go_wp2
      go_ret
      obtain ⟨a, ha, b, hb, hab⟩ := unhide Y1
      exact ⟨_, by rw [hab, ← List.append_nil (a ++ b)]; exact mail_mem ha hb (by decide), rfl, (unhide C4).cur, (unhide C4).grown⟩
    | false =>
      go_wp2_with fail
      refine (flag_str [⟨#[116, 101, 120, 116]⟩, ⟨#[98, 111, 100, 121, 32, 111, 102, 32, 105, 116, 10]⟩, ⟨#[]⟩, ⟨#[97, 10, 10, 98]⟩] B c w4 (unhide C4).cur (by decide) (by decide)).mono ?_
      rintro e w5 ⟨d, hd, rfl, hc, hg⟩
      have C5 := hide ((unhide C4).call hg hc)
      have D1 : d.size ≤ 20 ∧ ([10] ++ d.data.toList) ∈ restT := (show ∀ z ∈ ([⟨#[116, 101, 120, 116]⟩, ⟨#[98, 111, 100, 121, 32, 111, 102, 32, 105, 116, 10]⟩, ⟨#[]⟩, ⟨#[97, 10, 10, 98]⟩] : List ByteArray), z.size ≤ 20 ∧ ([10] ++ z.data.toList) ∈ restT by decide) d hd
      obtain ⟨d1, D2⟩ := D1
      have D3 := hide D2
      clear hc hg C4 hd D2
      go_wp2
      go_ret
      obtain ⟨a, ha, b, hb, hab⟩ := unhide Y1
      exact ⟨_, by rw [app_list, app_list, hab, List.append_assoc]; exact mail_mem ha hb (unhide D3), rfl, (unhide C5).cur, (unhide C5).grown⟩


set_option maxHeartbeats 2000000 in
set_option maxRecDepth 100000 in
theorem DrawMail_any (B len cap : Nat) (a : Option Addr) (w : World) (ha : Arg B w a len) (hB : B ≤ w.heap.size) :
    Calls Try.prog 8 #[.slice a len cap] w fun e w' => ∃ t : ByteArray, t.data.toList ∈ mailT ∧ e = .returned (.string t) ∧ Below w.heap.size w w' := by
  have q1 := hide (l01New_any B len cap a w ha hB)
  clear ha
  go_enter Try.func8, Try.ntmps8
  go_wp2_with fail
  refine (unhide q1).mono ?_
  rintro e w1 ⟨rfl, hc1, hg1⟩
  have C1 : Hid (FC B w.heap.size w w1) := ⟨hc1, g_below hg1, Nat.le_refl _⟩
  clear q1 hg1 hc1
  go_wp2_with fail
  refine (l07Mail_any B w.heap.size w1 (unhide C1).cur).mono ?_
  rintro e w2 ⟨t, ht, rfl, hc2, hg2⟩
  have C2 := hide ((unhide C1).call hg2 hc2)
  have HT := hide (ht)
  clear hc2 hg2 C1 ht
  go_wp2
  go_ret
  exact ⟨t, unhide HT, rfl, (unhide C2).below⟩

end Go.Proofs.Ytmedhmgihfenhaa
