/- What a session's words tell to do: the specification's EditFor. Made by gen_efs2.py. -/
import Derived.Test.YtocaljbimhjmgaaGreatDoorEfH1
import Derived.Test.YtocaljbimhjmgaaGreatDoorEfH2
import Derived.Test.YtocaljbimhjmgaaGreatDoorEfH3
import Derived.Test.YtocaljbimhjmgaaGreatDoorEfH4
import Derived.Test.YtocaljbimhjmgaaGreatDoorEfH5
import Derived.Test.YtocaljbimhjmgaaGreatDoorEfH6
namespace Go.Proofs.YtocaljbimhjmgaaGreatDoor
open Go.RowKit
open Plain
set_option linter.unusedVariables false
set_option linter.unusedSimpArgs false
attribute [local go_sem] cell_of frozen_of
theorem here_all (box : ByteArray) (xv xm : Int) (vu : Value) (n : List UInt8) (r : List (List UInt8)) (hbx : box.size ≤ 1048576) (hf : fewW (n :: r)) (hno : NoName n r.length) : HereC box xv xm vu (n :: r) := by
  match r, hf, hno with
  | [], hf, hno => exact here_1 box xv xm vu n hbx hf hno
  | [x1], hf, hno => exact here_2 box xv xm vu n x1 hbx hf hno
  | [x1, x2], hf, hno => exact here_3 box xv xm vu n x1 x2 hbx hf hno
  | [x1, x2, x3], hf, hno => exact here_4 box xv xm vu n x1 x2 x3 hbx hf hno
  | [x1, x2, x3, x4], hf, hno => exact here_5 box xv xm vu n x1 x2 x3 x4 hbx hf hno
  | x1 :: x2 :: x3 :: x4 :: x5 :: t, hf, hno => exact here_6 box xv xm vu n x1 x2 x3 x4 x5 t hbx hf hno
theorem raw_off {n : List UInt8} {r : List (List UInt8)} (hno : NoName n r.length) : (rawE nb (n :: r)).1.box = nb := by
  unfold rawE
  split
  · split <;> rfl
  · rename_i a e
    cases e
    rw [if_neg fun e => hno.1 e rfl, if_neg fun e => hno.2.1 e rfl]
    split <;> rfl
  · split
    · rfl
    · split <;> rfl
  · rename_i a b d e
    cases e
    rw [if_neg fun e => hno.2.2 e rfl]
    split <;> rfl
  · split <;> rfl
  · rfl
theorem ans_off {n : List UInt8} {r : List (List UInt8)} (hno : NoName n r.length) : ansE nb (n :: r) = (e0, false) := ansE_no (by rw [ok_nobox (raw_off hno), Bool.and_false])
theorem ans_no2 {box : ByteArray} {l : List (List UInt8)} {E : Ed} (e : rawE box l = (E, true)) (q : okE E = false) : ansE box l = (e0, false) := ansE_no (by rw [e, q]; rfl)
theorem ans_yes2 {box : ByteArray} {l : List (List UInt8)} {E : Ed} (e : rawE box l = (E, true)) (q : okE E = true) : ansE box l = (E, true) := by rw [ansE_yes (by rw [e, q]; rfl), e]
theorem same_no {h R : Ed × Bool} (q : SameE h R) (k : (h.2 && okE h.1) = false) : (R.2 && okE R.1) = false := by
  rcases q with rfl | ⟨_, q⟩
  · exact k
  · exact q
theorem same_yes {h R : Ed × Bool} (q : SameE h R) (k : (h.2 && okE h.1) = true) : R = h ∧ (R.2 && okE R.1) = true := by
  rcases q with rfl | ⟨q, _⟩
  · exact ⟨rfl, k⟩
  · rw [k] at q; cases q
section
variable {w W : World} {L : List Pc}
theorem sOk_e0 [M : Mem w W L] :
    Calls Tryz.prog 20 #[edV e0 (.slice none 0 0)] W fun x W' => x = .returned (.bool false) ∧ Mem w W' L := by
  have M2 : Mem w W (rowRg none 0 [] :: L) := Mem.nil _ _
  refine (sOk_mem (M := M2) (h := InL.p0) e0 none 0 ⟨by decide, by decide, Nat.zero_le _, by decide⟩).mono ?_
  rintro x W' ⟨rfl, M3⟩
  exact ⟨rfl, M3.part (List.sublist_cons_self _ _)⟩
theorem none_rowS {W W' : World} (M : Mem W W' []) : Mem W W' [rowRg none 0 []] := Mem.nil (M := M) _ _
end
set_option maxHeartbeats 4000000 in
set_option maxRecDepth 100000 in
theorem sEdit_mk (on : Bool) (xb : ByteArray) (xv xm : Int) (vu : Value) (b : List UInt8) (g c : Nat) (w : World) (hb : b.length ≤ 1048576) (c0 : HasCell w g 0 (.string ⟨mkW.toArray⟩)) (c1 : HasCell w g 1 (.string ⟨b.toArray⟩)) (X : Ed × Bool) (hX : X = ansE (if on = true then xb else nb) [mkW, b]) :
    Calls Tryz.prog 6 #[.agg #[.bool on, .string xb, .int .i64 xv, vu, .int .i64 xm], .slice (some ⟨g, 0, none⟩) 2 c] w fun e w' => ∃ a' c', e = .returned (.tuple #[edV X.1 (.slice a' X.1.set.length c'), .bool X.2]) ∧ Mem w w' [rowRg a' c' X.1.set] := by
  have e : rawE (if on = true then xb else nb) [mkW, b] = (⟨1, ba b, nb, [], 0, 0, 0, nb⟩, true) := by unfold rawE; simp [mkW, drW, adW, stW, exW, cpW, mvW]
  have HNO : Hid (okE ⟨1, ba b, nb, [], 0, 0, 0, nb⟩ = false → X = (e0, false)) := fun q => hX.trans (ans_no2 e q)
  have HYES : Hid (okE ⟨1, ba b, nb, [], 0, 0, 0, nb⟩ = true → X = (⟨1, ba b, nb, [], 0, 0, 0, nb⟩, true)) := fun q => hX.trans (ans_yes2 e q)
  clear e
  have HSM : Hid (SmallEd 1048576 ⟨1, ba b, nb, [], 0, 0, 0, nb⟩) := ⟨by show b.toArray.size ≤ _; simpa using hb, (by decide : nb.size ≤ 1048576), Nat.zero_le _, (by decide : nb.size ≤ 1048576)⟩
  clear hX hb
  have M := Mem.start w
  go_enter Tryz.func6, Tryz.ntmps6
  go_wp2_with fail
  refine (sOk_mem (M := Mem.nil _ _) (h := InL.p0) ⟨1, ba b, nb, [], 0, 0, 0, nb⟩ none 0 (unhide HSM)).mono ?_
  rintro e w9 ⟨rfl, M⟩
  cases hk2 : okE ⟨1, ba b, nb, [], 0, 0, 0, nb⟩ with
  | false =>
    obtain rfl := unhide HNO (hk2)
    clear HNO HYES hk2
    go_wp2
    refine bodyPost_ret (by simp [results, Tryz.results6, go_sem]; try rfl) rfl ?_
    exact ⟨none, 0, rfl, none_rowS Mem.fin⟩
  | true =>
    obtain rfl := unhide HYES (hk2)
    clear HNO HYES hk2
    go_wp2
    refine bodyPost_ret (by simp [results, Tryz.results6, go_sem]; try rfl) rfl ?_
    exact ⟨none, 0, rfl, none_rowS Mem.fin⟩
set_option maxHeartbeats 4000000 in
set_option maxRecDepth 100000 in
theorem sEdit_dr (on : Bool) (xb : ByteArray) (xv xm : Int) (vu : Value) (b : List UInt8) (g c : Nat) (w : World) (hb : b.length ≤ 1048576) (c0 : HasCell w g 0 (.string ⟨drW.toArray⟩)) (c1 : HasCell w g 1 (.string ⟨b.toArray⟩)) (X : Ed × Bool) (hX : X = ansE (if on = true then xb else nb) [drW, b]) :
    Calls Tryz.prog 6 #[.agg #[.bool on, .string xb, .int .i64 xv, vu, .int .i64 xm], .slice (some ⟨g, 0, none⟩) 2 c] w fun e w' => ∃ a' c', e = .returned (.tuple #[edV X.1 (.slice a' X.1.set.length c'), .bool X.2]) ∧ Mem w w' [rowRg a' c' X.1.set] := by
  have e : rawE (if on = true then xb else nb) [drW, b] = (⟨2, ba b, nb, [], 0, 0, 0, nb⟩, true) := by unfold rawE; simp [mkW, drW, adW, stW, exW, cpW, mvW]
  have HNO : Hid (okE ⟨2, ba b, nb, [], 0, 0, 0, nb⟩ = false → X = (e0, false)) := fun q => hX.trans (ans_no2 e q)
  have HYES : Hid (okE ⟨2, ba b, nb, [], 0, 0, 0, nb⟩ = true → X = (⟨2, ba b, nb, [], 0, 0, 0, nb⟩, true)) := fun q => hX.trans (ans_yes2 e q)
  clear e
  have HSM : Hid (SmallEd 1048576 ⟨2, ba b, nb, [], 0, 0, 0, nb⟩) := ⟨by show b.toArray.size ≤ _; simpa using hb, (by decide : nb.size ≤ 1048576), Nat.zero_le _, (by decide : nb.size ≤ 1048576)⟩
  clear hX hb
  have M := Mem.start w
  go_enter Tryz.func6, Tryz.ntmps6
  go_wp2_with fail
  refine (sOk_mem (M := Mem.nil _ _) (h := InL.p0) ⟨2, ba b, nb, [], 0, 0, 0, nb⟩ none 0 (unhide HSM)).mono ?_
  rintro e w9 ⟨rfl, M⟩
  cases hk2 : okE ⟨2, ba b, nb, [], 0, 0, 0, nb⟩ with
  | false =>
    obtain rfl := unhide HNO (hk2)
    clear HNO HYES hk2
    go_wp2
    refine bodyPost_ret (by simp [results, Tryz.results6, go_sem]; try rfl) rfl ?_
    exact ⟨none, 0, rfl, none_rowS Mem.fin⟩
  | true =>
    obtain rfl := unhide HYES (hk2)
    clear HNO HYES hk2
    go_wp2
    refine bodyPost_ret (by simp [results, Tryz.results6, go_sem]; try rfl) rfl ?_
    exact ⟨none, 0, rfl, none_rowS Mem.fin⟩
set_option maxHeartbeats 4000000 in
set_option maxRecDepth 100000 in
theorem sEdit_ad (on : Bool) (xb : ByteArray) (xv xm : Int) (vu : Value) (a b d : List UInt8) (g c : Nat) (w : World) (ha : a.length ≤ 1048576) (hb : b.length ≤ 1048576) (hd : d.length ≤ 1048576) (c0 : HasCell w g 0 (.string ⟨adW.toArray⟩)) (c1 : HasCell w g 1 (.string ⟨a.toArray⟩)) (c2 : HasCell w g 2 (.string ⟨b.toArray⟩)) (c3 : HasCell w g 3 (.string ⟨d.toArray⟩)) (X : Ed × Bool) (hX : X = ansE (if on = true then xb else nb) [adW, a, b, d]) :
    Calls Tryz.prog 6 #[.agg #[.bool on, .string xb, .int .i64 xv, vu, .int .i64 xm], .slice (some ⟨g, 0, none⟩) 4 c] w fun e w' => ∃ a' c', e = .returned (.tuple #[edV X.1 (.slice a' X.1.set.length c'), .bool X.2]) ∧ Mem w w' [rowRg a' c' X.1.set] := by
  obtain ⟨R, hR⟩ : ∃ R, R = rawE (if on = true then xb else nb) [adW, a, b, d] := ⟨_, rfl⟩
  have HNO : Hid ((R.2 && okE R.1) = false → X = (e0, false)) := fun q => by rw [hX]; rw [hR] at q; exact ansE_no q
  have HYES : Hid ((R.2 && okE R.1) = true → X = (R.1, true)) := fun q => by rw [hX]; rw [hR] at q ⊢; exact ansE_yes q
  clear hX
  have e : rawE (if on = true then xb else nb) [adW, a, b, d] = (⟨3, ba a, nb, [], 0, (readF b).1, 0, ba d⟩, (readF b).2) := by unfold rawE; simp [mkW, drW, adW, stW, exW, cpW, mvW]
  rw [e] at hR
  clear e
  obtain ⟨fb, hfb⟩ : ∃ q, q = (readF b).2 := ⟨_, rfl⟩
  rw [← hfb] at hR
  subst hR
  have HFB := hide hfb
  dsimp only at HNO HYES
  have HSM : Hid (SmallEd 1048576 ⟨3, ba a, nb, [], 0, (readF b).1, 0, ba d⟩) := ⟨by show a.toArray.size ≤ _; simpa using ha, (by decide : nb.size ≤ 1048576), Nat.zero_le _, by show d.toArray.size ≤ _; simpa using hd⟩
  clear ha hd hfb
  have M := Mem.start w
  go_enter Tryz.func6, Tryz.ntmps6
  go_wp2_with fail
  refine (sFlags_mem b hb).mono ?_
  rintro e w9 ⟨rfl, M⟩
  try dsimp only at M
  rw [← unhide HFB]
  go_wp2
  refine mb 8 (fun M => ?_)
  refine tm 0 59 ?_; refine tm 1 60 ?_; refine tm 2 61 ?_; refine tm 3 62 ?_; refine tm 4 63 ?_; refine tm 5 64 ?_; refine tm 6 65 ?_; refine tm 7 66 ?_
  refine tl 8 fun K hK => ?_
  go_simp
  refine hK.out _ _ ?_
  clear hK K
  try simp only [Act.put, p1, p2, p3]
  refine td ?_
  cases fb with
  | false =>
    obtain rfl := unhide HNO rfl
    clear HNO HYES HFB
    go_wp2
    refine bodyPost_ret (by simp [results, Tryz.results6, go_sem]; try rfl) rfl ?_
    exact ⟨none, 0, rfl, none_rowS Mem.fin⟩
  | true =>
  go_wp2_with fail
  refine (sOk_mem (M := Mem.nil _ _) (h := InL.p0) ⟨3, ba a, nb, [], 0, (readF b).1, 0, ba d⟩ none 0 (unhide HSM)).mono ?_
  rintro e w9 ⟨rfl, M⟩
  cases hk2 : okE ⟨3, ba a, nb, [], 0, (readF b).1, 0, ba d⟩ with
  | false =>
    obtain rfl := unhide HNO (by rw [hk2]; rfl)
    clear HNO HYES hk2
    go_wp2
    refine bodyPost_ret (by simp [results, Tryz.results6, go_sem]; try rfl) rfl ?_
    exact ⟨none, 0, rfl, none_rowS Mem.fin⟩
  | true =>
    obtain rfl := unhide HYES (by rw [hk2]; rfl)
    clear HNO HYES hk2
    go_wp2
    refine bodyPost_ret (by simp [results, Tryz.results6, go_sem]; try rfl) rfl ?_
    exact ⟨none, 0, rfl, none_rowS Mem.fin⟩
set_option maxHeartbeats 16000000 in
set_option maxRecDepth 100000 in
theorem sEdit_here (on : Bool) (xb : ByteArray) (xv xm : Int) (vu : Value) (n : List UInt8) (r : List (List UInt8)) (g c : Nat) (w : World) (hl : r.length + 1 ≤ 1048576) (hbx : xb.size ≤ 1048576) (hf : fewW (n :: r)) (hno : NoName n r.length) (h : SeeW w (some ⟨g, 0, none⟩) (n :: r)) (X : Ed × Bool) (hX : X = ansE (if on = true then xb else nb) (n :: r)) :
    Calls Tryz.prog 6 #[.agg #[.bool on, .string xb, .int .i64 xv, vu, .int .i64 xm], .slice (some ⟨g, 0, none⟩) (r.length + 1) c] w fun e w' => ∃ a' c', e = .returned (.tuple #[edV X.1 (.slice a' X.1.set.length c'), .bool X.2]) ∧ Mem w w' [rowRg a' c' X.1.set] := by
  have c0 : HasCell w g 0 (.string ⟨n.toArray⟩) := by
    obtain ⟨g2, e, q⟩ := h 0 n rfl
    cases e
    exact q
  have HH := hide (here_all xb xv xm vu n r hbx hf hno)
  have SW : Hid (∀ W, Below w.heap.size w W → SeeW W (some ⟨g, 0, none⟩) (n :: r)) := fun W hb => h.up hb
  have HOFF : Hid (on = false → X = (e0, false)) := fun q => by rw [hX, if_neg (by rw [q]; decide)]; exact ans_off hno
  have HON : Hid (on = true → X = ansE xb (n :: r)) := fun q => by rw [hX, if_pos q]
  obtain ⟨h1, h2, h3⟩ := hno
  clear h hf hX hbx
  unfold HereC at HH
  rw [show (n :: r).length = r.length + 1 from rfl] at HH
  obtain ⟨m, hm⟩ : ∃ m, m = r.length + 1 := ⟨_, rfl⟩
  rw [← hm] at HH hl ⊢
  have b0 : 0 < m := by omega
  have b0i : (0 : Int) < (m : Int) := by omega
  have z0 : ¬ (m : Int) = 0 := by omega
  have M := Mem.start w
  by_cases qmk : n = mkW
  · have jmk : ¬ (m : Int) = 2 := by have := h1 qmk; omega
    subst qmk
    clear h1 h2 h3 hm
    cases on with
    | false =>
      obtain rfl := unhide HOFF rfl
      clear HOFF HON HH SW
      go_enter Tryz.func6, Tryz.ntmps6
      go_wp2_with fail
      refine sOk_e0.mono ?_
      rintro e w9 ⟨rfl, M⟩
      go_wp2
      refine bodyPost_ret (by simp [results, Tryz.results6, go_sem]; try rfl) rfl ?_
      exact ⟨none, 0, rfl, none_rowS Mem.fin⟩
    | true =>
      have hx := unhide HON rfl
      clear HON HOFF
      go_enter Tryz.func6, Tryz.ntmps6
      go_wp2_with fail
      refine Calls.mono (unhide HH _ _ _ ?_) ?_
      · exact unhide SW _ (Mem.here _)
      rintro e w9 ⟨k, d, s, hh, b, si, ok, aR, cR, rfl, MN, hsm, hsame⟩
      have M := Mem.then MN
      have HSM := hide hsm
      have HNO : Hid ((ok && okE ⟨k, xb, d, s, hh, b, si, nb⟩) = false → X = (e0, false)) := fun q => by rw [hx]; exact ansE_no (same_no hsame q)
      have HYES : Hid ((ok && okE ⟨k, xb, d, s, hh, b, si, nb⟩) = true → X = (⟨k, xb, d, s, hh, b, si, nb⟩, true)) := fun q => by obtain ⟨e, q2⟩ := same_yes hsame q; rw [hx, ansE_yes q2, e]
      clear MN hsm hsame hx HH SW
      cases ok with
      | false =>
        obtain rfl := unhide HNO rfl
        clear HNO HYES HSM
        go_wp2
        refine bodyPost_ret (by simp [results, Tryz.results6, go_sem]; try rfl) rfl ?_
        exact ⟨none, 0, rfl, none_rowS Mem.fin⟩
      | true =>
        go_wp2_with fail
        refine (sOk_mem ⟨k, xb, d, s, hh, b, si, nb⟩ aR cR (unhide HSM)).mono ?_
        rintro e w9 ⟨rfl, M⟩
        cases hk2 : okE ⟨k, xb, d, s, hh, b, si, nb⟩ with
        | false =>
          obtain rfl := unhide HNO (by rw [hk2]; rfl)
          clear HNO HYES hk2
          go_wp2
          refine bodyPost_ret (by simp [results, Tryz.results6, go_sem]; try rfl) rfl ?_
          exact ⟨none, 0, rfl, none_rowS Mem.fin⟩
        | true =>
          obtain rfl := unhide HYES (by rw [hk2]; rfl)
          clear HNO HYES hk2
          go_wp2
          refine bodyPost_ret (by simp [results, Tryz.results6, go_sem]; try rfl) rfl ?_
          exact ⟨aR, cR, rfl, Mem.fin⟩
  have fmk : (n == [109, 97, 107, 101]) = false := by rw [beq_eq_false_iff_ne]; exact qmk
  by_cases qdr : n = drW
  · have jdr : ¬ (m : Int) = 2 := by have := h2 qdr; omega
    subst qdr
    clear h1 h2 h3 hm
    cases on with
    | false =>
      obtain rfl := unhide HOFF rfl
      clear HOFF HON HH SW
      go_enter Tryz.func6, Tryz.ntmps6
      go_wp2_with fail
      refine sOk_e0.mono ?_
      rintro e w9 ⟨rfl, M⟩
      go_wp2
      refine bodyPost_ret (by simp [results, Tryz.results6, go_sem]; try rfl) rfl ?_
      exact ⟨none, 0, rfl, none_rowS Mem.fin⟩
    | true =>
      have hx := unhide HON rfl
      clear HON HOFF
      go_enter Tryz.func6, Tryz.ntmps6
      go_wp2_with fail
      refine Calls.mono (unhide HH _ _ _ ?_) ?_
      · exact unhide SW _ (Mem.here _)
      rintro e w9 ⟨k, d, s, hh, b, si, ok, aR, cR, rfl, MN, hsm, hsame⟩
      have M := Mem.then MN
      have HSM := hide hsm
      have HNO : Hid ((ok && okE ⟨k, xb, d, s, hh, b, si, nb⟩) = false → X = (e0, false)) := fun q => by rw [hx]; exact ansE_no (same_no hsame q)
      have HYES : Hid ((ok && okE ⟨k, xb, d, s, hh, b, si, nb⟩) = true → X = (⟨k, xb, d, s, hh, b, si, nb⟩, true)) := fun q => by obtain ⟨e, q2⟩ := same_yes hsame q; rw [hx, ansE_yes q2, e]
      clear MN hsm hsame hx HH SW
      cases ok with
      | false =>
        obtain rfl := unhide HNO rfl
        clear HNO HYES HSM
        go_wp2
        refine bodyPost_ret (by simp [results, Tryz.results6, go_sem]; try rfl) rfl ?_
        exact ⟨none, 0, rfl, none_rowS Mem.fin⟩
      | true =>
        go_wp2_with fail
        refine (sOk_mem ⟨k, xb, d, s, hh, b, si, nb⟩ aR cR (unhide HSM)).mono ?_
        rintro e w9 ⟨rfl, M⟩
        cases hk2 : okE ⟨k, xb, d, s, hh, b, si, nb⟩ with
        | false =>
          obtain rfl := unhide HNO (by rw [hk2]; rfl)
          clear HNO HYES hk2
          go_wp2
          refine bodyPost_ret (by simp [results, Tryz.results6, go_sem]; try rfl) rfl ?_
          exact ⟨none, 0, rfl, none_rowS Mem.fin⟩
        | true =>
          obtain rfl := unhide HYES (by rw [hk2]; rfl)
          clear HNO HYES hk2
          go_wp2
          refine bodyPost_ret (by simp [results, Tryz.results6, go_sem]; try rfl) rfl ?_
          exact ⟨aR, cR, rfl, Mem.fin⟩
  have fdr : (n == [100, 114, 111, 112]) = false := by rw [beq_eq_false_iff_ne]; exact qdr
  by_cases qad : n = adW
  · have jad : ¬ (m : Int) = 4 := by have := h3 qad; omega
    subst qad
    clear h1 h2 h3 hm
    cases on with
    | false =>
      obtain rfl := unhide HOFF rfl
      clear HOFF HON HH SW
      go_enter Tryz.func6, Tryz.ntmps6
      go_wp2_with fail
      refine sOk_e0.mono ?_
      rintro e w9 ⟨rfl, M⟩
      go_wp2
      refine bodyPost_ret (by simp [results, Tryz.results6, go_sem]; try rfl) rfl ?_
      exact ⟨none, 0, rfl, none_rowS Mem.fin⟩
    | true =>
      have hx := unhide HON rfl
      clear HON HOFF
      go_enter Tryz.func6, Tryz.ntmps6
      go_wp2_with fail
      refine Calls.mono (unhide HH _ _ _ ?_) ?_
      · exact unhide SW _ (Mem.here _)
      rintro e w9 ⟨k, d, s, hh, b, si, ok, aR, cR, rfl, MN, hsm, hsame⟩
      have M := Mem.then MN
      have HSM := hide hsm
      have HNO : Hid ((ok && okE ⟨k, xb, d, s, hh, b, si, nb⟩) = false → X = (e0, false)) := fun q => by rw [hx]; exact ansE_no (same_no hsame q)
      have HYES : Hid ((ok && okE ⟨k, xb, d, s, hh, b, si, nb⟩) = true → X = (⟨k, xb, d, s, hh, b, si, nb⟩, true)) := fun q => by obtain ⟨e, q2⟩ := same_yes hsame q; rw [hx, ansE_yes q2, e]
      clear MN hsm hsame hx HH SW
      cases ok with
      | false =>
        obtain rfl := unhide HNO rfl
        clear HNO HYES HSM
        go_wp2
        refine bodyPost_ret (by simp [results, Tryz.results6, go_sem]; try rfl) rfl ?_
        exact ⟨none, 0, rfl, none_rowS Mem.fin⟩
      | true =>
        go_wp2_with fail
        refine (sOk_mem ⟨k, xb, d, s, hh, b, si, nb⟩ aR cR (unhide HSM)).mono ?_
        rintro e w9 ⟨rfl, M⟩
        cases hk2 : okE ⟨k, xb, d, s, hh, b, si, nb⟩ with
        | false =>
          obtain rfl := unhide HNO (by rw [hk2]; rfl)
          clear HNO HYES hk2
          go_wp2
          refine bodyPost_ret (by simp [results, Tryz.results6, go_sem]; try rfl) rfl ?_
          exact ⟨none, 0, rfl, none_rowS Mem.fin⟩
        | true =>
          obtain rfl := unhide HYES (by rw [hk2]; rfl)
          clear HNO HYES hk2
          go_wp2
          refine bodyPost_ret (by simp [results, Tryz.results6, go_sem]; try rfl) rfl ?_
          exact ⟨aR, cR, rfl, Mem.fin⟩
  have fad : (n == [97, 100, 100]) = false := by rw [beq_eq_false_iff_ne]; exact qad
  clear h1 h2 h3 hm qmk qdr qad
  cases on with
  | false =>
    obtain rfl := unhide HOFF rfl
    clear HOFF HON HH SW
    go_enter Tryz.func6, Tryz.ntmps6
    go_wp2_with fail
    refine sOk_e0.mono ?_
    rintro e w9 ⟨rfl, M⟩
    go_wp2
    refine bodyPost_ret (by simp [results, Tryz.results6, go_sem]; try rfl) rfl ?_
    exact ⟨none, 0, rfl, none_rowS Mem.fin⟩
  | true =>
    have hx := unhide HON rfl
    clear HON HOFF
    go_enter Tryz.func6, Tryz.ntmps6
    go_wp2_with fail
    refine Calls.mono (unhide HH _ _ _ ?_) ?_
    · exact unhide SW _ (Mem.here _)
    rintro e w9 ⟨k, d, s, hh, b, si, ok, aR, cR, rfl, MN, hsm, hsame⟩
    have M := Mem.then MN
    have HSM := hide hsm
    have HNO : Hid ((ok && okE ⟨k, xb, d, s, hh, b, si, nb⟩) = false → X = (e0, false)) := fun q => by rw [hx]; exact ansE_no (same_no hsame q)
    have HYES : Hid ((ok && okE ⟨k, xb, d, s, hh, b, si, nb⟩) = true → X = (⟨k, xb, d, s, hh, b, si, nb⟩, true)) := fun q => by obtain ⟨e, q2⟩ := same_yes hsame q; rw [hx, ansE_yes q2, e]
    clear MN hsm hsame hx HH SW
    cases ok with
    | false =>
      obtain rfl := unhide HNO rfl
      clear HNO HYES HSM
      go_wp2
      refine bodyPost_ret (by simp [results, Tryz.results6, go_sem]; try rfl) rfl ?_
      exact ⟨none, 0, rfl, none_rowS Mem.fin⟩
    | true =>
      go_wp2_with fail
      refine (sOk_mem ⟨k, xb, d, s, hh, b, si, nb⟩ aR cR (unhide HSM)).mono ?_
      rintro e w9 ⟨rfl, M⟩
      cases hk2 : okE ⟨k, xb, d, s, hh, b, si, nb⟩ with
      | false =>
        obtain rfl := unhide HNO (by rw [hk2]; rfl)
        clear HNO HYES hk2
        go_wp2
        refine bodyPost_ret (by simp [results, Tryz.results6, go_sem]; try rfl) rfl ?_
        exact ⟨none, 0, rfl, none_rowS Mem.fin⟩
      | true =>
        obtain rfl := unhide HYES (by rw [hk2]; rfl)
        clear HNO HYES hk2
        go_wp2
        refine bodyPost_ret (by simp [results, Tryz.results6, go_sem]; try rfl) rfl ?_
        exact ⟨aR, cR, rfl, Mem.fin⟩
set_option maxHeartbeats 4000000 in
set_option maxRecDepth 100000 in
theorem spec_EditFor_mem (on : Bool) (xb : ByteArray) (xv xm : Int) (vu : Value) (a : Option Addr) (c : Nat) (l : List (List UInt8)) (w : World) (hl : l.length ≤ 1048576) (hbx : xb.size ≤ 1048576) (hf : fewW l) (h : SeeW w a l) (X : Ed × Bool) (hX : X = ansE (if on = true then xb else nb) l) :
    Calls Tryz.prog 6 #[.agg #[.bool on, .string xb, .int .i64 xv, vu, .int .i64 xm], .slice a l.length c] w fun e w' => ∃ a' c', e = .returned (.tuple #[edV X.1 (.slice a' X.1.set.length c'), .bool X.2]) ∧ Mem w w' [rowRg a' c' X.1.set] := by
  cases l with
  | nil =>
    have hx : X = (e0, false) := by rw [hX]; exact ansE_no rfl
    subst hx
    clear hX
    have M := Mem.start w
    go_enter Tryz.func6, Tryz.ntmps6
    go_wp2
    refine bodyPost_ret (by simp [results, Tryz.results6, go_sem]; try rfl) rfl ?_
    exact ⟨none, 0, rfl, none_rowS Mem.fin⟩
  | cons n r =>
    obtain ⟨g, rfl, c0⟩ := h 0 n rfl
    have cc : ∀ k x, (n :: r)[k]? = some x → HasCell w g k (.string ⟨x.toArray⟩) := fun k x hx => by
      obtain ⟨g2, e, q⟩ := h k x hx
      cases e
      exact q
    by_cases q1 : n = mkW ∧ r.length = 1
    · obtain ⟨rfl, q⟩ := q1
      obtain ⟨b, rfl⟩ : ∃ b, r = [b] := by
        match r, q with
        | [b], _ => exact ⟨b, rfl⟩
      exact sEdit_mk on xb xv xm vu b g c w (hf b (by simp)) c0 (cc 1 b rfl) X hX
    by_cases q2 : n = drW ∧ r.length = 1
    · obtain ⟨rfl, q⟩ := q2
      obtain ⟨b, rfl⟩ : ∃ b, r = [b] := by
        match r, q with
        | [b], _ => exact ⟨b, rfl⟩
      exact sEdit_dr on xb xv xm vu b g c w (hf b (by simp)) c0 (cc 1 b rfl) X hX
    by_cases q3 : n = adW ∧ r.length = 3
    · obtain ⟨rfl, q⟩ := q3
      obtain ⟨a, b, d, rfl⟩ : ∃ a b d, r = [a, b, d] := by
        match r, q with
        | [a, b, d], _ => exact ⟨a, b, d, rfl⟩
      exact sEdit_ad on xb xv xm vu a b d g c w (hf a (by simp)) (hf b (by simp)) (hf d (by simp)) c0 (cc 1 a rfl) (cc 2 b rfl) (cc 3 d rfl) X hX
    exact sEdit_here on xb xv xm vu n r g c w hl hbx hf ⟨fun e q => q1 ⟨e, q⟩, fun e q => q2 ⟨e, q⟩, fun e q => q3 ⟨e, q⟩⟩ h X hX
end Go.Proofs.YtocaljbimhjmgaaGreatDoor
