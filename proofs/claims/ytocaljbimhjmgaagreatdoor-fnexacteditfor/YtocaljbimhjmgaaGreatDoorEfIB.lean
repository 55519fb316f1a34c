/- Several texts in one. -/
import Derived.Test.YtocaljbimhjmgaaGreatDoorEfI2
import Derived.Shelf.Abstract
import Derived.Laws.EntriesVeiled
import Derived.Deep.CutRange
namespace Go.Proofs.YtocaljbimhjmgaaGreatDoor
open Go.RowKit
open Plain
set_option linter.unusedVariables false
set_option linter.unusedSimpArgs false
attribute [local go_sem] cell_of frozen_of
theorem fit_parts {nm : List UInt8} {lo hi : Int} {l : List (List UInt8)} (h : fitW (nm, lo, hi) l = true) : ∃ r, l = nm :: r ∧ lo ≤ r.length ∧ (r.length : Int) ≤ hi := by
  unfold fitW at h
  cases l with
  | nil => cases h
  | cons x r =>
    simp only [Bool.and_eq_true, beq_iff_eq, inI_iff, List.headD_cons, List.length_cons] at h
    exact ⟨r, by rw [h.1.2], by omega, by omega⟩
theorem fit_no {nm : List UInt8} {lo hi : Int} {l : List (List UInt8)} (h : fitW (nm, lo, hi) l = false) {r : List (List UInt8)} (h1 : lo ≤ r.length) (h2 : (r.length : Int) ≤ hi) : l ≠ nm :: r := by
  rintro rfl
  have : fitW (nm, lo, hi) (nm :: r) = true := by
    unfold fitW
    simp only [Bool.and_eq_true, beq_iff_eq, inI_iff, List.headD_cons, List.length_cons]
    exact ⟨⟨by simp, trivial⟩, by omega, by omega⟩
  rw [this] at h
  cases h
theorem raw_none {box : ByteArray} {l : List (List UInt8)} (h : ∀ j, j < 7 → fitW (tabN j) l = false) : rawE box l = (e0, false) := by
  have h0 := h 0 (by decide)
  have h1 := h 1 (by decide)
  have h2 := h 2 (by decide)
  have h3 := h 3 (by decide)
  have h4 := h 4 (by decide)
  have h5 := h 5 (by decide)
  have h6 := h 6 (by decide)
  clear h
  unfold rawE
  split
  · exact if_neg fun e => fit_no h4 (r := []) (by decide) (by decide) (by rw [e])
  · rename_i n a
    exact (if_neg fun e => fit_no h0 (r := [a]) (by simp) (by simp) (by rw [e])).trans ((if_neg fun e => fit_no h1 (r := [a]) (by simp) (by simp) (by rw [e])).trans (if_neg fun e => fit_no h4 (r := [a]) (by simp) (by simp) (by rw [e])))
  · rename_i n a b
    exact (if_neg fun e => fit_no h5 (r := [a, b]) (by simp) (by simp) (by rw [e])).trans (if_neg fun e => fit_no h6 (r := [a, b]) (by simp) (by simp) (by rw [e]))
  · rename_i n a b c
    exact (if_neg fun e => fit_no h2 (r := [a, b, c]) (by simp) (by simp) (by rw [e])).trans (if_neg fun e => fit_no h3 (r := [a, b, c]) (by simp) (by simp) (by rw [e]))
  · rename_i n a b c d
    exact if_neg fun e => fit_no h3 (r := [a, b, c, d]) (by simp) (by simp) (by rw [e])
  · rfl
/-- What a function reads of the words behind the name. -/
def ReadsF (F : Nat) (box : ByteArray) (l : List (List UInt8)) (R : Ed × Bool) (g : Nat) : Prop :=
  ∀ (W : World) (c : Nat) (p : Option Addr), (1 < l.length → p = some ⟨g, 1, none⟩) → SeeW W (some ⟨g, 0, none⟩) l → EEnv W → Calls Tryz.prog F #[.agg #[.string box, .slice p (l.length - 1) c]] W fun e W' => ∃ a' c', e = .returned (.tuple #[edV R.1 (.slice a' R.1.set.length c'), .bool R.2]) ∧ Mem W W' [rowRg a' c' R.1.set]
theorem see_c {W : World} {g : Nat} {l : List (List UInt8)} (h : SeeW W (some ⟨g, 0, none⟩) l) {k : Nat} {x : List UInt8} (hx : l[k]? = some x) : HasCell W g k (.string ⟨x.toArray⟩) := by
  obtain ⟨g2, e, h1⟩ := h k x hx
  cases e
  exact h1
theorem none_row {W W' : World} (M : Mem W W' []) : Mem W W' [rowRg none 0 []] := Mem.nil (M := M) _ _
theorem reads_make (box : ByteArray) (g : Nat) (b : List UInt8) (hf : fewW [mkW, b]) : ReadsF 47 box [mkW, b] (rawE box [mkW, b]) g := by
  intro W c p hp h he
  obtain rfl := hp (by simp)
  have c1 := see_c h (k := 1) (x := b) rfl
  have e : rawE box [mkW, b] = (⟨1, ba b, nb, [], 0, 0, 0, nb⟩, true) := by unfold rawE; simp [mkW, drW, adW, stW, exW, cpW, mvW]
  rw [e]
  exact (makeBox_mem box b g c W c1).mono fun e W' ⟨h1, h2⟩ => ⟨none, 0, h1, none_row h2⟩
theorem reads_drop (box : ByteArray) (g : Nat) (b : List UInt8) (hf : fewW [drW, b]) : ReadsF 48 box [drW, b] (rawE box [drW, b]) g := by
  intro W c p hp h he
  obtain rfl := hp (by simp)
  have c1 := see_c h (k := 1) (x := b) rfl
  have e : rawE box [drW, b] = (⟨2, ba b, nb, [], 0, 0, 0, nb⟩, true) := by unfold rawE; simp [mkW, drW, adW, stW, exW, cpW, mvW]
  rw [e]
  exact (dropBox_mem box b g c W c1).mono fun e W' ⟨h1, h2⟩ => ⟨none, 0, h1, none_row h2⟩
theorem reads_add (box : ByteArray) (g : Nat) (a b d : List UInt8) (hf : fewW [adW, a, b, d]) : ReadsF 49 box [adW, a, b, d] (rawE box [adW, a, b, d]) g := by
  intro W c p hp h he
  obtain rfl := hp (by simp)
  have c1 := see_c h (k := 1) (x := a) rfl
  have c2 := see_c h (k := 2) (x := b) rfl
  have c3 := see_c h (k := 3) (x := d) rfl
  have e : rawE box [adW, a, b, d] = (⟨3, ba a, nb, [], 0, (readF b).1, 0, ba d⟩, (readF b).2) := by unfold rawE; simp [mkW, drW, adW, stW, exW, cpW, mvW]
  rw [e]
  have hb : b.length ≤ 1048576 := hf b (by simp)
  exact (addMail_mem box a b d g c W c1 c2 c3 hb he).mono fun e W' ⟨h1, h2⟩ => ⟨none, 0, h1, none_row h2⟩
theorem reads_store3 (box : ByteArray) (g : Nat) (a b d : List UInt8) (hf : fewW [stW, a, b, d]) : ReadsF 50 box [stW, a, b, d] (rawE box [stW, a, b, d]) g := by
  intro W c p hp h he
  obtain rfl := hp (by simp)
  have c1 := see_c h (k := 1) (x := a) rfl
  have c2 := see_c h (k := 2) (x := b) rfl
  have c3 := see_c h (k := 3) (x := d) rfl
  have e : rawE box [stW, a, b, d] = (⟨4, box, nb, setP a, howP b, (readF d).1, -1, nb⟩, setB a && (readF d).2) := by unfold rawE; simp [mkW, drW, adW, stW, exW, cpW, mvW]
  rw [e]
  have ha : a.length ≤ 1048576 := hf a (by simp)
  have hd : d.length ≤ 1048576 := hf d (by simp)
  exact store3_mem box a b d g c W c1 c2 c3 ha hd he
theorem reads_store4 (box : ByteArray) (g : Nat) (a b d f : List UInt8) (hf : fewW [stW, a, b, d, f]) : ReadsF 50 box [stW, a, b, d, f] (rawE box [stW, a, b, d, f]) g := by
  intro W c p hp h he
  obtain rfl := hp (by simp)
  have c1 := see_c h (k := 1) (x := a) rfl
  have c2 := see_c h (k := 2) (x := b) rfl
  have c3 := see_c h (k := 3) (x := d) rfl
  have c4 := see_c h (k := 4) (x := f) rfl
  have e : rawE box [stW, a, b, d, f] = (⟨4, box, nb, setP a, howP b, (readF d).1, (numP f).1, nb⟩, setB a && (readF d).2 && (numP f).2) := by unfold rawE; simp [mkW, drW, adW, stW, exW, cpW, mvW]
  rw [e]
  have ha : a.length ≤ 1048576 := hf a (by simp)
  have hd : d.length ≤ 1048576 := hf d (by simp)
  have hf2 : f.length ≤ 1048576 := hf f (by simp)
  exact store4_mem box a b d f g c W c1 c2 c3 c4 ha hd hf2 he
theorem reads_exp0 (box : ByteArray) (g : Nat) (hf : fewW [exW]) : ReadsF 51 box [exW] (rawE box [exW]) g := by
  intro W c p hp h he
  have e : rawE box [exW] = (⟨5, box, nb, allR, 0, 0, 0, nb⟩, true) := by unfold rawE; simp [mkW, drW, adW, stW, exW, cpW, mvW]
  rw [e]
  exact expunge0_mem box p c W
theorem reads_exp1 (box : ByteArray) (g : Nat) (a : List UInt8) (hf : fewW [exW, a]) : ReadsF 51 box [exW, a] (rawE box [exW, a]) g := by
  intro W c p hp h he
  obtain rfl := hp (by simp)
  have c1 := see_c h (k := 1) (x := a) rfl
  have e : rawE box [exW, a] = (⟨5, box, nb, setP a, 0, 0, 0, nb⟩, setB a) := by unfold rawE; simp [mkW, drW, adW, stW, exW, cpW, mvW]
  rw [e]
  have ha : a.length ≤ 1048576 := hf a (by simp)
  exact expunge1_mem box a g c W c1 ha he
theorem reads_copy (box : ByteArray) (g : Nat) (a b : List UInt8) (hf : fewW [cpW, a, b]) : ReadsF 52 box [cpW, a, b] (rawE box [cpW, a, b]) g := by
  intro W c p hp h he
  obtain rfl := hp (by simp)
  have c1 := see_c h (k := 1) (x := a) rfl
  have c2 := see_c h (k := 2) (x := b) rfl
  have e : rawE box [cpW, a, b] = (⟨6, box, ba b, setP a, 0, 0, 0, nb⟩, setB a) := by unfold rawE; simp [mkW, drW, adW, stW, exW, cpW, mvW]
  rw [e]
  have ha : a.length ≤ 1048576 := hf a (by simp)
  exact copyMails_mem box a b g c W c1 c2 ha he
theorem reads_move (box : ByteArray) (g : Nat) (a b : List UInt8) (hf : fewW [mvW, a, b]) : ReadsF 53 box [mvW, a, b] (rawE box [mvW, a, b]) g := by
  intro W c p hp h he
  obtain rfl := hp (by simp)
  have c1 := see_c h (k := 1) (x := a) rfl
  have c2 := see_c h (k := 2) (x := b) rfl
  have e : rawE box [mvW, a, b] = (⟨7, box, ba b, setP a, 0, 0, 0, nb⟩, setB a) := by unfold rawE; simp [mkW, drW, adW, stW, exW, cpW, mvW]
  rw [e]
  have ha : a.length ≤ 1048576 := hf a (by simp)
  exact moveMails_mem box a b g c W c1 c2 ha he
abbrev tabC : List Value := [.string ⟨#[109, 97, 107, 101]⟩, .int .i64 1, .int .i64 1, .func (.func 47) #[] #[], .string ⟨#[100, 114, 111, 112]⟩, .int .i64 1, .int .i64 1, .func (.func 48) #[] #[], .string ⟨#[97, 100, 100]⟩, .int .i64 3, .int .i64 3, .func (.func 49) #[] #[], .string ⟨#[115, 116, 111, 114, 101]⟩, .int .i64 3, .int .i64 4, .func (.func 50) #[] #[], .string ⟨#[101, 120, 112, 117, 110, 103, 101]⟩, .int .i64 0, .int .i64 1, .func (.func 51) #[] #[], .string ⟨#[99, 111, 112, 121]⟩, .int .i64 2, .int .i64 2, .func (.func 52) #[] #[], .string ⟨#[109, 111, 118, 101]⟩, .int .i64 2, .int .i64 2, .func (.func 53) #[] #[]]
theorem tab_at (k : Nat) (hk : k < 7) (box : ByteArray) (l : List (List UInt8)) (hf : fewW l) : ∃ F, Elt tabC (k * 4) (.string ⟨(tabN k).1.toArray⟩) ∧ Elt tabC (k * 4 + 1) (.int .i64 (tabN k).2.1) ∧ Elt tabC (k * 4 + 2) (.int .i64 (tabN k).2.2) ∧ Elt tabC (k * 4 + 3) (.func (.func F) #[] #[]) ∧ (∀ args w, (callFunc F args).run Tryz.prog w = .ok (.enter F args) w) ∧ (∀ g, fitW (tabN k) l = true → ReadsF F box l (rawE box l) g) := by
  match k, hk with
  | 0, _ => exact ⟨47, ⟨rfl⟩, ⟨rfl⟩, ⟨rfl⟩, ⟨rfl⟩, enters_of Tryz.func47 (by kernel_rfl) rfl, fun g h => by
      obtain ⟨r, rfl, h1, h2⟩ := fit_parts h
      match r, h1, h2, hf with
      | [b], _, _, hf => exact reads_make box g b hf
      | [], h1, _, _ => simp at h1
      | _ :: _ :: r, _, h2, _ => simp at h2; omega⟩
  | 1, _ => exact ⟨48, ⟨rfl⟩, ⟨rfl⟩, ⟨rfl⟩, ⟨rfl⟩, enters_of Tryz.func48 (by kernel_rfl) rfl, fun g h => by
      obtain ⟨r, rfl, h1, h2⟩ := fit_parts h
      match r, h1, h2, hf with
      | [b], _, _, hf => exact reads_drop box g b hf
      | [], h1, _, _ => simp at h1
      | _ :: _ :: r, _, h2, _ => simp at h2; omega⟩
  | 2, _ => exact ⟨49, ⟨rfl⟩, ⟨rfl⟩, ⟨rfl⟩, ⟨rfl⟩, enters_of Tryz.func49 (by kernel_rfl) rfl, fun g h => by
      obtain ⟨r, rfl, h1, h2⟩ := fit_parts h
      match r, h1, h2, hf with
      | [a, b, d], _, _, hf => exact reads_add box g a b d hf
      | [], h1, _, _ => simp at h1
      | [_], h1, _, _ => simp at h1
      | [_, _], h1, _, _ => simp at h1
      | _ :: _ :: _ :: _ :: r, _, h2, _ => simp at h2; omega⟩
  | 3, _ => exact ⟨50, ⟨rfl⟩, ⟨rfl⟩, ⟨rfl⟩, ⟨rfl⟩, enters_of Tryz.func50 (by kernel_rfl) rfl, fun g h => by
      obtain ⟨r, rfl, h1, h2⟩ := fit_parts h
      match r, h1, h2, hf with
      | [a, b, d], _, _, hf => exact reads_store3 box g a b d hf
      | [a, b, d, f], _, _, hf => exact reads_store4 box g a b d f hf
      | [], h1, _, _ => simp at h1
      | [_], h1, _, _ => simp at h1
      | [_, _], h1, _, _ => simp at h1
      | _ :: _ :: _ :: _ :: _ :: r, _, h2, _ => simp at h2; omega⟩
  | 4, _ => exact ⟨51, ⟨rfl⟩, ⟨rfl⟩, ⟨rfl⟩, ⟨rfl⟩, enters_of Tryz.func51 (by kernel_rfl) rfl, fun g h => by
      obtain ⟨r, rfl, h1, h2⟩ := fit_parts h
      match r, h1, h2, hf with
      | [], _, _, hf => exact reads_exp0 box g hf
      | [a], _, _, hf => exact reads_exp1 box g a hf
      | _ :: _ :: r, _, h2, _ => simp at h2; omega⟩
  | 5, _ => exact ⟨52, ⟨rfl⟩, ⟨rfl⟩, ⟨rfl⟩, ⟨rfl⟩, enters_of Tryz.func52 (by kernel_rfl) rfl, fun g h => by
      obtain ⟨r, rfl, h1, h2⟩ := fit_parts h
      match r, h1, h2, hf with
      | [a, b], _, _, hf => exact reads_copy box g a b hf
      | [], h1, _, _ => simp at h1
      | [_], h1, _, _ => simp at h1
      | _ :: _ :: _ :: r, _, h2, _ => simp at h2; omega⟩
  | 6, _ => exact ⟨53, ⟨rfl⟩, ⟨rfl⟩, ⟨rfl⟩, ⟨rfl⟩, enters_of Tryz.func53 (by kernel_rfl) rfl, fun g h => by
      obtain ⟨r, rfl, h1, h2⟩ := fit_parts h
      match r, h1, h2, hf with
      | [a, b], _, _, hf => exact reads_move box g a b hf
      | [], h1, _, _ => simp at h1
      | [_], h1, _, _ => simp at h1
      | _ :: _ :: _ :: r, _, h2, _ => simp at h2; omega⟩
set_option maxHeartbeats 4000000 in
set_option maxRecDepth 100000 in
theorem boxLookedAt_any (on : Bool) (box : ByteArray) (valid mod : Int) (v : Value) (w : World) :
    Calls Tryz.prog 24 #[.agg #[.bool on, .string box, .int .i64 valid, v, .int .i64 mod]] w fun e w' => e = .returned (.string (if on = true then box else nb)) ∧ Mem w w' [] := by
  have M := Mem.start w
  cases on with
  | false =>
    go_enter Tryz.func24, Tryz.ntmps24
    go_wp2
    go_ret
    exact ⟨rfl, Mem.end⟩
  | true =>
    go_enter Tryz.func24, Tryz.ntmps24
    go_wp2
    go_ret
    exact ⟨rfl, Mem.end⟩
set_option maxHeartbeats 4000000 in
set_option maxRecDepth 100000 in
theorem copiedEdit_any (e : Ed) (a : Option Addr) (c : Nat) (w : World) (hs : SmallEd 1048576 e) :
    Calls Tryz.prog 26 #[edV e (.slice a e.set.length c)] w fun x w' => x = .returned (edV e (.slice a e.set.length c)) ∧ Mem w w' [] := by
  have M := Mem.start w
  have H1 := hs.box
  have H2 := hs.dst
  have H3 := hs.text
  clear hs
  obtain ⟨ek, eb, ed, es, eh, ebi, esi, et⟩ := e
  dsimp only at H1 H2 H3 ⊢
  go_enter Tryz.func26, Tryz.ntmps26
  go_wp2
  refine mb 15 (fun M => ?_)
  refine tm 0 3 ?_; refine tm 1 4 ?_; refine tm 3 6 ?_; refine tm 4 7 ?_; refine tm 6 9 ?_; refine tm 7 10 ?_
  refine tc 2 5 (iClone_mem eb H1) ?_
  rintro e w6 ⟨rfl, M⟩
  refine tce ?_
  refine tm 9 12 ?_
  refine tc 5 8 (iClone_mem ed H2) ?_
  rintro e w6 ⟨rfl, M⟩
  refine tce ?_
  refine tc 8 11 (iClone_mem et H3) ?_
  rintro e w6 ⟨rfl, M⟩
  refine tce ?_
  refine to_ 10 fun K hK => ?_
  go_simp
  refine hK.out _ _ Mem.end ?_
  clear hK K
  try simp only [Act.put, p1, p2, p3]
  refine tm 11 13 ?_
  refine to_ 12 fun K hK => ?_
  go_simp
  refine hK.out _ _ Mem.end ?_
  clear hK K
  try simp only [Act.put, p1, p2, p3]
  refine tm 13 14 ?_
  refine to_ 14 fun K hK => ?_
  go_simp
  refine hK.out _ _ Mem.end ?_
  clear hK K
  try simp only [Act.put, p1, p2, p3]
  refine td ?_
  go_wp2
  refine bodyPost_ret (by simp [results, Tryz.results26, go_sem]; try rfl) rfl ?_
  exact ⟨rfl, Mem.end⟩
end Go.Proofs.YtocaljbimhjmgaaGreatDoor

namespace Go.Proofs.YtocaljbimhjmgaaGreatDoor
open Go.RowKit
open Plain
set_option linter.unusedVariables false
set_option linter.unusedSimpArgs false
attribute [local go_sem] cell_of frozen_of
theorem Mem.tab {w W : World} {L K : List Pc} {b : Nat} {f : Pc → List Pc} [M : Mem w W L] [h : InL L (tabPc b) f] [k : Pick (f (.row (some ⟨b, 0, none⟩) 7 7 57 4 tabC)) K] : Mem w W K := by
  have hp := M.get (tabPc b)
  have := M.turn (p := tabPc b) (q := .row (some ⟨b, 0, none⟩) 7 7 57 4 tabC) (g_self W _) ⟨rfl, .inr ⟨b, 7, tabC.toArray, rfl, hp.1, hp.2, by simp [maxLen]⟩⟩ (.inl rfl)
  exact Mem.fin
theorem editCommands_row (w : World) :
    Calls Tryz.prog 22 #[] w fun e w' => ∃ g, e = .returned (.slice (some ⟨g, 0, none⟩) 7 7) ∧ Mem w w' [.row (some ⟨g, 0, none⟩) 7 7 57 4 tabC] :=
  (editCommands_mem w).mono fun e w' ⟨g, h1, M⟩ => ⟨g, h1, Mem.tab (b := g)⟩
set_option maxHeartbeats 16000000 in
set_option maxRecDepth 100000 in
theorem impl_EditFor_mem (on : Bool) (xb : ByteArray) (xv xm : Int) (vu : Value) (a : Option Addr) (c : Nat) (l : List (List UInt8)) (w : World) (hbx : xb.size ≤ 1048576) (hf : fewW l) (hl : l.length ≤ 1048576) (hc : l.length ≤ c) (h : SeeW w a l) (he : EEnv w) (X : Ed × Bool) (hX : X = ansE (if on = true then xb else nb) l) :
    Calls Tryz.prog 9 #[.agg #[.bool on, .string xb, .int .i64 xv, vu, .int .i64 xm], .slice a l.length c] w fun e w' => ∃ a' c', e = .returned (.tuple #[edV X.1 (.slice a' X.1.set.length c'), .bool X.2]) ∧ Mem w w' [rowRg a' c' X.1.set] := by
  obtain ⟨R, hR⟩ : ∃ R, R = rawE (if on = true then xb else nb) l := ⟨_, rfl⟩
  have HSM : Hid (SmallEd 1048576 R.1) := by
    show SmallEd _ _
    rw [hR]
    refine raw_small ?_ hf
    split
    · exact hbx
    · decide
  have HNO : Hid ((R.2 && okE R.1) = false → X = (e0, false)) := fun q => by rw [hX]; rw [hR] at q; exact ansE_no q
  have HYES : Hid ((R.2 && okE R.1) = true → X = (R.1, true)) := fun q => by rw [hX]; rw [hR] at q ⊢; exact ansE_yes q
  have HNONE : Hid ((∀ j, j < 7 → fitW (tabN j) l = false) → X = (e0, false)) := fun q => by rw [hX]; exact ansE_no (by rw [raw_none q]; rfl)
  have HT := hide (fun (k : Nat) (hk : k < 7) => by have q := tab_at k hk (if on = true then xb else nb) l hf; rw [← hR] at q; exact q)
  have HFIT := hide (fun (T : List UInt8 × Int × Int) (W : World) (h : SeeW W a l) => fits_any T a c l W hl h)
  have HPOS : Hid (∀ T, fitW T l = true → 0 < l.length ∧ ∃ g, a = some ⟨g, 0, none⟩) := by
    rintro ⟨nm, lo, hi⟩ q
    obtain ⟨r, rfl, _, _⟩ := fit_parts q
    obtain ⟨g, e, _⟩ := h 0 nm rfl
    exact ⟨by simp, g, e⟩
  have EN : Hid (∀ W, Below w.heap.size w W → EEnv W) := fun W hb => he.below hb
  have SW : Hid (∀ W, Below w.heap.size w W → SeeW W a l) := fun W hb => h.up hb
  obtain ⟨bx, hbx2⟩ : ∃ q, q = (if on = true then xb else nb) := ⟨_, rfl⟩
  rw [← hbx2] at HT
  have HBX : Hid (∀ W, Calls Tryz.prog 24 #[.agg #[.bool on, .string xb, .int .i64 xv, vu, .int .i64 xm]] W fun e w' => e = .returned (.string bx) ∧ Mem W w' []) := fun W => by rw [hbx2]; exact boxLookedAt_any on xb xv xm vu W
  obtain ⟨n, hn⟩ : ∃ n, n = l.length := ⟨_, rfl⟩
  rw [← hn] at hl hc HFIT HPOS ⊢
  have HLEN : Hid (n = l.length) := hn
  obtain ⟨⟨rk, rb, rd, rs, rh, rbi, rsi, rt⟩, rok⟩ := R
  have M := Mem.start w
  clear hR hX h he hf hbx hbx2 hn
  go_enter Tryz.func9, Tryz.ntmps9
  go_wp2_with fail
  refine (editCommands_row _).mono ?_
  rintro e w9 ⟨gt, rfl, MN⟩
  have M := Mem.then MN
  clear MN
  go_wp2
  go_loopw [12] (fun i W => ∃ k : Nat, k ≤ 7 ∧ i = .int .i64 k ∧ (∀ j, j < k → fitW (tabN j) l = false) ∧ Mem w W [.row (some ⟨gt, 0, none⟩) 7 7 57 4 tabC, .obj (w.heap.size + 1) 32 edZ, .obj w.heap.size 37 [.bool on, .string xb, .int .i64 xv, vu, .int .i64 xm]]) (fun i _ => 7 - (intOf i).toNat)
  case atStart => exact ⟨0, Nat.zero_le _, rfl, fun j hj => by omega, Mem.end⟩
  case round =>
    obtain ⟨k, hk, rfl, hno, M⟩ := hrel
    by_cases hlt : k < 7
    · obtain ⟨F, e0, e1, e2, e3, eg, hF⟩ := unhide HT k hlt
      have HF := hide hF
      have HNEXT : Hid (fitW (tabN k) l = false → ∀ j, j < k + 1 → fitW (tabN j) l = false) := fun q j hj => by
        by_cases e : j = k
        · rw [e]; exact q
        · exact hno j (by omega)
      clear hF hno
      obtain ⟨T, hT⟩ : ∃ T, T = tabN k := ⟨_, rfl⟩
      rw [← hT] at e0 e1 e2 HF HNEXT
      clear hT
      go_wp2_with fail
      refine Calls.mono (unhide HFIT T _ ?_) ?_
      · exact unhide SW _ (Mem.here _)
      rintro e w9 ⟨rfl, MN⟩
      have M := Mem.then MN
      clear MN
      cases hq : fitW T l with
      | false =>
        have HN2 := hide (unhide HNEXT hq)
        clear HNEXT HF hq
        go_wp2
        go_roundw
        case rel => exact ⟨k + 1, by omega, by go_num, unhide HN2, Mem.fin⟩
        case measure => simp [intOf]; omega
      | true =>
        obtain ⟨hp, g, rfl⟩ := unhide HPOS T hq
        obtain ⟨p, hP⟩ : ∃ p, (if c = 1 then (some ⟨g, 0, none⟩ : Option Addr) else some ⟨g, 1, none⟩) = p := ⟨_, rfl⟩
        have HP : Hid (1 < l.length → p = some ⟨g, 1, none⟩) := fun q => by rw [← hP, if_neg (by have := unhide HLEN; omega)]
        have HR : Hid (∀ (W : World), SeeW W (some ⟨g, 0, none⟩) l → EEnv W → Calls Tryz.prog F #[.agg #[.string bx, .slice p (n - 1) (c - 1)]] W fun e W' => ∃ a' c', e = .returned (.tuple #[edV ⟨rk, rb, rd, rs, rh, rbi, rsi, rt⟩ (.slice a' rs.length c'), .bool rok]) ∧ Mem W W' [rowRg a' c' rs]) := by
          have q := unhide HF g hq
          unfold ReadsF at q
          rw [← unhide HLEN] at q
          exact fun W => q W (c - 1) p (by rw [unhide HLEN]; exact unhide HP)
        clear HNEXT HF HNONE HFIT HPOS hq HT
        go_wp2
        have hn1 : (1 : Int) ≤ (n : Int) := by omega
        clear HP
        have eg1 : ∀ w, (callFunc F #[.agg #[.string bx, .slice p (n - 1) (c - 1)]]).run Tryz.prog w = .ok (.enter F #[.agg #[.string bx, .slice p (n - 1) (c - 1)]]) w := eg _
        clear eg
        go_cut [8, 9] from 12 to 42 (fun s8 s9 wc => ∃ (bn : Nat) (a' : Option Addr) (c' : Nat), s8 = .pointer (some ⟨bn, 0, none⟩) ∧ s9 = .bool rok ∧ Mem w wc [.obj bn 32 [.int .i64 rk, .string rb, .string rd, .slice a' rs.length c', .int .i64 rh, .int .i64 rbi, .int .i64 rsi, .string rt], rowRg a' c' rs, .row (some ⟨gt, 0, none⟩) 7 7 57 4 tabC, .obj (w.heap.size + 1) 32 edZ, .obj w.heap.size 37 [.bool on, .string xb, .int .i64 xv, vu, .int .i64 xm]])
        case first =>
          refine mb 14 (fun M => ?_)
          refine tm 0 22 ?_; refine tm 1 23 ?_; refine tm 2 24 ?_; refine tm 4 26 ?_; refine tm 5 27 ?_
          refine tt 3 11 (fun K hK => ?_) (fun K hK => ?_)
          · go_simp
            refine (unhide HBX _).mono ?_
            rintro e w6 ⟨rfl, MN⟩
            have M := Mem.then MN
            clear MN
            refine hK.out _ _ Mem.end ?_
            clear hK K
            try simp only [Act.put, p1, p2, p3]
            refine tm 6 28 ?_
            refine tt 7 11 (fun K hK => ?_) (fun K hK => ?_)
            · go_simp
              refine Calls.mono (unhide HR _ ?_ ?_) ?_
              · exact unhide SW _ (Mem.here _)
              · exact unhide EN _ (Mem.here _)
              rintro e w7 ⟨aR, cR, rfl, MN⟩
              have M := Mem.then MN
              clear MN
              refine hK.out _ _ Mem.end ?_
              clear hK K
              try simp only [Act.put, p1, p2, p3]
              refine tm 8 21 ?_; refine tm 9 30 ?_; refine tm 10 31 ?_
              refine to_ 11 fun K hK => ?_
              go_simp
              refine hK.out _ _ Mem.end ?_
              clear hK K
              try simp only [Act.put, p1, p2, p3]
              refine to_ 12 fun K hK => ?_
              go_simp
              refine hK.out _ _ Mem.end ?_
              clear hK K
              try simp only [Act.put, p1, p2, p3]
              refine tm 13 9 ?_
              refine td ?_
              go_wp2
              go_meet
              case rel => exact ⟨_, aR, cR, rfl, rfl, Mem.fin⟩
            · go_simp
              refine hK.out _ _ Mem.end ?_
              clear hK K
              try simp only [Act.put, p1, p2, p3]
              refine tc 7 29 (unhide HR _ (unhide SW _ (Mem.here _)) (unhide EN _ (Mem.here _))) ?_
              rintro e w7 ⟨aR, cR, rfl, MN⟩
              have M := Mem.then MN
              clear MN
              refine tce ?_
              refine tm 8 21 ?_; refine tm 9 30 ?_; refine tm 10 31 ?_
              refine to_ 12 fun K hK => ?_
              go_simp
              refine hK.out _ _ Mem.end ?_
              clear hK K
              try simp only [Act.put, p1, p2, p3]
              refine tm 13 9 ?_
              refine td ?_
              go_wp2
              go_meet
              case rel => exact ⟨_, aR, cR, rfl, rfl, Mem.fin⟩
          · go_simp
            refine hK.out _ _ Mem.end ?_
            clear hK K
            try simp only [Act.put, p1, p2, p3]
            refine tc 3 25 (unhide HBX _) ?_
            rintro e w6 ⟨rfl, MN⟩
            have M := Mem.then MN
            clear MN
            refine tce ?_
            refine tm 6 28 ?_
            refine tc 7 29 (unhide HR _ (unhide SW _ (Mem.here _)) (unhide EN _ (Mem.here _))) ?_
            rintro e w7 ⟨aR, cR, rfl, MN⟩
            have M := Mem.then MN
            clear MN
            refine tce ?_
            refine tm 8 21 ?_; refine tm 9 30 ?_; refine tm 10 31 ?_
            refine to_ 12 fun K hK => ?_
            go_simp
            refine hK.out _ _ Mem.end ?_
            clear hK K
            try simp only [Act.put, p1, p2, p3]
            refine tm 13 9 ?_
            refine td ?_
            go_wp2
            go_meet
            case rel => exact ⟨_, aR, cR, rfl, rfl, Mem.fin⟩
        case rest =>
          obtain ⟨bn, aR, cR, rfl, rfl, M⟩ := hcut
          clear HR HBX SW EN HLEN
          cases rok with
          | false =>
            obtain rfl := unhide HNO (by rfl)
            clear HNO HYES
            go_wp2
            refine bodyPost_ret (by simp [results, Tryz.results9, go_sem]; try rfl) rfl ?_
            exact ⟨none, 0, rfl, none_row Mem.fin⟩
          | true =>
          go_wp2_with fail
          refine (iOk_mem ⟨rk, rb, rd, rs, rh, rbi, rsi, rt⟩ aR cR (unhide HSM)).mono ?_
          rintro e w9 ⟨rfl, M⟩
          cases hk2 : okE ⟨rk, rb, rd, rs, rh, rbi, rsi, rt⟩ with
          | false =>
            obtain rfl := unhide HNO (by rw [hk2]; rfl)
            clear HNO HYES hk2
            go_wp2
            refine bodyPost_ret (by simp [results, Tryz.results9, go_sem]; try rfl) rfl ?_
            exact ⟨none, 0, rfl, none_row Mem.fin⟩
          | true =>
            obtain rfl := unhide HYES (by rw [hk2]; rfl)
            clear HNO HYES hk2
            go_wp2_with fail
            refine (copiedEdit_any ⟨rk, rb, rd, rs, rh, rbi, rsi, rt⟩ aR cR _ (unhide HSM)).mono ?_
            rintro e w8 ⟨rfl, MN⟩
            have M := Mem.then MN
            clear MN
            go_wp2
            refine bodyPost_ret (by simp [results, Tryz.results9, go_sem]; try rfl) rfl ?_
            exact ⟨aR, cR, rfl, Mem.fin⟩
    · obtain rfl : k = 7 := by omega
      obtain rfl := unhide HNONE hno
      clear hno
      go_wp2
      refine bodyPost_ret (by simp [results, Tryz.results9, go_sem]; try rfl) rfl ?_
      exact ⟨none, 0, rfl, none_row Mem.fin⟩
end Go.Proofs.YtocaljbimhjmgaaGreatDoor
