/- FnExpunges, its plain facts and its walk. -/
import Derived.Test.YtfemplekibpfoaaGreatBoxKeeps
import Derived.Test.YtfemplekibpfoaaGreatVanishedS
import Derived.Test.YtfemplekibpfoaaGreatIntRow
import Derived.Test.YtfemplekibpfoaaGreatBoxNameS
import Derived.Deep.AppendLies
import Derived.Test.YtfemplekibpfoaaGreatDrawTop
import Derived.Test.YtfemplekibpfoaaGreatDrawKit
import Derived.Test.YtfemplekibpfoaaGreatRegA
import Derived.Test.YtfemplekibpfoaaGreatExpungeS
import Derived.Deep.Cut
/- Flags that are changed, plainly: what FnStores asks. -/
namespace Go.Proofs.YtfemplekibpfoaaGreat.Plain
open Go.RowKit
set_option linter.unusedVariables false

theorem uid_one {l : List Ml} (h : l.Pairwise (fun x y => x.uid < y.uid)) {x y : Ml} (hx : x ∈ l) (hy : y ∈ l) (e : x.uid = y.uid) : x = y := by
  obtain ⟨i, hi, rfl⟩ := List.getElem_of_mem hx
  obtain ⟨j, hj, rfl⟩ := List.getElem_of_mem hy
  rcases Nat.lt_trichotomy i j with h1 | h1 | h1
  · have := (List.pairwise_iff_getElem.1 h) i j hi hj h1; omega
  · subst h1; rfl
  · have := (List.pairwise_iff_getElem.1 h) j i hj hi h1; omega
theorem filt_uid {l : List Ml} (h : l.Pairwise (fun x y => x.uid < y.uid)) (p : Ml → Bool) {m : Ml} (hm : m ∈ l) : m.uid ∈ (l.filter p).map (·.uid) ↔ p m = true := by
  constructor
  · intro hx
    obtain ⟨y, hy, e⟩ := List.mem_map.1 hx
    have h1 := List.mem_filter.1 hy
    rw [uid_one h hm h1.1 e.symm]
    exact h1.2
  · intro hp
    exact List.mem_map.2 ⟨m, List.mem_filter.2 ⟨hm, hp⟩, rfl⟩
theorem filt_has {b : Bx} (hb : boxOk b = true) (p : Ml → Bool) : (∀ m ∈ b.mails, hasB (uidsV ((b.mails.filter p).map (·.uid))) m.uid = p m) ∧ (uidsV ((b.mails.filter p).map (·.uid))).length ≤ 1048576 := by
  have hr := right_of hb; have h30 := (head_parts hr.head).2.2.2.2.1
  have hl : ((b.mails.filter p).map (·.uid)).length ≤ 40 := by rw [List.length_map]; exact Nat.le_trans (List.length_filter_le _ _) (by omega)
  have h9 := (inI_iff.1 (head_parts hr.head).2.2.1).2
  obtain ⟨i1, i2, i3⟩ := uidsV_inv _ _ rfl hl (fun x hx => by
    obtain ⟨t, ht, rfl⟩ := List.mem_map.1 hx
    have := hr.mail t (List.mem_filter.1 ht).1
    exact ⟨this.u1, by have := this.u2; omega⟩)
  refine ⟨fun m hm => ?_, by omega⟩
  rw [i3, Bool.eq_iff_iff, decide_eq_true_eq]
  exact filt_uid hr.asc p hm
structure Stores (b n : Bx) (D L : List Rg) (how bits since : Int) : Prop where
  ok : boxOk n = true
  len : n.mails.length = b.mails.length
  each : ∀ (k : Nat) (m : Ml), b.mails[k]? = some m → ∃ m', n.mails[k]? = some m' ∧ (hasB D m.uid = false → m' = m) ∧ (hasB D m.uid = true → m'.flags = afterV m.flags how bits ∧ m'.mod = n.mod) ∧ (hasB L m.uid = true → since < m.mod)
  mod : n.mod = b.mod ∨ (n.mod = b.mod + 1 ∧ n.mod ≠ b.mod)
  d : D.length ≤ 1048576
  l : L.length ≤ 1048576
theorem stores {b : Bx} (s : List Rg) (how bits since : Int) (hb : boxOk b = true) : Stores b (flagsV b s how bits since).1 (flagsV b s how bits since).2.1 (flagsV b s how bits since).2.2 how bits since := by
  have hk := flags_keeps (s := s) (how := how) (bits := bits) (since := since) hb
  by_cases h : fgOk b s how bits = true ∧ boxOk (fgBox b (fgOf b s how bits since)) = true
  · have e := flagsV_yes (b := b) (s := s) (how := how) (bits := bits) (since := since) h.1 h.2
    rw [e] at hk ⊢
    rw [fg_is] at hk ⊢
    obtain ⟨d1, d2⟩ := filt_has hb (isNew s how bits since)
    obtain ⟨l1, l2⟩ := filt_has hb (isLate s since)
    refine ⟨hk, by show (b.mails.map _).length = _; rw [List.length_map], fun k m hm => ⟨newM b s how bits since m, ?_, ?_, ?_, ?_⟩, ?_, d2, l2⟩
    · show (b.mails.map _)[k]? = _
      rw [List.getElem?_map, hm]; rfl
    · intro h1
      have hmem := List.mem_of_getElem? hm
      have h2 : isNew s how bits since m = false := by rw [← d1 m hmem]; exact h1
      unfold newM
      rw [if_neg (by rw [h2]; decide)]
    · intro h1
      have hmem := List.mem_of_getElem? hm
      have h2 : isNew s how bits since m = true := by rw [← d1 m hmem]; exact h1
      have h3 : (newU s how bits since b.mails).isEmpty = false := by
        have : m.uid ∈ newU s how bits since b.mails := (filt_uid (right_of hb).asc _ hmem).2 h2
        cases hq : newU s how bits since b.mails with
        | nil => rw [hq] at this; cases this
        | cons _ _ => rfl
      have h4 : newM b s how bits since m = ⟨m.uid, afterV m.flags how bits, b.mod + 1, m.text⟩ := by unfold newM; rw [if_pos h2]
      rw [h4]
      refine ⟨rfl, ?_⟩
      show b.mod + 1 = if (newU s how bits since b.mails).isEmpty = true then b.mod else b.mod + 1
      rw [h3]; rfl
    · intro h1
      have hmem := List.mem_of_getElem? hm
      have h2 : isLate s since m = true := by rw [← l1 m hmem]; exact h1
      unfold isLate at h2
      simp only [Bool.and_eq_true, decide_eq_true_eq] at h2
      omega
    · show (if (newU s how bits since b.mails).isEmpty = true then b.mod else b.mod + 1) = b.mod ∨ ((if (newU s how bits since b.mails).isEmpty = true then b.mod else b.mod + 1) = b.mod + 1 ∧ (if (newU s how bits since b.mails).isEmpty = true then b.mod else b.mod + 1) ≠ b.mod)
      split <;> omega
  · have e : flagsV b s how bits since = (b, [], []) := if_neg h
    rw [e]
    exact ⟨hb, rfl, fun k m hm => ⟨m, hm, fun _ => rfl, fun h1 => by simp [hasB] at h1, fun h1 => by simp [hasB] at h1⟩, .inl rfl, by simp, by simp⟩
end Go.Proofs.YtfemplekibpfoaaGreat.Plain

/- Those that are expunged, plainly: a right box stays right (what FnExpunges asks). -/
namespace Go.Proofs.YtfemplekibpfoaaGreat.Plain
open Go.RowKit
set_option linter.unusedVariables false

theorem drop_all {h : Int} : ∀ {l : List Tb}, l.Pairwise TombLt → ∀ t ∈ l.dropWhile (fun y => decide (y.mod ≤ h)), h < t.mod := by
  intro l
  induction l with
  | nil => intro _ t ht; cases ht
  | cons x r ih =>
    intro hp t ht
    rw [List.pairwise_cons] at hp
    by_cases hx : x.mod ≤ h
    · rw [List.dropWhile_cons_of_pos (by simpa using hx)] at ht
      exact ih hp.2 t ht
    · rw [List.dropWhile_cons_of_neg (by simpa using hx)] at ht
      rcases List.mem_cons.1 ht with rfl | ht
      · omega
      · have := hp.1 t ht
        unfold TombLt at this
        omega
theorem trim_right : ∀ (n : Nat) (ts : List Tb) (hor : Int), ts.Pairwise TombLt → (∀ t ∈ ts, hor < t.mod) → ts.length ≤ n →
    (trimS n (ts, hor)).1.Sublist ts ∧ hor ≤ (trimS n (ts, hor)).2 ∧ (∀ t ∈ (trimS n (ts, hor)).1, (trimS n (ts, hor)).2 < t.mod) ∧ (trimS n (ts, hor)).1.length ≤ 40 ∧ ((trimS n (ts, hor)).2 = hor ∨ ∃ t ∈ ts, (trimS n (ts, hor)).2 = t.mod) := by
  intro n
  induction n with
  | zero =>
    intro ts hor hp hh hl
    exact ⟨List.Sublist.refl _, Int.le_refl _, hh, by show ts.length ≤ 40; omega, .inl rfl⟩
  | succ n ih =>
    intro ts hor hp hh hl
    unfold trimS
    split
    · rename_i h; exact ⟨List.Sublist.refl _, Int.le_refl _, hh, h, .inl rfl⟩
    · cases ts with
      | nil => rename_i h; simp at h
      | cons t r =>
        have hs : ((t :: r).dropWhile (fun y => decide (y.mod ≤ t.mod))).Sublist (t :: r) := List.dropWhile_sublist _
        have h0 := hh t (by simp)
        have hd := drop_less t r
        obtain ⟨i1, i2, i3, i4, i5⟩ := ih ((t :: r).dropWhile (fun y => decide (y.mod ≤ t.mod))) t.mod (hp.sublist hs) (drop_all hp) (by simp only [List.length_cons] at hl; omega)
        refine ⟨i1.trans hs, Int.le_trans (Int.le_of_lt h0) i2, i3, i4, ?_⟩
        rcases i5 with h | ⟨x, hx, h⟩
        · exact .inr ⟨t, by simp, h⟩
        · exact .inr ⟨x, hs.subset hx, h⟩
theorem gone_of {b : Bx} {s : List Rg} {u : Int} (h : u ∈ goneM s b.mails) : ∃ m ∈ b.mails, isGone s m = true ∧ m.uid = u := by
  obtain ⟨m, hm, e⟩ := List.mem_map.1 h
  have := List.mem_filter.1 hm
  exact ⟨m, this.1, this.2, e⟩
theorem dead_all {b : Bx} (s : List Rg) (hr : Right b) : (b.tombs ++ tombsOf b (goneM s b.mails)).Pairwise TombLt ∧ (b.tombs ++ tombsOf b (goneM s b.mails)).Pairwise (fun x y => x.uid ≠ y.uid) ∧ (∀ t ∈ b.tombs ++ tombsOf b (goneM s b.mails), b.hor < t.mod ∧ t.mod ≤ b.mod + 1 ∧ 1 ≤ t.uid ∧ t.uid ≤ b.next - 1 ∧ ∀ m ∈ leftM s b.mails, m.uid ≠ t.uid) := by
  have hp := inI_iff.1 (head_parts hr.head).2.2.2.2.2.2
  have hasc : (b.mails.filter (isGone s)).Pairwise (fun x y => x.uid < y.uid) := hr.asc.sublist List.filter_sublist
  have hn : ∀ t ∈ tombsOf b (goneM s b.mails), ∃ m ∈ b.mails, isGone s m = true ∧ t = ⟨m.uid, b.mod + 1⟩ := by
    intro t ht
    obtain ⟨u, hu, rfl⟩ := List.mem_map.1 ht
    obtain ⟨m, hm, hg, rfl⟩ := gone_of hu
    exact ⟨m, hm, hg, rfl⟩
  have tp : (tombsOf b (goneM s b.mails)).Pairwise (fun x y => x.mod = y.mod ∧ x.uid < y.uid) := by
    unfold tombsOf goneM
    rw [List.pairwise_map, List.pairwise_map]
    exact hasc.imp fun h => ⟨rfl, h⟩
  refine ⟨?_, ?_, ?_⟩
  · rw [List.pairwise_append]
    refine ⟨hr.tasc, tp.imp fun h => .inr h, fun x hx y hy => ?_⟩
    obtain ⟨m, hm, hg, rfl⟩ := hn y hy
    have := (hr.tomb x hx).m2
    exact .inl (by show x.mod < b.mod + 1; omega)
  · rw [List.pairwise_append]
    refine ⟨hr.tne, tp.imp fun h => by omega, fun x hx y hy => ?_⟩
    obtain ⟨m, hm, hg, rfl⟩ := hn y hy
    exact fun e => (hr.tomb x hx).no m hm e.symm
  · intro t ht
    rcases List.mem_append.1 ht with h | h
    · have := hr.tomb t h
      exact ⟨this.m1, by have := this.m2; omega, this.u1, this.u2, fun m hm => this.no m (List.mem_filter.1 hm).1⟩
    · obtain ⟨m, hm, hg, rfl⟩ := hn t h
      have := hr.mail m hm
      refine ⟨by show b.hor < b.mod + 1; omega, Int.le_refl _, this.u1, this.u2, fun x hx e => ?_⟩
      have hx2 := List.mem_filter.1 hx
      have := uid_one hr.asc hx2.1 hm e
      rw [this, hg] at hx2
      exact absurd hx2.2 (by decide)
/-- What Expunge makes of a right box whose count may go on is right. -/
theorem expBox_right {b : Bx} (s : List Rg) (hb : boxOk b = true) (hm : b.mod < 100000) : boxOk (expBox b s) = true := by
  have hr := right_of hb
  obtain ⟨p1, p2, p3, p4, p5, p6, p7⟩ := head_parts hr.head
  have q4 := inI_iff.1 p4; have q7 := inI_iff.1 p7
  obtain ⟨d1, d2, d3⟩ := dead_all s hr
  obtain ⟨t1, t2, t3, t4, t5⟩ := trim_right _ _ b.hor d1 (fun t ht => (d3 t ht).1) (Nat.le_refl _)
  have hle : (trimmed (b.tombs ++ tombsOf b (goneM s b.mails)) b.hor).2 ≤ b.mod + 1 := by
    rcases t5 with h | ⟨x, hx, h⟩
    · unfold trimmed; rw [h]; omega
    · unfold trimmed; rw [h]; exact (d3 x hx).2.1
  refine Right.ok ⟨?_, fun m hm2 => ?_, hr.asc.sublist List.filter_sublist, fun t ht => ?_, d1.sublist t1, d2.sublist t1⟩
  · unfold headOk expBox
    simp only [Bool.and_eq_true]
    refine ⟨p1, p2, p3, inI_iff.2 ⟨by omega, by omega⟩, decide_eq_true (Nat.le_trans (leftM_len s b.mails) p5), decide_eq_true t4, inI_iff.2 ⟨?_, hle⟩⟩
    exact Int.le_trans q7.1 t2
  · have := hr.mail m (List.mem_filter.1 hm2).1
    exact ⟨this.u1, this.u2, this.fl, this.m1, by have := this.m2; show m.mod ≤ b.mod + 1; omega, this.tx⟩
  · have h9 := d3 t (t1.subset ht)
    exact ⟨h9.2.2.1, h9.2.2.2.1, t3 t ht, h9.2.1, h9.2.2.2.2⟩
end Go.Proofs.YtfemplekibpfoaaGreat.Plain

/- What is forgotten, plainly: what FnForgets asks. -/
namespace Go.Proofs.YtfemplekibpfoaaGreat.Plain
open Go.RowKit
set_option linter.unusedVariables false

theorem goneL_all {b : Bx} {u : Int} : goneL b u = uidsV ((b.tombs.filter (fun t => decide (u < t.mod))).map (·.uid)) := by
  unfold goneL
  generalize b.tombs = l
  suffices h : ∀ (l : List Tb) (r : List Rg), l.foldl (goneStep u) r = ((l.filter (fun t => decide (u < t.mod))).map (·.uid)).foldl addU r from h l []
  intro l
  induction l with
  | nil => intro r; rfl
  | cons t l ih =>
    intro r
    rw [List.foldl_cons, ih]
    unfold goneStep
    by_cases h : u < t.mod
    · rw [if_pos h, List.filter_cons_of_pos (by simpa using h)]; rfl
    · rw [if_neg h, List.filter_cons_of_neg (by simpa using h)]
structure Forgets (b : Bx) (u : Int) : Prop where
  is : forgetV b u = forgot b u
  ok : boxOk (forgot b u) = true
  hor : (forgot b u).hor = u ∨ ((forgot b u).hor = b.hor ∧ (forgot b u).hor ≠ u)
  le : u ≤ (forgot b u).hor
  early : (vanV (forgot b u) (u - 1)).2 = false
  late : vanV (forgot b u) b.mod = ([], true)
  same : vanV (forgot b u) (forgot b u).hor = vanV b (forgot b u).hor
  right : (vanV b (forgot b u).hor).2 = true
  small : (vanV b (forgot b u).hor).1.length ≤ 1048576
theorem forgets {b : Bx} {u : Int} (h : boxOk b = true) (h0 : 0 ≤ u) (h1 : u ≤ b.mod) : Forgets b u := by
  have hu : inI u 0 b.mod = true := inI_iff.2 ⟨h0, h1⟩
  have ok := forgot_right h hu; have hr := right_of h; have hr2 := right_of ok
  have hh : (forgot b u).hor = if b.hor < u then u else b.hor := rfl
  have hp := inI_iff.1 (head_parts hr.head).2.2.2.2.2.2
  have le : u ≤ (forgot b u).hor := by rw [hh]; split <;> omega
  have le2 : b.hor ≤ (forgot b u).hor := by rw [hh]; split <;> omega
  have le3 : (forgot b u).hor ≤ b.mod := by rw [hh]; split <;> omega
  have ft : (forgot b u).tombs = b.tombs.filter (fun t => decide (u < t.mod)) := rfl
  have e1 : (forgot b u).tombs.filter (fun t => decide ((forgot b u).hor < t.mod)) = b.tombs.filter (fun t => decide ((forgot b u).hor < t.mod)) := by
    rw [ft, List.filter_filter]
    refine List.filter_congr fun t ht => ?_
    have := (hr.tomb t ht).m1
    rw [Bool.eq_iff_iff]
    simp only [Bool.and_eq_true, decide_eq_true_eq]
    omega
  have y2 := vanV_yes h (since := (forgot b u).hor) (by omega)
  refine ⟨forgetV_yes h hu, ok, ?_, le, ?_, ?_, ?_, by rw [y2], ?_⟩
  · rw [hh]; split <;> omega
  · rw [vanV_no2 (by omega)]
  · rw [vanV_yes ok (by omega), goneL_all]
    rw [List.filter_eq_nil_iff.2 (fun t ht => by have := (hr2.tomb t ht).m2; have e : (forgot b u).mod = b.mod := rfl; simp; omega)]
    rfl
  · rw [vanV_yes ok (by omega), y2, goneL_all, goneL_all, e1]
  · rw [y2, goneL_all]
    have hl : ((b.tombs.filter (fun t => decide ((forgot b u).hor < t.mod))).map (·.uid)).length ≤ 40 := by
      rw [List.length_map]; exact Nat.le_trans (List.length_filter_le _ _) (head_parts hr.head).2.2.2.2.2.1
    have h9 := (inI_iff.1 (head_parts hr.head).2.2.1).2
    have := (uidsV_inv _ _ rfl hl (fun x hx => by
      obtain ⟨t, ht, rfl⟩ := List.mem_map.1 hx
      have := hr.tomb t (List.mem_filter.1 ht).1
      exact ⟨this.u1, by have := this.u2; omega⟩)).2.1
    show (uidsV _).length ≤ _
    omega
end Go.Proofs.YtfemplekibpfoaaGreat.Plain

/- Those that are expunged, plainly: what FnExpunges asks. -/
namespace Go.Proofs.YtfemplekibpfoaaGreat.Plain
open Go.RowKit
set_option linter.unusedVariables false

theorem cnt_one8 {u : Int} (h1 : 1 ≤ u) (h2 : u ≤ 9999) : cntTo (fun n => decide ((n : Int) = u)) 9999 = 1 := by
  have e3 := cnt_range (lo := u) (hi := u) h1 (by omega) 9999
  rw [if_neg (by omega)] at e3
  have e4 : cntTo (fun n => decide ((n : Int) = u)) 9999 = cntTo (fun n => decide (u ≤ (n : Int)) && decide ((n : Int) ≤ u)) 9999 := cnt_congr fun n _ _ => by
    rw [Bool.eq_iff_iff]
    simp only [Bool.and_eq_true, decide_eq_true_eq]
    omega
  rw [e4, e3]
  split <;> omega
theorem cnt_list : ∀ (l : List Int), l.Nodup → (∀ u ∈ l, 1 ≤ u ∧ u ≤ 9999) → cntTo (fun n => decide ((n : Int) ∈ l)) 9999 = (l.length : Int) := by
  intro l
  induction l with
  | nil =>
    intro _ _
    exact (cnt_congr fun n _ _ => by simp).trans cnt_none
  | cons u l ih =>
    intro hn hu
    rw [List.nodup_cons] at hn
    have hu1 := hu u (by simp)
    have i := ih hn.2 (fun x hx => hu x (by simp [hx]))
    have e := cnt_or (f := fun n => decide ((n : Int) = u)) (g := fun n => decide ((n : Int) ∈ l)) (N := 9999)
    have e2 : cntTo (fun n => decide ((n : Int) = u) && decide ((n : Int) ∈ l)) 9999 = 0 := by
      rw [← cnt_none (N := 9999)]
      refine cnt_congr fun n _ _ => ?_
      rw [Bool.eq_false_iff]
      intro h
      simp only [Bool.and_eq_true, decide_eq_true_eq] at h
      exact hn.1 (h.1 ▸ h.2)
    have e1 : cntTo (fun n => decide ((n : Int) ∈ u :: l)) 9999 = cntTo (fun n => decide ((n : Int) = u) || decide ((n : Int) ∈ l)) 9999 := cnt_congr fun n _ _ => by
      rw [Bool.eq_iff_iff]
      simp
    rw [e1]
    rw [e2, cnt_one8 hu1.1 hu1.2, i] at e
    rw [List.length_cons]
    omega
theorem uids_size {l : List Int} (hn : l.Nodup) (hl : l.length ≤ 40) (hu : ∀ u ∈ l, 1 ≤ u ∧ u ≤ 9999) : sizeL (uidsV l) = (l.length : Int) := by
  obtain ⟨i1, i2, i3⟩ := uidsV_inv _ l rfl hl hu
  rw [size_cnt i1, ← cnt_list l hn hu]
  exact cnt_congr fun n _ _ => i3 (n : Int)
theorem del_bit : ∀ a : Fin 32, decide (0 < andTo (a.val : Int) 8 5) = (((a.val : Int).tdiv 8).tmod 2 == 1) := by decide +kernel
theorem part_len (p : Ml → Bool) : ∀ l : List Ml, (l.filter (fun m => !p m)).length + (l.filter p).length = l.length := by
  intro l
  induction l with
  | nil => rfl
  | cons x l ih =>
    cases hq : p x with
    | true => rw [List.filter_cons_of_neg (by rw [hq]; decide), List.filter_cons_of_pos hq, List.length_cons, List.length_cons]; omega
    | false => rw [List.filter_cons_of_pos (by rw [hq]; rfl), List.filter_cons_of_neg (by rw [hq]; decide), List.length_cons, List.length_cons]; omega
theorem trim_is : ∀ (n : Nat) (ts : List Tb) (hor : Int), ts.Pairwise TombLt → (∀ t ∈ ts, hor < t.mod) → ts.length ≤ n →
    (trimS n (ts, hor)).1 = ts.filter (fun t => decide ((trimS n (ts, hor)).2 < t.mod)) := by
  intro n
  induction n with
  | zero =>
    intro ts hor hp hh hl
    exact (List.filter_eq_self.2 fun t ht => decide_eq_true (hh t ht)).symm
  | succ n ih =>
    intro ts hor hp hh hl
    unfold trimS
    split
    · exact (List.filter_eq_self.2 fun t ht => decide_eq_true (hh t ht)).symm
    · cases ts with
      | nil => rename_i h; simp at h
      | cons t r =>
        have hs : ((t :: r).dropWhile (fun y => decide (y.mod ≤ t.mod))).Sublist (t :: r) := List.dropWhile_sublist _
        have hd := drop_less t r
        have hl2 : ((t :: r).dropWhile (fun y => decide (y.mod ≤ t.mod))).length ≤ n := by simp only [List.length_cons] at hl; omega
        have i := ih _ t.mod (hp.sublist hs) (drop_all hp) hl2
        obtain ⟨_, i2, _⟩ := trim_right n _ t.mod (hp.sublist hs) (drop_all hp) hl2
        show (trimS n ((t :: r).dropWhile (fun y => decide (y.mod ≤ t.mod)), t.mod)).1 = (t :: r).filter (fun x => decide ((trimS n ((t :: r).dropWhile (fun y => decide (y.mod ≤ t.mod)), t.mod)).2 < x.mod))
        rw [i]
        generalize (trimS n ((t :: r).dropWhile (fun y => decide (y.mod ≤ t.mod)), t.mod)).2 = h9 at i2
        rw [filter_drop _ _ (hp.imp fun h => by unfold TombLt at h; omega), List.filter_filter]
        refine List.filter_congr fun x _ => ?_
        rw [Bool.eq_iff_iff]
        simp only [Bool.and_eq_true, decide_eq_true_eq]
        omega
def allS : List Rg := [⟨1, 9999⟩]
structure Expunges (b n : Bx) (G : List Rg) : Prop where
  ok : boxOk n = true
  each : ∀ m ∈ b.mails, hasB G m.uid = ((m.flags.tdiv 8).tmod 2 == 1) ∧ decide (m.uid ∈ n.mails.map (·.uid)) = !hasB G m.uid
  size : (n.mails.length : Int) + sizeL G = (b.mails.length : Int)
  next : n.next = b.next
  told : (vanV n b.mod).2 = true → (vanV n b.mod).1 = G
  small : G.length ≤ 1048576 ∧ (vanV n b.mod).1.length ≤ 1048576
theorem expunges {b : Bx} (hb : boxOk b = true) (hm : b.mod < 100000) : Expunges b (expV b allS).1 (expV b allS).2 := by
  have hr := right_of hb; have h9 := (inI_iff.1 (head_parts hr.head).2.2.1).2; have hE := expBox_right allS hb hm
  have hall : ∀ m ∈ b.mails, isGone allS m = ((m.flags.tdiv 8).tmod 2 == 1) := by
    intro m hm
    have hr2 := hr.mail m hm
    have hu : hasB allS m.uid = true := by
      unfold hasB allS
      have h1 := hr2.u1; have h2 := hr2.u2
      simp only [List.any_cons, List.any_nil, Bool.or_false, Bool.and_eq_true, decide_eq_true_eq]
      omega
    have hf := hr2.fl
    unfold flOk at hf
    rw [Bool.and_eq_true] at hf
    have k1 := of_decide_eq_true hf.1; have k2 := of_decide_eq_true hf.2
    obtain ⟨x, hx⟩ : ∃ x : Fin 32, (x.val : Int) = m.flags := ⟨⟨m.flags.toNat, by omega⟩, by show ((m.flags.toNat : Nat) : Int) = _; omega⟩
    unfold isGone
    rw [hu, Bool.true_and, ← hx]
    exact del_bit x
  obtain ⟨f1, f2⟩ := filt_has hb (isGone allS)
  have hG : uidsV (goneM allS b.mails) = uidsV ((b.mails.filter (isGone allS)).map (·.uid)) := rfl
  have hnd : (goneM allS b.mails).Nodup := by
    unfold goneM
    rw [List.nodup_iff_pairwise_ne, List.pairwise_map]
    exact (hr.asc.sublist List.filter_sublist).imp fun h e => by omega
  obtain ⟨g1, g2⟩ := goneM_right (s := allS) hb
  have hpart : (leftM allS b.mails).length + (goneM allS b.mails).length = b.mails.length := by
    unfold leftM goneM
    rw [List.length_map]
    exact part_len (isGone allS) b.mails
  by_cases hz : goneM allS b.mails = []
  · have e : expV b allS = (b, []) := expV_no2 hz
    rw [e]
    have hno : ∀ m ∈ b.mails, isGone allS m = false := by
      intro m hm
      cases hq : isGone allS m with
      | false => rfl
      | true =>
        have : m.uid ∈ goneM allS b.mails := List.mem_map.2 ⟨m, List.mem_filter.2 ⟨hm, hq⟩, rfl⟩
        rw [hz] at this
        cases this
    have hv : (vanV b b.mod).1 = [] := by
      unfold vanV
      split
      · show goneL b b.mod = []
        rw [goneL_all, List.filter_eq_nil_iff.2 (fun t ht => by have := (hr.tomb t ht).m2; simp; omega)]
        rfl
      · rfl
    refine ⟨hb, fun m hm => ⟨?_, ?_⟩, by show (b.mails.length : Int) + 0 = _; omega, rfl, fun _ => hv, by simp, by rw [hv]; simp⟩
    · rw [← hall m hm, hno m hm]; rfl
    · rw [decide_eq_true (List.mem_map.2 ⟨m, hm, rfl⟩)]; rfl
  · have e : expV b allS = (expBox b allS, uidsV (goneM allS b.mails)) := expV_yes (by rw [hb]; decide) hz hE
    rw [e]
    obtain ⟨d1, d2, d3⟩ := dead_all allS hr
    have ti := trim_is _ _ b.hor d1 (fun t ht => (d3 t ht).1) (Nat.le_refl _)
    have htold : ¬ b.mod < (expBox b allS).hor → goneL (expBox b allS) b.mod = uidsV (goneM allS b.mails) := by
      intro hq
      rw [goneL_all]
      have e1 : (expBox b allS).tombs = (b.tombs ++ tombsOf b (goneM allS b.mails)).filter (fun t => decide ((expBox b allS).hor < t.mod)) := ti
      rw [e1, List.filter_filter, List.filter_congr (q := fun t => decide (b.mod < t.mod)) (fun t _ => by
        rw [Bool.eq_iff_iff]
        simp only [Bool.and_eq_true, decide_eq_true_eq]
        omega), List.filter_append, List.filter_eq_nil_iff.2 (fun t ht => by have := (hr.tomb t ht).m2; simp; omega), List.nil_append, List.filter_eq_self.2 (fun t ht => by
        obtain ⟨u, _, rfl⟩ := List.mem_map.1 ht
        exact decide_eq_true (show b.mod < b.mod + 1 by omega))]
      unfold tombsOf
      rw [List.map_map]
      show uidsV ((goneM allS b.mails).map (fun u => u)) = _
      rw [List.map_id']
    refine ⟨hE, fun m hm => ⟨?_, ?_⟩, ?_, rfl, fun ht => ?_, by rw [hG]; exact f2, ?_⟩
    · rw [hG, f1 m hm, hall m hm]
    · rw [hG, f1 m hm]
      have := filt_uid hr.asc (fun x => !isGone allS x) hm
      rw [Bool.eq_iff_iff, decide_eq_true_eq]
      exact this
    · rw [uids_size hnd (by omega) g2]
      show ((leftM allS b.mails).length : Int) + _ = _
      omega
    · have hq : ¬ b.mod < (expBox b allS).hor := fun h => by rw [vanV_no2 h] at ht; cases ht
      rw [vanV_yes hE hq]
      exact htold hq
    · by_cases hq : b.mod < (expBox b allS).hor
      · rw [vanV_no2 hq]; simp
      · rw [vanV_yes hE hq]
        show (goneL _ _).length ≤ _
        rw [htold hq, hG]; exact f2
end Go.Proofs.YtfemplekibpfoaaGreat.Plain

/- The laws' own all, in and uids. Made by gen_uidsl.py. -/
namespace Go.Proofs.YtfemplekibpfoaaGreat
open Go.RowKit
open Plain
set_option linter.unusedVariables false
set_option linter.unusedSimpArgs false

theorem all_any (w : World) : Calls Tryz.prog 11 #[] w fun e w' => ∃ v, e = .returned v ∧ OwnR w.heap.size w' v allS ∧ Below w.heap.size w w' := by
  obtain ⟨w1, h1⟩ : ∃ X, X = w.alloc (.cells ([.int .i64 1, .int .i64 9999] : List Value).toArray 86) := ⟨_, rfl⟩
  have O : OwnR w.heap.size w1 (.slice (some ⟨w.heap.size, 0, none⟩) 1 1) allS := by rw [h1]; exact World.ownsRow_lit (size := 2) (e := 86) w #[.int .i64 1, .int .i64 9999] 1 (Nat.le_refl _) (by decide) rfl
  have hb : Below w.heap.size w w1 := by rw [h1]; exact (Below.refl _ _).alloc (Nat.le_refl _) _
  have E1 := h1.symm; have O1 := hide O; have B1 := hide hb; clear O hb h1
  go_enter Tryz.func11, Tryz.ntmps11
  go_wp2
  go_ret
  exact ⟨_, rfl, unhide O1, unhide B1⟩
set_option maxHeartbeats 2000000 in
theorem in_list (l : List Int) (x : Int) (v : Value) (B : Nat) (w : World) (hs : l.length ≤ 1048576) (h : OwnI B w v l) :
    Calls Tryz.prog 17 #[v, .int .i64 x] w fun e w' => e = .returned (.bool (decide (x ∈ l))) ∧ Below w.heap.size w w' := by
  obtain ⟨av, cv, rfl⟩ := g_shape h
  obtain ⟨n, hn⟩ : ∃ n, n = l.length := ⟨_, rfl⟩
  have C := hide (fun k y (hx : l[k]? = some y) => OwnI.cell h hx)
  rw [← hn] at hs ⊢
  have HN := hide hn; clear h hn
  go_enter Tryz.func17, Tryz.ntmps17
  go_wp2
  go_loopw [5] (fun i wr => ∃ k : Nat, k ≤ n ∧ i = .int .i64 k ∧ (∀ y ∈ l.take k, y ≠ x) ∧ wr = w) (fun i _ => n - (intOf i).toNat)
  case atStart => exact ⟨0, Nat.zero_le _, rfl, fun y hy => by simp at hy, rfl⟩
  case round =>
    obtain ⟨k, hk, rfl, hno, rfl⟩ := hrel
    by_cases hlt : k < n
    · have hkl : k < l.length := by rw [← unhide HN]; exact hlt
      have hgk : l[k]? = some l[k] := List.getElem?_eq_getElem hkl
      obtain ⟨g, c, e, _, _, c0⟩ := unhide C k _ hgk
      have e1 := (Value.slice.inj e).1; clear e
      subst e1
      have MEM := hide (List.getElem_mem hkl)
      have NX : Hid (∀ z, l[k] ≠ z → (∀ y ∈ l.take k, y ≠ z) → ∀ y ∈ l.take (k + 1), y ≠ z) := fun z hz hh y hy => by
        rw [List.take_add_one, hgk] at hy
        rcases List.mem_append.1 hy with h1 | h1
        · exact hh y h1
        · simp at h1; rw [h1]; exact hz
      clear hgk
      generalize l[k] = f at *
      have i1 : (0 : Int) ≤ (k : Int) := by omega
      have i2 : (k : Int) < (n : Int) := by omega
      have HNO := hide hno; clear hno
      by_cases hf : f = x
      · subst hf
        have V := hide (decide_eq_true (unhide MEM)); clear MEM NX
        go_wp2
        go_ret
        exact ⟨by rw [unhide V]; rfl, Below.refl _ _⟩
      · have d : (f == x) = false := beq_eq_false_iff_ne.2 hf
        have NX2 := hide (unhide NX x hf (unhide HNO)); clear NX hf MEM
        go_wp2
        go_roundw
        case rel => exact ⟨k + 1, by omega, by go_num, unhide NX2, trivial⟩
        case measure => simp [intOf]; omega
    · have V : Hid (decide (x ∈ l) = false) := decide_eq_false (fun hm => hno x (by rw [List.take_of_length_le (by have := unhide HN; omega)]; exact hm) rfl)
      clear hno
      go_wp2
      go_ret
      exact ⟨by rw [unhide V]; rfl, Below.refl _ _⟩
namespace Plain
def uidsTo (b : Bx) (k : Nat) : List Int := (b.mails.take k).map (·.uid)
theorem uidsTo_next {b : Bx} {k : Nat} {m : Ml} (h : b.mails[k]? = some m) : uidsTo b (k + 1) = uidsTo b k ++ [m.uid] := by unfold uidsTo; rw [List.take_add_one, h, List.map_append]; rfl
theorem uidsTo_len (b : Bx) (k : Nat) : (uidsTo b k).length ≤ b.mails.length := by simp [uidsTo]; omega
theorem uidsTo_all (b : Bx) : uidsTo b b.mails.length = b.mails.map (·.uid) := by unfold uidsTo; rw [List.take_length]
end Plain
set_option maxHeartbeats 8000000 in
set_option maxRecDepth 100000 in
theorem uids_list (b : Bx) (m t : Value) (B : Nat) (w : World) (hl : b.mails.length ≤ 1048576) (h : OwnBx B w m t b) :
    Calls Tryz.prog 18 #[boxV b m t] w fun e w' => ∃ v, e = .returned v ∧ OwnI w.heap.size w' v (b.mails.map (·.uid)) ∧ Below w.heap.size w w' := by
  obtain ⟨iI, hI, hI0, hI1, hI2⟩ := info_parts Tryz.infoIntR
  have HM := hide (fun (W : World) hb k f hx => ml_read (W := W) h.1 hb (k := k) (f := f) hx)
  obtain ⟨am, cm, rfl⟩ := g_shape h.1
  obtain ⟨at1, ct1, rfl⟩ := g_shape h.2
  clear h; have BB := hide (Below.refl w.heap.size w)
  obtain ⟨w1, hP⟩ : ∃ X, X = w.alloc (.cells ([.string b.name, .int .i64 b.valid, .int .i64 b.next, .int .i64 b.mod, .slice am b.mails.length cm, .slice at1 b.tombs.length ct1, .int .i64 b.hor] : List Value).toArray 27) := ⟨_, rfl⟩
  have Px : HasObj w1 w.heap.size 27 [.string b.name, .int .i64 b.valid, .int .i64 b.next, .int .i64 b.mod, .slice am b.mails.length cm, .slice at1 b.tombs.length ct1, .int .i64 b.hor] := by rw [hP]; exact HasObj.new _ _ _
  have hbn : Below w.heap.size w w1 := by rw [hP]; exact (Below.refl _ _).alloc (Nat.le_refl _) _
  have loP : w.heap.size ≤ w.heap.size := (unhide BB).size
  have EP := hP.symm; clear hP; have sz1 := hide (hbn.size); replace BB := hide (below_y (unhide BB) hbn); clear hbn; have P := hide Px; clear Px
  obtain ⟨w2, hOM⟩ : ∃ X, X = w1.alloc (.cells #[] 3) := ⟨_, rfl⟩
  have oOM : OwnI w1.heap.size w2 (.slice (some ⟨w1.heap.size, 0, none⟩) 0 0) [] := by rw [hOM]; exact World.ownsRow_lit (size := 1) (e := 3) w1 #[] 0 (Nat.le_refl _) (Nat.zero_le _) rfl
  have hbn : Below w1.heap.size w1 w2 := by rw [hOM]; exact (Below.refl _ _).alloc (Nat.le_refl _) _
  have EOM := hOM.symm; clear hOM; replace P := hide ((unhide P).ups hbn); have sz2 := hide (hbn.size); replace BB := hide (below_y (unhide BB) hbn); clear hbn; have OM := hide oOM; clear oOM; have Pc0_1 := (unhide P).cell 0 rfl; have Pc1_1 := (unhide P).cell 1 rfl; have Pc2_1 := (unhide P).cell 2 rfl; have Pc3_1 := (unhide P).cell 3 rfl; have Pc4_1 := (unhide P).cell 4 rfl; have Pc5_1 := (unhide P).cell 5 rfl; have Pc6_1 := (unhide P).cell 6 rfl
  go_enter Tryz.func18, Tryz.ntmps18
  go_wp2
  clear Pc0_1 Pc1_1 Pc2_1 Pc3_1 Pc4_1 Pc5_1 Pc6_1 EP EOM
  go_loopw [3, 4] (fun v i wr => ∃ k : Nat, k ≤ b.mails.length ∧ i = .int .i64 k ∧ HasObj wr w.heap.size 27 [.string b.name, .int .i64 b.valid, .int .i64 b.next, .int .i64 b.mod, .slice am b.mails.length cm, .slice at1 b.tombs.length ct1, .int .i64 b.hor] ∧ OwnI w.heap.size wr v (uidsTo b k) ∧ Below w.heap.size w wr) (fun _ i _ => b.mails.length - (intOf i).toNat)
  case atStart => exact ⟨0, Nat.zero_le _, rfl, unhide P, g_based (unhide OM) (by have sz1_ := unhide sz1; have sz2_ := unhide sz2; omega), unhide BB⟩
  clear P BB OM
  case round =>
    obtain ⟨k, hk, rfl, hP, hown, hbel⟩ := hrel
    obtain ⟨wo, hwo⟩ : ∃ wo, wo = wr := ⟨_, rfl⟩
    subst hwo
    obtain ⟨av, cv, rfl⟩ := g_shape hown
    by_cases hlt : k < b.mails.length
    · have hgk : b.mails[k]? = some b.mails[k] := List.getElem?_eq_getElem hlt
      obtain ⟨g, c, e, hg, c0, _, _, _⟩ := unhide HM wo hbel k _ hgk
      have e1 := (Value.slice.inj e).1; clear e
      subst e1
      have NX := hide (uidsTo_next hgk); have LN := uidsTo_len b k
      generalize b.mails[k] = f at *
      have i1 : (0 : Int) ≤ (k : Int) := by omega
      have i2 : (k : Int) < (b.mails.length : Int) := by omega
      have P := hide hP; have OM := hide hown; have BB := hide hbel; clear hP hown hbel hgk; have Pc0_2 := (unhide P).cell 0 rfl; have Pc1_2 := (unhide P).cell 1 rfl; have Pc2_2 := (unhide P).cell 2 rfl; have Pc3_2 := (unhide P).cell 3 rfl; have Pc4_2 := (unhide P).cell 4 rfl; have Pc5_2 := (unhide P).cell 5 rfl; have Pc6_2 := (unhide P).cell 6 rfl; have lw3 := (unhide BB).size
      go_wp2_with (at_builtin; refine wpList_append_own _ rfl _ _ 40 rfl w.heap.size 3 iI _ 1 8 Tryz.underlying40 hI hI0 hI1 hI2 rfl (by decide) _ _ _ rfl (World.ownsRow.alloc (unhide OM) _) ⟨wo.heap.size, 0, none⟩ 1 1 [.int .i64 (f.uid)] rfl rfl (newsC _ _) ?c2 ?c3 ?c4 ?c5 ?_)
      clear Pc0_2 Pc1_2 Pc2_2 Pc3_2 Pc4_2 Pc5_2 Pc6_2 c0
      case c2 => intro u hu; simp [mlC, tbC, rgl] at hu; (try rcases hu with rfl | rfl | rfl | rfl) <;> (try rcases hu with rfl | rfl) <;> (try subst hu) <;> rfl
      case c3 => unfold maxLen; omega
      case c4 => omega
      case c5 => have q1_ := (unhide BB).size; simp; omega
      intro vOM3 wr3 hown hgr _
      have oa := World.ownsRow.alloc (unhide OM) (.cells ([.int .i64 (f.uid)] : List Value).toArray 3)
      have P_ := hide (((unhide P).alloc (.cells ([.int .i64 (f.uid)] : List Value).toArray 3)).kept hgr (fun e => ((unhide P).alloc (.cells ([.int .i64 (f.uid)] : List Value).toArray 3)).not_row (by decide) oa e.symm))
      have OM_ : Hid (OwnI w.heap.size wr3 vOM3 (uidsTo b (k + 1))) := by show OwnI _ _ _ _; rw [unhide NX]; exact OwnI.snoc hown
      have BB_ : Hid (Below w.heap.size w wr3) := ((unhide BB).alloc (unhide BB).size _).grown hgr (by have q1_ := (unhide BB).size; simp; omega) (fun b hb => by have q2_ := (World.ownsRow.lt (unhide OM) b hb).1; have q1_ := (unhide BB).size; omega)
      have sz101 : Hid (wo.heap.size ≤ wr3.heap.size) := by have q3_ := hgr.size; simp at q3_; show _ ≤ _; omega
      replace P := P_; clear P_; replace OM := OM_; clear OM_; replace BB := BB_; clear BB_; clear hown hgr oa lw3
      go_wp2
      go_roundw
      case rel => exact ⟨k + 1, by omega, by go_num, unhide P, unhide OM, unhide BB⟩
      case measure => simp [intOf]; omega
    · obtain rfl : k = b.mails.length := by omega
      have c4 := hP.cell 4 rfl; have OM := hide hown; have BB := hide hbel; clear hP hown hbel
      go_wp2
      go_ret
      exact ⟨_, rfl, by rw [← uidsTo_all]; exact unhide OM, unhide BB⟩
end Go.Proofs.YtfemplekibpfoaaGreat

/- FnExpunges's walk, over whatever contracts of the program's own functions. Made by gen_fnexpunges.py. -/
namespace Go.Proofs.YtfemplekibpfoaaGreat
open Go.RowKit
open Plain
set_option linter.unusedVariables false
set_option linter.unusedSimpArgs false

theorem OwnR.drew {B : Nat} {W : World} {v : Value} {l : List Rg} (h : OwnR B W v l) : OwnR B W.drew v l := h
/-- What is asked of the program's functions. -/
structure ExpungesOk (w : World) : Prop where
  exp : ∀ (b : Bx) (m t vs : Value) (B B2 : Nat) (s : List Rg) (W : World), FitBx b → s.length ≤ 1048576 → OwnBx B W m t b → OwnR B2 W vs s → Below w.heap.size w W → Calls Tryz.prog 10 #[boxV b m t, vs] W fun e w' => ∃ m' t' vd, e = .returned (.tuple #[boxV (expV b s).1 m' t', vd]) ∧ OwnBx W.heap.size w' m' t' (expV b s).1 ∧ OwnR W.heap.size w' vd (expV b s).2 ∧ Below W.heap.size W w'
  has : ∀ (s : List Rg) (n : Int) (v : Value) (B : Nat) (W : World), s.length ≤ 1048576 → OwnR B W v s → Below w.heap.size w W → Calls Tryz.prog 16 #[v, .int .i64 n] W fun e w' => e = .returned (.bool (hasB s n)) ∧ Below W.heap.size W w'
  ok : ∀ (b : Bx) (m t : Value) (B : Nat) (W : World), FitBx b → OwnBx B W m t b → Below w.heap.size w W → Calls Tryz.prog 15 #[boxV b m t] W fun e w' => e = .returned (.bool (boxOk b)) ∧ Below W.heap.size W w'
  van : ∀ (b : Bx) (m t : Value) (B : Nat) (since : Int) (W : World), FitBx b → OwnBx B W m t b → Below w.heap.size w W → Calls Tryz.prog 19 #[boxV b m t, .int .i64 since] W fun e w' => ∃ v, e = .returned (.tuple #[v, .bool (vanV b since).2]) ∧ OwnR W.heap.size w' v (vanV b since).1 ∧ Below W.heap.size W w'
theorem sameSetE_held (l : List Rg) (v1 v2 : Value) (B1 B2 : Nat) (w : World) (hs : l.length ≤ 1048576) (h1 : OwnR B1 w v1 l) (h2 : OwnR B2 w v2 l) :
    Calls Tryz.prog 14 #[v1, v2] w fun e w' => e = .returned (.bool true) ∧ Below w.heap.size w w' :=
  (sameSet_same l v1 v2 w hs h1.read h2.read).mono fun e w' ⟨h, q, hq⟩ => ⟨h, by rw [hq]; exact below_dM w q⟩
theorem sizeE_held (l : List Rg) (v : Value) (B : Nat) (w : World) (hs : l.length ≤ 1048576) (h : OwnR B w v l) :
    Calls Tryz.prog 20 #[v] w fun e w' => e = .returned (.int .i64 (sizeL l)) ∧ Below w.heap.size w w' :=
  (spec_SetSize_any l v w hs h.read).mono fun e w' ⟨h, q, hq⟩ => ⟨h, by rw [hq]; exact below_dM w q⟩
theorem mailE_at {B : Nat} {w : World} {v : Value} {l : List Ml} {k : Nat} {x : Ml} (hv : OwnMl B w v l) (hx : l[k]? = some x) : ∃ g c, v = .slice (some ⟨g, 0, none⟩) l.length c ∧ w.cell? ⟨g, k * 4, none⟩ = some (.int .i64 x.uid) ∧ w.cell? ⟨g, k * 4 + 1, none⟩ = some (.int .i64 x.flags) ∧ w.cell? ⟨g, k * 4 + 2, none⟩ = some (.int .i64 x.mod) ∧ w.cell? ⟨g, k * 4 + 3, none⟩ = some (.string x.text) := by
  obtain ⟨g, c, e, _, c0, c1, c2, c3⟩ := ml_read hv (Below.refl _ _) hx
  exact ⟨g, c, e, c0, c1, c2, c3⟩
set_option maxHeartbeats 16000000 in
set_option maxRecDepth 100000 in
theorem FnExpunges_walk (len cap : Nat) (a : Option Addr) (w : World) (ha : Arg w.heap.size w a len) (CI : ExpungesOk w) :
    Calls Tryz.prog 3 #[.slice a len cap] w fun e w' => e = .returned (.bool true) ∧ Below w.heap.size w w' := by
  have hl := ha.1
  have q0 := bigF_any len cap a w (by omega)
  rw [decide_eq_false (show ¬ (1048576 : Int) < (len : Int) by omega)] at q0
  have Q0 := hide q0
  have D1 := hide (fun W (hb : Below w.heap.size w W) => DrawBoxM_any w.heap.size len cap a W (ha.below hb) hb.size)
  have CC := hide CI; clear q0 ha CI; have BB := hide (Below.refl w.heap.size w)
  go_enter Tryz.func3, Tryz.ntmps3
  go_wp2_with fail
  refine (unhide Q0).mono ?_
  rintro e w0 ⟨rfl, hw⟩
  subst w0
  go_wp2_with fail
  refine (unhide D1 _ (unhide BB)).mono ?_
  rintro e w1 ⟨b, mB, tB, rfl, ⟨hok, hmod⟩, oB, hb⟩
  obtain ⟨amB, cmB, rfl⟩ := g_shape oB.1
  obtain ⟨atB, ctB, rfl⟩ := g_shape oB.2
  have FIT := hide (fit_ok hok); have OK := hide hok; have h30 := (head_parts (boxOk_iff.1 hok).1).2.2.2.2.1
  have ST := expunges hok (by omega)
  obtain ⟨X, hX⟩ : ∃ X, X = expV b allS := ⟨_, rfl⟩
  rw [← hX] at ST
  have HX := hide hX; clear hX
  obtain ⟨n, G⟩ := X
  simp only at ST
  have OKN := hide ST.ok; have FITN := hide (fit_ok ST.ok); have c30 := (head_parts (boxOk_iff.1 ST.ok).1).2.2.2.2.1; have c40 := (head_parts (boxOk_iff.1 ST.ok).1).2.2.2.2.2.1; have EACH := hide ST.each; have SIZE := ST.size; have NEXT := hide ST.next; have TOLD := hide ST.told; have sG := ST.small.1; have sV := hide ST.small.2; clear ST; have OB_ := hide oB; clear hok oB; have sz1 := hide (hb.size); replace BB := hide (below_y (unhide BB) hb); clear hb; have OB := OB_; clear OB_
  obtain ⟨w2, hB⟩ : ∃ X, X = w1.alloc (.cells ([.string b.name, .int .i64 b.valid, .int .i64 b.next, .int .i64 b.mod, .slice amB b.mails.length cmB, .slice atB b.tombs.length ctB, .int .i64 b.hor] : List Value).toArray 27) := ⟨_, rfl⟩
  have Bx : HasObj w2 w1.heap.size 27 [.string b.name, .int .i64 b.valid, .int .i64 b.next, .int .i64 b.mod, .slice amB b.mails.length cmB, .slice atB b.tombs.length ctB, .int .i64 b.hor] := by rw [hB]; exact HasObj.new _ _ _
  have hbn : Below w1.heap.size w1 w2 := by rw [hB]; exact (Below.refl _ _).alloc (Nat.le_refl _) _
  have loB : w.heap.size ≤ w1.heap.size := (unhide BB).size
  have EB := hB.symm; clear hB; replace OB := hide ((unhide OB).up hbn); have sz2 := hide (hbn.size); replace BB := hide (below_y (unhide BB) hbn); clear hbn; have B := hide Bx; clear Bx; have Bc0_1 := (unhide B).cell 0 rfl; have Bc1_1 := (unhide B).cell 1 rfl; have Bc2_1 := (unhide B).cell 2 rfl; have Bc3_1 := (unhide B).cell 3 rfl; have Bc4_1 := (unhide B).cell 4 rfl; have Bc5_1 := (unhide B).cell 5 rfl; have Bc6_1 := (unhide B).cell 6 rfl
  go_wp2
  have B0 := BB
  go_cut [4, 5] from 12 (fun s4 s5 wc => ∃ (am at1 : Option Addr) (cm ct : Nat) (vg : Value) (bxN : Nat), s4 = .pointer (some ⟨bxN, 0, none⟩) ∧ vg = s5 ∧ OwnBx w2.heap.size wc (.slice am n.mails.length cm) (.slice at1 n.tombs.length ct) n ∧ OwnR w2.heap.size wc vg G ∧ HasObj wc bxN 27 [.string n.name, .int .i64 n.valid, .int .i64 n.next, .int .i64 n.mod, .slice am n.mails.length cm, .slice at1 n.tombs.length ct, .int .i64 n.hor] ∧ w2.heap.size ≤ bxN ∧ Below w2.heap.size w2 wc)
  case first =>
    clear BB; have BB := hide (Below.refl w2.heap.size w2)
    refine wp_region_held_drew (S := fun w' => w'.cell? ⟨w1.heap.size, 0, none⟩ = some (.string b.name) ∧ w'.cell? ⟨w1.heap.size, 1, none⟩ = some (.int .i64 b.valid) ∧ w'.cell? ⟨w1.heap.size, 2, none⟩ = some (.int .i64 b.next) ∧ w'.cell? ⟨w1.heap.size, 3, none⟩ = some (.int .i64 b.mod) ∧ w'.cell? ⟨w1.heap.size, 4, none⟩ = some (.slice amB b.mails.length cmB) ∧ w'.cell? ⟨w1.heap.size, 5, none⟩ = some (.slice atB b.tombs.length ctB) ∧ w'.cell? ⟨w1.heap.size, 6, none⟩ = some (.int .i64 b.hor)) (by kernel_rfl) (⟨(unhide B).cell 0 rfl, (unhide B).cell 1 rfl, (unhide B).cell 2 rfl, (unhide B).cell 3 rfl, (unhide B).cell 4 rfl, (unhide B).cell 5 rfl, (unhide B).cell 6 rfl⟩) (fun hHeld => ?_)
    clear EB; replace B := hide ((unhide B).drew); replace OB := hide ((unhide OB).drew); replace BB := hide ((unhide BB).drew)
    have sz3 : Hid (w2.heap.size ≤ w2.drew.heap.size) := Nat.le_refl _
    refine takeVal 0 (some 17) ?_ rfl (by kernel_rfl) (by kernel_rfl) (by kernel_rfl) rfl (fun _ _ _ h => h) (by rfl) (by assumption) ?_ ?_; rotate_left; (intro w hSw; (try dsimp only at hSw); go_simp <;> with_reducible rfl); simp only [Act.put, List.setIfInBounds_toArray, List.set_cons_zero, List.set_cons_succ]
    refine wpAnyH_ready (rs := [1, 6]) (by kernel_rfl) (by simp) ?_
    refine (AllReadyH.cons rfl (fun K hK => ?_) (AllReadyH.cons rfl (fun K hK => ?_) AllReadyH.nil))
    · skip
      go_simp
      refine (all_any _).mono ?_
      rintro e we3 ⟨vs, rfl, oS, hb⟩
      replace B := hide ((unhide B).ups hb); replace OB := hide ((unhide OB).up hb); have sz4 := hide (hb.size); replace BB := hide (below_y (unhide BB) hb); clear hb; have RS := hide oS; clear oS; go_wp2_with fail
      refine hK.out _ _ (⟨(unhide B).cell 0 rfl, (unhide B).cell 1 rfl, (unhide B).cell 2 rfl, (unhide B).cell 3 rfl, (unhide B).cell 4 rfl, (unhide B).cell 5 rfl, (unhide B).cell 6 rfl⟩) (fun hHeld2 => ?_)
      clear hK K hHeld; have hHeld := hHeld2; clear hHeld2
      try simp only [Act.put, List.setIfInBounds_toArray, List.set_cons_zero, List.set_cons_succ]
      refine wpAnyH_ready (rs := [2, 6]) (by kernel_rfl) (by simp) ?_
      refine (AllReadyH.cons rfl (fun K hK => ?_) (AllReadyH.cons rfl (fun K hK => ?_) AllReadyH.nil))
      · skip
        go_simp
        refine ((unhide CC).exp b _ _ _ _ _ allS _ (unhide FIT) (by decide) (unhide OB) (unhide RS) (below_y (unhide B0) (unhide BB))).mono ?_
        rintro e we4 ⟨mN, tN, vG, rfl, oN, oG, hb⟩
        rw [← unhide HX] at oN oG ⊢
        simp only at oN oG ⊢
        obtain ⟨amN, cmN, rfl⟩ := g_shape oN.1
        obtain ⟨atN, ctN, rfl⟩ := g_shape oN.2
        have oN2 : OwnBx w2.heap.size _ _ _ n := oN.based (unhide BB).size
        have oG2 : OwnR w2.heap.size _ _ G := g_based oG (unhide BB).size
        clear oN oG; replace B := hide ((unhide B).ups hb); replace OB := hide ((unhide OB).up hb); replace RS := hide ((unhide RS).up hb); have sz5 := hide (hb.size); replace BB := hide (below_y (unhide BB) hb); clear hb; have ON := hide oN2; have RG := hide oG2; clear oN2 oG2; go_wp2_with fail
        refine hK.out _ _ (⟨(unhide B).cell 0 rfl, (unhide B).cell 1 rfl, (unhide B).cell 2 rfl, (unhide B).cell 3 rfl, (unhide B).cell 4 rfl, (unhide B).cell 5 rfl, (unhide B).cell 6 rfl⟩) (fun hHeld2 => ?_)
        clear hK K hHeld; have hHeld := hHeld2; clear hHeld2
        try simp only [Act.put, List.setIfInBounds_toArray, List.set_cons_zero, List.set_cons_succ]
        refine takeVal 3 (some 16) ?_ rfl (by kernel_rfl) (by kernel_rfl) (by kernel_rfl) rfl (fun _ _ _ h => h) (by rfl) (by assumption) ?_ ?_; rotate_left; (intro w hSw; (try dsimp only at hSw); go_simp <;> with_reducible rfl); simp only [Act.put, List.setIfInBounds_toArray, List.set_cons_zero, List.set_cons_succ]
        refine takeVal 4 (some 20) ?_ rfl (by kernel_rfl) (by kernel_rfl) (by kernel_rfl) rfl (fun _ _ _ h => h) (by rfl) (by assumption) ?_ ?_; rotate_left; (intro w hSw; (try dsimp only at hSw); go_simp <;> with_reducible rfl); simp only [Act.put, List.setIfInBounds_toArray, List.set_cons_zero, List.set_cons_succ]
        refine takeVal 5 (some 21) ?_ rfl (by kernel_rfl) (by kernel_rfl) (by kernel_rfl) rfl (fun _ _ _ h => h) (by rfl) (by assumption) ?_ ?_; rotate_left; (intro w hSw; (try dsimp only at hSw); go_simp <;> with_reducible rfl); simp only [Act.put, List.setIfInBounds_toArray, List.set_cons_zero, List.set_cons_succ]
        refine wpAnyH_ready (rs := [6]) (by kernel_rfl) (by simp) ?_
        refine (AllReadyH.cons rfl (fun K hK => ?_) AllReadyH.nil)
        go_simp
        obtain ⟨we5, hX⟩ : ∃ X, X = (we4.alloc (.cells ([.string ⟨#[]⟩, .int .i64 0, .int .i64 0, .int .i64 0, .slice none 0 0, .slice none 0 0, .int .i64 0] : List Value).toArray 27)) := ⟨_, rfl⟩
        rw [← hX]
        have Nx : HasObj we5 we4.heap.size 27 [.string ⟨#[]⟩, .int .i64 0, .int .i64 0, .int .i64 0, .slice none 0 0, .slice none 0 0, .int .i64 0] := by rw [hX]; exact HasObj.new _ _ _
        have hbn : Below we4.heap.size we4 we5 := by rw [hX]; exact (Below.refl we4.heap.size we4).alloc (Nat.le_refl _) _
        clear hX
        have neBN : w1.heap.size ≠ we4.heap.size := Nat.ne_of_lt (unhide B).lt
        have loN : w2.heap.size ≤ we4.heap.size := (unhide BB).size
        replace B := hide ((unhide B).ups hbn); replace OB := hide ((unhide OB).up hbn); replace RS := hide ((unhide RS).up hbn); replace ON := hide ((unhide ON).up hbn); replace RG := hide ((unhide RG).up hbn); have sz6 := hide (hbn.size); replace BB := hide (below_y (unhide BB) hbn); clear hbn; have N := hide Nx; clear Nx
        refine hK.out _ _ (⟨(unhide B).cell 0 rfl, (unhide B).cell 1 rfl, (unhide B).cell 2 rfl, (unhide B).cell 3 rfl, (unhide B).cell 4 rfl, (unhide B).cell 5 rfl, (unhide B).cell 6 rfl⟩) (fun hHeld2 => ?_)
        clear hK K hHeld; have hHeld := hHeld2; clear hHeld2
        try simp only [Act.put, List.setIfInBounds_toArray, List.set_cons_zero, List.set_cons_succ]
        have Nf0 := (unhide N).frozen 0; have Nf1 := (unhide N).frozen 1; have Nf2 := (unhide N).frozen 2; have Nf3 := (unhide N).frozen 3; have Nf4 := (unhide N).frozen 4; have Nf5 := (unhide N).frozen 5; have Nf6 := (unhide N).frozen 6; have Ne0 := (unhide N).cell 0 rfl; have Ne1 := (unhide N).cell 1 rfl; have Ne2 := (unhide N).cell 2 rfl; have Ne3 := (unhide N).cell 3 rfl; have Ne4 := (unhide N).cell 4 rfl; have Ne5 := (unhide N).cell 5 rfl; have Ne6 := (unhide N).cell 6 rfl; have F_ := hide (fill7 (unhide N) (.string n.name) (.int .i64 n.valid) (.int .i64 n.next) (.int .i64 n.mod) (.slice amN n.mails.length cmN) (.slice atN n.tombs.length ctN) (.int .i64 n.hor))
        refine wpAnyH_ready (rs := [7]) (by kernel_rfl) (by simp) ?_
        refine AllReadyH.cons rfl (fun K hK => ?_) AllReadyH.nil
        go_simp
        obtain ⟨we6, hU⟩ : ∃ U, U = (((((((we5.setCell ⟨we4.heap.size, 0, none⟩ (.string n.name)).setCell ⟨we4.heap.size, 1, none⟩ (.int .i64 n.valid)).setCell ⟨we4.heap.size, 2, none⟩ (.int .i64 n.next)).setCell ⟨we4.heap.size, 3, none⟩ (.int .i64 n.mod)).setCell ⟨we4.heap.size, 4, none⟩ (.slice amN n.mails.length cmN)).setCell ⟨we4.heap.size, 5, none⟩ (.slice atN n.tombs.length ctN)).setCell ⟨we4.heap.size, 6, none⟩ (.int .i64 n.hor)) := ⟨_, rfl⟩
        have F := unhide F_
        rw [← hU] at F ⊢
        clear hU F_; clear Nf0 Nf1 Nf2 Nf3 Nf4 Nf5 Nf6 Ne0 Ne1 Ne2 Ne3 Ne4 Ne5 Ne6; have B_ := hide (F.other neBN (unhide B)); have N_ := hide (F.obj)
        have OB_ : Hid (OwnBx w.heap.size we6 (.slice amB b.mails.length cmB) (.slice atB b.tombs.length ctB) b) := ⟨F.row (by decide) (unhide OB).1, F.row (by decide) (unhide OB).2⟩
        have RS_ : Hid (OwnR w2.drew.heap.size we6 (vs) (allS)) := F.row (by decide) (unhide RS)
        have ON_ : Hid (OwnBx w2.heap.size we6 (.slice amN n.mails.length cmN) (.slice atN n.tombs.length ctN) n) := ⟨F.row (by decide) (unhide ON).1, F.row (by decide) (unhide ON).2⟩
        have RG_ : Hid (OwnR w2.heap.size we6 (vG) (G)) := F.row (by decide) (unhide RG)
        have BB_ : Hid (Below w2.heap.size w2 we6) := F.below loN (unhide BB)
        have sz7 : Hid (we5.heap.size ≤ we6.heap.size) := by show _ ≤ _; rw [F.size]; exact Nat.le_refl _
        replace B := B_; clear B_; replace N := N_; clear N_; replace OB := OB_; clear OB_; replace RS := RS_; clear RS_; replace ON := ON_; clear ON_; replace RG := RG_; clear RG_; replace BB := BB_; clear BB_; clear F
        refine hK.out _ _ (⟨(unhide B).cell 0 rfl, (unhide B).cell 1 rfl, (unhide B).cell 2 rfl, (unhide B).cell 3 rfl, (unhide B).cell 4 rfl, (unhide B).cell 5 rfl, (unhide B).cell 6 rfl⟩) (fun hHeld2 => ?_)
        clear hK K hHeld; have hHeld := hHeld2; clear hHeld2
        try simp only [Act.put, List.setIfInBounds_toArray, List.set_cons_zero, List.set_cons_succ]
        refine takeVal 8 (some 5) ?_ rfl (by kernel_rfl) (by kernel_rfl) (by kernel_rfl) rfl (fun _ _ _ h => h) (by rfl) (by assumption) ?_ ?_; rotate_left; (intro w hSw; (try dsimp only at hSw); go_simp <;> with_reducible rfl); simp only [Act.put, List.setIfInBounds_toArray, List.set_cons_zero, List.set_cons_succ]
        refine wpAnyH_done (by kernel_rfl) ?_ _
        go_wp2
        go_meet
        case rel => exact ⟨_, _, _, _, _, _, rfl, rfl, unhide ON, unhide RG, unhide N, loN, unhide BB⟩
      · skip
        go_simp
        obtain ⟨we4, hX⟩ : ∃ X, X = (we3.alloc (.cells ([.string ⟨#[]⟩, .int .i64 0, .int .i64 0, .int .i64 0, .slice none 0 0, .slice none 0 0, .int .i64 0] : List Value).toArray 27)) := ⟨_, rfl⟩
        rw [← hX]
        have Nx : HasObj we4 we3.heap.size 27 [.string ⟨#[]⟩, .int .i64 0, .int .i64 0, .int .i64 0, .slice none 0 0, .slice none 0 0, .int .i64 0] := by rw [hX]; exact HasObj.new _ _ _
        have hbn : Below we3.heap.size we3 we4 := by rw [hX]; exact (Below.refl we3.heap.size we3).alloc (Nat.le_refl _) _
        clear hX
        have neBN : w1.heap.size ≠ we3.heap.size := Nat.ne_of_lt (unhide B).lt
        have loN : w2.heap.size ≤ we3.heap.size := (unhide BB).size
        replace B := hide ((unhide B).ups hbn); replace OB := hide ((unhide OB).up hbn); replace RS := hide ((unhide RS).up hbn); have sz5 := hide (hbn.size); replace BB := hide (below_y (unhide BB) hbn); clear hbn; have N := hide Nx; clear Nx
        refine hK.out _ _ (⟨(unhide B).cell 0 rfl, (unhide B).cell 1 rfl, (unhide B).cell 2 rfl, (unhide B).cell 3 rfl, (unhide B).cell 4 rfl, (unhide B).cell 5 rfl, (unhide B).cell 6 rfl⟩) (fun hHeld2 => ?_)
        clear hK K hHeld; have hHeld := hHeld2; clear hHeld2
        try simp only [Act.put, List.setIfInBounds_toArray, List.set_cons_zero, List.set_cons_succ]
        refine wpAnyH_ready (rs := [2]) (by kernel_rfl) (by simp) ?_
        refine (AllReadyH.cons rfl (fun K hK => ?_) AllReadyH.nil)
        go_simp
        refine ((unhide CC).exp b _ _ _ _ _ allS _ (unhide FIT) (by decide) (unhide OB) (unhide RS) (below_y (unhide B0) (unhide BB))).mono ?_
        rintro e we5 ⟨mN, tN, vG, rfl, oN, oG, hb⟩
        rw [← unhide HX] at oN oG ⊢
        simp only at oN oG ⊢
        obtain ⟨amN, cmN, rfl⟩ := g_shape oN.1
        obtain ⟨atN, ctN, rfl⟩ := g_shape oN.2
        have oN2 : OwnBx w2.heap.size _ _ _ n := oN.based (unhide BB).size
        have oG2 : OwnR w2.heap.size _ _ G := g_based oG (unhide BB).size
        clear oN oG; replace B := hide ((unhide B).ups hb); replace N := hide ((unhide N).ups hb); replace OB := hide ((unhide OB).up hb); replace RS := hide ((unhide RS).up hb); have sz6 := hide (hb.size); replace BB := hide (below_y (unhide BB) hb); clear hb; have ON := hide oN2; have RG := hide oG2; clear oN2 oG2; go_wp2_with fail
        refine hK.out _ _ (⟨(unhide B).cell 0 rfl, (unhide B).cell 1 rfl, (unhide B).cell 2 rfl, (unhide B).cell 3 rfl, (unhide B).cell 4 rfl, (unhide B).cell 5 rfl, (unhide B).cell 6 rfl⟩) (fun hHeld2 => ?_)
        clear hK K hHeld; have hHeld := hHeld2; clear hHeld2
        try simp only [Act.put, List.setIfInBounds_toArray, List.set_cons_zero, List.set_cons_succ]
        refine takeVal 3 (some 16) ?_ rfl (by kernel_rfl) (by kernel_rfl) (by kernel_rfl) rfl (fun _ _ _ h => h) (by rfl) (by assumption) ?_ ?_; rotate_left; (intro w hSw; (try dsimp only at hSw); go_simp <;> with_reducible rfl); simp only [Act.put, List.setIfInBounds_toArray, List.set_cons_zero, List.set_cons_succ]
        refine takeVal 4 (some 20) ?_ rfl (by kernel_rfl) (by kernel_rfl) (by kernel_rfl) rfl (fun _ _ _ h => h) (by rfl) (by assumption) ?_ ?_; rotate_left; (intro w hSw; (try dsimp only at hSw); go_simp <;> with_reducible rfl); simp only [Act.put, List.setIfInBounds_toArray, List.set_cons_zero, List.set_cons_succ]
        refine takeVal 5 (some 21) ?_ rfl (by kernel_rfl) (by kernel_rfl) (by kernel_rfl) rfl (fun _ _ _ h => h) (by rfl) (by assumption) ?_ ?_; rotate_left; (intro w hSw; (try dsimp only at hSw); go_simp <;> with_reducible rfl); simp only [Act.put, List.setIfInBounds_toArray, List.set_cons_zero, List.set_cons_succ]
        have Nf0 := (unhide N).frozen 0; have Nf1 := (unhide N).frozen 1; have Nf2 := (unhide N).frozen 2; have Nf3 := (unhide N).frozen 3; have Nf4 := (unhide N).frozen 4; have Nf5 := (unhide N).frozen 5; have Nf6 := (unhide N).frozen 6; have Ne0 := (unhide N).cell 0 rfl; have Ne1 := (unhide N).cell 1 rfl; have Ne2 := (unhide N).cell 2 rfl; have Ne3 := (unhide N).cell 3 rfl; have Ne4 := (unhide N).cell 4 rfl; have Ne5 := (unhide N).cell 5 rfl; have Ne6 := (unhide N).cell 6 rfl; have F_ := hide (fill7 (unhide N) (.string n.name) (.int .i64 n.valid) (.int .i64 n.next) (.int .i64 n.mod) (.slice amN n.mails.length cmN) (.slice atN n.tombs.length ctN) (.int .i64 n.hor))
        refine wpAnyH_ready (rs := [7]) (by kernel_rfl) (by simp) ?_
        refine AllReadyH.cons rfl (fun K hK => ?_) AllReadyH.nil
        go_simp
        obtain ⟨we6, hU⟩ : ∃ U, U = (((((((we5.setCell ⟨we3.heap.size, 0, none⟩ (.string n.name)).setCell ⟨we3.heap.size, 1, none⟩ (.int .i64 n.valid)).setCell ⟨we3.heap.size, 2, none⟩ (.int .i64 n.next)).setCell ⟨we3.heap.size, 3, none⟩ (.int .i64 n.mod)).setCell ⟨we3.heap.size, 4, none⟩ (.slice amN n.mails.length cmN)).setCell ⟨we3.heap.size, 5, none⟩ (.slice atN n.tombs.length ctN)).setCell ⟨we3.heap.size, 6, none⟩ (.int .i64 n.hor)) := ⟨_, rfl⟩
        have F := unhide F_
        rw [← hU] at F ⊢
        clear hU F_; clear Nf0 Nf1 Nf2 Nf3 Nf4 Nf5 Nf6 Ne0 Ne1 Ne2 Ne3 Ne4 Ne5 Ne6; have B_ := hide (F.other neBN (unhide B)); have N_ := hide (F.obj)
        have OB_ : Hid (OwnBx w.heap.size we6 (.slice amB b.mails.length cmB) (.slice atB b.tombs.length ctB) b) := ⟨F.row (by decide) (unhide OB).1, F.row (by decide) (unhide OB).2⟩
        have RS_ : Hid (OwnR w2.drew.heap.size we6 (vs) (allS)) := F.row (by decide) (unhide RS)
        have ON_ : Hid (OwnBx w2.heap.size we6 (.slice amN n.mails.length cmN) (.slice atN n.tombs.length ctN) n) := ⟨F.row (by decide) (unhide ON).1, F.row (by decide) (unhide ON).2⟩
        have RG_ : Hid (OwnR w2.heap.size we6 (vG) (G)) := F.row (by decide) (unhide RG)
        have BB_ : Hid (Below w2.heap.size w2 we6) := F.below loN (unhide BB)
        have sz7 : Hid (we5.heap.size ≤ we6.heap.size) := by show _ ≤ _; rw [F.size]; exact Nat.le_refl _
        replace B := B_; clear B_; replace N := N_; clear N_; replace OB := OB_; clear OB_; replace RS := RS_; clear RS_; replace ON := ON_; clear ON_; replace RG := RG_; clear RG_; replace BB := BB_; clear BB_; clear F
        refine hK.out _ _ (⟨(unhide B).cell 0 rfl, (unhide B).cell 1 rfl, (unhide B).cell 2 rfl, (unhide B).cell 3 rfl, (unhide B).cell 4 rfl, (unhide B).cell 5 rfl, (unhide B).cell 6 rfl⟩) (fun hHeld2 => ?_)
        clear hK K hHeld; have hHeld := hHeld2; clear hHeld2
        try simp only [Act.put, List.setIfInBounds_toArray, List.set_cons_zero, List.set_cons_succ]
        refine takeVal 8 (some 5) ?_ rfl (by kernel_rfl) (by kernel_rfl) (by kernel_rfl) rfl (fun _ _ _ h => h) (by rfl) (by assumption) ?_ ?_; rotate_left; (intro w hSw; (try dsimp only at hSw); go_simp <;> with_reducible rfl); simp only [Act.put, List.setIfInBounds_toArray, List.set_cons_zero, List.set_cons_succ]
        refine wpAnyH_done (by kernel_rfl) ?_ _
        go_wp2
        go_meet
        case rel => exact ⟨_, _, _, _, _, _, rfl, rfl, unhide ON, unhide RG, unhide N, loN, unhide BB⟩
    · skip
      go_simp
      obtain ⟨we3, hX⟩ : ∃ X, X = (w2.alloc (.cells ([.string ⟨#[]⟩, .int .i64 0, .int .i64 0, .int .i64 0, .slice none 0 0, .slice none 0 0, .int .i64 0] : List Value).toArray 27)).drew := ⟨_, rfl⟩
      rw [← hX]
      have Nx : HasObj we3 w2.heap.size 27 [.string ⟨#[]⟩, .int .i64 0, .int .i64 0, .int .i64 0, .slice none 0 0, .slice none 0 0, .int .i64 0] := by rw [hX]; exact (HasObj.new _ _ _).drew
      have hbn : Below w2.drew.heap.size w2.drew we3 := by rw [hX]; exact (Below.refl w2.drew.heap.size w2.drew).alloc (Nat.le_refl _) _
      clear hX
      have neBN : w1.heap.size ≠ w2.heap.size := Nat.ne_of_lt (unhide B).lt
      have loN : w2.heap.size ≤ w2.heap.size := (unhide BB).size
      replace B := hide ((unhide B).ups hbn); replace OB := hide ((unhide OB).up hbn); have sz4 := hide (hbn.size); replace BB := hide (below_y (unhide BB) hbn); clear hbn; have N := hide Nx; clear Nx
      refine hK.out _ _ (⟨(unhide B).cell 0 rfl, (unhide B).cell 1 rfl, (unhide B).cell 2 rfl, (unhide B).cell 3 rfl, (unhide B).cell 4 rfl, (unhide B).cell 5 rfl, (unhide B).cell 6 rfl⟩) (fun hHeld2 => ?_)
      clear hK K hHeld; have hHeld := hHeld2; clear hHeld2
      try simp only [Act.put, List.setIfInBounds_toArray, List.set_cons_zero, List.set_cons_succ]
      refine wpAnyH_ready (rs := [1]) (by kernel_rfl) (by simp) ?_
      refine (AllReadyH.cons rfl (fun K hK => ?_) AllReadyH.nil)
      go_simp
      refine (all_any _).mono ?_
      rintro e we4 ⟨vs, rfl, oS, hb⟩
      replace B := hide ((unhide B).ups hb); replace N := hide ((unhide N).ups hb); replace OB := hide ((unhide OB).up hb); have sz5 := hide (hb.size); replace BB := hide (below_y (unhide BB) hb); clear hb; have RS := hide oS; clear oS; go_wp2_with fail
      refine hK.out _ _ (⟨(unhide B).cell 0 rfl, (unhide B).cell 1 rfl, (unhide B).cell 2 rfl, (unhide B).cell 3 rfl, (unhide B).cell 4 rfl, (unhide B).cell 5 rfl, (unhide B).cell 6 rfl⟩) (fun hHeld2 => ?_)
      clear hK K hHeld; have hHeld := hHeld2; clear hHeld2
      try simp only [Act.put, List.setIfInBounds_toArray, List.set_cons_zero, List.set_cons_succ]
      refine wpAnyH_ready (rs := [2]) (by kernel_rfl) (by simp) ?_
      refine (AllReadyH.cons rfl (fun K hK => ?_) AllReadyH.nil)
      go_simp
      refine ((unhide CC).exp b _ _ _ _ _ allS _ (unhide FIT) (by decide) (unhide OB) (unhide RS) (below_y (unhide B0) (unhide BB))).mono ?_
      rintro e we5 ⟨mN, tN, vG, rfl, oN, oG, hb⟩
      rw [← unhide HX] at oN oG ⊢
      simp only at oN oG ⊢
      obtain ⟨amN, cmN, rfl⟩ := g_shape oN.1
      obtain ⟨atN, ctN, rfl⟩ := g_shape oN.2
      have oN2 : OwnBx w2.heap.size _ _ _ n := oN.based (unhide BB).size
      have oG2 : OwnR w2.heap.size _ _ G := g_based oG (unhide BB).size
      clear oN oG; replace B := hide ((unhide B).ups hb); replace N := hide ((unhide N).ups hb); replace OB := hide ((unhide OB).up hb); replace RS := hide ((unhide RS).up hb); have sz6 := hide (hb.size); replace BB := hide (below_y (unhide BB) hb); clear hb; have ON := hide oN2; have RG := hide oG2; clear oN2 oG2; go_wp2_with fail
      refine hK.out _ _ (⟨(unhide B).cell 0 rfl, (unhide B).cell 1 rfl, (unhide B).cell 2 rfl, (unhide B).cell 3 rfl, (unhide B).cell 4 rfl, (unhide B).cell 5 rfl, (unhide B).cell 6 rfl⟩) (fun hHeld2 => ?_)
      clear hK K hHeld; have hHeld := hHeld2; clear hHeld2
      try simp only [Act.put, List.setIfInBounds_toArray, List.set_cons_zero, List.set_cons_succ]
      refine takeVal 3 (some 16) ?_ rfl (by kernel_rfl) (by kernel_rfl) (by kernel_rfl) rfl (fun _ _ _ h => h) (by rfl) (by assumption) ?_ ?_; rotate_left; (intro w hSw; (try dsimp only at hSw); go_simp <;> with_reducible rfl); simp only [Act.put, List.setIfInBounds_toArray, List.set_cons_zero, List.set_cons_succ]
      refine takeVal 4 (some 20) ?_ rfl (by kernel_rfl) (by kernel_rfl) (by kernel_rfl) rfl (fun _ _ _ h => h) (by rfl) (by assumption) ?_ ?_; rotate_left; (intro w hSw; (try dsimp only at hSw); go_simp <;> with_reducible rfl); simp only [Act.put, List.setIfInBounds_toArray, List.set_cons_zero, List.set_cons_succ]
      refine takeVal 5 (some 21) ?_ rfl (by kernel_rfl) (by kernel_rfl) (by kernel_rfl) rfl (fun _ _ _ h => h) (by rfl) (by assumption) ?_ ?_; rotate_left; (intro w hSw; (try dsimp only at hSw); go_simp <;> with_reducible rfl); simp only [Act.put, List.setIfInBounds_toArray, List.set_cons_zero, List.set_cons_succ]
      have Nf0 := (unhide N).frozen 0; have Nf1 := (unhide N).frozen 1; have Nf2 := (unhide N).frozen 2; have Nf3 := (unhide N).frozen 3; have Nf4 := (unhide N).frozen 4; have Nf5 := (unhide N).frozen 5; have Nf6 := (unhide N).frozen 6; have Ne0 := (unhide N).cell 0 rfl; have Ne1 := (unhide N).cell 1 rfl; have Ne2 := (unhide N).cell 2 rfl; have Ne3 := (unhide N).cell 3 rfl; have Ne4 := (unhide N).cell 4 rfl; have Ne5 := (unhide N).cell 5 rfl; have Ne6 := (unhide N).cell 6 rfl; have F_ := hide (fill7 (unhide N) (.string n.name) (.int .i64 n.valid) (.int .i64 n.next) (.int .i64 n.mod) (.slice amN n.mails.length cmN) (.slice atN n.tombs.length ctN) (.int .i64 n.hor))
      refine wpAnyH_ready (rs := [7]) (by kernel_rfl) (by simp) ?_
      refine AllReadyH.cons rfl (fun K hK => ?_) AllReadyH.nil
      go_simp
      obtain ⟨we6, hU⟩ : ∃ U, U = (((((((we5.setCell ⟨w2.heap.size, 0, none⟩ (.string n.name)).setCell ⟨w2.heap.size, 1, none⟩ (.int .i64 n.valid)).setCell ⟨w2.heap.size, 2, none⟩ (.int .i64 n.next)).setCell ⟨w2.heap.size, 3, none⟩ (.int .i64 n.mod)).setCell ⟨w2.heap.size, 4, none⟩ (.slice amN n.mails.length cmN)).setCell ⟨w2.heap.size, 5, none⟩ (.slice atN n.tombs.length ctN)).setCell ⟨w2.heap.size, 6, none⟩ (.int .i64 n.hor)) := ⟨_, rfl⟩
      have F := unhide F_
      rw [← hU] at F ⊢
      clear hU F_; clear Nf0 Nf1 Nf2 Nf3 Nf4 Nf5 Nf6 Ne0 Ne1 Ne2 Ne3 Ne4 Ne5 Ne6; have B_ := hide (F.other neBN (unhide B)); have N_ := hide (F.obj)
      have OB_ : Hid (OwnBx w.heap.size we6 (.slice amB b.mails.length cmB) (.slice atB b.tombs.length ctB) b) := ⟨F.row (by decide) (unhide OB).1, F.row (by decide) (unhide OB).2⟩
      have RS_ : Hid (OwnR we3.heap.size we6 (vs) (allS)) := F.row (by decide) (unhide RS)
      have ON_ : Hid (OwnBx w2.heap.size we6 (.slice amN n.mails.length cmN) (.slice atN n.tombs.length ctN) n) := ⟨F.row (by decide) (unhide ON).1, F.row (by decide) (unhide ON).2⟩
      have RG_ : Hid (OwnR w2.heap.size we6 (vG) (G)) := F.row (by decide) (unhide RG)
      have BB_ : Hid (Below w2.heap.size w2 we6) := F.below loN (unhide BB)
      have sz7 : Hid (we5.heap.size ≤ we6.heap.size) := by show _ ≤ _; rw [F.size]; exact Nat.le_refl _
      replace B := B_; clear B_; replace N := N_; clear N_; replace OB := OB_; clear OB_; replace RS := RS_; clear RS_; replace ON := ON_; clear ON_; replace RG := RG_; clear RG_; replace BB := BB_; clear BB_; clear F
      refine hK.out _ _ (⟨(unhide B).cell 0 rfl, (unhide B).cell 1 rfl, (unhide B).cell 2 rfl, (unhide B).cell 3 rfl, (unhide B).cell 4 rfl, (unhide B).cell 5 rfl, (unhide B).cell 6 rfl⟩) (fun hHeld2 => ?_)
      clear hK K hHeld; have hHeld := hHeld2; clear hHeld2
      try simp only [Act.put, List.setIfInBounds_toArray, List.set_cons_zero, List.set_cons_succ]
      refine takeVal 8 (some 5) ?_ rfl (by kernel_rfl) (by kernel_rfl) (by kernel_rfl) rfl (fun _ _ _ h => h) (by rfl) (by assumption) ?_ ?_; rotate_left; (intro w hSw; (try dsimp only at hSw); go_simp <;> with_reducible rfl); simp only [Act.put, List.setIfInBounds_toArray, List.set_cons_zero, List.set_cons_succ]
      refine wpAnyH_done (by kernel_rfl) ?_ _
      go_wp2
      go_meet
      case rel => exact ⟨_, _, _, _, _, _, rfl, rfl, unhide ON, unhide RG, unhide N, loN, unhide BB⟩
  case rest =>
    obtain ⟨amN, atN, cmN, ctN, vN, bxN, rfl, rfl, oN, ogN, obN, hloN, hb⟩ := hcut
    obtain ⟨w3, rfl⟩ : ∃ x, x = wc := ⟨_, rfl⟩
    have neBN : w1.heap.size ≠ bxN := Nat.ne_of_lt (Nat.lt_of_lt_of_le (unhide B).lt hloN)
    have loN : w.heap.size ≤ bxN := Nat.le_trans (unhide BB).size hloN
    clear B0; replace B := hide ((unhide B).ups hb); replace OB := hide ((unhide OB).up hb); have sz3 := hide (hb.size); replace BB := hide (below_y (unhide BB) hb); clear hb; have N := hide obN; clear obN; have ON := hide oN; have RN := hide ogN; clear oN ogN; have Bc0_2 := (unhide B).cell 0 rfl; have Bc1_2 := (unhide B).cell 1 rfl; have Bc2_2 := (unhide B).cell 2 rfl; have Bc3_2 := (unhide B).cell 3 rfl; have Bc4_2 := (unhide B).cell 4 rfl; have Bc5_2 := (unhide B).cell 5 rfl; have Bc6_2 := (unhide B).cell 6 rfl
    go_wp2
    have B0 := BB
    go_cut [6, 7] from 12 (fun s6 s7 wc => ∃ (am at1 : Option Addr) (cm ct : Nat) (vg : Value) (bxW : Nat), s6 = .pointer (some ⟨bxW, 0, none⟩) ∧ vg = s7 ∧ OwnBx w3.heap.size wc (.slice am n.mails.length cm) (.slice at1 n.tombs.length ct) n ∧ OwnR w3.heap.size wc vg G ∧ HasObj wc bxW 27 [.string n.name, .int .i64 n.valid, .int .i64 n.next, .int .i64 n.mod, .slice am n.mails.length cm, .slice at1 n.tombs.length ct, .int .i64 n.hor] ∧ w3.heap.size ≤ bxW ∧ Below w3.heap.size w3 wc)
    case first =>
      clear BB; have BB := hide (Below.refl w3.heap.size w3)
      refine wp_region_held_drew (S := fun w' => w'.cell? ⟨w1.heap.size, 0, none⟩ = some (.string b.name) ∧ w'.cell? ⟨w1.heap.size, 1, none⟩ = some (.int .i64 b.valid) ∧ w'.cell? ⟨w1.heap.size, 2, none⟩ = some (.int .i64 b.next) ∧ w'.cell? ⟨w1.heap.size, 3, none⟩ = some (.int .i64 b.mod) ∧ w'.cell? ⟨w1.heap.size, 4, none⟩ = some (.slice amB b.mails.length cmB) ∧ w'.cell? ⟨w1.heap.size, 5, none⟩ = some (.slice atB b.tombs.length ctB) ∧ w'.cell? ⟨w1.heap.size, 6, none⟩ = some (.int .i64 b.hor)) (by kernel_rfl) (⟨(unhide B).cell 0 rfl, (unhide B).cell 1 rfl, (unhide B).cell 2 rfl, (unhide B).cell 3 rfl, (unhide B).cell 4 rfl, (unhide B).cell 5 rfl, (unhide B).cell 6 rfl⟩) (fun hHeld => ?_)
      clear EB; replace B := hide ((unhide B).drew); replace N := hide ((unhide N).drew); replace OB := hide ((unhide OB).drew); replace ON := hide ((unhide ON).drew); replace RN := hide ((unhide RN).drew); replace BB := hide ((unhide BB).drew)
      have sz4 : Hid (w3.heap.size ≤ w3.drew.heap.size) := Nat.le_refl _
      refine takeVal 0 (some 23) ?_ rfl (by kernel_rfl) (by kernel_rfl) (by kernel_rfl) rfl (fun _ _ _ h => h) (by rfl) (by assumption) ?_ ?_; rotate_left; (intro w hSw; (try dsimp only at hSw); go_simp <;> with_reducible rfl); simp only [Act.put, List.setIfInBounds_toArray, List.set_cons_zero, List.set_cons_succ]
      refine wpAnyH_ready (rs := [1, 6]) (by kernel_rfl) (by simp) ?_
      refine (AllReadyH.cons rfl (fun K hK => ?_) (AllReadyH.cons rfl (fun K hK => ?_) AllReadyH.nil))
      · skip
        go_simp
        refine (all_any _).mono ?_
        rintro e we4 ⟨vs, rfl, oS, hb⟩
        replace B := hide ((unhide B).ups hb); replace N := hide ((unhide N).ups hb); replace OB := hide ((unhide OB).up hb); replace ON := hide ((unhide ON).up hb); replace RN := hide ((unhide RN).up hb); have sz5 := hide (hb.size); replace BB := hide (below_y (unhide BB) hb); clear hb; have RS := hide oS; clear oS; go_wp2_with fail
        refine hK.out _ _ (⟨(unhide B).cell 0 rfl, (unhide B).cell 1 rfl, (unhide B).cell 2 rfl, (unhide B).cell 3 rfl, (unhide B).cell 4 rfl, (unhide B).cell 5 rfl, (unhide B).cell 6 rfl⟩) (fun hHeld2 => ?_)
        clear hK K hHeld; have hHeld := hHeld2; clear hHeld2
        try simp only [Act.put, List.setIfInBounds_toArray, List.set_cons_zero, List.set_cons_succ]
        refine wpAnyH_ready (rs := [2, 6]) (by kernel_rfl) (by simp) ?_
        refine (AllReadyH.cons rfl (fun K hK => ?_) (AllReadyH.cons rfl (fun K hK => ?_) AllReadyH.nil))
        · skip
          go_simp
          refine (spec_Expunge_any b _ _ _ allS _ _ (unhide FIT) (by decide) (unhide RS).read (unhide OB)).mono ?_
          rintro e we5 ⟨mN, tN, vG, rfl, oN, oG, hb⟩
          rw [← unhide HX] at oN oG ⊢
          simp only at oN oG ⊢
          obtain ⟨amN, cmN, rfl⟩ := g_shape oN.1
          obtain ⟨atN, ctN, rfl⟩ := g_shape oN.2
          have oN2 : OwnBx w3.heap.size _ _ _ n := oN.based (unhide BB).size
          have oG2 : OwnR w3.heap.size _ _ G := g_based oG (unhide BB).size
          clear oN oG; replace B := hide ((unhide B).ups hb); replace N := hide ((unhide N).ups hb); replace OB := hide ((unhide OB).up hb); replace ON := hide ((unhide ON).up hb); replace RN := hide ((unhide RN).up hb); replace RS := hide ((unhide RS).up hb); have sz6 := hide (hb.size); replace BB := hide (below_y (unhide BB) hb); clear hb; have ON := hide oN2; have RG := hide oG2; clear oN2 oG2; go_wp2_with fail
          refine hK.out _ _ (⟨(unhide B).cell 0 rfl, (unhide B).cell 1 rfl, (unhide B).cell 2 rfl, (unhide B).cell 3 rfl, (unhide B).cell 4 rfl, (unhide B).cell 5 rfl, (unhide B).cell 6 rfl⟩) (fun hHeld2 => ?_)
          clear hK K hHeld; have hHeld := hHeld2; clear hHeld2
          try simp only [Act.put, List.setIfInBounds_toArray, List.set_cons_zero, List.set_cons_succ]
          refine takeVal 3 (some 22) ?_ rfl (by kernel_rfl) (by kernel_rfl) (by kernel_rfl) rfl (fun _ _ _ h => h) (by rfl) (by assumption) ?_ ?_; rotate_left; (intro w hSw; (try dsimp only at hSw); go_simp <;> with_reducible rfl); simp only [Act.put, List.setIfInBounds_toArray, List.set_cons_zero, List.set_cons_succ]
          refine takeVal 4 (some 26) ?_ rfl (by kernel_rfl) (by kernel_rfl) (by kernel_rfl) rfl (fun _ _ _ h => h) (by rfl) (by assumption) ?_ ?_; rotate_left; (intro w hSw; (try dsimp only at hSw); go_simp <;> with_reducible rfl); simp only [Act.put, List.setIfInBounds_toArray, List.set_cons_zero, List.set_cons_succ]
          refine takeVal 5 (some 27) ?_ rfl (by kernel_rfl) (by kernel_rfl) (by kernel_rfl) rfl (fun _ _ _ h => h) (by rfl) (by assumption) ?_ ?_; rotate_left; (intro w hSw; (try dsimp only at hSw); go_simp <;> with_reducible rfl); simp only [Act.put, List.setIfInBounds_toArray, List.set_cons_zero, List.set_cons_succ]
          refine wpAnyH_ready (rs := [6]) (by kernel_rfl) (by simp) ?_
          refine (AllReadyH.cons rfl (fun K hK => ?_) AllReadyH.nil)
          go_simp
          obtain ⟨we6, hX⟩ : ∃ X, X = (we5.alloc (.cells ([.string ⟨#[]⟩, .int .i64 0, .int .i64 0, .int .i64 0, .slice none 0 0, .slice none 0 0, .int .i64 0] : List Value).toArray 27)) := ⟨_, rfl⟩
          rw [← hX]
          have Wx : HasObj we6 we5.heap.size 27 [.string ⟨#[]⟩, .int .i64 0, .int .i64 0, .int .i64 0, .slice none 0 0, .slice none 0 0, .int .i64 0] := by rw [hX]; exact HasObj.new _ _ _
          have hbn : Below we5.heap.size we5 we6 := by rw [hX]; exact (Below.refl we5.heap.size we5).alloc (Nat.le_refl _) _
          clear hX
          have neBW : w1.heap.size ≠ we5.heap.size := Nat.ne_of_lt (unhide B).lt
          have neNW : bxN ≠ we5.heap.size := Nat.ne_of_lt (unhide N).lt
          have loW : w3.heap.size ≤ we5.heap.size := (unhide BB).size
          replace B := hide ((unhide B).ups hbn); replace N := hide ((unhide N).ups hbn); replace OB := hide ((unhide OB).up hbn); replace ON := hide ((unhide ON).up hbn); replace RN := hide ((unhide RN).up hbn); replace RS := hide ((unhide RS).up hbn); replace RG := hide ((unhide RG).up hbn); have sz7 := hide (hbn.size); replace BB := hide (below_y (unhide BB) hbn); clear hbn; have W := hide Wx; clear Wx
          refine hK.out _ _ (⟨(unhide B).cell 0 rfl, (unhide B).cell 1 rfl, (unhide B).cell 2 rfl, (unhide B).cell 3 rfl, (unhide B).cell 4 rfl, (unhide B).cell 5 rfl, (unhide B).cell 6 rfl⟩) (fun hHeld2 => ?_)
          clear hK K hHeld; have hHeld := hHeld2; clear hHeld2
          try simp only [Act.put, List.setIfInBounds_toArray, List.set_cons_zero, List.set_cons_succ]
          have Wf0 := (unhide W).frozen 0; have Wf1 := (unhide W).frozen 1; have Wf2 := (unhide W).frozen 2; have Wf3 := (unhide W).frozen 3; have Wf4 := (unhide W).frozen 4; have Wf5 := (unhide W).frozen 5; have Wf6 := (unhide W).frozen 6; have We0 := (unhide W).cell 0 rfl; have We1 := (unhide W).cell 1 rfl; have We2 := (unhide W).cell 2 rfl; have We3 := (unhide W).cell 3 rfl; have We4 := (unhide W).cell 4 rfl; have We5 := (unhide W).cell 5 rfl; have We6 := (unhide W).cell 6 rfl; have F_ := hide (fill7 (unhide W) (.string n.name) (.int .i64 n.valid) (.int .i64 n.next) (.int .i64 n.mod) (.slice amN n.mails.length cmN) (.slice atN n.tombs.length ctN) (.int .i64 n.hor))
          refine wpAnyH_ready (rs := [7]) (by kernel_rfl) (by simp) ?_
          refine AllReadyH.cons rfl (fun K hK => ?_) AllReadyH.nil
          go_simp
          obtain ⟨we7, hU⟩ : ∃ U, U = (((((((we6.setCell ⟨we5.heap.size, 0, none⟩ (.string n.name)).setCell ⟨we5.heap.size, 1, none⟩ (.int .i64 n.valid)).setCell ⟨we5.heap.size, 2, none⟩ (.int .i64 n.next)).setCell ⟨we5.heap.size, 3, none⟩ (.int .i64 n.mod)).setCell ⟨we5.heap.size, 4, none⟩ (.slice amN n.mails.length cmN)).setCell ⟨we5.heap.size, 5, none⟩ (.slice atN n.tombs.length ctN)).setCell ⟨we5.heap.size, 6, none⟩ (.int .i64 n.hor)) := ⟨_, rfl⟩
          have F := unhide F_
          rw [← hU] at F ⊢
          clear hU F_; clear Wf0 Wf1 Wf2 Wf3 Wf4 Wf5 Wf6 We0 We1 We2 We3 We4 We5 We6; have B_ := hide (F.other neBW (unhide B)); have N_ := hide (F.other neNW (unhide N)); have W_ := hide (F.obj)
          have OB_ : Hid (OwnBx w.heap.size we7 (.slice amB b.mails.length cmB) (.slice atB b.tombs.length ctB) b) := ⟨F.row (by decide) (unhide OB).1, F.row (by decide) (unhide OB).2⟩
          have ON_ : Hid (OwnBx w3.heap.size we7 (.slice amN n.mails.length cmN) (.slice atN n.tombs.length ctN) n) := ⟨F.row (by decide) (unhide ON).1, F.row (by decide) (unhide ON).2⟩
          have RN_ : Hid (OwnR w2.heap.size we7 (vN) (G)) := F.row (by decide) (unhide RN)
          have RS_ : Hid (OwnR w3.drew.heap.size we7 (vs) (allS)) := F.row (by decide) (unhide RS)
          have RG_ : Hid (OwnR w3.heap.size we7 (vG) (G)) := F.row (by decide) (unhide RG)
          have BB_ : Hid (Below w3.heap.size w3 we7) := F.below loW (unhide BB)
          have sz8 : Hid (we6.heap.size ≤ we7.heap.size) := by show _ ≤ _; rw [F.size]; exact Nat.le_refl _
          replace B := B_; clear B_; replace N := N_; clear N_; replace W := W_; clear W_; replace OB := OB_; clear OB_; replace ON := ON_; clear ON_; replace RN := RN_; clear RN_; replace RS := RS_; clear RS_; replace RG := RG_; clear RG_; replace BB := BB_; clear BB_; clear F
          refine hK.out _ _ (⟨(unhide B).cell 0 rfl, (unhide B).cell 1 rfl, (unhide B).cell 2 rfl, (unhide B).cell 3 rfl, (unhide B).cell 4 rfl, (unhide B).cell 5 rfl, (unhide B).cell 6 rfl⟩) (fun hHeld2 => ?_)
          clear hK K hHeld; have hHeld := hHeld2; clear hHeld2
          try simp only [Act.put, List.setIfInBounds_toArray, List.set_cons_zero, List.set_cons_succ]
          refine takeVal 8 (some 7) ?_ rfl (by kernel_rfl) (by kernel_rfl) (by kernel_rfl) rfl (fun _ _ _ h => h) (by rfl) (by assumption) ?_ ?_; rotate_left; (intro w hSw; (try dsimp only at hSw); go_simp <;> with_reducible rfl); simp only [Act.put, List.setIfInBounds_toArray, List.set_cons_zero, List.set_cons_succ]
          refine wpAnyH_done (by kernel_rfl) ?_ _
          go_wp2
          go_meet
          case rel => exact ⟨_, _, _, _, _, _, rfl, rfl, unhide ON, unhide RG, unhide W, loW, unhide BB⟩
        · skip
          go_simp
          obtain ⟨we5, hX⟩ : ∃ X, X = (we4.alloc (.cells ([.string ⟨#[]⟩, .int .i64 0, .int .i64 0, .int .i64 0, .slice none 0 0, .slice none 0 0, .int .i64 0] : List Value).toArray 27)) := ⟨_, rfl⟩
          rw [← hX]
          have Wx : HasObj we5 we4.heap.size 27 [.string ⟨#[]⟩, .int .i64 0, .int .i64 0, .int .i64 0, .slice none 0 0, .slice none 0 0, .int .i64 0] := by rw [hX]; exact HasObj.new _ _ _
          have hbn : Below we4.heap.size we4 we5 := by rw [hX]; exact (Below.refl we4.heap.size we4).alloc (Nat.le_refl _) _
          clear hX
          have neBW : w1.heap.size ≠ we4.heap.size := Nat.ne_of_lt (unhide B).lt
          have neNW : bxN ≠ we4.heap.size := Nat.ne_of_lt (unhide N).lt
          have loW : w3.heap.size ≤ we4.heap.size := (unhide BB).size
          replace B := hide ((unhide B).ups hbn); replace N := hide ((unhide N).ups hbn); replace OB := hide ((unhide OB).up hbn); replace ON := hide ((unhide ON).up hbn); replace RN := hide ((unhide RN).up hbn); replace RS := hide ((unhide RS).up hbn); have sz6 := hide (hbn.size); replace BB := hide (below_y (unhide BB) hbn); clear hbn; have W := hide Wx; clear Wx
          refine hK.out _ _ (⟨(unhide B).cell 0 rfl, (unhide B).cell 1 rfl, (unhide B).cell 2 rfl, (unhide B).cell 3 rfl, (unhide B).cell 4 rfl, (unhide B).cell 5 rfl, (unhide B).cell 6 rfl⟩) (fun hHeld2 => ?_)
          clear hK K hHeld; have hHeld := hHeld2; clear hHeld2
          try simp only [Act.put, List.setIfInBounds_toArray, List.set_cons_zero, List.set_cons_succ]
          refine wpAnyH_ready (rs := [2]) (by kernel_rfl) (by simp) ?_
          refine (AllReadyH.cons rfl (fun K hK => ?_) AllReadyH.nil)
          go_simp
          refine (spec_Expunge_any b _ _ _ allS _ _ (unhide FIT) (by decide) (unhide RS).read (unhide OB)).mono ?_
          rintro e we6 ⟨mN, tN, vG, rfl, oN, oG, hb⟩
          rw [← unhide HX] at oN oG ⊢
          simp only at oN oG ⊢
          obtain ⟨amN, cmN, rfl⟩ := g_shape oN.1
          obtain ⟨atN, ctN, rfl⟩ := g_shape oN.2
          have oN2 : OwnBx w3.heap.size _ _ _ n := oN.based (unhide BB).size
          have oG2 : OwnR w3.heap.size _ _ G := g_based oG (unhide BB).size
          clear oN oG; replace B := hide ((unhide B).ups hb); replace N := hide ((unhide N).ups hb); replace W := hide ((unhide W).ups hb); replace OB := hide ((unhide OB).up hb); replace ON := hide ((unhide ON).up hb); replace RN := hide ((unhide RN).up hb); replace RS := hide ((unhide RS).up hb); have sz7 := hide (hb.size); replace BB := hide (below_y (unhide BB) hb); clear hb; have ON := hide oN2; have RG := hide oG2; clear oN2 oG2; go_wp2_with fail
          refine hK.out _ _ (⟨(unhide B).cell 0 rfl, (unhide B).cell 1 rfl, (unhide B).cell 2 rfl, (unhide B).cell 3 rfl, (unhide B).cell 4 rfl, (unhide B).cell 5 rfl, (unhide B).cell 6 rfl⟩) (fun hHeld2 => ?_)
          clear hK K hHeld; have hHeld := hHeld2; clear hHeld2
          try simp only [Act.put, List.setIfInBounds_toArray, List.set_cons_zero, List.set_cons_succ]
          refine takeVal 3 (some 22) ?_ rfl (by kernel_rfl) (by kernel_rfl) (by kernel_rfl) rfl (fun _ _ _ h => h) (by rfl) (by assumption) ?_ ?_; rotate_left; (intro w hSw; (try dsimp only at hSw); go_simp <;> with_reducible rfl); simp only [Act.put, List.setIfInBounds_toArray, List.set_cons_zero, List.set_cons_succ]
          refine takeVal 4 (some 26) ?_ rfl (by kernel_rfl) (by kernel_rfl) (by kernel_rfl) rfl (fun _ _ _ h => h) (by rfl) (by assumption) ?_ ?_; rotate_left; (intro w hSw; (try dsimp only at hSw); go_simp <;> with_reducible rfl); simp only [Act.put, List.setIfInBounds_toArray, List.set_cons_zero, List.set_cons_succ]
          refine takeVal 5 (some 27) ?_ rfl (by kernel_rfl) (by kernel_rfl) (by kernel_rfl) rfl (fun _ _ _ h => h) (by rfl) (by assumption) ?_ ?_; rotate_left; (intro w hSw; (try dsimp only at hSw); go_simp <;> with_reducible rfl); simp only [Act.put, List.setIfInBounds_toArray, List.set_cons_zero, List.set_cons_succ]
          have Wf0 := (unhide W).frozen 0; have Wf1 := (unhide W).frozen 1; have Wf2 := (unhide W).frozen 2; have Wf3 := (unhide W).frozen 3; have Wf4 := (unhide W).frozen 4; have Wf5 := (unhide W).frozen 5; have Wf6 := (unhide W).frozen 6; have We0 := (unhide W).cell 0 rfl; have We1 := (unhide W).cell 1 rfl; have We2 := (unhide W).cell 2 rfl; have We3 := (unhide W).cell 3 rfl; have We4 := (unhide W).cell 4 rfl; have We5 := (unhide W).cell 5 rfl; have We6 := (unhide W).cell 6 rfl; have F_ := hide (fill7 (unhide W) (.string n.name) (.int .i64 n.valid) (.int .i64 n.next) (.int .i64 n.mod) (.slice amN n.mails.length cmN) (.slice atN n.tombs.length ctN) (.int .i64 n.hor))
          refine wpAnyH_ready (rs := [7]) (by kernel_rfl) (by simp) ?_
          refine AllReadyH.cons rfl (fun K hK => ?_) AllReadyH.nil
          go_simp
          obtain ⟨we7, hU⟩ : ∃ U, U = (((((((we6.setCell ⟨we4.heap.size, 0, none⟩ (.string n.name)).setCell ⟨we4.heap.size, 1, none⟩ (.int .i64 n.valid)).setCell ⟨we4.heap.size, 2, none⟩ (.int .i64 n.next)).setCell ⟨we4.heap.size, 3, none⟩ (.int .i64 n.mod)).setCell ⟨we4.heap.size, 4, none⟩ (.slice amN n.mails.length cmN)).setCell ⟨we4.heap.size, 5, none⟩ (.slice atN n.tombs.length ctN)).setCell ⟨we4.heap.size, 6, none⟩ (.int .i64 n.hor)) := ⟨_, rfl⟩
          have F := unhide F_
          rw [← hU] at F ⊢
          clear hU F_; clear Wf0 Wf1 Wf2 Wf3 Wf4 Wf5 Wf6 We0 We1 We2 We3 We4 We5 We6; have B_ := hide (F.other neBW (unhide B)); have N_ := hide (F.other neNW (unhide N)); have W_ := hide (F.obj)
          have OB_ : Hid (OwnBx w.heap.size we7 (.slice amB b.mails.length cmB) (.slice atB b.tombs.length ctB) b) := ⟨F.row (by decide) (unhide OB).1, F.row (by decide) (unhide OB).2⟩
          have ON_ : Hid (OwnBx w3.heap.size we7 (.slice amN n.mails.length cmN) (.slice atN n.tombs.length ctN) n) := ⟨F.row (by decide) (unhide ON).1, F.row (by decide) (unhide ON).2⟩
          have RN_ : Hid (OwnR w2.heap.size we7 (vN) (G)) := F.row (by decide) (unhide RN)
          have RS_ : Hid (OwnR w3.drew.heap.size we7 (vs) (allS)) := F.row (by decide) (unhide RS)
          have RG_ : Hid (OwnR w3.heap.size we7 (vG) (G)) := F.row (by decide) (unhide RG)
          have BB_ : Hid (Below w3.heap.size w3 we7) := F.below loW (unhide BB)
          have sz8 : Hid (we6.heap.size ≤ we7.heap.size) := by show _ ≤ _; rw [F.size]; exact Nat.le_refl _
          replace B := B_; clear B_; replace N := N_; clear N_; replace W := W_; clear W_; replace OB := OB_; clear OB_; replace ON := ON_; clear ON_; replace RN := RN_; clear RN_; replace RS := RS_; clear RS_; replace RG := RG_; clear RG_; replace BB := BB_; clear BB_; clear F
          refine hK.out _ _ (⟨(unhide B).cell 0 rfl, (unhide B).cell 1 rfl, (unhide B).cell 2 rfl, (unhide B).cell 3 rfl, (unhide B).cell 4 rfl, (unhide B).cell 5 rfl, (unhide B).cell 6 rfl⟩) (fun hHeld2 => ?_)
          clear hK K hHeld; have hHeld := hHeld2; clear hHeld2
          try simp only [Act.put, List.setIfInBounds_toArray, List.set_cons_zero, List.set_cons_succ]
          refine takeVal 8 (some 7) ?_ rfl (by kernel_rfl) (by kernel_rfl) (by kernel_rfl) rfl (fun _ _ _ h => h) (by rfl) (by assumption) ?_ ?_; rotate_left; (intro w hSw; (try dsimp only at hSw); go_simp <;> with_reducible rfl); simp only [Act.put, List.setIfInBounds_toArray, List.set_cons_zero, List.set_cons_succ]
          refine wpAnyH_done (by kernel_rfl) ?_ _
          go_wp2
          go_meet
          case rel => exact ⟨_, _, _, _, _, _, rfl, rfl, unhide ON, unhide RG, unhide W, loW, unhide BB⟩
      · skip
        go_simp
        obtain ⟨we4, hX⟩ : ∃ X, X = (w3.alloc (.cells ([.string ⟨#[]⟩, .int .i64 0, .int .i64 0, .int .i64 0, .slice none 0 0, .slice none 0 0, .int .i64 0] : List Value).toArray 27)).drew := ⟨_, rfl⟩
        rw [← hX]
        have Wx : HasObj we4 w3.heap.size 27 [.string ⟨#[]⟩, .int .i64 0, .int .i64 0, .int .i64 0, .slice none 0 0, .slice none 0 0, .int .i64 0] := by rw [hX]; exact (HasObj.new _ _ _).drew
        have hbn : Below w3.drew.heap.size w3.drew we4 := by rw [hX]; exact (Below.refl w3.drew.heap.size w3.drew).alloc (Nat.le_refl _) _
        clear hX
        have neBW : w1.heap.size ≠ w3.heap.size := Nat.ne_of_lt (unhide B).lt
        have neNW : bxN ≠ w3.heap.size := Nat.ne_of_lt (unhide N).lt
        have loW : w3.heap.size ≤ w3.heap.size := (unhide BB).size
        replace B := hide ((unhide B).ups hbn); replace N := hide ((unhide N).ups hbn); replace OB := hide ((unhide OB).up hbn); replace ON := hide ((unhide ON).up hbn); replace RN := hide ((unhide RN).up hbn); have sz5 := hide (hbn.size); replace BB := hide (below_y (unhide BB) hbn); clear hbn; have W := hide Wx; clear Wx
        refine hK.out _ _ (⟨(unhide B).cell 0 rfl, (unhide B).cell 1 rfl, (unhide B).cell 2 rfl, (unhide B).cell 3 rfl, (unhide B).cell 4 rfl, (unhide B).cell 5 rfl, (unhide B).cell 6 rfl⟩) (fun hHeld2 => ?_)
        clear hK K hHeld; have hHeld := hHeld2; clear hHeld2
        try simp only [Act.put, List.setIfInBounds_toArray, List.set_cons_zero, List.set_cons_succ]
        refine wpAnyH_ready (rs := [1]) (by kernel_rfl) (by simp) ?_
        refine (AllReadyH.cons rfl (fun K hK => ?_) AllReadyH.nil)
        go_simp
        refine (all_any _).mono ?_
        rintro e we5 ⟨vs, rfl, oS, hb⟩
        replace B := hide ((unhide B).ups hb); replace N := hide ((unhide N).ups hb); replace W := hide ((unhide W).ups hb); replace OB := hide ((unhide OB).up hb); replace ON := hide ((unhide ON).up hb); replace RN := hide ((unhide RN).up hb); have sz6 := hide (hb.size); replace BB := hide (below_y (unhide BB) hb); clear hb; have RS := hide oS; clear oS; go_wp2_with fail
        refine hK.out _ _ (⟨(unhide B).cell 0 rfl, (unhide B).cell 1 rfl, (unhide B).cell 2 rfl, (unhide B).cell 3 rfl, (unhide B).cell 4 rfl, (unhide B).cell 5 rfl, (unhide B).cell 6 rfl⟩) (fun hHeld2 => ?_)
        clear hK K hHeld; have hHeld := hHeld2; clear hHeld2
        try simp only [Act.put, List.setIfInBounds_toArray, List.set_cons_zero, List.set_cons_succ]
        refine wpAnyH_ready (rs := [2]) (by kernel_rfl) (by simp) ?_
        refine (AllReadyH.cons rfl (fun K hK => ?_) AllReadyH.nil)
        go_simp
        refine (spec_Expunge_any b _ _ _ allS _ _ (unhide FIT) (by decide) (unhide RS).read (unhide OB)).mono ?_
        rintro e we6 ⟨mN, tN, vG, rfl, oN, oG, hb⟩
        rw [← unhide HX] at oN oG ⊢
        simp only at oN oG ⊢
        obtain ⟨amN, cmN, rfl⟩ := g_shape oN.1
        obtain ⟨atN, ctN, rfl⟩ := g_shape oN.2
        have oN2 : OwnBx w3.heap.size _ _ _ n := oN.based (unhide BB).size
        have oG2 : OwnR w3.heap.size _ _ G := g_based oG (unhide BB).size
        clear oN oG; replace B := hide ((unhide B).ups hb); replace N := hide ((unhide N).ups hb); replace W := hide ((unhide W).ups hb); replace OB := hide ((unhide OB).up hb); replace ON := hide ((unhide ON).up hb); replace RN := hide ((unhide RN).up hb); replace RS := hide ((unhide RS).up hb); have sz7 := hide (hb.size); replace BB := hide (below_y (unhide BB) hb); clear hb; have ON := hide oN2; have RG := hide oG2; clear oN2 oG2; go_wp2_with fail
        refine hK.out _ _ (⟨(unhide B).cell 0 rfl, (unhide B).cell 1 rfl, (unhide B).cell 2 rfl, (unhide B).cell 3 rfl, (unhide B).cell 4 rfl, (unhide B).cell 5 rfl, (unhide B).cell 6 rfl⟩) (fun hHeld2 => ?_)
        clear hK K hHeld; have hHeld := hHeld2; clear hHeld2
        try simp only [Act.put, List.setIfInBounds_toArray, List.set_cons_zero, List.set_cons_succ]
        refine takeVal 3 (some 22) ?_ rfl (by kernel_rfl) (by kernel_rfl) (by kernel_rfl) rfl (fun _ _ _ h => h) (by rfl) (by assumption) ?_ ?_; rotate_left; (intro w hSw; (try dsimp only at hSw); go_simp <;> with_reducible rfl); simp only [Act.put, List.setIfInBounds_toArray, List.set_cons_zero, List.set_cons_succ]
        refine takeVal 4 (some 26) ?_ rfl (by kernel_rfl) (by kernel_rfl) (by kernel_rfl) rfl (fun _ _ _ h => h) (by rfl) (by assumption) ?_ ?_; rotate_left; (intro w hSw; (try dsimp only at hSw); go_simp <;> with_reducible rfl); simp only [Act.put, List.setIfInBounds_toArray, List.set_cons_zero, List.set_cons_succ]
        refine takeVal 5 (some 27) ?_ rfl (by kernel_rfl) (by kernel_rfl) (by kernel_rfl) rfl (fun _ _ _ h => h) (by rfl) (by assumption) ?_ ?_; rotate_left; (intro w hSw; (try dsimp only at hSw); go_simp <;> with_reducible rfl); simp only [Act.put, List.setIfInBounds_toArray, List.set_cons_zero, List.set_cons_succ]
        have Wf0 := (unhide W).frozen 0; have Wf1 := (unhide W).frozen 1; have Wf2 := (unhide W).frozen 2; have Wf3 := (unhide W).frozen 3; have Wf4 := (unhide W).frozen 4; have Wf5 := (unhide W).frozen 5; have Wf6 := (unhide W).frozen 6; have We0 := (unhide W).cell 0 rfl; have We1 := (unhide W).cell 1 rfl; have We2 := (unhide W).cell 2 rfl; have We3 := (unhide W).cell 3 rfl; have We4 := (unhide W).cell 4 rfl; have We5 := (unhide W).cell 5 rfl; have We6 := (unhide W).cell 6 rfl; have F_ := hide (fill7 (unhide W) (.string n.name) (.int .i64 n.valid) (.int .i64 n.next) (.int .i64 n.mod) (.slice amN n.mails.length cmN) (.slice atN n.tombs.length ctN) (.int .i64 n.hor))
        refine wpAnyH_ready (rs := [7]) (by kernel_rfl) (by simp) ?_
        refine AllReadyH.cons rfl (fun K hK => ?_) AllReadyH.nil
        go_simp
        obtain ⟨we7, hU⟩ : ∃ U, U = (((((((we6.setCell ⟨w3.heap.size, 0, none⟩ (.string n.name)).setCell ⟨w3.heap.size, 1, none⟩ (.int .i64 n.valid)).setCell ⟨w3.heap.size, 2, none⟩ (.int .i64 n.next)).setCell ⟨w3.heap.size, 3, none⟩ (.int .i64 n.mod)).setCell ⟨w3.heap.size, 4, none⟩ (.slice amN n.mails.length cmN)).setCell ⟨w3.heap.size, 5, none⟩ (.slice atN n.tombs.length ctN)).setCell ⟨w3.heap.size, 6, none⟩ (.int .i64 n.hor)) := ⟨_, rfl⟩
        have F := unhide F_
        rw [← hU] at F ⊢
        clear hU F_; clear Wf0 Wf1 Wf2 Wf3 Wf4 Wf5 Wf6 We0 We1 We2 We3 We4 We5 We6; have B_ := hide (F.other neBW (unhide B)); have N_ := hide (F.other neNW (unhide N)); have W_ := hide (F.obj)
        have OB_ : Hid (OwnBx w.heap.size we7 (.slice amB b.mails.length cmB) (.slice atB b.tombs.length ctB) b) := ⟨F.row (by decide) (unhide OB).1, F.row (by decide) (unhide OB).2⟩
        have ON_ : Hid (OwnBx w3.heap.size we7 (.slice amN n.mails.length cmN) (.slice atN n.tombs.length ctN) n) := ⟨F.row (by decide) (unhide ON).1, F.row (by decide) (unhide ON).2⟩
        have RN_ : Hid (OwnR w2.heap.size we7 (vN) (G)) := F.row (by decide) (unhide RN)
        have RS_ : Hid (OwnR we4.heap.size we7 (vs) (allS)) := F.row (by decide) (unhide RS)
        have RG_ : Hid (OwnR w3.heap.size we7 (vG) (G)) := F.row (by decide) (unhide RG)
        have BB_ : Hid (Below w3.heap.size w3 we7) := F.below loW (unhide BB)
        have sz8 : Hid (we6.heap.size ≤ we7.heap.size) := by show _ ≤ _; rw [F.size]; exact Nat.le_refl _
        replace B := B_; clear B_; replace N := N_; clear N_; replace W := W_; clear W_; replace OB := OB_; clear OB_; replace ON := ON_; clear ON_; replace RN := RN_; clear RN_; replace RS := RS_; clear RS_; replace RG := RG_; clear RG_; replace BB := BB_; clear BB_; clear F
        refine hK.out _ _ (⟨(unhide B).cell 0 rfl, (unhide B).cell 1 rfl, (unhide B).cell 2 rfl, (unhide B).cell 3 rfl, (unhide B).cell 4 rfl, (unhide B).cell 5 rfl, (unhide B).cell 6 rfl⟩) (fun hHeld2 => ?_)
        clear hK K hHeld; have hHeld := hHeld2; clear hHeld2
        try simp only [Act.put, List.setIfInBounds_toArray, List.set_cons_zero, List.set_cons_succ]
        refine takeVal 8 (some 7) ?_ rfl (by kernel_rfl) (by kernel_rfl) (by kernel_rfl) rfl (fun _ _ _ h => h) (by rfl) (by assumption) ?_ ?_; rotate_left; (intro w hSw; (try dsimp only at hSw); go_simp <;> with_reducible rfl); simp only [Act.put, List.setIfInBounds_toArray, List.set_cons_zero, List.set_cons_succ]
        refine wpAnyH_done (by kernel_rfl) ?_ _
        go_wp2
        go_meet
        case rel => exact ⟨_, _, _, _, _, _, rfl, rfl, unhide ON, unhide RG, unhide W, loW, unhide BB⟩
    case rest =>
      obtain ⟨amW, atW, cmW, ctW, vW, bxW, rfl, rfl, oW, ogW, obW, hloW, hb⟩ := hcut
      obtain ⟨w4, rfl⟩ : ∃ x, x = wc := ⟨_, rfl⟩
      have neBW : w1.heap.size ≠ bxW := Nat.ne_of_lt (Nat.lt_of_lt_of_le (unhide B).lt hloW)
      have neNW : bxN ≠ bxW := Nat.ne_of_lt (Nat.lt_of_lt_of_le (unhide N).lt hloW)
      have loW : w.heap.size ≤ bxW := Nat.le_trans (unhide BB).size hloW
      clear B0; replace B := hide ((unhide B).ups hb); replace N := hide ((unhide N).ups hb); replace OB := hide ((unhide OB).up hb); replace ON := hide ((unhide ON).up hb); replace RN := hide ((unhide RN).up hb); have sz4 := hide (hb.size); replace BB := hide (below_y (unhide BB) hb); clear hb; have W := hide obW; clear obW; have OW := hide oW; have RW := hide ogW; clear oW ogW; have Nc0_3 := (unhide N).cell 0 rfl; have Nc1_3 := (unhide N).cell 1 rfl; have Nc2_3 := (unhide N).cell 2 rfl; have Nc3_3 := (unhide N).cell 3 rfl; have Nc4_3 := (unhide N).cell 4 rfl; have Nc5_3 := (unhide N).cell 5 rfl; have Nc6_3 := (unhide N).cell 6 rfl; have Wc0_4 := (unhide W).cell 0 rfl; have Wc1_4 := (unhide W).cell 1 rfl; have Wc2_4 := (unhide W).cell 2 rfl; have Wc3_4 := (unhide W).cell 3 rfl; have Wc4_4 := (unhide W).cell 4 rfl; have Wc5_4 := (unhide W).cell 5 rfl; have Wc6_4 := (unhide W).cell 6 rfl; go_wp2_with fail; clear Bc0_1 Bc1_1 Bc2_1 Bc3_1 Bc4_1 Bc5_1 Bc6_1 Bc0_2 Bc1_2 Bc2_2 Bc3_2 Bc4_2 Bc5_2 Bc6_2 Nc0_3 Nc1_3 Nc2_3 Nc3_3 Nc4_3 Nc5_3 Nc6_3 Wc0_4 Wc1_4 Wc2_4 Wc3_4 Wc4_4 Wc5_4 Wc6_4 EB
      refine (sameBox_same n _ _ _ _ _ _ _ (by omega) (by omega) (unhide ON) (unhide OW)).mono ?_
      rintro e w5 ⟨rfl, hb⟩
      replace B := hide ((unhide B).ups hb); replace N := hide ((unhide N).ups hb); replace W := hide ((unhide W).ups hb); replace OB := hide ((unhide OB).up hb); replace ON := hide ((unhide ON).up hb); replace RN := hide ((unhide RN).up hb); replace OW := hide ((unhide OW).up hb); replace RW := hide ((unhide RW).up hb); have sz5 := hide (hb.size); replace BB := hide (below_y (unhide BB) hb); clear hb; go_wp2_with fail
      refine (sameSetE_held G vN vW _ _ _ sG (unhide RN) (unhide RW)).mono ?_
      rintro e w6 ⟨rfl, hb⟩
      replace B := hide ((unhide B).ups hb); replace N := hide ((unhide N).ups hb); replace W := hide ((unhide W).ups hb); replace OB := hide ((unhide OB).up hb); replace ON := hide ((unhide ON).up hb); replace RN := hide ((unhide RN).up hb); replace OW := hide ((unhide OW).up hb); replace RW := hide ((unhide RW).up hb); have sz6 := hide (hb.size); replace BB := hide (below_y (unhide BB) hb); clear hb; have Nc0_5 := (unhide N).cell 0 rfl; have Nc1_5 := (unhide N).cell 1 rfl; have Nc2_5 := (unhide N).cell 2 rfl; have Nc3_5 := (unhide N).cell 3 rfl; have Nc4_5 := (unhide N).cell 4 rfl; have Nc5_5 := (unhide N).cell 5 rfl; have Nc6_5 := (unhide N).cell 6 rfl; go_wp2_with fail; clear Nc0_5 Nc1_5 Nc2_5 Nc3_5 Nc4_5 Nc5_5 Nc6_5
      refine ((unhide CC).ok n _ _ _ _ (unhide FITN) (unhide ON) (unhide BB)).mono ?_
      rintro e w7 ⟨rfl, hb⟩
      replace B := hide ((unhide B).ups hb); replace N := hide ((unhide N).ups hb); replace W := hide ((unhide W).ups hb); replace OB := hide ((unhide OB).up hb); replace ON := hide ((unhide ON).up hb); replace RN := hide ((unhide RN).up hb); replace OW := hide ((unhide OW).up hb); replace RW := hide ((unhide RW).up hb); have sz7 := hide (hb.size); replace BB := hide (below_y (unhide BB) hb); clear hb
      rw [unhide OKN]
      clear OW RW W; have Nc0_6 := (unhide N).cell 0 rfl; have Nc1_6 := (unhide N).cell 1 rfl; have Nc2_6 := (unhide N).cell 2 rfl; have Nc3_6 := (unhide N).cell 3 rfl; have Nc4_6 := (unhide N).cell 4 rfl; have Nc5_6 := (unhide N).cell 5 rfl; have Nc6_6 := (unhide N).cell 6 rfl; have Bc0_7 := (unhide B).cell 0 rfl; have Bc1_7 := (unhide B).cell 1 rfl; have Bc2_7 := (unhide B).cell 2 rfl; have Bc3_7 := (unhide B).cell 3 rfl; have Bc4_7 := (unhide B).cell 4 rfl; have Bc5_7 := (unhide B).cell 5 rfl; have Bc6_7 := (unhide B).cell 6 rfl
      go_wp2
      clear Nc0_6 Nc1_6 Nc2_6 Nc3_6 Nc4_6 Nc5_6 Nc6_6 Bc0_7 Bc1_7 Bc2_7 Bc3_7 Bc4_7 Bc5_7 Bc6_7
      obtain ⟨REL, HREL⟩ : ∃ REL : Value → World → Prop, Hid (REL = fun i wr => ∃ k : Nat, k ≤ b.mails.length ∧ i = .int .i64 k ∧ HasObj wr (w1.heap.size) 27 [.string b.name, .int .i64 b.valid, .int .i64 b.next, .int .i64 b.mod, .slice amB b.mails.length cmB, .slice atB b.tombs.length ctB, .int .i64 b.hor] ∧ HasObj wr (bxN) 27 [.string n.name, .int .i64 n.valid, .int .i64 n.next, .int .i64 n.mod, .slice amN n.mails.length cmN, .slice atN n.tombs.length ctN, .int .i64 n.hor] ∧ OwnBx w.heap.size wr (.slice amB b.mails.length cmB) (.slice atB b.tombs.length ctB) b ∧ OwnBx w2.heap.size wr (.slice amN n.mails.length cmN) (.slice atN n.tombs.length ctN) n ∧ OwnR w2.heap.size wr vN G ∧ Below w.heap.size w wr) := ⟨_, rfl⟩
      go_loopw [8] (fun i wr => REL i wr) (fun i _ => b.mails.length - (intOf i).toNat)
      case atStart => rw [unhide HREL]; exact ⟨0, Nat.zero_le _, rfl, unhide B, unhide N, unhide OB, unhide ON, unhide RN, unhide BB⟩
      clear B N OB ON RN BB
      case round =>
        rw [unhide HREL] at hrel
        obtain ⟨k, hk, rfl, oB, oN, rB, rN, rG, hbel⟩ := hrel
        obtain ⟨wo, hwo⟩ : ∃ wo, wo = wr := ⟨_, rfl⟩
        subst hwo
        by_cases hlt : k < b.mails.length
        · have hgk : b.mails[k]? = some b.mails[k] := List.getElem?_eq_getElem hlt
          obtain ⟨ea, eb⟩ := unhide EACH _ (List.getElem_mem hlt)
          obtain ⟨gb, qb, e1, c0, c1, c2, c3⟩ := mailE_at rB.1 hgk
          have e3 := (Value.slice.inj e1).1; clear e1
          subst e3
          have hfl := ((right_of (unhide OK)).mail _ (List.getElem_mem hlt)).fl
          unfold flOk at hfl
          rw [Bool.and_eq_true] at hfl
          have fl1 := of_decide_eq_true hfl.1; have fl2 := of_decide_eq_true hfl.2; clear hfl
          generalize b.mails[k] = f at *
          have n9 : IntKind.i64.wrap (Int.tdiv f.flags 8) = Int.tdiv f.flags 8 := by rw [IntKind.wrap_i64, Int.tdiv_eq_ediv_of_nonneg fl1]; omega
          clear hgk
          obtain ⟨fd, hfd⟩ : ∃ x, x = (f.flags.tdiv 8).tmod 2 := ⟨_, rfl⟩
          rw [← hfd] at ea
          have EA := hide ea; have EB := hide eb; have FD := hide hfd; clear ea eb hfd
          have i1 : (0 : Int) ≤ (k : Int) := by omega
          have i2 : (k : Int) < (b.mails.length : Int) := by omega
          have B := hide oB; have N := hide oN; have OB := hide rB; have ON := hide rN; have RN := hide rG; have BB := hide hbel; clear oB oN rB rN rG hbel; have Bc0_8 := (unhide B).cell 0 rfl; have Bc1_8 := (unhide B).cell 1 rfl; have Bc2_8 := (unhide B).cell 2 rfl; have Bc3_8 := (unhide B).cell 3 rfl; have Bc4_8 := (unhide B).cell 4 rfl; have Bc5_8 := (unhide B).cell 5 rfl; have Bc6_8 := (unhide B).cell 6 rfl
          obtain ⟨wr1, hM⟩ : ∃ X, X = wo.alloc (.cells ([.int .i64 f.uid, .int .i64 f.flags, .int .i64 f.mod, .string f.text] : List Value).toArray 37) := ⟨_, rfl⟩
          have Mx : HasObj wr1 wo.heap.size 37 [.int .i64 f.uid, .int .i64 f.flags, .int .i64 f.mod, .string f.text] := by rw [hM]; exact HasObj.new _ _ _
          have hbn : Below wo.heap.size wo wr1 := by rw [hM]; exact (Below.refl _ _).alloc (Nat.le_refl _) _
          have neBM : w1.heap.size ≠ wo.heap.size := Nat.ne_of_lt (unhide B).lt
          have neNM : bxN ≠ wo.heap.size := Nat.ne_of_lt (unhide N).lt
          have loM : w.heap.size ≤ wo.heap.size := (unhide BB).size
          have EM := hM.symm; clear hM; replace B := hide ((unhide B).ups hbn); replace N := hide ((unhide N).ups hbn); replace OB := hide ((unhide OB).up hbn); replace ON := hide ((unhide ON).up hbn); replace RN := hide ((unhide RN).up hbn); have sz301 := hide (hbn.size); replace BB := hide (below_y (unhide BB) hbn); clear hbn; have M := hide Mx; clear Mx
          have FE : Int.tmod (Int.tdiv f.flags 8) 2 = fd := (unhide FD).symm
          have EA2 := unhide EA; have EB2 := unhide EB; clear EA EB
          cases hd : hasB G f.uid with
          | false =>
            rw [hd] at EA2 EB2
            have d1 := EA2.symm; have EB := hide EB2; clear EA2 EB2; have Mc0_9 := (unhide M).cell 0 rfl; have Mc1_9 := (unhide M).cell 1 rfl; have Mc2_9 := (unhide M).cell 2 rfl; have Mc3_9 := (unhide M).cell 3 rfl; have Nc0_10 := (unhide N).cell 0 rfl; have Nc1_10 := (unhide N).cell 1 rfl; have Nc2_10 := (unhide N).cell 2 rfl; have Nc3_10 := (unhide N).cell 3 rfl; have Nc4_10 := (unhide N).cell 4 rfl; have Nc5_10 := (unhide N).cell 5 rfl; have Nc6_10 := (unhide N).cell 6 rfl
            go_wp2
            clear c0 c1 c2 c3
            refine wp_region_held_drew (S := fun w' => w'.cell? ⟨bxN, 0, none⟩ = some (.string n.name) ∧ w'.cell? ⟨bxN, 1, none⟩ = some (.int .i64 n.valid) ∧ w'.cell? ⟨bxN, 2, none⟩ = some (.int .i64 n.next) ∧ w'.cell? ⟨bxN, 3, none⟩ = some (.int .i64 n.mod) ∧ w'.cell? ⟨bxN, 4, none⟩ = some (.slice amN n.mails.length cmN) ∧ w'.cell? ⟨bxN, 5, none⟩ = some (.slice atN n.tombs.length ctN) ∧ w'.cell? ⟨bxN, 6, none⟩ = some (.int .i64 n.hor) ∧ w'.cell? ⟨wo.heap.size, 0, none⟩ = some (.int .i64 f.uid) ∧ w'.cell? ⟨wo.heap.size, 1, none⟩ = some (.int .i64 f.flags) ∧ w'.cell? ⟨wo.heap.size, 2, none⟩ = some (.int .i64 f.mod) ∧ w'.cell? ⟨wo.heap.size, 3, none⟩ = some (.string f.text)) (by kernel_rfl) (⟨(unhide N).cell 0 rfl, (unhide N).cell 1 rfl, (unhide N).cell 2 rfl, (unhide N).cell 3 rfl, (unhide N).cell 4 rfl, (unhide N).cell 5 rfl, (unhide N).cell 6 rfl, (unhide M).cell 0 rfl, (unhide M).cell 1 rfl, (unhide M).cell 2 rfl, (unhide M).cell 3 rfl⟩) (fun hHeld => ?_)
            clear Bc0_8 Bc1_8 Bc2_8 Bc3_8 Bc4_8 Bc5_8 Bc6_8 Mc0_9 Mc1_9 Mc2_9 Mc3_9 Nc0_10 Nc1_10 Nc2_10 Nc3_10 Nc4_10 Nc5_10 Nc6_10 EM; replace B := hide ((unhide B).drew); replace N := hide ((unhide N).drew); replace M := hide ((unhide M).drew); replace OB := hide ((unhide OB).drew); replace ON := hide ((unhide ON).drew); replace RN := hide ((unhide RN).drew); replace BB := hide ((unhide BB).drew)
            have sz302 : Hid (wr1.heap.size ≤ wr1.drew.heap.size) := Nat.le_refl _
            refine takeVal 0 (some 55) ?_ rfl (by kernel_rfl) (by kernel_rfl) (by kernel_rfl) rfl (fun _ _ _ h => h) (by rfl) (by assumption) ?_ ?_; rotate_left; (intro w hSw; (try dsimp only at hSw); go_simp <;> with_reducible rfl); simp only [Act.put, List.setIfInBounds_toArray, List.set_cons_zero, List.set_cons_succ]
            refine takeVal 1 (some 56) ?_ rfl (by kernel_rfl) (by kernel_rfl) (by kernel_rfl) rfl (fun _ _ _ h => h) (by rfl) (by assumption) ?_ ?_; rotate_left; (intro w hSw; (try dsimp only at hSw); go_simp <;> with_reducible rfl); simp only [Act.put, List.setIfInBounds_toArray, List.set_cons_zero, List.set_cons_succ]
            refine takeVal 2 (some 57) ?_ rfl (by kernel_rfl) (by kernel_rfl) (by kernel_rfl) rfl (fun _ _ _ h => h) (by rfl) (by assumption) ?_ ?_; rotate_left; (intro w hSw; (try dsimp only at hSw); go_simp <;> with_reducible rfl); simp only [Act.put, List.setIfInBounds_toArray, List.set_cons_zero, List.set_cons_succ]
            refine takeVal 4 (some 59) ?_ rfl (by kernel_rfl) (by kernel_rfl) (by kernel_rfl) rfl (fun _ _ _ h => h) (by rfl) (by assumption) ?_ ?_; rotate_left; (intro w hSw; (try dsimp only at hSw); go_simp <;> with_reducible rfl); simp only [Act.put, List.setIfInBounds_toArray, List.set_cons_zero, List.set_cons_succ]
            refine takeVal 5 (some 60) ?_ rfl (by kernel_rfl) (by kernel_rfl) (by kernel_rfl) rfl (fun _ _ _ h => h) (by rfl) (by assumption) ?_ ?_; rotate_left; (intro w hSw; (try dsimp only at hSw); go_simp <;> with_reducible rfl); simp only [Act.put, List.setIfInBounds_toArray, List.set_cons_zero, List.set_cons_succ]
            refine takeVal 6 (some 61) ?_ rfl (by kernel_rfl) (by kernel_rfl) (by kernel_rfl) rfl (fun _ _ _ h => h) (by rfl) (by assumption) ?_ ?_; rotate_left; (intro w hSw; (try dsimp only at hSw); go_simp <;> with_reducible rfl); simp only [Act.put, List.setIfInBounds_toArray, List.set_cons_zero, List.set_cons_succ]
            refine takeVal 7 (some 62) ?_ rfl (by kernel_rfl) (by kernel_rfl) (by kernel_rfl) rfl (fun _ _ _ h => h) (by rfl) (by assumption) ?_ ?_; rotate_left; (intro w hSw; (try dsimp only at hSw); go_simp <;> with_reducible rfl); simp only [Act.put, List.setIfInBounds_toArray, List.set_cons_zero, List.set_cons_succ]
            refine takeVal 8 (some 63) ?_ rfl (by kernel_rfl) (by kernel_rfl) (by kernel_rfl) rfl (fun _ _ _ h => h) (by rfl) (by assumption) ?_ ?_; rotate_left; (intro w hSw; (try dsimp only at hSw); go_simp <;> with_reducible rfl); simp only [Act.put, List.setIfInBounds_toArray, List.set_cons_zero, List.set_cons_succ]
            refine wpAnyH_ready (rs := [3]) (by kernel_rfl) (by simp) ?_
            refine AllReadyH.cons rfl (fun K hK => ?_) AllReadyH.nil
            go_simp
            refine ((unhide CC).has G f.uid vN _ _ sG (unhide RN) (unhide BB)).mono ?_
            rintro e we2 ⟨rfl, hb⟩
            rw [hd]
            replace B := hide ((unhide B).ups hb); replace N := hide ((unhide N).ups hb); replace M := hide ((unhide M).ups hb); replace OB := hide ((unhide OB).up hb); replace ON := hide ((unhide ON).up hb); replace RN := hide ((unhide RN).up hb); have sz303 := hide (hb.size); replace BB := hide (below_y (unhide BB) hb); clear hb; go_wp2_with fail
            refine hK.out _ _ (⟨(unhide N).cell 0 rfl, (unhide N).cell 1 rfl, (unhide N).cell 2 rfl, (unhide N).cell 3 rfl, (unhide N).cell 4 rfl, (unhide N).cell 5 rfl, (unhide N).cell 6 rfl, (unhide M).cell 0 rfl, (unhide M).cell 1 rfl, (unhide M).cell 2 rfl, (unhide M).cell 3 rfl⟩) (fun hHeld2 => ?_)
            clear hK K hHeld; have hHeld := hHeld2; clear hHeld2
            try simp only [Act.put, List.setIfInBounds_toArray, List.set_cons_zero, List.set_cons_succ]
            refine takeVal 9 (some 64) ?_ rfl (by kernel_rfl) (by kernel_rfl) (by kernel_rfl) rfl (fun _ _ _ h => h) (by rfl) (by assumption) ?_ ?_; rotate_left; (intro w hSw; (try dsimp only at hSw); go_simp <;> with_reducible rfl); simp only [Act.put, List.setIfInBounds_toArray, List.set_cons_zero, List.set_cons_succ]
            refine takeVal 10 (some 65) ?_ rfl (by kernel_rfl) (by kernel_rfl) (by kernel_rfl) rfl (fun _ _ _ h => h) (by rfl) (by assumption) ?_ ?_; rotate_left; (intro w hSw; (try dsimp only at hSw); go_simp <;> with_reducible rfl); simp only [Act.put, List.setIfInBounds_toArray, List.set_cons_zero, List.set_cons_succ]
            refine takeVal 11 (some 66) ?_ rfl (by kernel_rfl) (by kernel_rfl) (by kernel_rfl) rfl (fun _ _ _ h => h) (by rfl) (by assumption) ?_ ?_; rotate_left; (intro w hSw; (try dsimp only at hSw); go_simp <;> with_reducible rfl); simp only [Act.put, List.setIfInBounds_toArray, List.set_cons_zero, List.set_cons_succ]
            refine takeVal 12 (some 67) ?_ rfl (by kernel_rfl) (by kernel_rfl) (by kernel_rfl) rfl (fun _ _ _ h => h) (by rfl) (by assumption) ?_ ?_; rotate_left; (intro w hSw; (try dsimp only at hSw); go_simp <;> with_reducible rfl); simp only [Act.put, List.setIfInBounds_toArray, List.set_cons_zero, List.set_cons_succ]
            refine takeVal 13 (some 68) ?_ rfl (by kernel_rfl) (by kernel_rfl) (by kernel_rfl) rfl (fun _ _ _ h => h) (by rfl) (by assumption) ?_ ?_; rotate_left; (intro w hSw; (try dsimp only at hSw); go_simp <;> with_reducible rfl); simp only [Act.put, List.setIfInBounds_toArray, List.set_cons_zero, List.set_cons_succ]
            refine takeVal 15 (some 70) ?_ rfl (by kernel_rfl) (by kernel_rfl) (by kernel_rfl) rfl (fun _ _ _ h => h) (by rfl) (by assumption) ?_ ?_; rotate_left; (intro w hSw; (try dsimp only at hSw); go_simp <;> with_reducible rfl); simp only [Act.put, List.setIfInBounds_toArray, List.set_cons_zero, List.set_cons_succ]
            refine takeVal 17 (some 72) ?_ rfl (by kernel_rfl) (by kernel_rfl) (by kernel_rfl) rfl (fun _ _ _ h => h) (by rfl) (by assumption) ?_ ?_; rotate_left; (intro w hSw; (try dsimp only at hSw); go_simp <;> with_reducible rfl); simp only [Act.put, List.setIfInBounds_toArray, List.set_cons_zero, List.set_cons_succ]
            refine takeVal 18 (some 73) ?_ rfl (by kernel_rfl) (by kernel_rfl) (by kernel_rfl) rfl (fun _ _ _ h => h) (by rfl) (by assumption) ?_ ?_; rotate_left; (intro w hSw; (try dsimp only at hSw); go_simp <;> with_reducible rfl); simp only [Act.put, List.setIfInBounds_toArray, List.set_cons_zero, List.set_cons_succ]
            refine wpAnyH_ready (rs := [14]) (by kernel_rfl) (by simp) ?_
            refine AllReadyH.cons rfl (fun K hK => ?_) AllReadyH.nil
            go_simp
            refine ((unhide CC).has G f.uid vN _ _ sG (unhide RN) (unhide BB)).mono ?_
            rintro e we3 ⟨rfl, hb⟩
            rw [hd]
            replace B := hide ((unhide B).ups hb); replace N := hide ((unhide N).ups hb); replace M := hide ((unhide M).ups hb); replace OB := hide ((unhide OB).up hb); replace ON := hide ((unhide ON).up hb); replace RN := hide ((unhide RN).up hb); have sz304 := hide (hb.size); replace BB := hide (below_y (unhide BB) hb); clear hb; go_wp2_with fail
            refine hK.out _ _ (⟨(unhide N).cell 0 rfl, (unhide N).cell 1 rfl, (unhide N).cell 2 rfl, (unhide N).cell 3 rfl, (unhide N).cell 4 rfl, (unhide N).cell 5 rfl, (unhide N).cell 6 rfl, (unhide M).cell 0 rfl, (unhide M).cell 1 rfl, (unhide M).cell 2 rfl, (unhide M).cell 3 rfl⟩) (fun hHeld2 => ?_)
            clear hK K hHeld; have hHeld := hHeld2; clear hHeld2
            try simp only [Act.put, List.setIfInBounds_toArray, List.set_cons_zero, List.set_cons_succ]
            refine wpAnyH_ready (rs := [16]) (by kernel_rfl) (by simp) ?_
            refine AllReadyH.cons rfl (fun K hK => ?_) AllReadyH.nil
            go_simp
            refine (uids_list n _ _ _ _ (by omega) (unhide ON)).mono ?_
            rintro e we4 ⟨vU, rfl, oU, hb⟩
            have RU_ := hide oU; clear oU; replace B := hide ((unhide B).ups hb); replace N := hide ((unhide N).ups hb); replace M := hide ((unhide M).ups hb); replace OB := hide ((unhide OB).up hb); replace ON := hide ((unhide ON).up hb); replace RN := hide ((unhide RN).up hb); have sz305 := hide (hb.size); replace BB := hide (below_y (unhide BB) hb); clear hb; go_wp2_with fail
            refine hK.out _ _ (⟨(unhide N).cell 0 rfl, (unhide N).cell 1 rfl, (unhide N).cell 2 rfl, (unhide N).cell 3 rfl, (unhide N).cell 4 rfl, (unhide N).cell 5 rfl, (unhide N).cell 6 rfl, (unhide M).cell 0 rfl, (unhide M).cell 1 rfl, (unhide M).cell 2 rfl, (unhide M).cell 3 rfl⟩) (fun hHeld2 => ?_)
            clear hK K hHeld; have hHeld := hHeld2; clear hHeld2
            try simp only [Act.put, List.setIfInBounds_toArray, List.set_cons_zero, List.set_cons_succ]
            have RU := RU_; clear RU_
            refine wpAnyH_ready (rs := [19]) (by kernel_rfl) (by simp) ?_
            refine AllReadyH.cons rfl (fun K hK => ?_) AllReadyH.nil
            go_simp
            refine (in_list (n.mails.map (·.uid)) f.uid vU _ _ (by rw [List.length_map]; omega) (unhide RU)).mono ?_
            rintro e we5 ⟨rfl, hb⟩
            rw [unhide EB]
            replace B := hide ((unhide B).ups hb); replace N := hide ((unhide N).ups hb); replace M := hide ((unhide M).ups hb); replace OB := hide ((unhide OB).up hb); replace ON := hide ((unhide ON).up hb); replace RN := hide ((unhide RN).up hb); replace RU := hide ((unhide RU).up hb); have sz306 := hide (hb.size); replace BB := hide (below_y (unhide BB) hb); clear hb; go_wp2_with fail
            refine hK.out _ _ (⟨(unhide N).cell 0 rfl, (unhide N).cell 1 rfl, (unhide N).cell 2 rfl, (unhide N).cell 3 rfl, (unhide N).cell 4 rfl, (unhide N).cell 5 rfl, (unhide N).cell 6 rfl, (unhide M).cell 0 rfl, (unhide M).cell 1 rfl, (unhide M).cell 2 rfl, (unhide M).cell 3 rfl⟩) (fun hHeld2 => ?_)
            clear hK K hHeld; have hHeld := hHeld2; clear hHeld2
            try simp only [Act.put, List.setIfInBounds_toArray, List.set_cons_zero, List.set_cons_succ]
            refine takeVal 20 (some 75) ?_ rfl (by kernel_rfl) (by kernel_rfl) (by kernel_rfl) rfl (fun _ _ _ h => h) (by rfl) (by assumption) ?_ ?_; rotate_left; (intro w hSw; (try dsimp only at hSw); go_simp <;> with_reducible rfl); simp only [Act.put, List.setIfInBounds_toArray, List.set_cons_zero, List.set_cons_succ]
            refine takeVal 21 (some 76) ?_ rfl (by kernel_rfl) (by kernel_rfl) (by kernel_rfl) rfl (fun _ _ _ h => h) (by rfl) (by assumption) ?_ ?_; rotate_left; (intro w hSw; (try dsimp only at hSw); go_simp <;> with_reducible rfl); simp only [Act.put, List.setIfInBounds_toArray, List.set_cons_zero, List.set_cons_succ]
            refine wpAnyH_done (by kernel_rfl) ?_ _
            go_wp2
            go_roundw
            case rel => rw [unhide HREL]; exact ⟨k + 1, by omega, by go_num, unhide B, unhide N, unhide OB, unhide ON, unhide RN, unhide BB⟩
            case measure => simp [intOf]; omega
          | true =>
            rw [hd] at EA2 EB2
            have d1 := EA2.symm; have EB := hide EB2; clear EA2 EB2; have Mc0_9 := (unhide M).cell 0 rfl; have Mc1_9 := (unhide M).cell 1 rfl; have Mc2_9 := (unhide M).cell 2 rfl; have Mc3_9 := (unhide M).cell 3 rfl; have Nc0_10 := (unhide N).cell 0 rfl; have Nc1_10 := (unhide N).cell 1 rfl; have Nc2_10 := (unhide N).cell 2 rfl; have Nc3_10 := (unhide N).cell 3 rfl; have Nc4_10 := (unhide N).cell 4 rfl; have Nc5_10 := (unhide N).cell 5 rfl; have Nc6_10 := (unhide N).cell 6 rfl
            go_wp2
            clear c0 c1 c2 c3
            refine wp_region_held_drew (S := fun w' => w'.cell? ⟨bxN, 0, none⟩ = some (.string n.name) ∧ w'.cell? ⟨bxN, 1, none⟩ = some (.int .i64 n.valid) ∧ w'.cell? ⟨bxN, 2, none⟩ = some (.int .i64 n.next) ∧ w'.cell? ⟨bxN, 3, none⟩ = some (.int .i64 n.mod) ∧ w'.cell? ⟨bxN, 4, none⟩ = some (.slice amN n.mails.length cmN) ∧ w'.cell? ⟨bxN, 5, none⟩ = some (.slice atN n.tombs.length ctN) ∧ w'.cell? ⟨bxN, 6, none⟩ = some (.int .i64 n.hor) ∧ w'.cell? ⟨wo.heap.size, 0, none⟩ = some (.int .i64 f.uid) ∧ w'.cell? ⟨wo.heap.size, 1, none⟩ = some (.int .i64 f.flags) ∧ w'.cell? ⟨wo.heap.size, 2, none⟩ = some (.int .i64 f.mod) ∧ w'.cell? ⟨wo.heap.size, 3, none⟩ = some (.string f.text)) (by kernel_rfl) (⟨(unhide N).cell 0 rfl, (unhide N).cell 1 rfl, (unhide N).cell 2 rfl, (unhide N).cell 3 rfl, (unhide N).cell 4 rfl, (unhide N).cell 5 rfl, (unhide N).cell 6 rfl, (unhide M).cell 0 rfl, (unhide M).cell 1 rfl, (unhide M).cell 2 rfl, (unhide M).cell 3 rfl⟩) (fun hHeld => ?_)
            clear Bc0_8 Bc1_8 Bc2_8 Bc3_8 Bc4_8 Bc5_8 Bc6_8 Mc0_9 Mc1_9 Mc2_9 Mc3_9 Nc0_10 Nc1_10 Nc2_10 Nc3_10 Nc4_10 Nc5_10 Nc6_10 EM; replace B := hide ((unhide B).drew); replace N := hide ((unhide N).drew); replace M := hide ((unhide M).drew); replace OB := hide ((unhide OB).drew); replace ON := hide ((unhide ON).drew); replace RN := hide ((unhide RN).drew); replace BB := hide ((unhide BB).drew)
            have sz302 : Hid (wr1.heap.size ≤ wr1.drew.heap.size) := Nat.le_refl _
            refine takeVal 0 (some 55) ?_ rfl (by kernel_rfl) (by kernel_rfl) (by kernel_rfl) rfl (fun _ _ _ h => h) (by rfl) (by assumption) ?_ ?_; rotate_left; (intro w hSw; (try dsimp only at hSw); go_simp <;> with_reducible rfl); simp only [Act.put, List.setIfInBounds_toArray, List.set_cons_zero, List.set_cons_succ]
            refine takeVal 1 (some 56) ?_ rfl (by kernel_rfl) (by kernel_rfl) (by kernel_rfl) rfl (fun _ _ _ h => h) (by rfl) (by assumption) ?_ ?_; rotate_left; (intro w hSw; (try dsimp only at hSw); go_simp <;> with_reducible rfl); simp only [Act.put, List.setIfInBounds_toArray, List.set_cons_zero, List.set_cons_succ]
            refine takeVal 2 (some 57) ?_ rfl (by kernel_rfl) (by kernel_rfl) (by kernel_rfl) rfl (fun _ _ _ h => h) (by rfl) (by assumption) ?_ ?_; rotate_left; (intro w hSw; (try dsimp only at hSw); go_simp <;> with_reducible rfl); simp only [Act.put, List.setIfInBounds_toArray, List.set_cons_zero, List.set_cons_succ]
            refine takeVal 4 (some 59) ?_ rfl (by kernel_rfl) (by kernel_rfl) (by kernel_rfl) rfl (fun _ _ _ h => h) (by rfl) (by assumption) ?_ ?_; rotate_left; (intro w hSw; (try dsimp only at hSw); go_simp <;> with_reducible rfl); simp only [Act.put, List.setIfInBounds_toArray, List.set_cons_zero, List.set_cons_succ]
            refine takeVal 5 (some 60) ?_ rfl (by kernel_rfl) (by kernel_rfl) (by kernel_rfl) rfl (fun _ _ _ h => h) (by rfl) (by assumption) ?_ ?_; rotate_left; (intro w hSw; (try dsimp only at hSw); go_simp <;> with_reducible rfl); simp only [Act.put, List.setIfInBounds_toArray, List.set_cons_zero, List.set_cons_succ]
            refine takeVal 6 (some 61) ?_ rfl (by kernel_rfl) (by kernel_rfl) (by kernel_rfl) rfl (fun _ _ _ h => h) (by rfl) (by assumption) ?_ ?_; rotate_left; (intro w hSw; (try dsimp only at hSw); go_simp <;> with_reducible rfl); simp only [Act.put, List.setIfInBounds_toArray, List.set_cons_zero, List.set_cons_succ]
            refine takeVal 7 (some 62) ?_ rfl (by kernel_rfl) (by kernel_rfl) (by kernel_rfl) rfl (fun _ _ _ h => h) (by rfl) (by assumption) ?_ ?_; rotate_left; (intro w hSw; (try dsimp only at hSw); go_simp <;> with_reducible rfl); simp only [Act.put, List.setIfInBounds_toArray, List.set_cons_zero, List.set_cons_succ]
            refine takeVal 8 (some 63) ?_ rfl (by kernel_rfl) (by kernel_rfl) (by kernel_rfl) rfl (fun _ _ _ h => h) (by rfl) (by assumption) ?_ ?_; rotate_left; (intro w hSw; (try dsimp only at hSw); go_simp <;> with_reducible rfl); simp only [Act.put, List.setIfInBounds_toArray, List.set_cons_zero, List.set_cons_succ]
            refine wpAnyH_ready (rs := [3]) (by kernel_rfl) (by simp) ?_
            refine AllReadyH.cons rfl (fun K hK => ?_) AllReadyH.nil
            go_simp
            refine ((unhide CC).has G f.uid vN _ _ sG (unhide RN) (unhide BB)).mono ?_
            rintro e wd2 ⟨rfl, hb⟩
            rw [hd]
            replace B := hide ((unhide B).ups hb); replace N := hide ((unhide N).ups hb); replace M := hide ((unhide M).ups hb); replace OB := hide ((unhide OB).up hb); replace ON := hide ((unhide ON).up hb); replace RN := hide ((unhide RN).up hb); have sz303 := hide (hb.size); replace BB := hide (below_y (unhide BB) hb); clear hb; go_wp2_with fail
            refine hK.out _ _ (⟨(unhide N).cell 0 rfl, (unhide N).cell 1 rfl, (unhide N).cell 2 rfl, (unhide N).cell 3 rfl, (unhide N).cell 4 rfl, (unhide N).cell 5 rfl, (unhide N).cell 6 rfl, (unhide M).cell 0 rfl, (unhide M).cell 1 rfl, (unhide M).cell 2 rfl, (unhide M).cell 3 rfl⟩) (fun hHeld2 => ?_)
            clear hK K hHeld; have hHeld := hHeld2; clear hHeld2
            try simp only [Act.put, List.setIfInBounds_toArray, List.set_cons_zero, List.set_cons_succ]
            refine takeVal 9 (some 64) ?_ rfl (by kernel_rfl) (by kernel_rfl) (by kernel_rfl) rfl (fun _ _ _ h => h) (by rfl) (by assumption) ?_ ?_; rotate_left; (intro w hSw; (try dsimp only at hSw); go_simp <;> with_reducible rfl); simp only [Act.put, List.setIfInBounds_toArray, List.set_cons_zero, List.set_cons_succ]
            refine takeVal 10 (some 65) ?_ rfl (by kernel_rfl) (by kernel_rfl) (by kernel_rfl) rfl (fun _ _ _ h => h) (by rfl) (by assumption) ?_ ?_; rotate_left; (intro w hSw; (try dsimp only at hSw); go_simp <;> with_reducible rfl); simp only [Act.put, List.setIfInBounds_toArray, List.set_cons_zero, List.set_cons_succ]
            refine takeVal 11 (some 66) ?_ rfl (by kernel_rfl) (by kernel_rfl) (by kernel_rfl) rfl (fun _ _ _ h => h) (by rfl) (by assumption) ?_ ?_; rotate_left; (intro w hSw; (try dsimp only at hSw); go_simp <;> with_reducible rfl); simp only [Act.put, List.setIfInBounds_toArray, List.set_cons_zero, List.set_cons_succ]
            refine takeVal 12 (some 67) ?_ rfl (by kernel_rfl) (by kernel_rfl) (by kernel_rfl) rfl (fun _ _ _ h => h) (by rfl) (by assumption) ?_ ?_; rotate_left; (intro w hSw; (try dsimp only at hSw); go_simp <;> with_reducible rfl); simp only [Act.put, List.setIfInBounds_toArray, List.set_cons_zero, List.set_cons_succ]
            refine takeVal 13 (some 68) ?_ rfl (by kernel_rfl) (by kernel_rfl) (by kernel_rfl) rfl (fun _ _ _ h => h) (by rfl) (by assumption) ?_ ?_; rotate_left; (intro w hSw; (try dsimp only at hSw); go_simp <;> with_reducible rfl); simp only [Act.put, List.setIfInBounds_toArray, List.set_cons_zero, List.set_cons_succ]
            refine takeVal 15 (some 70) ?_ rfl (by kernel_rfl) (by kernel_rfl) (by kernel_rfl) rfl (fun _ _ _ h => h) (by rfl) (by assumption) ?_ ?_; rotate_left; (intro w hSw; (try dsimp only at hSw); go_simp <;> with_reducible rfl); simp only [Act.put, List.setIfInBounds_toArray, List.set_cons_zero, List.set_cons_succ]
            refine takeVal 17 (some 72) ?_ rfl (by kernel_rfl) (by kernel_rfl) (by kernel_rfl) rfl (fun _ _ _ h => h) (by rfl) (by assumption) ?_ ?_; rotate_left; (intro w hSw; (try dsimp only at hSw); go_simp <;> with_reducible rfl); simp only [Act.put, List.setIfInBounds_toArray, List.set_cons_zero, List.set_cons_succ]
            refine takeVal 18 (some 73) ?_ rfl (by kernel_rfl) (by kernel_rfl) (by kernel_rfl) rfl (fun _ _ _ h => h) (by rfl) (by assumption) ?_ ?_; rotate_left; (intro w hSw; (try dsimp only at hSw); go_simp <;> with_reducible rfl); simp only [Act.put, List.setIfInBounds_toArray, List.set_cons_zero, List.set_cons_succ]
            refine wpAnyH_ready (rs := [14]) (by kernel_rfl) (by simp) ?_
            refine AllReadyH.cons rfl (fun K hK => ?_) AllReadyH.nil
            go_simp
            refine ((unhide CC).has G f.uid vN _ _ sG (unhide RN) (unhide BB)).mono ?_
            rintro e wd3 ⟨rfl, hb⟩
            rw [hd]
            replace B := hide ((unhide B).ups hb); replace N := hide ((unhide N).ups hb); replace M := hide ((unhide M).ups hb); replace OB := hide ((unhide OB).up hb); replace ON := hide ((unhide ON).up hb); replace RN := hide ((unhide RN).up hb); have sz304 := hide (hb.size); replace BB := hide (below_y (unhide BB) hb); clear hb; go_wp2_with fail
            refine hK.out _ _ (⟨(unhide N).cell 0 rfl, (unhide N).cell 1 rfl, (unhide N).cell 2 rfl, (unhide N).cell 3 rfl, (unhide N).cell 4 rfl, (unhide N).cell 5 rfl, (unhide N).cell 6 rfl, (unhide M).cell 0 rfl, (unhide M).cell 1 rfl, (unhide M).cell 2 rfl, (unhide M).cell 3 rfl⟩) (fun hHeld2 => ?_)
            clear hK K hHeld; have hHeld := hHeld2; clear hHeld2
            try simp only [Act.put, List.setIfInBounds_toArray, List.set_cons_zero, List.set_cons_succ]
            refine wpAnyH_ready (rs := [16]) (by kernel_rfl) (by simp) ?_
            refine AllReadyH.cons rfl (fun K hK => ?_) AllReadyH.nil
            go_simp
            refine (uids_list n _ _ _ _ (by omega) (unhide ON)).mono ?_
            rintro e wd4 ⟨vU, rfl, oU, hb⟩
            have RU_ := hide oU; clear oU; replace B := hide ((unhide B).ups hb); replace N := hide ((unhide N).ups hb); replace M := hide ((unhide M).ups hb); replace OB := hide ((unhide OB).up hb); replace ON := hide ((unhide ON).up hb); replace RN := hide ((unhide RN).up hb); have sz305 := hide (hb.size); replace BB := hide (below_y (unhide BB) hb); clear hb; go_wp2_with fail
            refine hK.out _ _ (⟨(unhide N).cell 0 rfl, (unhide N).cell 1 rfl, (unhide N).cell 2 rfl, (unhide N).cell 3 rfl, (unhide N).cell 4 rfl, (unhide N).cell 5 rfl, (unhide N).cell 6 rfl, (unhide M).cell 0 rfl, (unhide M).cell 1 rfl, (unhide M).cell 2 rfl, (unhide M).cell 3 rfl⟩) (fun hHeld2 => ?_)
            clear hK K hHeld; have hHeld := hHeld2; clear hHeld2
            try simp only [Act.put, List.setIfInBounds_toArray, List.set_cons_zero, List.set_cons_succ]
            have RU := RU_; clear RU_
            refine wpAnyH_ready (rs := [19]) (by kernel_rfl) (by simp) ?_
            refine AllReadyH.cons rfl (fun K hK => ?_) AllReadyH.nil
            go_simp
            refine (in_list (n.mails.map (·.uid)) f.uid vU _ _ (by rw [List.length_map]; omega) (unhide RU)).mono ?_
            rintro e wd5 ⟨rfl, hb⟩
            rw [unhide EB]
            replace B := hide ((unhide B).ups hb); replace N := hide ((unhide N).ups hb); replace M := hide ((unhide M).ups hb); replace OB := hide ((unhide OB).up hb); replace ON := hide ((unhide ON).up hb); replace RN := hide ((unhide RN).up hb); replace RU := hide ((unhide RU).up hb); have sz306 := hide (hb.size); replace BB := hide (below_y (unhide BB) hb); clear hb; go_wp2_with fail
            refine hK.out _ _ (⟨(unhide N).cell 0 rfl, (unhide N).cell 1 rfl, (unhide N).cell 2 rfl, (unhide N).cell 3 rfl, (unhide N).cell 4 rfl, (unhide N).cell 5 rfl, (unhide N).cell 6 rfl, (unhide M).cell 0 rfl, (unhide M).cell 1 rfl, (unhide M).cell 2 rfl, (unhide M).cell 3 rfl⟩) (fun hHeld2 => ?_)
            clear hK K hHeld; have hHeld := hHeld2; clear hHeld2
            try simp only [Act.put, List.setIfInBounds_toArray, List.set_cons_zero, List.set_cons_succ]
            refine takeVal 20 (some 75) ?_ rfl (by kernel_rfl) (by kernel_rfl) (by kernel_rfl) rfl (fun _ _ _ h => h) (by rfl) (by assumption) ?_ ?_; rotate_left; (intro w hSw; (try dsimp only at hSw); go_simp <;> with_reducible rfl); simp only [Act.put, List.setIfInBounds_toArray, List.set_cons_zero, List.set_cons_succ]
            refine takeVal 21 (some 76) ?_ rfl (by kernel_rfl) (by kernel_rfl) (by kernel_rfl) rfl (fun _ _ _ h => h) (by rfl) (by assumption) ?_ ?_; rotate_left; (intro w hSw; (try dsimp only at hSw); go_simp <;> with_reducible rfl); simp only [Act.put, List.setIfInBounds_toArray, List.set_cons_zero, List.set_cons_succ]
            refine wpAnyH_done (by kernel_rfl) ?_ _
            go_wp2
            go_roundw
            case rel => rw [unhide HREL]; exact ⟨k + 1, by omega, by go_num, unhide B, unhide N, unhide OB, unhide ON, unhide RN, unhide BB⟩
            case measure => simp [intOf]; omega
        · obtain rfl : k = b.mails.length := by omega
          have B := hide oB; have N := hide oN; have OB := hide rB; have ON := hide rN; have RN := hide rG; have BB := hide hbel; clear oB oN rB rN rG hbel hlt hk; have Bc0_8 := (unhide B).cell 0 rfl; have Bc1_8 := (unhide B).cell 1 rfl; have Bc2_8 := (unhide B).cell 2 rfl; have Bc3_8 := (unhide B).cell 3 rfl; have Bc4_8 := (unhide B).cell 4 rfl; have Bc5_8 := (unhide B).cell 5 rfl; have Bc6_8 := (unhide B).cell 6 rfl; have Nc0_9 := (unhide N).cell 0 rfl; have Nc1_9 := (unhide N).cell 1 rfl; have Nc2_9 := (unhide N).cell 2 rfl; have Nc3_9 := (unhide N).cell 3 rfl; have Nc4_9 := (unhide N).cell 4 rfl; have Nc5_9 := (unhide N).cell 5 rfl; have Nc6_9 := (unhide N).cell 6 rfl; go_wp2_with fail; clear Bc0_8 Bc1_8 Bc2_8 Bc3_8 Bc4_8 Bc5_8 Bc6_8 Nc0_9 Nc1_9 Nc2_9 Nc3_9 Nc4_9 Nc5_9 Nc6_9
          refine ((unhide CC).van n _ _ _ b.mod _ (unhide FITN) (unhide ON) (unhide BB)).mono ?_
          rintro e wx1 ⟨vV, rfl, oV, hb⟩
          have RV_ := hide oV; clear oV; replace B := hide ((unhide B).ups hb); replace N := hide ((unhide N).ups hb); replace OB := hide ((unhide OB).up hb); replace ON := hide ((unhide ON).up hb); replace RN := hide ((unhide RN).up hb); have sz401 := hide (hb.size); replace BB := hide (below_y (unhide BB) hb); clear hb; have RV := RV_; clear RV_; have TD := unhide TOLD; have SV := unhide sV; clear TOLD
          generalize vanV n b.mod = vv at *
          obtain ⟨V, t9⟩ := vv
          simp only at TD SV RV ⊢
          have nn : IntKind.i64.wrap ((n.mails.length : Int) + sizeL G) = (b.mails.length : Int) := by rw [IntKind.wrap_i64, SIZE]; omega
          have SZ := hide SIZE; clear SIZE; have nx := unhide NEXT
          cases t9 with
          | false =>
            clear TD; have Bc0_10 := (unhide B).cell 0 rfl; have Bc1_10 := (unhide B).cell 1 rfl; have Bc2_10 := (unhide B).cell 2 rfl; have Bc3_10 := (unhide B).cell 3 rfl; have Bc4_10 := (unhide B).cell 4 rfl; have Bc5_10 := (unhide B).cell 5 rfl; have Bc6_10 := (unhide B).cell 6 rfl; have Nc0_11 := (unhide N).cell 0 rfl; have Nc1_11 := (unhide N).cell 1 rfl; have Nc2_11 := (unhide N).cell 2 rfl; have Nc3_11 := (unhide N).cell 3 rfl; have Nc4_11 := (unhide N).cell 4 rfl; have Nc5_11 := (unhide N).cell 5 rfl; have Nc6_11 := (unhide N).cell 6 rfl
            go_wp2
            refine wp_region_held_drew (S := fun w' => w'.cell? ⟨w1.heap.size, 0, none⟩ = some (.string b.name) ∧ w'.cell? ⟨w1.heap.size, 1, none⟩ = some (.int .i64 b.valid) ∧ w'.cell? ⟨w1.heap.size, 2, none⟩ = some (.int .i64 b.next) ∧ w'.cell? ⟨w1.heap.size, 3, none⟩ = some (.int .i64 b.mod) ∧ w'.cell? ⟨w1.heap.size, 4, none⟩ = some (.slice amB b.mails.length cmB) ∧ w'.cell? ⟨w1.heap.size, 5, none⟩ = some (.slice atB b.tombs.length ctB) ∧ w'.cell? ⟨w1.heap.size, 6, none⟩ = some (.int .i64 b.hor) ∧ w'.cell? ⟨bxN, 0, none⟩ = some (.string n.name) ∧ w'.cell? ⟨bxN, 1, none⟩ = some (.int .i64 n.valid) ∧ w'.cell? ⟨bxN, 2, none⟩ = some (.int .i64 n.next) ∧ w'.cell? ⟨bxN, 3, none⟩ = some (.int .i64 n.mod) ∧ w'.cell? ⟨bxN, 4, none⟩ = some (.slice amN n.mails.length cmN) ∧ w'.cell? ⟨bxN, 5, none⟩ = some (.slice atN n.tombs.length ctN) ∧ w'.cell? ⟨bxN, 6, none⟩ = some (.int .i64 n.hor)) (by kernel_rfl) (⟨(unhide B).cell 0 rfl, (unhide B).cell 1 rfl, (unhide B).cell 2 rfl, (unhide B).cell 3 rfl, (unhide B).cell 4 rfl, (unhide B).cell 5 rfl, (unhide B).cell 6 rfl, (unhide N).cell 0 rfl, (unhide N).cell 1 rfl, (unhide N).cell 2 rfl, (unhide N).cell 3 rfl, (unhide N).cell 4 rfl, (unhide N).cell 5 rfl, (unhide N).cell 6 rfl⟩) (fun hHeld => ?_)
            clear Bc0_10 Bc1_10 Bc2_10 Bc3_10 Bc4_10 Bc5_10 Bc6_10 Nc0_11 Nc1_11 Nc2_11 Nc3_11 Nc4_11 Nc5_11 Nc6_11; replace B := hide ((unhide B).drew); replace N := hide ((unhide N).drew); replace OB := hide ((unhide OB).drew); replace ON := hide ((unhide ON).drew); replace RN := hide ((unhide RN).drew); replace RV := hide ((unhide RV).drew); replace BB := hide ((unhide BB).drew)
            have sz402 : Hid (wx1.heap.size ≤ wx1.drew.heap.size) := Nat.le_refl _
            refine takeVal 0 (some 84) ?_ rfl (by kernel_rfl) (by kernel_rfl) (by kernel_rfl) rfl (fun _ _ _ h => h) (by rfl) (by assumption) ?_ ?_; rotate_left; (intro w hSw; (try dsimp only at hSw); go_simp <;> with_reducible rfl); simp only [Act.put, List.setIfInBounds_toArray, List.set_cons_zero, List.set_cons_succ]
            refine takeVal 1 (some 85) ?_ rfl (by kernel_rfl) (by kernel_rfl) (by kernel_rfl) rfl (fun _ _ _ h => h) (by rfl) (by assumption) ?_ ?_; rotate_left; (intro w hSw; (try dsimp only at hSw); go_simp <;> with_reducible rfl); simp only [Act.put, List.setIfInBounds_toArray, List.set_cons_zero, List.set_cons_succ]
            refine takeVal 2 (some 86) ?_ rfl (by kernel_rfl) (by kernel_rfl) (by kernel_rfl) rfl (fun _ _ _ h => h) (by rfl) (by assumption) ?_ ?_; rotate_left; (intro w hSw; (try dsimp only at hSw); go_simp <;> with_reducible rfl); simp only [Act.put, List.setIfInBounds_toArray, List.set_cons_zero, List.set_cons_succ]
            refine takeVal 3 (some 87) ?_ rfl (by kernel_rfl) (by kernel_rfl) (by kernel_rfl) rfl (fun _ _ _ h => h) (by rfl) (by assumption) ?_ ?_; rotate_left; (intro w hSw; (try dsimp only at hSw); go_simp <;> with_reducible rfl); simp only [Act.put, List.setIfInBounds_toArray, List.set_cons_zero, List.set_cons_succ]
            refine takeVal 6 (some 90) ?_ rfl (by kernel_rfl) (by kernel_rfl) (by kernel_rfl) rfl (fun _ _ _ h => h) (by rfl) (by assumption) ?_ ?_; rotate_left; (intro w hSw; (try dsimp only at hSw); go_simp <;> with_reducible rfl); simp only [Act.put, List.setIfInBounds_toArray, List.set_cons_zero, List.set_cons_succ]
            refine takeVal 7 (some 91) ?_ rfl (by kernel_rfl) (by kernel_rfl) (by kernel_rfl) rfl (fun _ _ _ h => h) (by rfl) (by assumption) ?_ ?_; rotate_left; (intro w hSw; (try dsimp only at hSw); go_simp <;> with_reducible rfl); simp only [Act.put, List.setIfInBounds_toArray, List.set_cons_zero, List.set_cons_succ]
            refine takeVal 8 (some 92) ?_ rfl (by kernel_rfl) (by kernel_rfl) (by kernel_rfl) rfl (fun _ _ _ h => h) (by rfl) (by assumption) ?_ ?_; rotate_left; (intro w hSw; (try dsimp only at hSw); go_simp <;> with_reducible rfl); simp only [Act.put, List.setIfInBounds_toArray, List.set_cons_zero, List.set_cons_succ]
            refine wpAnyH_ready (rs := [4]) (by kernel_rfl) (by simp) ?_
            refine AllReadyH.cons rfl (fun K hK => ?_) AllReadyH.nil
            go_simp
            refine (sizeE_held _ vN _ _ (by first | exact sG | exact SV) (unhide RN)).mono ?_
            rintro e wf2 ⟨rfl, hb⟩
            replace B := hide ((unhide B).ups hb); replace N := hide ((unhide N).ups hb); replace OB := hide ((unhide OB).up hb); replace ON := hide ((unhide ON).up hb); replace RN := hide ((unhide RN).up hb); replace RV := hide ((unhide RV).up hb); have sz403 := hide (hb.size); replace BB := hide (below_y (unhide BB) hb); clear hb; go_wp2_with fail
            refine hK.out _ _ (⟨(unhide B).cell 0 rfl, (unhide B).cell 1 rfl, (unhide B).cell 2 rfl, (unhide B).cell 3 rfl, (unhide B).cell 4 rfl, (unhide B).cell 5 rfl, (unhide B).cell 6 rfl, (unhide N).cell 0 rfl, (unhide N).cell 1 rfl, (unhide N).cell 2 rfl, (unhide N).cell 3 rfl, (unhide N).cell 4 rfl, (unhide N).cell 5 rfl, (unhide N).cell 6 rfl⟩) (fun hHeld2 => ?_)
            clear hK K hHeld; have hHeld := hHeld2; clear hHeld2
            try simp only [Act.put, List.setIfInBounds_toArray, List.set_cons_zero, List.set_cons_succ]
            refine takeVal 5 (some 89) ?_ rfl (by kernel_rfl) (by kernel_rfl) (by kernel_rfl) rfl (fun _ _ _ h => h) (by rfl) (by assumption) ?_ ?_; rotate_left; (intro w hSw; (try dsimp only at hSw); go_simp <;> with_reducible rfl); simp only [Act.put, List.setIfInBounds_toArray, List.set_cons_zero, List.set_cons_succ]
            refine takeVal 9 (some 93) ?_ rfl (by kernel_rfl) (by kernel_rfl) (by kernel_rfl) rfl (fun _ _ _ h => h) (by rfl) (by assumption) ?_ ?_; rotate_left; (intro w hSw; (try dsimp only at hSw); go_simp <;> with_reducible rfl); simp only [Act.put, List.setIfInBounds_toArray, List.set_cons_zero, List.set_cons_succ]
            refine takeVal 10 (some 94) ?_ rfl (by kernel_rfl) (by kernel_rfl) (by kernel_rfl) rfl (fun _ _ _ h => h) (by rfl) (by assumption) ?_ ?_; rotate_left; (intro w hSw; (try dsimp only at hSw); go_simp <;> with_reducible rfl); simp only [Act.put, List.setIfInBounds_toArray, List.set_cons_zero, List.set_cons_succ]
            refine takeVal 11 (some 95) ?_ rfl (by kernel_rfl) (by kernel_rfl) (by kernel_rfl) rfl (fun _ _ _ h => h) (by rfl) (by assumption) ?_ ?_; rotate_left; (intro w hSw; (try dsimp only at hSw); go_simp <;> with_reducible rfl); simp only [Act.put, List.setIfInBounds_toArray, List.set_cons_zero, List.set_cons_succ]
            refine takeVal 12 (some 96) ?_ rfl (by kernel_rfl) (by kernel_rfl) (by kernel_rfl) rfl (fun _ _ _ h => h) (by rfl) (by assumption) ?_ ?_; rotate_left; (intro w hSw; (try dsimp only at hSw); go_simp <;> with_reducible rfl); simp only [Act.put, List.setIfInBounds_toArray, List.set_cons_zero, List.set_cons_succ]
            refine takeVal 13 (some 97) ?_ rfl (by kernel_rfl) (by kernel_rfl) (by kernel_rfl) rfl (fun _ _ _ h => h) (by rfl) (by assumption) ?_ ?_; rotate_left; (intro w hSw; (try dsimp only at hSw); go_simp <;> with_reducible rfl); simp only [Act.put, List.setIfInBounds_toArray, List.set_cons_zero, List.set_cons_succ]
            refine takeSkip 14 (some 98) rfl (by kernel_rfl) (by kernel_rfl) (by kernel_rfl) rfl (fun _ _ _ h => h) (by rfl) (by assumption) ?_
            simp only [Act.put, List.setIfInBounds_toArray, List.set_cons_zero, List.set_cons_succ]
            refine takeSkip 15 (some 99) rfl (by kernel_rfl) (by kernel_rfl) (by kernel_rfl) rfl (fun _ _ _ h => h) (by rfl) (by assumption) ?_
            simp only [Act.put, List.setIfInBounds_toArray, List.set_cons_zero, List.set_cons_succ]
            refine takeSkip 16 (some 100) rfl (by kernel_rfl) (by kernel_rfl) (by kernel_rfl) rfl (fun _ _ _ h => h) (by rfl) (by assumption) ?_
            simp only [Act.put, List.setIfInBounds_toArray, List.set_cons_zero, List.set_cons_succ]
            refine takeVal 17 (some 101) ?_ rfl (by kernel_rfl) (by kernel_rfl) (by kernel_rfl) rfl (fun _ _ _ h => h) (by rfl) (by assumption) ?_ ?_; rotate_left; (intro w hSw; (try dsimp only at hSw); go_simp <;> with_reducible rfl); simp only [Act.put, List.setIfInBounds_toArray, List.set_cons_zero, List.set_cons_succ]
            refine takeVal 18 (some 102) ?_ rfl (by kernel_rfl) (by kernel_rfl) (by kernel_rfl) rfl (fun _ _ _ h => h) (by rfl) (by assumption) ?_ ?_; rotate_left; (intro w hSw; (try dsimp only at hSw); go_simp <;> with_reducible rfl); simp only [Act.put, List.setIfInBounds_toArray, List.set_cons_zero, List.set_cons_succ]
            refine takeVal 19 (some 103) ?_ rfl (by kernel_rfl) (by kernel_rfl) (by kernel_rfl) rfl (fun _ _ _ h => h) (by rfl) (by assumption) ?_ ?_; rotate_left; (intro w hSw; (try dsimp only at hSw); go_simp <;> with_reducible rfl); simp only [Act.put, List.setIfInBounds_toArray, List.set_cons_zero, List.set_cons_succ]
            refine takeVal 20 (some 104) ?_ rfl (by kernel_rfl) (by kernel_rfl) (by kernel_rfl) rfl (fun _ _ _ h => h) (by rfl) (by assumption) ?_ ?_; rotate_left; (intro w hSw; (try dsimp only at hSw); go_simp <;> with_reducible rfl); simp only [Act.put, List.setIfInBounds_toArray, List.set_cons_zero, List.set_cons_succ]
            refine takeVal 21 (some 105) ?_ rfl (by kernel_rfl) (by kernel_rfl) (by kernel_rfl) rfl (fun _ _ _ h => h) (by rfl) (by assumption) ?_ ?_; rotate_left; (intro w hSw; (try dsimp only at hSw); go_simp <;> with_reducible rfl); simp only [Act.put, List.setIfInBounds_toArray, List.set_cons_zero, List.set_cons_succ]
            refine takeVal 22 (some 106) ?_ rfl (by kernel_rfl) (by kernel_rfl) (by kernel_rfl) rfl (fun _ _ _ h => h) (by rfl) (by assumption) ?_ ?_; rotate_left; (intro w hSw; (try dsimp only at hSw); go_simp <;> with_reducible rfl); simp only [Act.put, List.setIfInBounds_toArray, List.set_cons_zero, List.set_cons_succ]
            refine takeVal 23 (some 107) ?_ rfl (by kernel_rfl) (by kernel_rfl) (by kernel_rfl) rfl (fun _ _ _ h => h) (by rfl) (by assumption) ?_ ?_; rotate_left; (intro w hSw; (try dsimp only at hSw); go_simp <;> with_reducible rfl); simp only [Act.put, List.setIfInBounds_toArray, List.set_cons_zero, List.set_cons_succ]
            refine takeVal 24 (some 108) ?_ rfl (by kernel_rfl) (by kernel_rfl) (by kernel_rfl) rfl (fun _ _ _ h => h) (by rfl) (by assumption) ?_ ?_; rotate_left; (intro w hSw; (try dsimp only at hSw); go_simp <;> with_reducible rfl); simp only [Act.put, List.setIfInBounds_toArray, List.set_cons_zero, List.set_cons_succ]
            refine takeVal 25 (some 109) ?_ rfl (by kernel_rfl) (by kernel_rfl) (by kernel_rfl) rfl (fun _ _ _ h => h) (by rfl) (by assumption) ?_ ?_; rotate_left; (intro w hSw; (try dsimp only at hSw); go_simp <;> with_reducible rfl); simp only [Act.put, List.setIfInBounds_toArray, List.set_cons_zero, List.set_cons_succ]
            refine takeVal 26 (some 2) ?_ rfl (by kernel_rfl) (by kernel_rfl) (by kernel_rfl) rfl (fun _ _ _ h => h) (by rfl) (by assumption) ?_ ?_; rotate_left; (intro w hSw; (try dsimp only at hSw); go_simp <;> with_reducible rfl); simp only [Act.put, List.setIfInBounds_toArray, List.set_cons_zero, List.set_cons_succ]
            refine wpAnyH_done (by kernel_rfl) ?_ _
            go_wp2
            go_ret
            exact ⟨rfl, unhide BB⟩
          | true =>
            have e9 := TD rfl
            subst e9
            clear TD; have Bc0_10 := (unhide B).cell 0 rfl; have Bc1_10 := (unhide B).cell 1 rfl; have Bc2_10 := (unhide B).cell 2 rfl; have Bc3_10 := (unhide B).cell 3 rfl; have Bc4_10 := (unhide B).cell 4 rfl; have Bc5_10 := (unhide B).cell 5 rfl; have Bc6_10 := (unhide B).cell 6 rfl; have Nc0_11 := (unhide N).cell 0 rfl; have Nc1_11 := (unhide N).cell 1 rfl; have Nc2_11 := (unhide N).cell 2 rfl; have Nc3_11 := (unhide N).cell 3 rfl; have Nc4_11 := (unhide N).cell 4 rfl; have Nc5_11 := (unhide N).cell 5 rfl; have Nc6_11 := (unhide N).cell 6 rfl
            go_wp2
            refine wp_region_held_drew (S := fun w' => w'.cell? ⟨w1.heap.size, 0, none⟩ = some (.string b.name) ∧ w'.cell? ⟨w1.heap.size, 1, none⟩ = some (.int .i64 b.valid) ∧ w'.cell? ⟨w1.heap.size, 2, none⟩ = some (.int .i64 b.next) ∧ w'.cell? ⟨w1.heap.size, 3, none⟩ = some (.int .i64 b.mod) ∧ w'.cell? ⟨w1.heap.size, 4, none⟩ = some (.slice amB b.mails.length cmB) ∧ w'.cell? ⟨w1.heap.size, 5, none⟩ = some (.slice atB b.tombs.length ctB) ∧ w'.cell? ⟨w1.heap.size, 6, none⟩ = some (.int .i64 b.hor) ∧ w'.cell? ⟨bxN, 0, none⟩ = some (.string n.name) ∧ w'.cell? ⟨bxN, 1, none⟩ = some (.int .i64 n.valid) ∧ w'.cell? ⟨bxN, 2, none⟩ = some (.int .i64 n.next) ∧ w'.cell? ⟨bxN, 3, none⟩ = some (.int .i64 n.mod) ∧ w'.cell? ⟨bxN, 4, none⟩ = some (.slice amN n.mails.length cmN) ∧ w'.cell? ⟨bxN, 5, none⟩ = some (.slice atN n.tombs.length ctN) ∧ w'.cell? ⟨bxN, 6, none⟩ = some (.int .i64 n.hor)) (by kernel_rfl) (⟨(unhide B).cell 0 rfl, (unhide B).cell 1 rfl, (unhide B).cell 2 rfl, (unhide B).cell 3 rfl, (unhide B).cell 4 rfl, (unhide B).cell 5 rfl, (unhide B).cell 6 rfl, (unhide N).cell 0 rfl, (unhide N).cell 1 rfl, (unhide N).cell 2 rfl, (unhide N).cell 3 rfl, (unhide N).cell 4 rfl, (unhide N).cell 5 rfl, (unhide N).cell 6 rfl⟩) (fun hHeld => ?_)
            clear Bc0_10 Bc1_10 Bc2_10 Bc3_10 Bc4_10 Bc5_10 Bc6_10 Nc0_11 Nc1_11 Nc2_11 Nc3_11 Nc4_11 Nc5_11 Nc6_11; replace B := hide ((unhide B).drew); replace N := hide ((unhide N).drew); replace OB := hide ((unhide OB).drew); replace ON := hide ((unhide ON).drew); replace RN := hide ((unhide RN).drew); replace RV := hide ((unhide RV).drew); replace BB := hide ((unhide BB).drew)
            have sz402 : Hid (wx1.heap.size ≤ wx1.drew.heap.size) := Nat.le_refl _
            refine takeVal 0 (some 84) ?_ rfl (by kernel_rfl) (by kernel_rfl) (by kernel_rfl) rfl (fun _ _ _ h => h) (by rfl) (by assumption) ?_ ?_; rotate_left; (intro w hSw; (try dsimp only at hSw); go_simp <;> with_reducible rfl); simp only [Act.put, List.setIfInBounds_toArray, List.set_cons_zero, List.set_cons_succ]
            refine takeVal 1 (some 85) ?_ rfl (by kernel_rfl) (by kernel_rfl) (by kernel_rfl) rfl (fun _ _ _ h => h) (by rfl) (by assumption) ?_ ?_; rotate_left; (intro w hSw; (try dsimp only at hSw); go_simp <;> with_reducible rfl); simp only [Act.put, List.setIfInBounds_toArray, List.set_cons_zero, List.set_cons_succ]
            refine takeVal 2 (some 86) ?_ rfl (by kernel_rfl) (by kernel_rfl) (by kernel_rfl) rfl (fun _ _ _ h => h) (by rfl) (by assumption) ?_ ?_; rotate_left; (intro w hSw; (try dsimp only at hSw); go_simp <;> with_reducible rfl); simp only [Act.put, List.setIfInBounds_toArray, List.set_cons_zero, List.set_cons_succ]
            refine takeVal 3 (some 87) ?_ rfl (by kernel_rfl) (by kernel_rfl) (by kernel_rfl) rfl (fun _ _ _ h => h) (by rfl) (by assumption) ?_ ?_; rotate_left; (intro w hSw; (try dsimp only at hSw); go_simp <;> with_reducible rfl); simp only [Act.put, List.setIfInBounds_toArray, List.set_cons_zero, List.set_cons_succ]
            refine takeVal 6 (some 90) ?_ rfl (by kernel_rfl) (by kernel_rfl) (by kernel_rfl) rfl (fun _ _ _ h => h) (by rfl) (by assumption) ?_ ?_; rotate_left; (intro w hSw; (try dsimp only at hSw); go_simp <;> with_reducible rfl); simp only [Act.put, List.setIfInBounds_toArray, List.set_cons_zero, List.set_cons_succ]
            refine takeVal 7 (some 91) ?_ rfl (by kernel_rfl) (by kernel_rfl) (by kernel_rfl) rfl (fun _ _ _ h => h) (by rfl) (by assumption) ?_ ?_; rotate_left; (intro w hSw; (try dsimp only at hSw); go_simp <;> with_reducible rfl); simp only [Act.put, List.setIfInBounds_toArray, List.set_cons_zero, List.set_cons_succ]
            refine takeVal 8 (some 92) ?_ rfl (by kernel_rfl) (by kernel_rfl) (by kernel_rfl) rfl (fun _ _ _ h => h) (by rfl) (by assumption) ?_ ?_; rotate_left; (intro w hSw; (try dsimp only at hSw); go_simp <;> with_reducible rfl); simp only [Act.put, List.setIfInBounds_toArray, List.set_cons_zero, List.set_cons_succ]
            refine wpAnyH_ready (rs := [4]) (by kernel_rfl) (by simp) ?_
            refine AllReadyH.cons rfl (fun K hK => ?_) AllReadyH.nil
            go_simp
            refine (sizeE_held _ vN _ _ (by first | exact sG | exact SV) (unhide RN)).mono ?_
            rintro e wt2 ⟨rfl, hb⟩
            replace B := hide ((unhide B).ups hb); replace N := hide ((unhide N).ups hb); replace OB := hide ((unhide OB).up hb); replace ON := hide ((unhide ON).up hb); replace RN := hide ((unhide RN).up hb); replace RV := hide ((unhide RV).up hb); have sz403 := hide (hb.size); replace BB := hide (below_y (unhide BB) hb); clear hb; go_wp2_with fail
            refine hK.out _ _ (⟨(unhide B).cell 0 rfl, (unhide B).cell 1 rfl, (unhide B).cell 2 rfl, (unhide B).cell 3 rfl, (unhide B).cell 4 rfl, (unhide B).cell 5 rfl, (unhide B).cell 6 rfl, (unhide N).cell 0 rfl, (unhide N).cell 1 rfl, (unhide N).cell 2 rfl, (unhide N).cell 3 rfl, (unhide N).cell 4 rfl, (unhide N).cell 5 rfl, (unhide N).cell 6 rfl⟩) (fun hHeld2 => ?_)
            clear hK K hHeld; have hHeld := hHeld2; clear hHeld2
            try simp only [Act.put, List.setIfInBounds_toArray, List.set_cons_zero, List.set_cons_succ]
            refine takeVal 5 (some 89) ?_ rfl (by kernel_rfl) (by kernel_rfl) (by kernel_rfl) rfl (fun _ _ _ h => h) (by rfl) (by assumption) ?_ ?_; rotate_left; (intro w hSw; (try dsimp only at hSw); go_simp <;> with_reducible rfl); simp only [Act.put, List.setIfInBounds_toArray, List.set_cons_zero, List.set_cons_succ]
            refine takeVal 9 (some 93) ?_ rfl (by kernel_rfl) (by kernel_rfl) (by kernel_rfl) rfl (fun _ _ _ h => h) (by rfl) (by assumption) ?_ ?_; rotate_left; (intro w hSw; (try dsimp only at hSw); go_simp <;> with_reducible rfl); simp only [Act.put, List.setIfInBounds_toArray, List.set_cons_zero, List.set_cons_succ]
            refine takeVal 10 (some 94) ?_ rfl (by kernel_rfl) (by kernel_rfl) (by kernel_rfl) rfl (fun _ _ _ h => h) (by rfl) (by assumption) ?_ ?_; rotate_left; (intro w hSw; (try dsimp only at hSw); go_simp <;> with_reducible rfl); simp only [Act.put, List.setIfInBounds_toArray, List.set_cons_zero, List.set_cons_succ]
            refine takeVal 11 (some 95) ?_ rfl (by kernel_rfl) (by kernel_rfl) (by kernel_rfl) rfl (fun _ _ _ h => h) (by rfl) (by assumption) ?_ ?_; rotate_left; (intro w hSw; (try dsimp only at hSw); go_simp <;> with_reducible rfl); simp only [Act.put, List.setIfInBounds_toArray, List.set_cons_zero, List.set_cons_succ]
            refine takeVal 12 (some 96) ?_ rfl (by kernel_rfl) (by kernel_rfl) (by kernel_rfl) rfl (fun _ _ _ h => h) (by rfl) (by assumption) ?_ ?_; rotate_left; (intro w hSw; (try dsimp only at hSw); go_simp <;> with_reducible rfl); simp only [Act.put, List.setIfInBounds_toArray, List.set_cons_zero, List.set_cons_succ]
            refine takeVal 13 (some 97) ?_ rfl (by kernel_rfl) (by kernel_rfl) (by kernel_rfl) rfl (fun _ _ _ h => h) (by rfl) (by assumption) ?_ ?_; rotate_left; (intro w hSw; (try dsimp only at hSw); go_simp <;> with_reducible rfl); simp only [Act.put, List.setIfInBounds_toArray, List.set_cons_zero, List.set_cons_succ]
            refine takeVal 14 (some 98) ?_ rfl (by kernel_rfl) (by kernel_rfl) (by kernel_rfl) rfl (fun _ _ _ h => h) (by rfl) (by assumption) ?_ ?_; rotate_left; (intro w hSw; (try dsimp only at hSw); go_simp <;> with_reducible rfl); simp only [Act.put, List.setIfInBounds_toArray, List.set_cons_zero, List.set_cons_succ]
            refine takeVal 15 (some 99) ?_ rfl (by kernel_rfl) (by kernel_rfl) (by kernel_rfl) rfl (fun _ _ _ h => h) (by rfl) (by assumption) ?_ ?_; rotate_left; (intro w hSw; (try dsimp only at hSw); go_simp <;> with_reducible rfl); simp only [Act.put, List.setIfInBounds_toArray, List.set_cons_zero, List.set_cons_succ]
            refine wpAnyH_ready (rs := [16]) (by kernel_rfl) (by simp) ?_
            refine AllReadyH.cons rfl (fun K hK => ?_) AllReadyH.nil
            go_simp
            refine (sameSetE_held _ vV vN _ _ _ SV (unhide RV) (unhide RN)).mono ?_
            rintro e wt3 ⟨rfl, hb⟩
            replace B := hide ((unhide B).ups hb); replace N := hide ((unhide N).ups hb); replace OB := hide ((unhide OB).up hb); replace ON := hide ((unhide ON).up hb); replace RN := hide ((unhide RN).up hb); replace RV := hide ((unhide RV).up hb); have sz404 := hide (hb.size); replace BB := hide (below_y (unhide BB) hb); clear hb; go_wp2_with fail
            refine hK.out _ _ (⟨(unhide B).cell 0 rfl, (unhide B).cell 1 rfl, (unhide B).cell 2 rfl, (unhide B).cell 3 rfl, (unhide B).cell 4 rfl, (unhide B).cell 5 rfl, (unhide B).cell 6 rfl, (unhide N).cell 0 rfl, (unhide N).cell 1 rfl, (unhide N).cell 2 rfl, (unhide N).cell 3 rfl, (unhide N).cell 4 rfl, (unhide N).cell 5 rfl, (unhide N).cell 6 rfl⟩) (fun hHeld2 => ?_)
            clear hK K hHeld; have hHeld := hHeld2; clear hHeld2
            try simp only [Act.put, List.setIfInBounds_toArray, List.set_cons_zero, List.set_cons_succ]
            refine takeVal 17 (some 101) ?_ rfl (by kernel_rfl) (by kernel_rfl) (by kernel_rfl) rfl (fun _ _ _ h => h) (by rfl) (by assumption) ?_ ?_; rotate_left; (intro w hSw; (try dsimp only at hSw); go_simp <;> with_reducible rfl); simp only [Act.put, List.setIfInBounds_toArray, List.set_cons_zero, List.set_cons_succ]
            refine takeVal 18 (some 102) ?_ rfl (by kernel_rfl) (by kernel_rfl) (by kernel_rfl) rfl (fun _ _ _ h => h) (by rfl) (by assumption) ?_ ?_; rotate_left; (intro w hSw; (try dsimp only at hSw); go_simp <;> with_reducible rfl); simp only [Act.put, List.setIfInBounds_toArray, List.set_cons_zero, List.set_cons_succ]
            refine takeVal 19 (some 103) ?_ rfl (by kernel_rfl) (by kernel_rfl) (by kernel_rfl) rfl (fun _ _ _ h => h) (by rfl) (by assumption) ?_ ?_; rotate_left; (intro w hSw; (try dsimp only at hSw); go_simp <;> with_reducible rfl); simp only [Act.put, List.setIfInBounds_toArray, List.set_cons_zero, List.set_cons_succ]
            refine takeVal 20 (some 104) ?_ rfl (by kernel_rfl) (by kernel_rfl) (by kernel_rfl) rfl (fun _ _ _ h => h) (by rfl) (by assumption) ?_ ?_; rotate_left; (intro w hSw; (try dsimp only at hSw); go_simp <;> with_reducible rfl); simp only [Act.put, List.setIfInBounds_toArray, List.set_cons_zero, List.set_cons_succ]
            refine takeVal 21 (some 105) ?_ rfl (by kernel_rfl) (by kernel_rfl) (by kernel_rfl) rfl (fun _ _ _ h => h) (by rfl) (by assumption) ?_ ?_; rotate_left; (intro w hSw; (try dsimp only at hSw); go_simp <;> with_reducible rfl); simp only [Act.put, List.setIfInBounds_toArray, List.set_cons_zero, List.set_cons_succ]
            refine takeVal 22 (some 106) ?_ rfl (by kernel_rfl) (by kernel_rfl) (by kernel_rfl) rfl (fun _ _ _ h => h) (by rfl) (by assumption) ?_ ?_; rotate_left; (intro w hSw; (try dsimp only at hSw); go_simp <;> with_reducible rfl); simp only [Act.put, List.setIfInBounds_toArray, List.set_cons_zero, List.set_cons_succ]
            refine takeVal 23 (some 107) ?_ rfl (by kernel_rfl) (by kernel_rfl) (by kernel_rfl) rfl (fun _ _ _ h => h) (by rfl) (by assumption) ?_ ?_; rotate_left; (intro w hSw; (try dsimp only at hSw); go_simp <;> with_reducible rfl); simp only [Act.put, List.setIfInBounds_toArray, List.set_cons_zero, List.set_cons_succ]
            refine takeVal 24 (some 108) ?_ rfl (by kernel_rfl) (by kernel_rfl) (by kernel_rfl) rfl (fun _ _ _ h => h) (by rfl) (by assumption) ?_ ?_; rotate_left; (intro w hSw; (try dsimp only at hSw); go_simp <;> with_reducible rfl); simp only [Act.put, List.setIfInBounds_toArray, List.set_cons_zero, List.set_cons_succ]
            refine takeVal 25 (some 109) ?_ rfl (by kernel_rfl) (by kernel_rfl) (by kernel_rfl) rfl (fun _ _ _ h => h) (by rfl) (by assumption) ?_ ?_; rotate_left; (intro w hSw; (try dsimp only at hSw); go_simp <;> with_reducible rfl); simp only [Act.put, List.setIfInBounds_toArray, List.set_cons_zero, List.set_cons_succ]
            refine takeVal 26 (some 2) ?_ rfl (by kernel_rfl) (by kernel_rfl) (by kernel_rfl) rfl (fun _ _ _ h => h) (by rfl) (by assumption) ?_ ?_; rotate_left; (intro w hSw; (try dsimp only at hSw); go_simp <;> with_reducible rfl); simp only [Act.put, List.setIfInBounds_toArray, List.set_cons_zero, List.set_cons_succ]
            refine wpAnyH_done (by kernel_rfl) ?_ _
            go_wp2
            go_ret
            exact ⟨rfl, unhide BB⟩
end Go.Proofs.YtfemplekibpfoaaGreat

/- The laws of chapter 8 at inputs of over 2^20 bytes. -/
namespace Go.Proofs.YtfemplekibpfoaaGreat
open Go.RowKit
open Plain
set_option linter.unusedVariables false

set_option maxRecDepth 100000 in
theorem FnExpunges_big (len cap : Nat) (a : Option Addr) (w : World) (h1 : 1048576 < len) (h2 : len ≤ 9223372036854775807) :
    Calls Tryz.prog 3 #[.slice a len cap] w fun e w' => e = .returned (.bool true) ∧ Below w.heap.size w w' := by
  have q0 := bigF_any len cap a w h2
  have hd : decide ((1048576 : Int) < (len : Int)) = true := by simp; omega
  rw [hd] at q0
  have Q := hide q0; clear q0 hd h1 h2
  go_enter Tryz.func3, Tryz.ntmps3
  go_wp2_with (go_at_call 8; refine (unhide Q).mono ?_; rintro e w0 ⟨rfl, hw⟩; subst w0)
  go_ret
  exact ⟨rfl, Below.refl _ _⟩

set_option maxRecDepth 100000 in
theorem FnBoxesTold_big (len cap : Nat) (a : Option Addr) (w : World) (h1 : 1048576 < len) (h2 : len ≤ 9223372036854775807) :
    Calls Tryz.prog 4 #[.slice a len cap] w fun e w' => e = .returned (.bool true) ∧ Below w.heap.size w w' := by
  have q0 := bigF_any len cap a w h2
  have hd : decide ((1048576 : Int) < (len : Int)) = true := by simp; omega
  rw [hd] at q0
  have Q := hide q0; clear q0 hd h1 h2
  go_enter Tryz.func4, Tryz.ntmps4
  go_wp2_with (go_at_call 8; refine (unhide Q).mono ?_; rintro e w0 ⟨rfl, hw⟩; subst w0)
  go_ret
  exact ⟨rfl, Below.refl _ _⟩

end Go.Proofs.YtfemplekibpfoaaGreat
