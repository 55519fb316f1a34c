/- FnActs: what is plain of the disks, and its walk. -/
import Derived.Test.YtnlcknklghalkaaLosePlain
import Derived.Test.YtnlcknklghalkaaActPlain
import Derived.Test.YtnlcknklghalkaaActsDraws
import Derived.Test.YtnlcknklghalkaaCutActs
import Derived.Test.YtnlcknklghalkaaDoActsS
import Derived.Test.YtnlcknklghalkaaAt
import Derived.Test.YtnlcknklghalkaaActsLeave
import Derived.Test.YtnlcknklghalkaaRunSteps
import Derived.Deep.CutRange
import Derived.Deep.RegionHeld3
/- What the power leaves, left to it again: nothing more is lost. Nothing of the program stands here. -/
namespace Go.Proofs.Ytnlcknklghalkaa.Plain
set_option linter.unusedVariables false

theorem keepN_ge {f : Fl} {x : Int} : f.kept ≤ keepN f x := by unfold keepN; omega
theorem loseTo_get {l : List Fl} {left : List Int} {n k : Nat} {f : Fl} (h : l[k]? = some f) (hk : k < n) : (loseTo l left n)[k]? = some (loseF f (left.getD k 0)) := by
  unfold loseTo
  rw [List.getElem?_map, List.getElem?_range hk, Option.map_some]
  have : l.getD k fl0 = f := by simp [List.getD, h]
  rw [this]
theorem loseL_get {l : List Fl} {left : List Int} {k : Nat} {f : Fl} (h : l[k]? = some f) : (loseL l left)[k]? = some (loseF f (left.getD k 0)) := loseTo_get h (List.getElem?_eq_some_iff.1 h).1
theorem loseL_length (l : List Fl) (left : List Int) : (loseL l left).length = l.length := loseTo_length _ _ _
theorem loseL_back {l : List Fl} {left : List Int} {k : Nat} {g : Fl} (h : (loseL l left)[k]? = some g) : ∃ f, l[k]? = some f ∧ g = loseF f (left.getD k 0) := by
  have hk : k < l.length := by have := (List.getElem?_eq_some_iff.1 h).1; rwa [loseL_length] at this
  have h1 := List.getElem?_eq_getElem hk
  refine ⟨_, h1, ?_⟩
  rw [loseL_get h1] at h
  exact (Option.some.inj h).symm
theorem loseF_size {f : Fl} {x : Int} (h0 : 0 ≤ f.kept) (h1 : f.kept ≤ (f.text.size : Int)) : ((loseF f x).text.size : Int) = (loseF f x).kept := by
  have hb := keepN_bounds (x := x) h0 h1
  show (((f.text.extract 0 (keepN f x).toNat).size : Nat) : Int) = keepN f x
  rw [ByteArray.size_extract]
  omega
theorem loseF_right {f : Fl} {x : Int} (h : fileB f = true) : fileB (loseF f x) = true := by
  obtain ⟨p1, p2, p3, p4⟩ := fileB_parts h
  have hs := loseF_size (x := x) p3 p4
  have hb := keepN_bounds (x := x) p3 p4
  have hk : (loseF f x).kept = keepN f x := rfl
  have hn : (loseF f x).name = f.name := rfl
  generalize loseF f x = g at hs hk hn ⊢
  obtain ⟨gn, gt, gk⟩ := g
  simp only at hs hk hn
  subst hn
  exact fileB_mk.2 ⟨p1, by omega, by omega, by omega⟩
theorem loseL_right {l : List Fl} (left : List Int) (h : DiskR l) : DiskR (loseL l left) := by
  refine ⟨by rw [loseL_length]; exact h.1, fun i f hf => ?_⟩
  obtain ⟨g, hg, rfl⟩ := loseL_back hf
  refine ⟨loseF_right (h.2 i g hg).1, fun j p hj hp => ?_⟩
  obtain ⟨q, hq, rfl⟩ := loseL_back hp
  exact (h.2 i g hg).2 j q hj hq
theorem loseL_kept {l : List Fl} {left : List Int} (h : DiskR l) : ∀ f ∈ loseL l left, (f.text.size : Int) ≤ f.kept := by
  intro f hf
  obtain ⟨i, hi, rfl⟩ := List.getElem_of_mem hf
  obtain ⟨g, hg, he⟩ := loseL_back (List.getElem?_eq_getElem hi)
  rw [he]
  obtain ⟨p1, p2, p3, p4⟩ := fileB_parts (h.2 i g hg).1
  rw [loseF_size p3 p4]
  exact Int.le_refl _
theorem loseF_again {f : Fl} {x : Int} (h0 : 0 ≤ f.kept) (h1 : f.kept = (f.text.size : Int)) : loseF f x = f := by
  obtain ⟨n, t, k⟩ := f
  simp only at h0 h1
  subst h1
  have hk : keepN ⟨n, t, (t.size : Int)⟩ x = (t.size : Int) := by unfold keepN; simp only; omega
  unfold loseF
  rw [hk]
  simp
theorem loseL_again {l : List Fl} {left more : List Int} (h : DiskR l) : loseL (loseL l left) more = loseL l left := by
  apply List.ext_getElem?
  intro i
  cases hi : (loseL l left)[i]? with
  | none =>
    rw [List.getElem?_eq_none]
    rw [loseL_length]
    exact List.getElem?_eq_none_iff.1 hi
  | some f =>
    rw [loseL_get hi]
    obtain ⟨g, hg, rfl⟩ := loseL_back hi
    obtain ⟨p1, p2, p3, p4⟩ := fileB_parts (h.2 i g hg).1
    have hs := loseF_size (x := left.getD i 0) p3 p4
    have hb := keepN_bounds (x := left.getD i 0) p3 p4
    rw [loseF_again hb.1 hs.symm]
theorem lostL_is {l : List Fl} (left : List Int) (h : DiskR l) : lostL l left = loseL l left := by unfold lostL; rw [diskB_yes h]; rfl
/-- A beginning of a text. -/
def begB (a b : ByteArray) : Prop := a.size ≤ b.size ∧ b.extract 0 a.size = a
theorem beg_lost {f : Fl} {x : Int} (h0 : 0 ≤ f.kept) (h1 : f.kept ≤ (f.text.size : Int)) : begB (loseF f x).text f.text ∧ begB (f.text.extract 0 f.kept.toNat) (loseF f x).text := by
  have hb := keepN_bounds (x := x) h0 h1
  have hg := keepN_ge (f := f) (x := x)
  have hs := loseF_size (x := x) h0 h1
  have hk : (loseF f x).kept = keepN f x := rfl
  have ht : (loseF f x).text = f.text.extract 0 (keepN f x).toNat := rfl
  have hn : (loseF f x).text.size = (keepN f x).toNat := by omega
  have hm : (f.text.extract 0 f.kept.toNat).size = f.kept.toNat := by rw [ByteArray.size_extract]; omega
  refine ⟨⟨by omega, by rw [hn, ht]⟩, by omega, ?_⟩
  rw [hm, ht, ByteArray.extract_extract]
  congr 1
  omega
end Go.Proofs.Ytnlcknklghalkaa.Plain

/- What the law of what is kept calls: numbers of what the power leaves, disks that are the same, beginnings of a text. -/
namespace Go.Proofs.Ytnlcknklghalkaa
open Go.RowKit
open Plain
set_option linter.unusedVariables false
set_option linter.unusedSimpArgs false

theorem iv_app (l m : List Int) : iv (l ++ m) = iv l ++ iv m := List.map_append ..
set_option maxHeartbeats 1000000 in
set_option maxRecDepth 100000 in
theorem sameDisk_same (l : List Fl) (v1 v2 : Value) (B1 B2 : Nat) (w : World) (hs : l.length ≤ 1048576) (h1 : OwnF B1 w v1 l) (h2 : OwnF B2 w v2 l) :
    Calls Try.prog 8 #[.agg #[v1], .agg #[v2]] w fun e w' => e = .returned (.bool true) ∧ Below w.heap.size w w' := by
  obtain ⟨a1, c1, rfl, hc1⟩ := h1.shape
  obtain ⟨a2, c2, rfl, hc2⟩ := h2.shape
  have H1 := hide hc1
  have H2 := hide hc2
  clear h1 h2 hc1 hc2
  go_enter Try.func8, Try.ntmps8
  go_wp2
  have hb0 := ((Below.refl w.heap.size w).alloc (Nat.le_refl _) (.cells #[.slice a1 l.length c1] 26)).alloc (by simp) (.cells #[.slice a2 l.length c2] 26)
  have e0 : ((w.alloc (.cells #[.slice a1 l.length c1] 26)).alloc (.cells #[.slice a2 l.length c2] 26)).cell? ⟨w.heap.size, 0, none⟩ = some (.slice a1 l.length c1) := by go_simp
  have e1 : ((w.alloc (.cells #[.slice a1 l.length c1] 26)).alloc (.cells #[.slice a2 l.length c2] 26)).cell? ⟨w.heap.size + 1, 0, none⟩ = some (.slice a2 l.length c2) := by go_simp
  generalize ((w.alloc (.cells #[.slice a1 l.length c1] 26)).alloc (.cells #[.slice a2 l.length c2] 26)) = W at *
  go_loopw [5] (fun i wr => ∃ k q : Nat, k ≤ l.length ∧ i = .int .i64 k ∧ wr = W.drewN q) (fun i _ => l.length - (intOf i).toNat)
  case atStart => exact ⟨0, 0, Nat.zero_le _, rfl, rfl⟩
  case round =>
    obtain ⟨k, q, hk, rfl, rfl⟩ := hrel
    by_cases hlt : k < l.length
    · have hgk : l[k]? = some l[k] := List.getElem?_eq_getElem hlt
      obtain ⟨g, hga, hgl, x0, x1, x2⟩ := unhide H1 k l[k] hgk
      obtain ⟨g', hga', hgl', y0, y1, y2⟩ := unhide H2 k l[k] hgk
      rw [← hb0.cell (p := ⟨g, _, none⟩) hgl] at x0 x1 x2
      rw [← hb0.cell (p := ⟨g', _, none⟩) hgl'] at y0 y1 y2
      subst hga hga'
      generalize l[k] = f at *
      have hik : (0 : Int) ≤ (k : Int) := by omega
      have hil : (k : Int) < (l.length : Int) := by omega
      go_wp2
      go_quiet (fail)
      go_wp2
      go_roundw
      case rel => exact ⟨k + 1, _, by omega, by go_num, rfl⟩
      case measure => simp [intOf]; omega
    · go_wp2
      go_ret
      exact ⟨rfl, below_draws hb0 _⟩
end Go.Proofs.Ytnlcknklghalkaa

/- The law of acts: its walk. -/
namespace Go.Proofs.Ytnlcknklghalkaa
open Go.RowKit
open Plain
set_option linter.unusedVariables false
set_option linter.unusedSimpArgs false

theorem bigA_any (len cap : Nat) (a : Option Addr) (w : World) (hl : len ≤ 9223372036854775807) :
    Calls Try.prog 4 #[.slice a len cap] w fun e w' => e = .returned (.bool (decide ((1048576 : Int) < len))) ∧ w' = w := by
  go_enter Try.func4, Try.ntmps4
  go_wp2
  go_ret
  exact ⟨rfl, rfl⟩
theorem acts_big (len cap : Nat) (a : Option Addr) (w : World) (h1 : 1048576 < len) (h2 : len ≤ 9223372036854775807) :
    Calls Try.prog 3 #[.slice a len cap] w fun e w' => e = .returned (.bool true) ∧ Below w.heap.size w w' := by
  have q0 := bigA_any len cap a w h2
  have hd : decide ((1048576 : Int) < (len : Int)) = true := by simp; omega
  rw [hd] at q0
  have Q := hide q0
  clear q0 hd h1 h2
  go_enter Try.func3, Try.ntmps3
  go_wp2_with (go_at_call 4; refine (unhide Q).mono ?_; rintro e w0 ⟨rfl, hw⟩; subst w0)
  go_ret
  exact ⟨rfl, Below.refl _ _⟩

/-- What the walk holds: the drawn disk in its box, what all acts at once leave in its box, the acts, the numbers. -/
structure ActsSt (w W : World) (b3 b7 : Nat) (v v7 u x : Value) (l l7 : List Fl) (la : List Ac) (left : List Int) : Prop where
  box3 : W.heap[b3]? = some (.cells #[v] 26 (0, 0))
  box7 : W.heap[b7]? = some (.cells #[v7] 26 (0, 0))
  own3 : OwnF w.heap.size W v l
  own7 : OwnF w.heap.size W v7 l7
  acts : OwnA w.heap.size W u la
  ints : OwnI w.heap.size W x left
  below : Below w.heap.size w W
theorem ActsSt.up {w W W' : World} {b3 b7 : Nat} {v v7 u x : Value} {l l7 : List Fl} {la : List Ac} {left : List Int} (h : ActsSt w W b3 b7 v v7 u x l l7 la left) (hb : Below W.heap.size W W') : ActsSt w W' b3 b7 v v7 u x l l7 la left :=
  ⟨row_up h.box3 hb, row_up h.box7 hb, own_stays h.own3 hb, own_stays h.own7 hb, own_stays h.acts hb, own_stays h.ints hb, h.below.trans (hb.mono h.below.size)⟩
theorem ActsSt.set {w W : World} {b3 b7 c : Nat} {v v7 u x y : Value} {l l7 : List Fl} {la : List Ac} {left : List Int} (h : ActsSt w W b3 b7 v v7 u x l l7 la left) (hc : W.heap[c]? = some (.cells #[y] 26 (0, 0))) (h3 : b3 ≠ c) (h7 : b7 ≠ c) (hw : w.heap.size ≤ c) (z : Value) :
    ActsSt w (W.setCell ⟨c, 0, none⟩ z) b3 b7 v v7 u x l l7 la left :=
  ⟨row_set h.box3 h3, row_set h.box7 h7, own_set h.own3 hc (by decide), own_set h.own7 hc (by decide), own_set h.acts hc (by decide), own_set h.ints hc (by decide), h.below.setCell (p := ⟨c, 0, none⟩) hw z⟩
theorem ActsSt.drew {w W : World} {b3 b7 : Nat} {v v7 u x : Value} {l l7 : List Fl} {la : List Ac} {left : List Int} (h : ActsSt w W b3 b7 v v7 u x l l7 la left) : ActsSt w W.drew b3 b7 v v7 u x l l7 la left :=
  ⟨h.box3, h.box7, h.own3, h.own7, h.acts, h.ints, h.below.drew⟩

/-- What is read at a name, plainly. -/
theorem fileAt_is (l : List Fl) (nm : ByteArray) : ∃ (t : ByteArray) (h : Bool), fileAtV l nm.toList = .tuple #[.string t, .bool h] ∧ ((fileOf l nm = none ∧ t = ByteArray.empty ∧ h = false) ∨ ∃ f, fileOf l nm = some f ∧ t = f.text ∧ h = true) := by
  unfold fileAtV
  cases hp : posL l nm.toList with
  | none => exact ⟨_, _, rfl, .inl ⟨fileOf_nopos hp, rfl, rfl⟩⟩
  | some k =>
    obtain ⟨f, hf, ho⟩ := fileOf_pos hp
    refine ⟨_, _, rfl, .inr ⟨f, ho, ?_, rfl⟩⟩
    rw [hf]; rfl
theorem fileAt_small {l : List Fl} {nm t : ByteArray} {h : Bool} (hs : SmallF 1048576 l) (hr : (fileOf l nm = none ∧ t = ByteArray.empty ∧ h = false) ∨ ∃ f, fileOf l nm = some f ∧ t = f.text ∧ h = true) : t.size ≤ 1048576 := by
  rcases hr with ⟨_, rfl, _⟩ | ⟨f, hf, rfl, _⟩
  · exact Nat.zero_le _
  · exact (hs.2 f (fileOf_mem hf).1).2

theorem cut_len {l : List Fl} (la : List Ac) (z : Int) (left : List Int) (hs : SmallF 1048576 l) : (cutV l la z left).1.length ≤ 1048576 := by
  unfold cutV
  split
  · exact Nat.zero_le _
  · split
    · exact Nat.zero_le _
    · have := (run_small (la.take z.toNat) hs).1
      show (lostL _ left).length ≤ _
      unfold lostL
      split
      · simp [loseL, loseTo_length]; omega
      · simp

set_option maxHeartbeats 16000000 in
set_option maxRecDepth 100000 in
theorem acts_any (len cap : Nat) (a : Option Addr) (w : World) (ha : Arg w.heap.size w a len) :
    Calls Try.prog 3 #[.slice a len cap] w fun e w' => e = .returned (.bool true) ∧ Below w.heap.size w w' := by
  have hl := ha.1
  have q0 := bigA_any len cap a w (by omega)
  have hd : decide ((1048576 : Int) < (len : Int)) = false := by simp; omega
  rw [hd] at q0
  have Q := hide q0
  have HA := hide (DrawCutActs_any w.heap.size len cap a w ha (Nat.le_refl _))
  clear q0 hd ha
  go_enter Try.func3, Try.ntmps3
  go_wp2_with fail
  refine (unhide Q).mono ?_
  rintro e w0 ⟨rfl, hw⟩
  subst w0
  clear Q
  go_wp2_with fail
  refine (unhide HA).mono ?_
  rintro e w1 ⟨v, u, x, l, la, z, left, hsl, hla, hsa, hz1, hz2, hlf, rfl, ov, ou, ox, hb1⟩
  clear HA
  obtain ⟨xa, xn, xc, hv⟩ := own_shape ov
  subst hv
  have hax := own_shape ou
  obtain ⟨ya, yn, yc, hu⟩ := hax
  subst hu
  have hyn : yn = la.length := by
    rcases ou.2 with ⟨h, h0⟩ | ⟨g, c, cur, h, _⟩
    · cases h; exact h0.symm
    · cases h; rfl
  subst hyn
  have hsas : SmallAs 1048576 la := ⟨by omega, hsa⟩
  obtain ⟨b3, hb3⟩ : ∃ b, b = w1.heap.size := ⟨_, rfl⟩
  have hx : (w1.alloc (.cells #[.slice xa xn xc] 26)).heap[b3]? = some (.cells #[.slice xa xn xc] 26 (0, 0)) := by rw [hb3]; exact heap_alloc_new _ _
  have hbx := (Below.refl w1.heap.size w1).alloc (Nat.le_refl _) (.cells #[.slice xa xn xc] 26)
  have F2 : ActsSt w (w1.alloc (.cells #[.slice xa xn xc] 26)) b3 b3 (.slice xa xn xc) (.slice xa xn xc) (.slice ya la.length yc) x l l la left :=
    ⟨hx, hx, own_stays ov hbx, own_stays ov hbx, own_stays ou hbx, own_stays ox hbx, hb1.trans (hbx.mono hb1.size)⟩
  have lo3 : w.heap.size ≤ b3 := by rw [hb3]; exact hb1.size
  have F2' := hide F2
  have hsas' := hide hsas
  clear F2 hx hbx ov ou ox hb1 hsas hsa
  go_wp2_with fail
  rw [← hb3]
  generalize w1.alloc (.cells #[.slice xa xn xc] 26) = w2 at *
  clear hb3
  obtain ⟨n, hn⟩ : ∃ n, n = (runActs l la).2 := ⟨_, rfl⟩
  obtain ⟨l7, hl7⟩ : ∃ r, r = (runActs l la).1 := ⟨_, rfl⟩
  have hnla : n ≤ la.length := by rw [hn]; exact runActs_le l la
  have RS := hide (runActs_steps l la)
  have RA := hide (fun (lk : List Fl) (k : Nat) (a : Ac) (h1 : k < (runActs l la).2) (h2 : la[k]? = some a) (h3 : stepsL l (la.take k) = some lk) => runActs_at h1 h2 h3)
  have sm7 : SmallF 1048576 (runActs l la).1 := run_small la hsl
  have q1 := impl_DoActs_any l la (.slice xa xn xc) (.slice ya la.length yc) w.heap.size w2 hsl (unhide hsas') (unhide F2').own3 (unhide F2').acts.read
  have q2 := hide (fun W (h1 : OwnF w.heap.size W (.slice xa xn xc) l) (h2 : ReadA W (.slice ya la.length yc) la) => spec_DoActs_any l la (.slice xa xn xc) (.slice ya la.length yc) w.heap.size W hsl (unhide hsas') h1 h2)
  rw [← hn, ← hl7] at q1 q2 RS
  rw [← hn] at RA
  rw [← hl7] at sm7
  have SM7 := hide sm7
  clear hn hl7 sm7
  refine q1.mono ?_
  rintro e w3 ⟨v7, rfl, o7, hb3'⟩
  clear q1
  obtain ⟨za, zn, zc, hv7⟩ := own_shape o7
  subst hv7
  have F3 := (unhide F2').up hb3'
  have c3a := fun o => cell_on ((Below.refl w3.heap.size w3).alloc (Nat.le_refl _) o) (row_cell F3.box3)
  obtain ⟨b7, hb7⟩ : ∃ b, b = w3.heap.size := ⟨_, rfl⟩
  have hx : (w3.alloc (.cells #[.slice za zn zc] 26)).heap[b7]? = some (.cells #[.slice za zn zc] 26 (0, 0)) := by rw [hb7]; exact heap_alloc_new _ _
  have hbx := (Below.refl w3.heap.size w3).alloc (Nat.le_refl _) (.cells #[.slice za zn zc] 26)
  have F4u := F3.up hbx
  have F4 : ActsSt w (w3.alloc (.cells #[.slice za zn zc] 26)) b3 b7 (.slice xa xn xc) (.slice za zn zc) (.slice ya la.length yc) x l l7 la left :=
    ⟨F4u.box3, hx, F4u.own3, own_based (own_stays o7 hbx) (unhide F2').below.size, F4u.acts, F4u.ints, F4u.below⟩
  have lo7 : w.heap.size ≤ b7 := by rw [hb7]; exact F3.below.size
  have F4' := hide F4
  clear F4 F4u F3 hx hbx o7 hb3' F2'
  go_wp2_with fail
  clear c3a
  rw [← hb7]
  generalize w3.alloc (.cells #[.slice za zn zc] 26) = w4 at *
  clear hb7
  refine (unhide q2 w4 (unhide F4').own3 (unhide F4').acts.read).mono ?_
  rintro e w5 ⟨v9, rfl, o9, hb5⟩
  clear q2
  obtain ⟨ta, tn, tc, hv9⟩ := own_shape o9
  subst hv9
  have F5 := (unhide F4').up hb5
  have c7a := fun o => cell_on ((Below.refl w5.heap.size w5).alloc (Nat.le_refl _) o) (row_cell F5.box7)
  have hbx := (Below.refl w5.heap.size w5).alloc (Nat.le_refl _) (.cells #[.slice ta tn tc] 26)
  have F6 := hide (F5.up hbx)
  have O9 := hide (own_stays o9 hbx)
  clear F5 F4' o9 hb5 hbx
  go_wp2_with fail
  clear c7a
  generalize w5.alloc (.cells #[.slice ta tn tc] 26) = w6 at *
  refine (sameDisk_same l7 _ _ _ _ w6 (unhide SM7).1 (unhide F6).own7 (unhide O9)).mono ?_
  rintro e w7 ⟨rfl, hb7'⟩
  have F7 := (unhide F6).up hb7'
  have c3 := row_cell F7.box3
  obtain ⟨b11, hb11⟩ : ∃ b, b = w7.heap.size := ⟨_, rfl⟩
  have hx : (w7.alloc (.cells #[.slice xa xn xc] 26)).heap[b11]? = some (.cells #[.slice xa xn xc] 26 (0, 0)) := by rw [hb11]; exact heap_alloc_new _ _
  have hbx := (Below.refl w7.heap.size w7).alloc (Nat.le_refl _) (.cells #[.slice xa xn xc] 26)
  have F8 := hide (F7.up hbx)
  have X8 := hide hx
  have lo11 : w.heap.size ≤ b11 := by rw [hb11]; exact F7.below.size
  have n3 : b3 ≠ b11 := by rw [hb11]; have := row_lt F7.box3; omega
  have n7 : b7 ≠ b11 := by rw [hb11]; have := row_lt F7.box7; omega
  clear F7 hbx hx hb7' F6 O9
  go_wp2
  clear c3
  rw [← hb11]
  generalize w7.alloc (.cells #[.slice xa xn xc] 26) = w8 at *
  clear hb11
  go_loopw [12] (fun i wr => ∃ (k : Nat) (lk : List Fl) (ov : Value), k ≤ n ∧ i = .int .i64 k ∧ stepsL l (la.take k) = some lk ∧ SmallF 1048576 lk ∧ ActsSt w wr b3 b7 (.slice xa xn xc) (.slice za zn zc) (.slice ya la.length yc) x l l7 la left ∧ wr.heap[b11]? = some (.cells #[ov] 26 (0, 0)) ∧ OwnF w.heap.size wr ov lk) (fun i _ => n - (intOf i).toNat)
  case atStart => exact ⟨0, l, _, Nat.zero_le _, rfl, rfl, hsl, unhide F8, unhide X8, (unhide F8).own3⟩
  case round =>
    obtain ⟨k, lk, ov, hk, rfl, hst, hsm, hF, hxo, hown⟩ := hrel
    by_cases hlt : k < n
    · have hkl : k < la.length := by omega
      have hgk : la[k]? = some la[k] := List.getElem?_eq_getElem hkl
      obtain ⟨l', hdn, hst'⟩ := unhide RA lk k la[k] hlt hgk hst
      have hsy := (unhide hsas').2 la[k] (List.getElem_mem hkl)
      have hread := hF.acts.read
      obtain ⟨a', c', he, hacts⟩ := hread
      cases he
      obtain ⟨g, hga, hgl, c0, c1, c2, c3⟩ := hacts k la[k] hgk
      subst hga
      generalize la[k] = y at *
      have CS := fun wx h => impl_DoAct_any lk y ov w.heap.size wx hsm hsy h
      simp only [hdn, Option.isSome_some, Option.getD_some] at CS
      have ADD := hide (fun (h : y.kind = 1) => add_leaves hdn h)
      have DROP := hide (fun (h : y.kind = 4) => drop_leaves hdn h)
      have hdr := diskB_iff.1 (doneL_right hdn)
      have SM' := hide (show SmallF 1048576 l' from ⟨by have := hdr.1; omega, fun f hf => by
        obtain ⟨p1, p2, _, _⟩ := fileB_parts ((DiskR_iff.1 hdr).2.1 f hf)
        refine ⟨?_, by omega⟩
        simp [nameB] at p1; omega⟩)
      have hty : y.text.size ≤ 1048576 := hsy.2.1
      obtain ⟨kd, nm, tx, tt⟩ := y
      simp only [ac] at c0 c1 c2 c3 CS ADD DROP hty
      have HCS := hide CS
      clear CS
      have CS := HCS
      have HST := hide hst'
      have HSM := hide hsm
      have HF := hide hF
      have HXO := hide hxo
      have HOW := hide hown
      have bv1 := row_cell hxo
      have h11l := row_lt hxo
      have hwl : w.heap.size ≤ wr.heap.size := hF.below.size
      have hik : (0 : Int) ≤ (k : Int) := by omega
      have hil : (k : Int) < (la.length : Int) := by omega
      clear hdr hdn hst' hst hsm hF hxo hown hsy hgk hacts HCS
      go_wp2
      go_cut [13, 14] from 54 to 122 (fun s13 s14 wc => ∃ (bx : Nat) (vx : Value), s13 = .pointer (some ⟨bx, 0, none⟩) ∧ s14 = .bool true ∧ wc.heap[bx]? = some (.cells #[vx] 26 (0, 0)) ∧ wr.heap.size ≤ bx ∧ OwnF wr.heap.size wc vx l' ∧ Below wr.heap.size wr wc)
      case first =>
        refine wp_region_held_drew (S := fun w' => w'.cell? ⟨b11, 0, none⟩ = some ov ∧ w'.cell? ⟨g, k * 4, none⟩ = some (.int .i64 kd) ∧ w'.cell? ⟨g, k * 4 + 1, none⟩ = some (.string nm) ∧ w'.cell? ⟨g, k * 4 + 2, none⟩ = some (.string tx) ∧ w'.cell? ⟨g, k * 4 + 3, none⟩ = some (.string tt)) (by kernel_rfl) (⟨bv1, c0, c1, c2, c3⟩) (fun hHeld => ?_)
        refine takeVal 0 (some 60) ?_ rfl (by kernel_rfl) (by kernel_rfl) (by kernel_rfl) rfl (fun _ _ _ h => h) (by rfl) (by assumption) ?_ ?_
        rotate_left
        · (intro w hSw; (try dsimp only at hSw); go_simp <;> with_reducible rfl)
        simp only [Act.put, List.setIfInBounds_toArray, List.set_cons_zero, List.set_cons_succ]
        refine takeVal 1 (some 61) ?_ rfl (by kernel_rfl) (by kernel_rfl) (by kernel_rfl) rfl (fun _ _ _ h => h) (by rfl) (by assumption) ?_ ?_
        rotate_left
        · (intro w hSw; (try dsimp only at hSw); go_simp <;> with_reducible rfl)
        simp only [Act.put, List.setIfInBounds_toArray, List.set_cons_zero, List.set_cons_succ]
        refine takeVal 2 (some 62) ?_ rfl (by kernel_rfl) (by kernel_rfl) (by kernel_rfl) rfl (fun _ _ _ h => h) (by rfl) (by assumption) ?_ ?_
        rotate_left
        · (intro w hSw; (try dsimp only at hSw); go_simp <;> with_reducible rfl)
        simp only [Act.put, List.setIfInBounds_toArray, List.set_cons_zero, List.set_cons_succ]
        refine takeVal 3 (some 63) ?_ rfl (by kernel_rfl) (by kernel_rfl) (by kernel_rfl) rfl (fun _ _ _ h => h) (by rfl) (by assumption) ?_ ?_
        rotate_left
        · (intro w hSw; (try dsimp only at hSw); go_simp <;> with_reducible rfl)
        simp only [Act.put, List.setIfInBounds_toArray, List.set_cons_zero, List.set_cons_succ]
        refine takeVal 4 (some 64) ?_ rfl (by kernel_rfl) (by kernel_rfl) (by kernel_rfl) rfl (fun _ _ _ h => h) (by rfl) (by assumption) ?_ ?_
        rotate_left
        · (intro w hSw; (try dsimp only at hSw); go_simp <;> with_reducible rfl)
        simp only [Act.put, List.setIfInBounds_toArray, List.set_cons_zero, List.set_cons_succ]
        have hB0 : Below wr.heap.size wr wr.drew := (Below.refl _ _).drew
        refine wpAnyH_ready (rs := [5, 9]) (by kernel_rfl) (by simp) ?_
        refine (AllReadyH.cons rfl (fun K hK => ?_) (AllReadyH.cons rfl (fun K hK => ?_) AllReadyH.nil))
        · skip
          go_simp
          refine (unhide CS (wr.drew) (own_stays (unhide HOW) (hB0))).mono ?_
          rintro e v1w ⟨vv1, rfl, hans1, hbk1⟩
          go_wp2_with fail
          refine hK.out _ _ (⟨(cell_on (w := wr.drew) hbk1 hHeld.1), (cell_on (w := wr.drew) hbk1 hHeld.2.1), (cell_on (w := wr.drew) hbk1 hHeld.2.2.1), (cell_on (w := wr.drew) hbk1 hHeld.2.2.2.1), (cell_on (w := wr.drew) hbk1 hHeld.2.2.2.2)⟩) (fun hHeld2 => ?_)
          clear hK K hHeld
          have hHeld := hHeld2; clear hHeld2
          try simp only [Act.put, List.setIfInBounds_toArray, List.set_cons_zero, List.set_cons_succ]
          have hB1 : Below wr.heap.size wr v1w := (hB0).trans (hbk1.mono (by have := (hB0).size; first | exact this | omega))
          have hz1 : wr.heap.size ≤ v1w.heap.size := (hB1).size
          refine takeVal 6 (some 59) ?_ rfl (by kernel_rfl) (by kernel_rfl) (by kernel_rfl) rfl (fun _ _ _ h => h) (by rfl) (by assumption) ?_ ?_
          rotate_left
          · (intro w hSw; (try dsimp only at hSw); go_simp <;> with_reducible rfl)
          simp only [Act.put, List.setIfInBounds_toArray, List.set_cons_zero, List.set_cons_succ]
          refine takeVal 7 (some 66) ?_ rfl (by kernel_rfl) (by kernel_rfl) (by kernel_rfl) rfl (fun _ _ _ h => h) (by rfl) (by assumption) ?_ ?_
          rotate_left
          · (intro w hSw; (try dsimp only at hSw); go_simp <;> with_reducible rfl)
          simp only [Act.put, List.setIfInBounds_toArray, List.set_cons_zero, List.set_cons_succ]
          refine takeVal 8 (some 67) ?_ rfl (by kernel_rfl) (by kernel_rfl) (by kernel_rfl) rfl (fun _ _ _ h => h) (by rfl) (by assumption) ?_ ?_
          rotate_left
          · (intro w hSw; (try dsimp only at hSw); go_simp <;> with_reducible rfl)
          simp only [Act.put, List.setIfInBounds_toArray, List.set_cons_zero, List.set_cons_succ]
          refine wpAnyH_ready (rs := [9]) (by kernel_rfl) (by simp) ?_
          refine (AllReadyH.cons rfl (fun K hK => ?_) AllReadyH.nil)
          go_simp
          refine hK.out _ _ (⟨(cell_on ((Below.refl _ _).alloc (Nat.le_refl _) _) hHeld.1), (cell_on ((Below.refl _ _).alloc (Nat.le_refl _) _) hHeld.2.1), (cell_on ((Below.refl _ _).alloc (Nat.le_refl _) _) hHeld.2.2.1), (cell_on ((Below.refl _ _).alloc (Nat.le_refl _) _) hHeld.2.2.2.1), (cell_on ((Below.refl _ _).alloc (Nat.le_refl _) _) hHeld.2.2.2.2)⟩) (fun hHeld2 => ?_)
          clear hK K hHeld
          have hHeld := hHeld2; clear hHeld2
          try simp only [Act.put, List.setIfInBounds_toArray, List.set_cons_zero, List.set_cons_succ]
          have hrw2 : (v1w.alloc (.cells #[.slice none 0 0] 26)).heap[v1w.heap.size]? = some (.cells #[.slice none 0 0] 26 (0, 0)) := heap_alloc_new v1w _
          have hbk2 : Below v1w.heap.size v1w (v1w.alloc (.cells #[.slice none 0 0] 26)) := ((Below.refl v1w.heap.size v1w).alloc (Nat.le_refl _) (.cells #[.slice none 0 0] 26))
          have hbs2 : wr.heap.size ≤ v1w.heap.size := (hB1).size
          obtain ⟨v2w, hwa2⟩ : ∃ W, W = (v1w.alloc (.cells #[.slice none 0 0] 26)) := ⟨_, rfl⟩
          rw [← hwa2] at hrw2 hbk2 hHeld ⊢
          clear hwa2
          have hB2 : Below wr.heap.size wr v2w := (hB1).trans (hbk2.mono (by have := (hB1).size; first | exact this | omega))
          have hz2 : wr.heap.size ≤ v2w.heap.size := (hB2).size
          have hlt2 : v1w.heap.size < v2w.heap.size := row_lt hrw2
          have hans1_2 := own_stays (w := v1w) hans1 hbk2
          obtain ⟨xa, xn, xc, hvx⟩ := own_shape hans1_2
          subst hvx
          have r0 := row_cell hrw2
          have z0 := row_frozen hrw2
          have RW := hide (set1 (.slice xa xn xc) hrw2)
          have OW := hide (own_set (u := .slice xa xn xc) hans1_2 hrw2 (by decide))
          have BW := hide ((hB2).setCell (p := ⟨v1w.heap.size, 0, none⟩) (by show wr.heap.size ≤ v1w.heap.size; omega) (.slice xa xn xc))
          refine wpAnyH_ready (rs := [10]) (by kernel_rfl) (by simp) ?_
          refine AllReadyH.cons rfl (fun K hK => ?_) AllReadyH.nil
          go_simp
          refine hK.out _ _ (⟨((World.cell?_setCell_other _ _ _ _ (by simp <;> omega)).trans hHeld.1), ((World.cell?_setCell_other _ _ _ _ (by simp <;> omega)).trans hHeld.2.1), ((World.cell?_setCell_other _ _ _ _ (by simp <;> omega)).trans hHeld.2.2.1), ((World.cell?_setCell_other _ _ _ _ (by simp <;> omega)).trans hHeld.2.2.2.1), ((World.cell?_setCell_other _ _ _ _ (by simp <;> omega)).trans hHeld.2.2.2.2)⟩) (fun hHeld2 => ?_)
          clear hK K hHeld
          have hHeld := hHeld2; clear hHeld2
          try simp only [Act.put, List.setIfInBounds_toArray, List.set_cons_zero, List.set_cons_succ]
          refine takeVal 11 (some 14) ?_ rfl (by kernel_rfl) (by kernel_rfl) (by kernel_rfl) rfl (fun _ _ _ h => h) (by rfl) (by assumption) ?_ ?_
          rotate_left
          · (intro w hSw; (try dsimp only at hSw); go_simp <;> with_reducible rfl)
          simp only [Act.put, List.setIfInBounds_toArray, List.set_cons_zero, List.set_cons_succ]
          refine wpAnyH_done (by kernel_rfl) ?_ _
          go_wp2
          go_meet
          case rel => exact ⟨v1w.heap.size, .slice xa xn xc, rfl, rfl, unhide RW, by omega, own_based (unhide OW) (by first | omega | exact Nat.le_refl _), unhide BW⟩
        · skip
          go_simp
          refine hK.out _ _ (⟨(cell_on ((Below.refl _ _).alloc (Nat.le_refl _) _) hHeld.1), (cell_on ((Below.refl _ _).alloc (Nat.le_refl _) _) hHeld.2.1), (cell_on ((Below.refl _ _).alloc (Nat.le_refl _) _) hHeld.2.2.1), (cell_on ((Below.refl _ _).alloc (Nat.le_refl _) _) hHeld.2.2.2.1), (cell_on ((Below.refl _ _).alloc (Nat.le_refl _) _) hHeld.2.2.2.2)⟩) (fun hHeld2 => ?_)
          clear hK K hHeld
          have hHeld := hHeld2; clear hHeld2
          try simp only [Act.put, List.setIfInBounds_toArray, List.set_cons_zero, List.set_cons_succ]
          have hrw3 : (wr.alloc (.cells #[.slice none 0 0] 26)).drew.heap[wr.heap.size]? = some (.cells #[.slice none 0 0] 26 (0, 0)) := heap_alloc_new wr _
          have hbk3 : Below wr.heap.size wr (wr.alloc (.cells #[.slice none 0 0] 26)).drew := ((Below.refl wr.heap.size wr).alloc (Nat.le_refl _) (.cells #[.slice none 0 0] 26)).drew
          have hbs3 : wr.heap.size ≤ wr.heap.size := Nat.le_refl _
          obtain ⟨v3w, hwa3⟩ : ∃ W, W = (wr.alloc (.cells #[.slice none 0 0] 26)).drew := ⟨_, rfl⟩
          rw [← hwa3] at hrw3 hbk3 hHeld ⊢
          clear hwa3
          have hB3 : Below wr.heap.size wr v3w := hbk3
          have hz3 : wr.heap.size ≤ v3w.heap.size := (hB3).size
          have hlt3 : wr.heap.size < v3w.heap.size := row_lt hrw3
          refine wpAnyH_ready (rs := [5]) (by kernel_rfl) (by simp) ?_
          refine (AllReadyH.cons rfl (fun K hK => ?_) AllReadyH.nil)
          go_simp
          refine (unhide CS (v3w) (own_stays (unhide HOW) (hB3))).mono ?_
          rintro e v4w ⟨vv4, rfl, hans4, hbk4⟩
          go_wp2_with fail
          refine hK.out _ _ (⟨(cell_on (w := v3w) hbk4 hHeld.1), (cell_on (w := v3w) hbk4 hHeld.2.1), (cell_on (w := v3w) hbk4 hHeld.2.2.1), (cell_on (w := v3w) hbk4 hHeld.2.2.2.1), (cell_on (w := v3w) hbk4 hHeld.2.2.2.2)⟩) (fun hHeld2 => ?_)
          clear hK K hHeld
          have hHeld := hHeld2; clear hHeld2
          try simp only [Act.put, List.setIfInBounds_toArray, List.set_cons_zero, List.set_cons_succ]
          have hB4 : Below wr.heap.size wr v4w := (hB3).trans (hbk4.mono (by have := (hB3).size; first | exact this | omega))
          have hz4 : wr.heap.size ≤ v4w.heap.size := (hB4).size
          have hrw4 := row_up (w := v3w) hrw3 hbk4
          refine takeVal 6 (some 59) ?_ rfl (by kernel_rfl) (by kernel_rfl) (by kernel_rfl) rfl (fun _ _ _ h => h) (by rfl) (by assumption) ?_ ?_
          rotate_left
          · (intro w hSw; (try dsimp only at hSw); go_simp <;> with_reducible rfl)
          simp only [Act.put, List.setIfInBounds_toArray, List.set_cons_zero, List.set_cons_succ]
          refine takeVal 7 (some 66) ?_ rfl (by kernel_rfl) (by kernel_rfl) (by kernel_rfl) rfl (fun _ _ _ h => h) (by rfl) (by assumption) ?_ ?_
          rotate_left
          · (intro w hSw; (try dsimp only at hSw); go_simp <;> with_reducible rfl)
          simp only [Act.put, List.setIfInBounds_toArray, List.set_cons_zero, List.set_cons_succ]
          refine takeVal 8 (some 67) ?_ rfl (by kernel_rfl) (by kernel_rfl) (by kernel_rfl) rfl (fun _ _ _ h => h) (by rfl) (by assumption) ?_ ?_
          rotate_left
          · (intro w hSw; (try dsimp only at hSw); go_simp <;> with_reducible rfl)
          simp only [Act.put, List.setIfInBounds_toArray, List.set_cons_zero, List.set_cons_succ]
          obtain ⟨xa, xn, xc, hvx⟩ := own_shape hans4
          subst hvx
          have r0 := row_cell hrw4
          have z0 := row_frozen hrw4
          have RW := hide (set1 (.slice xa xn xc) hrw4)
          have OW := hide (own_set (u := .slice xa xn xc) hans4 hrw4 (by decide))
          have BW := hide ((hB4).setCell (p := ⟨wr.heap.size, 0, none⟩) (by show wr.heap.size ≤ wr.heap.size; omega) (.slice xa xn xc))
          refine wpAnyH_ready (rs := [10]) (by kernel_rfl) (by simp) ?_
          refine AllReadyH.cons rfl (fun K hK => ?_) AllReadyH.nil
          go_simp
          refine hK.out _ _ (⟨((World.cell?_setCell_other _ _ _ _ (by simp <;> omega)).trans hHeld.1), ((World.cell?_setCell_other _ _ _ _ (by simp <;> omega)).trans hHeld.2.1), ((World.cell?_setCell_other _ _ _ _ (by simp <;> omega)).trans hHeld.2.2.1), ((World.cell?_setCell_other _ _ _ _ (by simp <;> omega)).trans hHeld.2.2.2.1), ((World.cell?_setCell_other _ _ _ _ (by simp <;> omega)).trans hHeld.2.2.2.2)⟩) (fun hHeld2 => ?_)
          clear hK K hHeld
          have hHeld := hHeld2; clear hHeld2
          try simp only [Act.put, List.setIfInBounds_toArray, List.set_cons_zero, List.set_cons_succ]
          refine takeVal 11 (some 14) ?_ rfl (by kernel_rfl) (by kernel_rfl) (by kernel_rfl) rfl (fun _ _ _ h => h) (by rfl) (by assumption) ?_ ?_
          rotate_left
          · (intro w hSw; (try dsimp only at hSw); go_simp <;> with_reducible rfl)
          simp only [Act.put, List.setIfInBounds_toArray, List.set_cons_zero, List.set_cons_succ]
          refine wpAnyH_done (by kernel_rfl) ?_ _
          go_wp2
          go_meet
          case rel => exact ⟨wr.heap.size, .slice xa xn xc, rfl, rfl, unhide RW, by omega, own_based (unhide OW) (by first | omega | exact Nat.le_refl _), unhide BW⟩
      case rest =>
        obtain ⟨bx, vx, rfl, rfl, hx, hlo, hownx, hbx⟩ := hcut
        obtain ⟨w3, rfl⟩ : ∃ x, x = wc := ⟨_, rfl⟩
        have F3 := hide ((unhide HF).up hbx)
        have X3 := hide (row_up (unhide HXO) hbx)
        have O3 := hide (own_stays (unhide HOW) hbx)
        have HX3 := hide hx
        have OX3 := hide hownx
        have K3 := hide (cell_on hbx c0)
        have N3 := hide (cell_on hbx c1)
        have T3 := hide (cell_on hbx c2)
        have hs3 : wr.heap.size ≤ w3.heap.size := hbx.size
        obtain ⟨t1, h1, hv1, hr1⟩ := fileAt_is lk nm
        obtain ⟨t2, h2, hv2, hr2⟩ := fileAt_is l' nm
        have s1 := fileAt_small (unhide HSM) hr1
        have s2 := fileAt_small (unhide SM') hr2
        have C15 := fun wx h => impl_FileAt_any lk nm ov w.heap.size wx (unhide HSM) h
        have C16 := fun wx h => impl_FileAt_any l' nm vx wr.heap.size wx (unhide SM') h
        rw [hv1] at C15
        rw [hv2] at C16
        have C15 := hide C15
        have C16 := hide C16
        have HR1 := hide hr1
        have HR2 := hide hr2
        clear hx hownx hbx HF HXO HOW bv1 c0 c1 c2 c3 CS hv1 hv2 hr1 hr2
        go_wp2
        have qb := row_cell (unhide X3)
        have qn := unhide N3
        refine wp_region_held_drew (S := fun w' => w'.cell? ⟨b11, 0, none⟩ = some ov ∧ w'.cell? ⟨g, k * 4 + 1, none⟩ = some (.string nm)) (by kernel_rfl) (⟨qb, qn⟩) (fun hHeld => ?_)
        clear qb qn
        refine takeVal 0 (some 71) ?_ rfl (by kernel_rfl) (by kernel_rfl) (by kernel_rfl) rfl (fun _ _ _ h => h) (by rfl) (by assumption) ?_ ?_
        rotate_left
        · (intro w hSw; (try dsimp only at hSw); go_simp <;> with_reducible rfl)
        simp only [Act.put, List.setIfInBounds_toArray, List.set_cons_zero, List.set_cons_succ]
        refine takeVal 1 (some 72) ?_ rfl (by kernel_rfl) (by kernel_rfl) (by kernel_rfl) rfl (fun _ _ _ h => h) (by rfl) (by assumption) ?_ ?_
        rotate_left
        · (intro w hSw; (try dsimp only at hSw); go_simp <;> with_reducible rfl)
        simp only [Act.put, List.setIfInBounds_toArray, List.set_cons_zero, List.set_cons_succ]
        refine takeVal 2 (some 73) ?_ rfl (by kernel_rfl) (by kernel_rfl) (by kernel_rfl) rfl (fun _ _ _ h => h) (by rfl) (by assumption) ?_ ?_
        rotate_left
        · (intro w hSw; (try dsimp only at hSw); go_simp <;> with_reducible rfl)
        simp only [Act.put, List.setIfInBounds_toArray, List.set_cons_zero, List.set_cons_succ]
        refine takeVal 3 (some 74) ?_ rfl (by kernel_rfl) (by kernel_rfl) (by kernel_rfl) rfl (fun _ _ _ h => h) (by rfl) (by assumption) ?_ ?_
        rotate_left
        · (intro w hSw; (try dsimp only at hSw); go_simp <;> with_reducible rfl)
        simp only [Act.put, List.setIfInBounds_toArray, List.set_cons_zero, List.set_cons_succ]
        refine takeVal 4 (some 75) ?_ rfl (by kernel_rfl) (by kernel_rfl) (by kernel_rfl) rfl (fun _ _ _ h => h) (by rfl) (by assumption) ?_ ?_
        rotate_left
        · (intro w hSw; (try dsimp only at hSw); go_simp <;> with_reducible rfl)
        simp only [Act.put, List.setIfInBounds_toArray, List.set_cons_zero, List.set_cons_succ]
        refine takeVal 5 (some 76) ?_ rfl (by kernel_rfl) (by kernel_rfl) (by kernel_rfl) rfl (fun _ _ _ h => h) (by rfl) (by assumption) ?_ ?_
        rotate_left
        · (intro w hSw; (try dsimp only at hSw); go_simp <;> with_reducible rfl)
        simp only [Act.put, List.setIfInBounds_toArray, List.set_cons_zero, List.set_cons_succ]
        refine wpAnyH_ready (rs := [6]) (by kernel_rfl) (by simp) ?_
        refine (AllReadyH.cons rfl (fun K hK => ?_) AllReadyH.nil)
        go_simp
        refine (unhide C15 w3.drew (World.ownsRow.drew (unhide O3))).mono ?_
        rintro e w4 ⟨rfl, hbk⟩
        go_wp2_with fail
        refine hK.out _ _ (⟨cell_on (w := w3.drew) hbk hHeld.1, cell_on (w := w3.drew) hbk hHeld.2⟩) (fun hHeld2 => ?_)
        clear hK K hHeld
        have hHeld := hHeld2; clear hHeld2
        try simp only [Act.put, List.setIfInBounds_toArray, List.set_cons_zero, List.set_cons_succ]
        refine takeVal 7 (some 70) ?_ rfl (by kernel_rfl) (by kernel_rfl) (by kernel_rfl) rfl (fun _ _ _ h => h) (by rfl) (by assumption) ?_ ?_
        rotate_left
        · (intro w hSw; (try dsimp only at hSw); go_simp <;> with_reducible rfl)
        simp only [Act.put, List.setIfInBounds_toArray, List.set_cons_zero, List.set_cons_succ]
        refine takeVal 8 (some 78) ?_ rfl (by kernel_rfl) (by kernel_rfl) (by kernel_rfl) rfl (fun _ _ _ h => h) (by rfl) (by assumption) ?_ ?_
        rotate_left
        · (intro w hSw; (try dsimp only at hSw); go_simp <;> with_reducible rfl)
        simp only [Act.put, List.setIfInBounds_toArray, List.set_cons_zero, List.set_cons_succ]
        refine takeVal 9 (some 79) ?_ rfl (by kernel_rfl) (by kernel_rfl) (by kernel_rfl) rfl (fun _ _ _ h => h) (by rfl) (by assumption) ?_ ?_
        rotate_left
        · (intro w hSw; (try dsimp only at hSw); go_simp <;> with_reducible rfl)
        simp only [Act.put, List.setIfInBounds_toArray, List.set_cons_zero, List.set_cons_succ]
        refine takeVal 10 (some 15) ?_ rfl (by kernel_rfl) (by kernel_rfl) (by kernel_rfl) rfl (fun _ _ _ h => h) (by rfl) (by assumption) ?_ ?_
        rotate_left
        · (intro w hSw; (try dsimp only at hSw); go_simp <;> with_reducible rfl)
        simp only [Act.put, List.setIfInBounds_toArray, List.set_cons_zero, List.set_cons_succ]
        refine takeVal 11 (some 16) ?_ rfl (by kernel_rfl) (by kernel_rfl) (by kernel_rfl) rfl (fun _ _ _ h => h) (by rfl) (by assumption) ?_ ?_
        rotate_left
        · (intro w hSw; (try dsimp only at hSw); go_simp <;> with_reducible rfl)
        simp only [Act.put, List.setIfInBounds_toArray, List.set_cons_zero, List.set_cons_succ]
        refine wpAnyH_done (by kernel_rfl) ?_ _
        clear hHeld
        have hb4 : Below w3.heap.size w3 w4 := (Below.refl w3.heap.size w3).drew.trans hbk
        have F4 := hide ((unhide F3).up hb4)
        have XB4 := hide (row_up (unhide X3) hb4)
        have X4 := hide (row_up (unhide HX3) hb4)
        have O4 := hide (own_stays (unhide OX3) hb4)
        have K4 := hide (cell_on hb4 (unhide K3))
        have N4 := hide (cell_on hb4 (unhide N3))
        have T4 := hide (cell_on hb4 (unhide T3))
        have hs4 : w3.heap.size ≤ w4.heap.size := hb4.size
        clear hb4 hbk F3 X3 HX3 OX3 O3 K3 N3 T3 C15
        go_wp2
        have qb := row_cell (unhide X4)
        have qn := unhide N4
        refine wp_region_held_drew (S := fun w' => w'.cell? ⟨bx, 0, none⟩ = some vx ∧ w'.cell? ⟨g, k * 4 + 1, none⟩ = some (.string nm)) (by kernel_rfl) (⟨qb, qn⟩) (fun hHeld => ?_)
        clear qb qn
        refine takeVal 0 (some 81) ?_ rfl (by kernel_rfl) (by kernel_rfl) (by kernel_rfl) rfl (fun _ _ _ h => h) (by rfl) (by assumption) ?_ ?_
        rotate_left
        · (intro w hSw; (try dsimp only at hSw); go_simp <;> with_reducible rfl)
        simp only [Act.put, List.setIfInBounds_toArray, List.set_cons_zero, List.set_cons_succ]
        refine takeVal 1 (some 82) ?_ rfl (by kernel_rfl) (by kernel_rfl) (by kernel_rfl) rfl (fun _ _ _ h => h) (by rfl) (by assumption) ?_ ?_
        rotate_left
        · (intro w hSw; (try dsimp only at hSw); go_simp <;> with_reducible rfl)
        simp only [Act.put, List.setIfInBounds_toArray, List.set_cons_zero, List.set_cons_succ]
        refine takeVal 2 (some 83) ?_ rfl (by kernel_rfl) (by kernel_rfl) (by kernel_rfl) rfl (fun _ _ _ h => h) (by rfl) (by assumption) ?_ ?_
        rotate_left
        · (intro w hSw; (try dsimp only at hSw); go_simp <;> with_reducible rfl)
        simp only [Act.put, List.setIfInBounds_toArray, List.set_cons_zero, List.set_cons_succ]
        refine takeVal 3 (some 84) ?_ rfl (by kernel_rfl) (by kernel_rfl) (by kernel_rfl) rfl (fun _ _ _ h => h) (by rfl) (by assumption) ?_ ?_
        rotate_left
        · (intro w hSw; (try dsimp only at hSw); go_simp <;> with_reducible rfl)
        simp only [Act.put, List.setIfInBounds_toArray, List.set_cons_zero, List.set_cons_succ]
        refine takeVal 4 (some 85) ?_ rfl (by kernel_rfl) (by kernel_rfl) (by kernel_rfl) rfl (fun _ _ _ h => h) (by rfl) (by assumption) ?_ ?_
        rotate_left
        · (intro w hSw; (try dsimp only at hSw); go_simp <;> with_reducible rfl)
        simp only [Act.put, List.setIfInBounds_toArray, List.set_cons_zero, List.set_cons_succ]
        refine takeVal 5 (some 86) ?_ rfl (by kernel_rfl) (by kernel_rfl) (by kernel_rfl) rfl (fun _ _ _ h => h) (by rfl) (by assumption) ?_ ?_
        rotate_left
        · (intro w hSw; (try dsimp only at hSw); go_simp <;> with_reducible rfl)
        simp only [Act.put, List.setIfInBounds_toArray, List.set_cons_zero, List.set_cons_succ]
        refine wpAnyH_ready (rs := [6]) (by kernel_rfl) (by simp) ?_
        refine (AllReadyH.cons rfl (fun K hK => ?_) AllReadyH.nil)
        go_simp
        refine (unhide C16 w4.drew (World.ownsRow.drew (unhide O4))).mono ?_
        rintro e w5 ⟨rfl, hbk⟩
        go_wp2_with fail
        refine hK.out _ _ (⟨cell_on (w := w4.drew) hbk hHeld.1, cell_on (w := w4.drew) hbk hHeld.2⟩) (fun hHeld2 => ?_)
        clear hK K hHeld
        have hHeld := hHeld2; clear hHeld2
        try simp only [Act.put, List.setIfInBounds_toArray, List.set_cons_zero, List.set_cons_succ]
        refine takeVal 7 (some 80) ?_ rfl (by kernel_rfl) (by kernel_rfl) (by kernel_rfl) rfl (fun _ _ _ h => h) (by rfl) (by assumption) ?_ ?_
        rotate_left
        · (intro w hSw; (try dsimp only at hSw); go_simp <;> with_reducible rfl)
        simp only [Act.put, List.setIfInBounds_toArray, List.set_cons_zero, List.set_cons_succ]
        refine takeVal 8 (some 88) ?_ rfl (by kernel_rfl) (by kernel_rfl) (by kernel_rfl) rfl (fun _ _ _ h => h) (by rfl) (by assumption) ?_ ?_
        rotate_left
        · (intro w hSw; (try dsimp only at hSw); go_simp <;> with_reducible rfl)
        simp only [Act.put, List.setIfInBounds_toArray, List.set_cons_zero, List.set_cons_succ]
        refine takeVal 9 (some 89) ?_ rfl (by kernel_rfl) (by kernel_rfl) (by kernel_rfl) rfl (fun _ _ _ h => h) (by rfl) (by assumption) ?_ ?_
        rotate_left
        · (intro w hSw; (try dsimp only at hSw); go_simp <;> with_reducible rfl)
        simp only [Act.put, List.setIfInBounds_toArray, List.set_cons_zero, List.set_cons_succ]
        refine takeVal 10 (some 17) ?_ rfl (by kernel_rfl) (by kernel_rfl) (by kernel_rfl) rfl (fun _ _ _ h => h) (by rfl) (by assumption) ?_ ?_
        rotate_left
        · (intro w hSw; (try dsimp only at hSw); go_simp <;> with_reducible rfl)
        simp only [Act.put, List.setIfInBounds_toArray, List.set_cons_zero, List.set_cons_succ]
        refine takeVal 11 (some 18) ?_ rfl (by kernel_rfl) (by kernel_rfl) (by kernel_rfl) rfl (fun _ _ _ h => h) (by rfl) (by assumption) ?_ ?_
        rotate_left
        · (intro w hSw; (try dsimp only at hSw); go_simp <;> with_reducible rfl)
        simp only [Act.put, List.setIfInBounds_toArray, List.set_cons_zero, List.set_cons_succ]
        refine wpAnyH_done (by kernel_rfl) ?_ _
        clear hHeld
        have hb5 : Below w4.heap.size w4 w5 := (Below.refl w4.heap.size w4).drew.trans hbk
        have F5 := hide ((unhide F4).up hb5)
        have XB5 := hide (row_up (unhide XB4) hb5)
        have X5 := hide (row_up (unhide X4) hb5)
        have O5 := hide (own_stays (unhide O4) hb5)
        have k5 := cell_on hb5 (unhide K4)
        have t5 := cell_on hb5 (unhide T4)
        have hs5 : w4.heap.size ≤ w5.heap.size := hb5.size
        clear hb5 hbk F4 XB4 X4 O4 K4 N4 T4 C16
        obtain ⟨pa, pn, pc, hvx⟩ := own_shape (unhide O5)
        subst hvx
        have qx := row_cell (unhide X5)
        have q11 := row_cell (unhide XB5)
        have f11 := row_frozen (unhide XB5)
        have XN := hide (set1 (.slice pa pn pc) (unhide XB5))
        have ON := hide (own_based (own_set (u := .slice pa pn pc) (unhide O5) (unhide XB5) (by decide)) hwl)
        have FN := hide ((unhide F5).set (unhide XB5) n3 n7 lo11 (.slice pa pn pc))
        clear F5 XB5 X5 O5
        by_cases h1k : kd = 1
        · subst h1k
          obtain ⟨f, hf1, hf2⟩ := unhide ADD rfl
          have hh : h2 = true ∧ t2 = t1 ++ tx := by
            rcases unhide HR2 with ⟨e, _, _⟩ | ⟨f', e, e1, e2⟩
            · rw [hf1] at e; cases e
            · rw [hf1] at e
              cases e
              refine ⟨e2, ?_⟩
              rw [e1, hf2]
              rcases unhide HR1 with ⟨d, d1, _⟩ | ⟨f', d, d1, _⟩
              · rw [d, d1]; simp
              · rw [d, d1]
          obtain ⟨rfl, rfl⟩ := hh
          clear ADD DROP HR1 HR2 hf1 hf2
          go_wp2
          go_roundw
          case rel => exact ⟨k + 1, l', _, by omega, by go_num, unhide HST, unhide SM', unhide FN, unhide XN, unhide ON⟩
          case measure => simp [intOf]; omega
        · by_cases h4k : kd = 4
          · subst h4k
            have hf1 := unhide DROP rfl
            have hh : h2 = false := by
              rcases unhide HR2 with ⟨e, _, e2⟩ | ⟨f', e, e1, e2⟩
              · exact e2
              · rw [hf1] at e; cases e
            subst hh
            clear ADD DROP HR1 HR2 hf1 h1k
            go_wp2
            go_roundw
            case rel => exact ⟨k + 1, l', _, by omega, by go_num, unhide HST, unhide SM', unhide FN, unhide XN, unhide ON⟩
            case measure => simp [intOf]; omega
          · have e1 : (kd == 1) = false := by rw [beq_eq_false_iff_ne]; exact h1k
            have e4 : (kd == 4) = false := by rw [beq_eq_false_iff_ne]; exact h4k
            clear ADD DROP HR1 HR2 h1k h4k
            go_wp2
            go_roundw
            case rel => exact ⟨k + 1, l', _, by omega, by go_num, unhide HST, unhide SM', unhide FN, unhide XN, unhide ON⟩
            case measure => simp [intOf]; omega
    · obtain rfl : k = n := by omega
      have hlk : l7 = lk := by have h1 := unhide RS; rw [hst] at h1; exact (Option.some.inj h1).symm
      subst hlk
      obtain ⟨cl, hcl⟩ : ∃ c, c = (cutV l la z left).1 := ⟨_, rfl⟩
      obtain ⟨cb, hcb⟩ : ∃ c, c = (cutV l la z left).2 := ⟨_, rfl⟩
      have scl : cl.length ≤ 1048576 := by rw [hcl]; exact cut_len la z left hsl
      have qI := impl_CutActs_any l la z left (.slice xa xn xc) (.slice ya la.length yc) x w.heap.size w.heap.size w.heap.size wr hsl (unhide hsas') hF.own3 hF.acts (by omega) hF.ints
      have qS := hide (fun W (f : ActsSt w W b3 b7 (.slice xa xn xc) (.slice za zn zc) (.slice ya la.length yc) x l l7 la left) => spec_CutActs_any l la z left (.slice xa xn xc) (.slice ya la.length yc) x w.heap.size w.heap.size w.heap.size W hsl (unhide hsas') f.own3 f.acts (by omega) f.ints)
      rw [← hcl, ← hcb] at qI qS
      have QI := hide qI
      have HF := hide hF
      have HXO := hide hxo
      have HOW := hide hown
      have c3 := row_cell hF.box3
      clear qI hcl hcb hF hxo hown hst RS RA
      go_wp2_with fail
      clear c3
      refine (unhide QI).mono ?_
      rintro e w9 ⟨v19, rfl, o19, hb9⟩
      obtain ⟨ca, cn, cc, hv19⟩ := own_shape o19
      subst hv19
      have F9 := (unhide HF).up hb9
      have c3a := fun o => cell_on ((Below.refl w9.heap.size w9).alloc (Nat.le_refl _) o) (row_cell F9.box3)
      obtain ⟨b19, hb19⟩ : ∃ b, b = w9.heap.size := ⟨_, rfl⟩
      have hx : (w9.alloc (.cells #[.slice ca cn cc] 26)).heap[b19]? = some (.cells #[.slice ca cn cc] 26 (0, 0)) := by rw [hb19]; exact heap_alloc_new _ _
      have hbx := (Below.refl w9.heap.size w9).alloc (Nat.le_refl _) (.cells #[.slice ca cn cc] 26)
      have F10 := hide (F9.up hbx)
      have X10 := hide (row_up (row_up (unhide HXO) hb9) hbx)
      have O10 := hide (own_stays (own_stays (unhide HOW) hb9) hbx)
      have Y10 := hide hx
      have P10 := hide (own_stays o19 hbx)
      clear F9 hx hbx o19 hb9 HF HXO HOW QI
      go_wp2_with fail
      clear c3a
      rw [← hb19]
      generalize w9.alloc (.cells #[.slice ca cn cc] 26) = w10 at *
      clear hb19
      refine (unhide qS w10 (unhide F10)).mono ?_
      rintro e w11 ⟨v21, rfl, o21, hb11⟩
      obtain ⟨da, dn, dc, hv21⟩ := own_shape o21
      subst hv21
      have hbx := (Below.refl w11.heap.size w11).alloc (Nat.le_refl _) (.cells #[.slice da dn dc] 26)
      have F12 := hide (((unhide F10).up hb11).up hbx)
      have X12 := hide (row_up (row_up (unhide X10) hb11) hbx)
      have O12 := hide (own_stays (own_stays (unhide O10) hb11) hbx)
      have P12 := hide (own_stays (own_stays (unhide P10) hb11) hbx)
      have Q12 := hide (own_stays o21 hbx)
      have y12 := fun o => cell_on ((Below.refl w11.heap.size w11).alloc (Nat.le_refl _) o) (row_cell (row_up (unhide Y10) hb11))
      clear o21 hb11 hbx F10 X10 O10 P10 Y10 qS
      go_wp2_with fail
      clear y12
      generalize w11.alloc (.cells #[.slice da dn dc] 26) = w12 at *
      refine (sameDisk_same cl _ _ _ _ w12 scl (unhide P12) (unhide Q12)).mono ?_
      rintro e w13 ⟨rfl, hb13⟩
      have F13 := hide ((unhide F12).up hb13)
      have X13 := hide (row_up (unhide X12) hb13)
      have O13 := hide (own_stays (unhide O12) hb13)
      clear hb13 F12 X12 O12 P12 Q12
      by_cases hn0 : k = 0
      · subst hn0
        go_wp2
        go_ret
        exact ⟨rfl, (unhide F13).below⟩
      · have e0 : ((k : Int) == 0) = false := by rw [beq_eq_false_iff_ne]; omega
        have qx := row_cell (unhide X13)
        have q7 := row_cell (unhide F13).box7
        go_wp2_with fail
        clear qx q7
        refine (sameDisk_same l7 _ _ _ _ w13 (unhide SM7).1 (unhide O13) (unhide F13).own7).mono ?_
        rintro e w14 ⟨rfl, hb14⟩
        have F14 := hide ((unhide F13).up hb14)
        clear hb14 F13
        go_wp2
        go_ret
        exact ⟨rfl, (unhide F14).below⟩
end Go.Proofs.Ytnlcknklghalkaa
