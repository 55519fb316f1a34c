/- Several texts in one. -/
import Derived.Test.YtocaljbimhjmgaaGreatDoorVwA
import Derived.Test.YtocaljbimhjmgaaGreatDoorEdA
import Derived.Test.YtocaljbimhjmgaaGreatDoorMmA
import Derived.Test.YtocaljbimhjmgaaGreatDoorRowsA
import Derived.Test.YtocaljbimhjmgaaGreatDoorBmA
import Derived.Deep.Strs
import Derived.Laws.OwnMore
import Derived.Test.YtocaljbimhjmgaaGreatDoorEfPA
namespace Go.Proofs.YtocaljbimhjmgaaGreatDoor
open Go.RowKit Go.ChangeShapes Go.WideShapes Go.ChangeAt Go.Deep
open Plain
set_option linter.unusedVariables false
set_option linter.unusedSimpArgs false
attribute [local go_sem] cell_of frozen_of
abbrev ssV (on : Bool) (x : Vw) (v : Value) : Value := .agg #[.bool on, .string x.box, .int .i64 x.valid, v, .int .i64 x.mod]
abbrev markPI (a : Option Addr) (c k0 n : Nat) : Pc := .row a n c 3 1 (intsC (marksI k0 n))
abbrev rowRS (a : Option Addr) (c : Nat) (l : List Rg) : Pc := .row a l.length c 87 2 (rgs l)
abbrev markPR (a : Option Addr) (c k0 n : Nat) : Pc := .row a n c 87 2 (rgs (marksR k0 n))
section
variable {w W : World} {L : List Pc}
set_option maxHeartbeats 4000000 in
theorem szSession_any (on : Bool) (x : Vw) (a : Option Addr) (c : Nat) (w : World) (h : ArgVw w.heap.size w a x) :
    Calls Tryz.prog 4 #[ssV on x (.slice a x.uids.length c), .int .i64 1048576] w fun e w' => (∃ m : Int, e = .returned (.int .i64 m) ∧ (m = -1 ∨ ∃ q : Nat, m = (q : Int) ∧ q ≤ 1048576 ∧ x.box.size ≤ 1048576 ∧ x.uids.length ≤ 1048576)) ∧ Mem w w' [] := by
  have HA := hide h
  have M := Mem.start w
  clear h
  go_enter Tryz.func4, Tryz.ntmps4
  go_wp2_with fail
  refine (szView_any x a c _ ((unhide HA).up (Mem.here _))).mono ?_
  rintro e w1 ⟨⟨m, rfl, hm⟩, MN⟩
  have M := Mem.then MN
  clear MN
  rcases hm with rfl | ⟨q, rfl, hq, h1, h2⟩
  · go_wp2
    go_ret
    exact ⟨⟨_, rfl, .inl rfl⟩, Mem.end⟩
  · have i1 : ¬ (q : Int) < 0 := by omega
    have HS : Hid (q ≤ 1048576 ∧ x.box.size ≤ 1048576 ∧ x.uids.length ≤ 1048576) := ⟨hq, h1, h2⟩
    clear hq h1 h2
    go_wp2
    go_ret
    exact ⟨⟨_, rfl, .inr ⟨q, rfl, unhide HS⟩⟩, Mem.end⟩
set_option maxHeartbeats 4000000 in
set_option maxRecDepth 100000 in
theorem toSession_mem (on : Bool) (x : Vw) (a : Option Addr) (c : Nat) [M : Mem w W L] (hs : x.uids.length ≤ 1048576) (h : ArgVw w.heap.size w a x) :
    Calls Tryz.prog 7 #[ssV on x (.slice a x.uids.length c)] W fun e W' => ∃ a' c', e = .returned (ssV on x (.slice a' x.uids.length c')) ∧ Mem w W' (rowI a' c' x.uids :: L) := by
  have h2 := h.up M.below
  suffices Q : ∀ w, ArgVw w.heap.size w a x → Calls Tryz.prog 7 #[ssV on x (.slice a x.uids.length c)] w fun e W' => ∃ a' c', e = .returned (ssV on x (.slice a' x.uids.length c')) ∧ Mem w W' [rowI a' c' x.uids] from
    (Q W h2).mono fun e W' ⟨a', c', he, hM⟩ => ⟨a', c', he, M.more1 hM⟩
  clear h h2 M
  intro w h
  have HA := hide h
  clear h
  have M := Mem.start w
  go_enter Tryz.func7, Tryz.ntmps7
  go_wp2_with fail
  refine (toView_any x a c _ hs ((unhide HA).up (Mem.here _))).mono ?_
  rintro e w1 ⟨a', c', rfl, MN⟩
  have M := Mem.then MN
  clear MN
  go_wp2
  refine bodyPost_ret (by simp [results, Tryz.results7, go_sem]; try rfl) rfl ?_
  exact ⟨_, _, rfl, Mem.end⟩
theorem ownI {a : Option Addr} {c : Nat} {l : List Int} {f : Pc → List Pc} [M : Mem w W L] [h : InL L (rowI a c l) f] : OwnI w.heap.size W (.slice a l.length c) l := M.get (rowI a c l)
set_option maxHeartbeats 4000000 in
theorem eqSession_mem (on : Bool) (x : Vw) (a1 a2 : Option Addr) (c1 c2 : Nat) {f g : Pc → List Pc} [M : Mem w W L] [h1 : InL L (rowI a1 c1 x.uids) f] [h2 : InL L (rowI a2 c2 x.uids) g] (hs : x.uids.length ≤ 1048576) :
    Calls Tryz.prog 11 #[ssV on x (.slice a1 x.uids.length c1), ssV on x (.slice a2 x.uids.length c2)] W fun e W' => e = .returned (.bool true) ∧ Mem w W' L := by
  have O1 := hide (ownI (M := M) (h := h1))
  have O2 := hide (ownI (M := M) (h := h2))
  suffices Q : Calls Tryz.prog 11 #[ssV on x (.slice a1 x.uids.length c1), ssV on x (.slice a2 x.uids.length c2)] W fun e W' => e = .returned (.bool true) ∧ Mem W W' [] from
    Q.mono fun e W' ⟨he, hM⟩ => ⟨he, M.more hM⟩
  obtain ⟨B, hB⟩ : ∃ B, B = w.heap.size := ⟨_, rfl⟩
  rw [← hB] at O1 O2
  clear hB M h1 h2
  have M := Mem.start W
  go_enter Tryz.func11, Tryz.ntmps11
  go_wp2_with fail
  refine (eqView_same x a1 a2 c1 c2 _ _ _ hs ((unhide O1).up (Mem.here _)) ((unhide O2).up (Mem.here _))).mono ?_
  rintro e w1 ⟨rfl, MN⟩
  have M := Mem.then MN
  clear MN
  go_wp2
  go_ret
  exact ⟨rfl, Mem.end⟩
set_option maxHeartbeats 4000000 in
theorem markSession_mem (on : Bool) (x : Vw) (a : Option Addr) (c k0 : Nat) {f : Pc → List Pc} [M : Mem w W L] [h1 : InL L (rowI a c x.uids) f] (hs : x.uids.length ≤ 1048576) (hk : k0 ≤ 100000000) :
    Calls Tryz.prog 13 #[ssV on x (.slice a x.uids.length c), .int .i64 (k0 : Int)] W fun e W' => e = .returned (.int .i64 ((k0 + x.uids.length : Nat) : Int)) ∧ Mem w W' (f (markPI a c k0 x.uids.length)) := by
  have O1 := hide (ownI (M := M) (h := h1))
  obtain ⟨B, hB⟩ : ∃ B, B = w.heap.size := ⟨_, rfl⟩
  suffices Q : Calls Tryz.prog 13 #[ssV on x (.slice a x.uids.length c), .int .i64 (k0 : Int)] W fun e W' => e = .returned (.int .i64 ((k0 + x.uids.length : Nat) : Int)) ∧ OwnI B W' (.slice a x.uids.length c) (marksI k0 x.uids.length) ∧ W.grownBy W' (Value.slice a x.uids.length c).ownBlock from
    Q.mono fun e W' ⟨he, ho, hg⟩ => ⟨he, M.turn (p := rowI a c x.uids) (q := markPI a c k0 x.uids.length) hg (by rw [hB] at ho; unfold OwnI at ho; rw [marksI_len] at ho; exact ho) (.inl rfl)⟩
  rw [← hB] at O1
  clear hB M h1
  have M := Mem.start W
  go_enter Tryz.func13, Tryz.ntmps13
  go_wp2_with fail
  refine (markView_any x _ B k0 _ hs hk ((unhide O1).up (Mem.here _))).mono ?_
  rintro e w1 ⟨rfl, ho, hg⟩
  have HO := hide ho
  have HG := hide hg
  clear ho hg
  go_wp2
  go_ret
  exact ⟨rfl, unhide HO, g_join (g_grown (Mem.here _) _) (unhide HG)⟩
theorem ownRg {a : Option Addr} {c : Nat} {l : List Rg} {f : Pc → List Pc} [M : Mem w W L] [h : InL L (rowRS a c l) f] : OwnR w.heap.size W (.slice a l.length c) l := M.get (rowRS a c l)
theorem eqEdit_mem (e : Ed) (a1 a2 : Option Addr) (c1 c2 : Nat) {f g : Pc → List Pc} [M : Mem w W L] [h1 : InL L (rowRS a1 c1 e.set) f] [h2 : InL L (rowRS a2 c2 e.set) g] (hs : e.set.length ≤ 1048576) :
    Calls Tryz.prog 10 #[edV e (.slice a1 e.set.length c1), edV e (.slice a2 e.set.length c2)] W fun x W' => x = .returned (.bool true) ∧ Mem w W' L :=
  (eqEdit_same e _ _ _ _ W hs ownRg ownRg).mono fun e W' ⟨he, hb⟩ => ⟨he, M.more0 hb⟩
set_option maxHeartbeats 4000000 in
theorem markEdit_mem (e : Ed) (a : Option Addr) (c k0 : Nat) {f : Pc → List Pc} [M : Mem w W L] [h1 : InL L (rowRS a c e.set) f] (hs : e.set.length ≤ 1048576) (hk : k0 ≤ 100000000) :
    Calls Tryz.prog 15 #[edV e (.slice a e.set.length c), .int .i64 (k0 : Int)] W fun x W' => x = .returned (.int .i64 ((k0 + e.set.length * 2 : Nat) : Int)) ∧ Mem w W' (f (markPR a c k0 e.set.length)) := by
  have O1 := hide (ownRg (M := M) (h := h1))
  obtain ⟨B, hB⟩ : ∃ B, B = w.heap.size := ⟨_, rfl⟩
  suffices Q : Calls Tryz.prog 15 #[edV e (.slice a e.set.length c), .int .i64 (k0 : Int)] W fun x W' => x = .returned (.int .i64 ((k0 + e.set.length * 2 : Nat) : Int)) ∧ OwnR B W' (.slice a e.set.length c) (marksR k0 e.set.length) ∧ W.grownBy W' (Value.slice a e.set.length c).ownBlock from
    Q.mono fun x W' ⟨he, ho, hg⟩ => ⟨he, M.turn (p := rowRS a c e.set) (q := markPR a c k0 e.set.length) hg (by rw [hB] at ho; unfold OwnR at ho; rw [marksR_length] at ho; exact ho) (.inl rfl)⟩
  rw [← hB] at O1
  clear hB M h1
  have M := Mem.start W
  go_enter Tryz.func15, Tryz.ntmps15
  go_wp2_with fail
  refine (markRangeS_any e.set _ B k0 _ hs hk ((unhide O1).up (Mem.here _))).mono ?_
  rintro x w1 ⟨rfl, ho, hg⟩
  have HO := hide ho
  have HG := hide hg
  clear ho hg
  go_wp2
  go_ret
  exact ⟨rfl, unhide HO, g_join (g_grown (Mem.here _) _) (unhide HG)⟩
set_option maxHeartbeats 4000000 in
theorem heldEdit_mem (e : Ed) (a : Option Addr) (c k0 : Nat) {f : Pc → List Pc} [M : Mem w W L] [h1 : InL L (markPR a c k0 e.set.length) f] (hs : e.set.length ≤ 1048576) (hk : k0 ≤ 100000000) :
    Calls Tryz.prog 16 #[edV e (.slice a e.set.length c), .int .i64 (k0 : Int)] W fun x W' => x = .returned (.int .i64 ((k0 + e.set.length * 2 : Nat) : Int)) ∧ Mem w W' L := by
  have O1 : Hid (OwnR w.heap.size W (.slice a e.set.length c) (marksR k0 e.set.length)) := by
    show OwnR _ _ _ _
    unfold OwnR
    rw [marksR_length]
    exact M.get (markPR a c k0 e.set.length)
  obtain ⟨B, hB⟩ : ∃ B, B = w.heap.size := ⟨_, rfl⟩
  suffices Q : Calls Tryz.prog 16 #[edV e (.slice a e.set.length c), .int .i64 (k0 : Int)] W fun x W' => x = .returned (.int .i64 ((k0 + e.set.length * 2 : Nat) : Int)) ∧ Mem W W' [] from
    Q.mono fun e W' ⟨he, hM⟩ => ⟨he, M.more hM⟩
  rw [← hB] at O1
  clear hB M h1
  have M := Mem.start W
  go_enter Tryz.func16, Tryz.ntmps16
  go_wp2_with fail
  refine (heldRangeS_any e.set.length _ B k0 _ hs hk ((unhide O1).up (Mem.here _))).mono ?_
  rintro x w1 ⟨rfl, rfl⟩
  have i1 : ¬ (((k0 + e.set.length * 2 : Nat) : Int)) < 0 := by omega
  go_wp2
  go_ret
  exact ⟨rfl, Mem.end⟩
end
theorem Tryz.cellsLSession : Tryz.prog.cellsOf 26 = 5 := by kernel_rfl
theorem Tryz.cellsSsBool : Tryz.prog.cellsOf 4 = 1 := by kernel_rfl
theorem Tryz.cellsSsView : Tryz.prog.cellsOf 24 = 4 := by kernel_rfl
set_option maxRecDepth 100000 in
theorem open_session {H : Type} {enc : TypeId × Value → H} {W : World} {base : Nat} {v : Value} {d : DataW H} {ps : List MemPlace} (hval : Value.okWide Tryz.prog W .any base 26 v)
    (h : DataW.Trod enc Tryz.prog W 0 (fun _ => true) true 26 v d ps) :
    ∃ (on : Bool) (x : Vw) (a : Option Addr) (c : Nat), v = ssV on x (.slice a x.uids.length c) ∧ ArgVw W.heap.size W a x := by
  obtain ⟨cs, rfl, hsz⟩ := okWide_struct Tryz.underlying26 hval
  obtain ⟨fuel, hf⟩ := h
  obtain ⟨xs, n, _, _, hl, hlen, hfld⟩ := DataW.trod_struct Tryz.underlying26 hf
  have h0 := hfld 0 _ rfl
  have h1 := hfld 1 _ rfl
  rw [Tryz.cellsLSession] at hsz
  obtain ⟨l0⟩ := cs
  match l0, hsz, xs, hlen with
  | [b0, u0, u1, u2, u3], _, [y0, y1], _ =>
    obtain ⟨k0, e0, z0⟩ := DataW.trod_bool Tryz.underlying4 h0
    simp [Value.cells, Tryz.cellsSsBool, Tryz.cellsSsView] at e0 h1
    obtain ⟨xs2, n2, _, _, hl2, hlen2, hfld2⟩ := DataW.trod_struct Tryz.underlying24 h1
    have g0 := hfld2 0 _ rfl
    have g1 := hfld2 1 _ rfl
    have g2 := hfld2 2 _ rfl
    have g3 := hfld2 3 _ rfl
    match xs2, hlen2 with
    | [_, _, _, _], _ =>
      obtain ⟨k0, e1, _, z1⟩ := DataW.trod_string Tryz.underlying9 g0
      obtain ⟨k1, e2, _, z2⟩ := DataW.trod_int Tryz.underlying3 g1
      obtain ⟨a, c, l, e3, m3, A3⟩ := open_ia g2
      obtain ⟨k3, e4, _, z4⟩ := DataW.trod_int Tryz.underlying3 g3
      simp [Value.cells, Tryz.cellsVwStr] at e1
      simp [Value.cells, Tryz.cellsVwInt] at e2 e4
      simp [Value.cells, Tryz.cellsVwIntS] at e3
      subst e0 e1 e2 e3 e4
      exact ⟨_, ⟨k0, k1, l, k3⟩, a, c, rfl, ⟨z1, m3, A3⟩⟩
end Go.Proofs.YtocaljbimhjmgaaGreatDoor

namespace Go.Proofs.YtocaljbimhjmgaaGreatDoor
open Go.RowKit Go.ChangeShapes Go.WideShapes Go.ChangeAt Go.Deep
open Plain
set_option linter.unusedVariables false
set_option linter.unusedSimpArgs false

set_option linter.constructorNameAsVariable false
/-- Words that came in, below block B. -/
def ArgW (B : Nat) (w : World) (a : Option Addr) (l : List (List UInt8)) : Prop :=
  ∀ i x, l[i]? = some x → ∃ p, a = some p ∧ p.block < B ∧ w.cell? (p.add i) = some (.string ⟨x.toArray⟩) ∧ x.length ≤ maxLen
theorem ArgW.up {w w' : World} {a : Option Addr} {l : List (List UInt8)} (h : ArgW w.heap.size w a l) (hb : Below w.heap.size w w') : ArgW w'.heap.size w' a l := by
  intro i x hx
  obtain ⟨p, h1, h2, h3, h4⟩ := h i x hx
  exact ⟨p, h1, Nat.lt_of_lt_of_le h2 hb.size, (hb.cell (by rw [g_add]; exact h2)).trans h3, h4⟩
set_option maxRecDepth 100000 in
theorem open_words {H : Type} {enc : TypeId × Value → H} {W : World} {base : Nat} {v : Value} {d : DataW H} {ps : List MemPlace} (hval : Value.okWide Tryz.prog W .any base 27 v)
    (h : DataW.Trod enc Tryz.prog W 0 (fun _ => true) true 27 v d ps) :
    ∃ (a : Option Addr) (cap : Nat) (l : List (List UInt8)), v = .slice a l.length cap ∧ l.length ≤ maxLen ∧ ArgW W.heap.size W a l := by
  obtain ⟨va, vn, vc, rfl⟩ := okWide_slice Tryz.underlying27 hval
  obtain ⟨fuel, hf⟩ := h
  rcases open_strs Tryz.underlying27 Tryz.underlying9 (by kernel_rfl) hf with ⟨hcs, _⟩ | ⟨a, len, cap, m, Sx, hcs, _, hlc, hcm, hm, _, hel⟩
  · simp [Value.cells] at hcs
    obtain ⟨rfl, rfl, rfl⟩ := hcs
    exact ⟨none, 0, [], rfl, Nat.zero_le _, fun i x hx => by simp at hx⟩
  · simp [Value.cells] at hcs
    obtain ⟨rfl, rfl, rfl⟩ := hcs
    have hmn : vn ≤ m := by rw [hm]; split <;> omega
    refine ⟨some a, vc, (List.range vn).map (fun i => (Sx i).data.toList), by simp, by simp; omega, fun i x hx => ?_⟩
    have hi : i < vn := by
      rcases Nat.lt_or_ge i vn with h1 | h1
      · exact h1
      · rw [List.getElem?_eq_none (by simpa using h1)] at hx; cases hx
    obtain rfl : (Sx i).data.toList = x := by simpa [hi] using hx
    obtain ⟨c0, c1⟩ := hel i (by omega)
    refine ⟨a, rfl, ?_, by rw [c0], by show (Sx i).data.size ≤ maxLen; exact c1⟩
    have := World.block_lt_of_cell? W _ c0
    rwa [g_add] at this
set_option maxHeartbeats 4000000 in
set_option maxRecDepth 100000 in
theorem szStringS_any (a : Option Addr) (cap : Nat) (l : List (List UInt8)) (q : Nat) (w : World) (hq : q ≤ 1048576) (hl : l.length ≤ maxLen) (h : ArgW w.heap.size w a l) :
    Calls Tryz.prog 5 #[.slice a l.length cap, .int .i64 (q : Int)] w fun e w' => (∃ m, e = .returned (.int .i64 m) ∧ (m = -1 ∨ ∃ r : Nat, m = (r : Int) ∧ r ≤ q ∧ l.length ≤ 1048576 ∧ ∀ x ∈ l, x.length ≤ 1048576)) ∧ Below w.heap.size w w' := by
  have HA := hide h
  clear h
  obtain ⟨n, hn⟩ : ∃ n, n = l.length := ⟨_, rfl⟩
  rw [← hn] at hl ⊢
  have HN := hide hn
  clear hn
  unfold maxLen at hl
  have n1 : IntKind.i64.wrap ((q : Int) - (n : Int)) = (q : Int) - (n : Int) := by rw [IntKind.wrap_i64]; omega
  have BB := hide (Below.refl w.heap.size w)
  go_enter Tryz.func5, Tryz.ntmps5
  by_cases h0 : (q : Int) - (n : Int) < 0
  · have d0 : decide ((q : Int) - (n : Int) < 0) = true := decide_eq_true h0
    go_wp2
    go_ret
    exact ⟨⟨_, rfl, .inl rfl⟩, unhide BB⟩
  · have d0 : decide ((q : Int) - (n : Int) < 0) = false := decide_eq_false h0
    obtain ⟨r0, hr0⟩ : ∃ r : Nat, (q : Int) - (n : Int) = (r : Int) := ⟨q - n, by omega⟩
    have hr1 : r0 ≤ q := by omega
    have hnq : n ≤ 1048576 := by omega
    clear n1
    have n1 : IntKind.i64.wrap ((q : Int) - (n : Int)) = (r0 : Int) := by rw [IntKind.wrap_i64]; omega
    have j0 : ¬ ((r0 : Int) < 0) := by omega
    clear hr0 h0 d0
    go_wp2
    clear j0
    go_loopw [1, 5] (fun u i wr => ∃ k r : Nat, k ≤ n ∧ u = .int .i64 (r : Int) ∧ i = .int .i64 k ∧ r ≤ q ∧ (∀ (j : Nat) (x : List UInt8), j < k → l[j]? = some x → x.length ≤ 1048576) ∧ Below w.heap.size w wr) (fun _ i _ => n - (intOf i).toNat)
    case atStart => exact ⟨0, r0, Nat.zero_le _, rfl, rfl, hr1, fun j x h => by omega, unhide BB⟩
    clear n1 hr1
    case round =>
      obtain ⟨k, r, hk, rfl, rfl, hrq, hall, hbel⟩ := hrel
      have HALL := hide hall
      clear hall
      by_cases hlt : k < n
      · have hkl : k < l.length := by rw [← unhide HN]; exact hlt
        obtain ⟨x, hx⟩ : ∃ x, l[k]? = some x := ⟨_, List.getElem?_eq_getElem hkl⟩
        obtain ⟨p, rfl, hpb, c0, hxm⟩ := unhide HA k x hx
        rw [← hbel.cell (by rw [g_add]; exact hpb)] at c0
        have HX := hide hx
        clear hx hkl
        unfold maxLen at hxm
        have i1 : (0 : Int) ≤ (k : Int) := by omega
        have i2 : (k : Int) < (n : Int) := by omega
        have m1 : k < n := hlt
        by_cases hz : (r : Int) - (x.length : Int) < 0
        · obtain ⟨z, hz0⟩ : ∃ z : Int, z = (r : Int) - (x.length : Int) := ⟨_, rfl⟩
          have n2 : IntKind.i64.wrap ((r : Int) - (x.length : Int)) = z := by rw [IntKind.wrap_i64]; omega
          have d0 : decide (z < 0) = true := decide_eq_true (by omega)
          have j1 : z < 0 := by omega
          clear hz0 hz
          go_wp2
          go_ret
          exact ⟨⟨_, rfl, .inl rfl⟩, hbel⟩
        · obtain ⟨r1, hr1⟩ : ∃ r1 : Nat, (r : Int) - (x.length : Int) = (r1 : Int) := ⟨r - x.length, by omega⟩
          have n2 : IntKind.i64.wrap ((r : Int) - (x.length : Int)) = (r1 : Int) := by rw [IntKind.wrap_i64]; omega
          have hr2 : r1 ≤ q := by omega
          have hxq : x.length ≤ 1048576 := by omega
          have j1 : ¬ ((r1 : Int) < 0) := by omega
          clear hr1 hz
          go_wp2
          go_roundw
          case rel => exact ⟨k + 1, r1, by omega, rfl, by go_num, hr2, fun j y hj hy => by
            by_cases hjk : j < k
            · exact unhide HALL j y hjk hy
            · obtain rfl : j = k := by omega
              rw [unhide HX] at hy
              cases hy
              exact hxq, hbel⟩
          case measure => simp [intOf]; omega
      · obtain rfl : k = n := by omega
        go_wp2
        go_ret
        exact ⟨⟨_, rfl, .inr ⟨r, rfl, hrq, hnq, fun x hx => by
          obtain ⟨j, hj, rfl⟩ := List.mem_iff_getElem.1 hx
          exact unhide HALL j _ (by rw [unhide HN]; exact hj) (List.getElem?_eq_getElem hj)⟩⟩, hbel⟩
def strC (x : List UInt8) : List Value := [.string ⟨x.toArray⟩]
theorem strC_len : ∀ x, (strC x).length = 1 := fun _ => rfl
theorem rowC_strs (l : List (List UInt8)) : rowC strC l = Plain.strs l := by
  induction l with
  | nil => rfl
  | cons x r ih => show strC x ++ rowC strC r = _; rw [ih]; rfl
theorem Tryz.infoStrW : (Tryz.prog.info? 9).map (fun i => (i.zero, i.size, i.bytes)) = some (some (.string ByteArray.empty), 1, 16) := by kernel_rfl
set_option maxHeartbeats 4000000 in
set_option maxRecDepth 100000 in
theorem toStringS_any (a : Option Addr) (cap : Nat) (l : List (List UInt8)) (w : World) (hs : l.length ≤ 1048576) (h : ArgW w.heap.size w a l) :
    Calls Tryz.prog 8 #[.slice a l.length cap] w fun e w' => ∃ v, e = .returned v ∧ w'.ownsRow w.heap.size 9 1 v l.length (Plain.strs l) ∧ Below w.heap.size w w' := by
  obtain ⟨i0, hi, hz0, hz1, hz2⟩ := info_parts Tryz.infoStrW
  have HA := hide h
  clear h
  go_enter Tryz.func8, Tryz.ntmps8
  go_wp2_with (refine wpList_make_full _ rfl _ _ 27 rfl w.heap.size 9 i0 _ 1 Tryz.underlying27 hi hz0 hz1 .i64 .i64 _ _ l.length rfl rfl rfl rfl (by rw [hz2]; omega) (by unfold maxLen; omega) (Nat.le_refl _) ?_; intro wm hown hgm)
  rw [show l.length * 1 = l.length * 1 from rfl, rowC_made strC_len (by decide) (a0 := ([] : List UInt8)) rfl] at hown
  have hgl : w.heap.size < wm.heap.size := (hown.lt _ rfl).2
  go_loopw [4] (fun i wr => ∃ k : Nat, k ≤ l.length ∧ i = .int .i64 k ∧ wr.ownsRow w.heap.size 9 1 (.slice (some ⟨w.heap.size, 0, none⟩) l.length l.length) l.length (rowC strC (laidK [] l k)) ∧ Below w.heap.size w wr) (fun i _ => l.length - (intOf i).toNat)
  case atStart => exact ⟨0, Nat.zero_le _, rfl, by rw [laidK_zero]; exact hown, g_below hgm⟩
  case round =>
    obtain ⟨k, hk, rfl, hownk, hbel⟩ := hrel
    clear hown
    by_cases hlt : k < l.length
    · obtain ⟨p, rfl, hpb, c0, _⟩ := unhide HA k l[k] (List.getElem?_eq_getElem hlt)
      rw [← hbel.cell (by rw [g_add]; exact hpb)] at c0
      have hset := hide (laidK_set [] hlt)
      have hget := laidK_at ([] : List UInt8) hlt
      generalize l[k] = f at *
      have hgr : w.heap.size < wr.heap.size := (hownk.lt _ rfl).2
      have f0 := hownk.frozenAt (k * 1)
      have d0 : wr.cell? ⟨w.heap.size, k * 1, none⟩ = some (.string ⟨#[]⟩) := by rw [hownk.cellAt (k * 1) (by omega)]; exact rowC_get strC_len hget (j := 0) (by decide)
      have st0 := hownk.stored (k * 1) (.string ⟨f.toArray⟩)
      rw [show k * 1 = k * 1 + 0 from rfl, rowC_set strC_len hget (j := 0) (by decide) f (.string ⟨f.toArray⟩) rfl, unhide hset] at st0
      have HST := hide st0.1
      have hB := hide (hbel.setCell (p := ⟨w.heap.size, k * 1, none⟩) (Nat.le_refl _) (.string ⟨f.toArray⟩))
      rw [Nat.mul_one] at f0 d0 HST hB
      simp only [Nat.add_zero] at HST
      have i1 : (0 : Int) ≤ (k : Int) := by omega
      have i2 : (k : Int) < (l.length : Int) := by omega
      clear hownk hget st0
      go_wp2
      go_roundw
      case rel => exact ⟨k + 1, by omega, by go_num, unhide HST, unhide hB⟩
      case measure => simp [intOf]; omega
    · have e : k = l.length := by omega
      subst e
      rw [laidK_all, rowC_strs] at hownk
      go_wp2
      go_ret
      exact ⟨_, rfl, hownk, hbel⟩
end Go.Proofs.YtocaljbimhjmgaaGreatDoor

namespace Go.Proofs.YtocaljbimhjmgaaGreatDoor
open Go.RowKit Go.ChangeShapes Go.WideShapes Go.ChangeAt Go.Deep
open Plain
set_option linter.unusedVariables false
set_option linter.unusedSimpArgs false

set_option maxHeartbeats 1000000 in
set_option maxRecDepth 100000 in
theorem markWords_any (l : List (List UInt8)) (v : Value) (B k0 : Nat) (w : World) (hs : l.length ≤ 1048576) (hk0 : 1 ≤ k0) (hk1 : k0 ≤ 100000000) (hB : B ≤ w.heap.size)
    (h : w.ownsRow B 9 1 v l.length (Plain.strs l)) :
    Calls Tryz.prog 14 #[v, .int .i64 k0] w fun e w' => e = .returned (.int .i64 ((k0 : Int) + l.length)) ∧ w'.ownsRow B 9 1 v l.length (Plain.strs (marksL k0 l.length)) ∧ w.grownBy w' v.ownBlock := by
  rcases h.2 with ⟨rfl, hz⟩ | ⟨g, cap, cur, rfl, hbg, hh, hrest⟩
  · have e : l = [] := List.eq_nil_of_length_eq_zero hz
    subst e
    go_enter Tryz.func14, Tryz.ntmps14
    go_wp2
    refine wp_loop_rounds 1 ?_
    rw [rounds_succ]
    go_wp2
    go_ret
    exact ⟨by simp, h, g_self _ _⟩
  · clear hh hrest
    go_enter Tryz.func14, Tryz.ntmps14
    go_wp2
    go_loopw [1, 5] (fun m i wr => ∃ k : Nat, k ≤ l.length ∧ i = .int .i64 k ∧ m = .int .i64 ((k0 : Int) + k) ∧ wr.ownsRow B 9 1 (.slice (some ⟨g, 0, none⟩) l.length cap) l.length (Plain.strs (markedL k0 l k)) ∧ B ≤ wr.heap.size ∧ w.grownBy wr (some g)) (fun _ i _ => l.length - (intOf i).toNat)
    case atStart => exact ⟨0, Nat.zero_le _, rfl, by simp, by rw [markedL_zero]; exact h, hB, g_self _ _⟩
    case round =>
      obtain ⟨k, hk, rfl, rfl, hown, hsz, hbel⟩ := hrel
      by_cases hlt : k < l.length
      · have hset := hide (markedL_set (k0 := k0) hlt)
        have hlen := hide (markedL_length (k0 := k0) hk)
        have hmt := fun wx => markText_any (k0 + k) wx (by omega) (by omega)
        rw [show ((k0 + k : Nat) : Int) = (k0 : Int) + k from by omega] at hmt
        have hcur : ∃ y, wr.cell? ⟨g, k, none⟩ = some y := by
          rw [hown.cellAt k (by omega)]
          refine ⟨_, List.getElem?_eq_getElem (by rw [Plain.strs_length, markedL_length hk]; omega)⟩
        have hfz : wr.frozen? ⟨g, k, none⟩ = false := hown.frozenAt k
        have hgl : g < wr.heap.size := (hown.lt g rfl).2
        obtain ⟨y, hy⟩ := hcur
        have HY := hide hy
        have HF := hide hfz
        have HM := hide hmt
        clear hy hfz hmt
        go_wp2_with fail
        refine (unhide HM _).mono ?_
        rintro e w1 ⟨rfl, hb1⟩
        have hy1 : w1.cell? ⟨g, k, none⟩ = some y := (hb1.cell (p := ⟨g, k, none⟩) hgl).trans (unhide HY)
        have hf1 : w1.frozen? ⟨g, k, none⟩ = false := (hb1.frozen (p := ⟨g, k, none⟩) hgl).trans (unhide HF)
        have hown1 : w1.ownsRow B 9 1 (.slice (some ⟨g, 0, none⟩) l.length cap) l.length (Plain.strs (markedL k0 l k)) := own_below hown hb1
        have hst := hide (hown1.stored k (.string ⟨(mkL (k0 + k)).toArray⟩))
        have hB1 := g_then hbel hb1
        have hs1 : B ≤ w1.heap.size := by have := hB1.size; omega
        clear hown hown1
        go_wp2
        go_roundw
        case rel => exact ⟨k + 1, by omega, by go_num, by go_num, by rw [← unhide hset]; exact (unhide hst).1, by have := (unhide hst).2.size; omega, g_store hB1 _⟩
        case measure => simp [intOf]; omega
      · have e : k = l.length := by omega
        subst e
        rw [markedL_all] at hown
        go_wp2
        go_ret
        exact ⟨rfl, hown, hbel⟩

abbrev rowW (a : Option Addr) (c : Nat) (l : List (List UInt8)) : Pc := .row a l.length c 9 1 (Plain.strs l)
abbrev markPW (a : Option Addr) (c k0 n : Nat) : Pc := .row a n c 9 1 (Plain.strs (marksL k0 n))
section
variable {w W : World} {L : List Pc}
theorem toWords_mem (a : Option Addr) (c : Nat) (l : List (List UInt8)) [M : Mem w W L] (hs : l.length ≤ 1048576) (h : ArgW w.heap.size w a l) :
    Calls Tryz.prog 8 #[.slice a l.length c] W fun e W' => ∃ a' c', e = .returned (.slice a' l.length c') ∧ Mem w W' (rowW a' c' l :: L) :=
  (toStringS_any a c l W hs (h.up M.below)).mono fun e W' ⟨v, he, ho, hb⟩ => by
    obtain ⟨a', c', rfl⟩ := g_shape ho
    exact ⟨a', c', he, M.more1 (Mem.of_row ho hb)⟩
theorem eqWords_mem (l : List (List UInt8)) (a1 a2 : Option Addr) (c1 c2 : Nat) {f g : Pc → List Pc} [M : Mem w W L] [h1 : InL L (rowW a1 c1 l) f] [h2 : InL L (rowW a2 c2 l) g] (hs : l.length ≤ 1048576) :
    Calls Tryz.prog 12 #[.slice a1 l.length c1, .slice a2 l.length c2] W fun e W' => e = .returned (.bool true) ∧ Mem w W' L :=
  (eqStringS_same l _ _ _ _ _ _ rfl hs (M.get (rowW a1 c1 l)) (M.get (rowW a2 c2 l))).mono fun e W' ⟨he, n, hq⟩ => ⟨he, M.more0 (by rw [hq]; exact ⟨rfl, rfl, rfl, Nat.le_refl _, fun _ _ => rfl⟩)⟩
theorem markWords_mem (l : List (List UInt8)) (a : Option Addr) (c k0 : Nat) {f : Pc → List Pc} [M : Mem w W L] [h1 : InL L (rowW a c l) f] (hs : l.length ≤ 1048576) (hk0 : 1 ≤ k0) (hk : k0 ≤ 100000000) :
    Calls Tryz.prog 14 #[.slice a l.length c, .int .i64 (k0 : Int)] W fun e W' => e = .returned (.int .i64 ((k0 : Int) + l.length)) ∧ Mem w W' (f (markPW a c k0 l.length)) :=
  (markWords_any l _ w.heap.size k0 W hs hk0 hk M.size (M.get (rowW a c l))).mono fun e W' ⟨he, ho, hg⟩ => ⟨he, M.turn (p := rowW a c l) (q := markPW a c k0 l.length) hg ho (.inl rfl)⟩
theorem seeW_mem (l : List (List UInt8)) (a : Option Addr) (c : Nat) {f : Pc → List Pc} [M : Mem w W L] [h1 : InL L (rowW a c l) f] : SeeW W a l ∧ l.length ≤ c := by
  have h := M.get (rowW a c l)
  rcases h.2 with ⟨e, h0⟩ | ⟨g, c', cur, e, hb, hh, hlc, _⟩
  · refine ⟨fun k x hx => ?_, by omega⟩
    rw [List.eq_nil_of_length_eq_zero h0] at hx
    simp at hx
  · cases e
    refine ⟨fun k x hx => ⟨g, rfl, ⟨?_⟩⟩, hlc⟩
    have hk : k < l.length := (List.getElem?_eq_some_iff.1 hx).1
    have q := World.ownsRow.cellAt h k (by omega)
    rw [q]
    simp [Plain.strs, hx]
end
attribute [local go_sem] cell_of frozen_of
set_option maxHeartbeats 16000000 in
set_option maxRecDepth 100000 in
theorem FnExactEditFor_walk (on : Bool) (x : Vw) (a : Option Addr) (c : Nat) (aw : Option Addr) (cw : Nat) (l : List (List UInt8)) (w : World) (h : ArgVw w.heap.size w a x) (hm : l.length ≤ maxLen) (hw : ArgW w.heap.size w aw l) (he : EEnv w) (X : Ed × Bool) (hX : X.1.set.length ≤ 1048576)
    (SI : ∀ (a : Option Addr) (c : Nat) (vu : Value) (W : World), x.box.size ≤ 1048576 → l.length ≤ 1048576 → fewW l → SeeW W a l → Calls Tryz.prog 6 #[.agg #[.bool on, .string x.box, .int .i64 x.valid, vu, .int .i64 x.mod], .slice a l.length c] W fun e W' => ∃ a' c', e = .returned (.tuple #[edV X.1 (.slice a' X.1.set.length c'), .bool X.2]) ∧ Mem W W' [rowRg a' c' X.1.set])
    (CI : ∀ (a : Option Addr) (c : Nat) (vu : Value) (W : World), x.box.size ≤ 1048576 → l.length ≤ 1048576 → fewW l → l.length ≤ c → SeeW W a l → EEnv W → Calls Tryz.prog 9 #[.agg #[.bool on, .string x.box, .int .i64 x.valid, vu, .int .i64 x.mod], .slice a l.length c] W fun e W' => ∃ a' c', e = .returned (.tuple #[edV X.1 (.slice a' X.1.set.length c'), .bool X.2]) ∧ Mem W W' [rowRg a' c' X.1.set]) :
    Calls Tryz.prog 3 #[ssV on x (.slice a x.uids.length c), .slice aw l.length cw] w fun e w' => e = .returned (.bool true) ∧ Below w.heap.size w w' := by
  have HA := hide h
  have HW := hide hw
  have HX : Hid (X.1.set.length ≤ 1048576) := hX
  have SA := hide SI
  have IA := hide CI
  have EN : Hid (∀ W, Below w.heap.size w W → EEnv W) := fun W hb => he.below hb
  have M := Mem.start w
  clear h hw hX SI CI he
  go_enter Tryz.func3, Tryz.ntmps3
  go_wp2_with fail
  refine (szSession_any on x a c _ ((unhide HA).up (Mem.here _))).mono ?_
  rintro e w1 ⟨⟨m, rfl, hq⟩, MN⟩
  have M := Mem.then MN
  clear MN
  rcases hq with rfl | ⟨q, rfl, hq, hbx, hux⟩
  · go_wp2
    go_ret
    exact ⟨rfl, Mem.here _⟩
  have i1 : ¬ (q : Int) < 0 := by omega
  have HBX : Hid (x.box.size ≤ 1048576) := hbx
  have HU : Hid (x.uids.length ≤ 1048576) := hux
  clear hbx hux
  go_wp2_with fail
  refine (szStringS_any aw cw l q _ hq hm ((unhide HW).up (Mem.here _))).mono ?_
  rintro e w1 ⟨⟨m, rfl, hq⟩, hb⟩
  have M := Mem.go hb
  clear hb
  rcases hq with rfl | ⟨r, rfl, hr, hn, hs⟩
  · go_wp2
    go_ret
    exact ⟨rfl, Mem.here _⟩
  have i2 : ¬ (r : Int) < 0 := by omega
  have HS : Hid (fewW l) := hs
  have HN : Hid (l.length ≤ 1048576) := hn
  clear hs hr
  go_wp2_with fail
  refine (toSession_mem on x a c (unhide HU) (unhide HA)).mono ?_
  rintro e w9 ⟨a1, c1, rfl, M⟩
  try dsimp only at M
  go_wp2_with fail
  refine (toWords_mem aw cw l (unhide HN) (unhide HW)).mono ?_
  rintro e w9 ⟨b1, d1, rfl, M⟩
  try dsimp only at M
  go_wp2_with fail
  refine (unhide SA b1 d1 _ _ (unhide HBX) (unhide HN) (unhide HS) (seeW_mem l b1 d1).1).mono ?_
  rintro e w9 ⟨aW, cW, rfl, MN⟩
  have M := Mem.then MN
  clear MN
  go_wp2_with fail
  refine (toSession_mem on x a c (unhide HU) (unhide HA)).mono ?_
  rintro e w9 ⟨aX, cX, rfl, M⟩
  try dsimp only at M
  go_wp2_with fail
  refine (toWords_mem aw cw l (unhide HN) (unhide HW)).mono ?_
  rintro e w9 ⟨bX, dX, rfl, M⟩
  try dsimp only at M
  have s2 := (seeW_mem (M := M) l bX dX).2
  go_wp2_with fail
  refine Calls.mono (unhide IA bX dX _ _ (unhide HBX) (unhide HN) (unhide HS) s2 ?_ ?_) ?_
  · exact (seeW_mem l bX dX).1
  · exact unhide EN _ (Mem.here _)
  rintro e w9 ⟨aG, cG, rfl, MN⟩
  have M := Mem.then MN
  clear MN
  obtain ⟨E, B⟩ := X
  dsimp only at HX M SA IA ⊢
  go_wp2_with fail
  refine (eqEdit_mem E aG aW cG cW (unhide HX)).mono ?_
  rintro e w9 ⟨rfl, M⟩
  try dsimp only at M
  go_wp2
  refine mb 5 (fun M => ?_)
  refine tm 0 54 ?_; refine tm 1 55 ?_
  refine tc 2 56 (toSession_mem on x a c (unhide HU) (unhide HA)) ?_
  rintro e w6 ⟨aC, cC, rfl, M⟩
  refine tce ?_
  refine tc 3 57 (eqSession_mem on x aX aC cX cC (unhide HU)) ?_
  rintro e w7 ⟨rfl, M⟩
  refine tce ?_
  refine tm 4 58 ?_
  refine td ?_
  go_wp2_with fail
  refine (toWords_mem aw cw l (unhide HN) (unhide HW)).mono ?_
  rintro e w9 ⟨bC, dC, rfl, M⟩
  try dsimp only at M
  go_wp2_with fail
  refine (eqWords_mem l bX bC dX dC (unhide HN)).mono ?_
  rintro e w9 ⟨rfl, M⟩
  try dsimp only at M
  go_wp2_with fail
  refine (markSession_mem on x aX cX 1 (unhide HU) (by decide)).mono ?_
  rintro e w9 ⟨rfl, M⟩
  try dsimp only at M
  obtain ⟨K1, hK1⟩ : ∃ k : Nat, k = 1 + x.uids.length := ⟨_, rfl⟩
  rw [← hK1]
  have HK1 := hide hK1
  clear hK1
  go_wp2_with fail
  refine (markWords_mem l bX dX K1 (unhide HN) (by have := unhide HK1; omega) (by have := unhide HK1; have := unhide HU; omega)).mono ?_
  rintro e w9 ⟨rfl, M⟩
  try dsimp only at M
  have j1 : ¬ ((K1 : Int) + (l.length : Int) < 0) := by omega
  go_wp2_with fail
  refine (eqEdit_mem E aG aW cG cW (unhide HX)).mono ?_
  rintro e w9 ⟨rfl, M⟩
  try dsimp only at M
  go_wp2_with fail
  refine (markEdit_mem E aG cG 1 (unhide HX) (by decide)).mono ?_
  rintro e w9 ⟨rfl, M⟩
  try dsimp only at M
  obtain ⟨K2, hK2⟩ : ∃ k : Nat, k = 1 + E.set.length * 2 := ⟨_, rfl⟩
  rw [← hK2]
  have HK2 := hide hK2
  clear hK2
  have j2 : ¬ (K2 : Int) < 0 := by omega
  go_wp2_with fail
  refine (heldEdit_mem E aG cG 1 (unhide HX) (by decide)).mono ?_
  rintro e w9 ⟨rfl, M⟩
  try dsimp only at M
  rw [← unhide HK2]
  go_wp2_with fail
  refine (toSession_mem on x a c (unhide HU) (unhide HA)).mono ?_
  rintro e w9 ⟨a3, c3, rfl, M⟩
  try dsimp only at M
  go_wp2_with fail
  refine (toWords_mem aw cw l (unhide HN) (unhide HW)).mono ?_
  rintro e w9 ⟨b3, d3, rfl, M⟩
  try dsimp only at M
  have s2 := (seeW_mem (M := M) l b3 d3).2
  go_wp2_with fail
  refine Calls.mono (unhide IA b3 d3 _ _ (unhide HBX) (unhide HN) (unhide HS) s2 ?_ ?_) ?_
  · exact (seeW_mem l b3 d3).1
  · exact unhide EN _ (Mem.here _)
  rintro e w9 ⟨aH, cH, rfl, MN⟩
  have M := Mem.then MN
  clear MN
  go_wp2_with fail
  refine (eqEdit_mem E aH aW cH cW (unhide HX)).mono ?_
  rintro e w9 ⟨rfl, M⟩
  try dsimp only at M
  go_wp2_with fail
  refine (heldEdit_mem E aG cG 1 (unhide HX) (by decide)).mono ?_
  rintro e w9 ⟨rfl, M⟩
  try dsimp only at M
  rw [← unhide HK2]
  go_wp2
  go_ret
  exact ⟨rfl, Mem.here _⟩
end Go.Proofs.YtocaljbimhjmgaaGreatDoor
